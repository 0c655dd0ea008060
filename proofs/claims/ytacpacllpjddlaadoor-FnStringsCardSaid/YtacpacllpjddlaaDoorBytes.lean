/- The bytes of a string as a slice of its own, one of them changed, and back. -/
import Derived.Test.YtacpacllpjddlaaDoorBase
import Derived.Test.YtacpacllpjddlaaDoorProg
import Derived.Laws.IdiomStrings
import Derived.Laws.BitsLemmas
import Derived.Laws.AppendOwn
namespace Go.Proofs.YtacpacllpjddlaaDoor
open Go.RowKit

/-- Block g holds these bytes from its start on, and they may be written. -/
def BytesAt (w : World) (g : Nat) (l : List UInt8) : Prop := ∀ k, k < l.length → w.cell? ⟨g, k, none⟩ = some (.int .u8 ((l.getD k 0).toNat : Int)) ∧ w.frozen? ⟨g, k, none⟩ = false
theorem to_bytes (s : ByteArray) (w : World) : ∃ (W : World) (cap : Nat), (convert (9 : Nat) (22 : Nat) (.string s)).run Tryd.prog w = .ok (.slice (some ⟨w.heap.size, 0, none⟩) s.size cap) W ∧
    BytesAt W w.heap.size s.data.toList ∧ w.grownBy W none := by
  refine ⟨_, _, run_bytes_of_string (P := Tryd.prog) w 9 22 5 s Tryd.underlying9 Tryd.underlying22 Tryd.underlying5, fun k hk => ?_, ?_⟩
  · have hk2 : k < s.size := by simpa using hk
    have hsz : s.size ≤ (bytesRow s (grownCap w s.size 0 5)).size := by
      have e : s.data.size = s.size := rfl
      unfold bytesRow; simp
    have e : ∀ (C : Array Value) (a b : Nat), (w.drew.alloc (.cells C (5 : Nat) (a, b))).heap[w.heap.size]? = some (.cells C (5 : Nat) (a, b)) := fun C a b => by
      show (w.heap.push _)[w.heap.size]? = _
      exact Array.getElem?_push_size
    constructor
    · simp only [World.cell?, e]
      show (bytesRow s (grownCap w s.size 0 5))[k]? = _
      unfold bytesRow
      rw [Array.getElem?_append_left (by simpa using hk)]
      rw [Array.getElem?_map]
      have hk3 : k < s.data.size := hk2
      have e2 : s.data[k]? = some s.data[k] := Array.getElem?_eq_getElem hk3
      simp [List.getD, e2]
    · simp only [World.frozen?, e]
      simp
      omega
  · exact ⟨rfl, rfl, rfl, (World.grownBy_alloc w.drew _ none).size, fun k hk hne => (World.grownBy_alloc w.drew _ none).block k hk hne⟩

theorem row_of {w : World} {g k : Nat} {v : Value} (h : w.cell? ⟨g, k, none⟩ = some v) : ∃ C e fr, w.heap[g]? = some (.cells C e fr) := by
  unfold World.cell? at h
  cases hb : w.heap[g]? with
  | none => simp [hb] at h
  | some o =>
    cases o with
    | cells C e fr => exact ⟨C, e, fr, rfl⟩
    | _ => simp [hb] at h
theorem bytes_set {w : World} {g : Nat} {l : List UInt8} (h : BytesAt w g l) (k : Nat) (hk : k < l.length) (c : UInt8) : BytesAt (w.setCell ⟨g, k, none⟩ (.int .u8 (c.toNat : Int))) g (l.set k c) := by
  intro j hj
  rw [List.length_set] at hj
  obtain ⟨C, e, fr, hg⟩ := row_of (h k hk).1
  have hset : (w.setCell ⟨g, k, none⟩ (.int .u8 (c.toNat : Int))).heap[g]? = some (.cells (C.setIfInBounds k (.int .u8 (c.toNat : Int))) e fr) := by
    simp [World.setCell, Array.getElem?_modify, hg]
  have hkC := (h k hk).1
  have hj1 := (h j hj).1
  have hj2 := (h j hj).2
  simp only [World.cell?, hg] at hkC hj1
  simp only [World.frozen?, hg] at hj2
  simp at hkC hj1
  refine ⟨?_, ?_⟩
  · simp only [World.cell?, hset]
    simp only [Option.isSome_none, Bool.false_eq_true, if_false]
    by_cases hjk : j = k
    · subst hjk
      have hlt : j < C.size := (Array.getElem?_eq_some_iff.1 hkC).1
      simp [hlt, hj]
    · rw [Array.getElem?_setIfInBounds_ne (fun e => hjk e.symm), hj1]
      simp [Ne.symm hjk]
  · simp only [World.frozen?, hset]
    exact hj2
theorem of_bytes {w : World} {g : Nat} {l : List UInt8} (h : BytesAt w g l) (n cap : Nat) (hn : l.length = n) :
    (convert (22 : Nat) (9 : Nat) (.slice (some ⟨g, 0, none⟩) n cap)).run Tryd.prog w = .ok (.string (strOf l)) w := by
  subst hn
  refine run_convert_bytes_back (P := Tryd.prog) w 22 9 5 ⟨g, 0, none⟩ cap l Tryd.underlying22 Tryd.underlying5 Tryd.underlying9 (fun j hj => ?_)
  have e : (⟨g, 0, none⟩ : Addr).add j = ⟨g, j, none⟩ := by unfold Addr.add; split <;> simp_all
  rw [e, (h j hj).1]
  simp [List.getD, hj]

theorem xor_changes (b : UInt8) (d : Int) (h0 : 1 ≤ d) (h1 : d ≤ 255) : ∃ c : UInt8, bits .xor .u8 (b.toNat : Int) d = (c.toNat : Int) ∧ c ≠ b := by
  obtain ⟨e, rfl⟩ : ∃ e : Nat, d = e := ⟨d.toNat, by omega⟩
  have hb := b.toNat_lt
  refine ⟨⟨BitVec.ofNat 8 b.toNat ^^^ BitVec.ofNat 8 e⟩, ?_, ?_⟩
  · unfold bits
    simp only [BitVec.ofInt_natCast]
    refine (wraps_u8 _ (Int.natCast_nonneg _) ?_).trans rfl
    have := (BitVec.ofNat 8 b.toNat ^^^ BitVec.ofNat 8 e).isLt
    exact_mod_cast this
  · intro hc
    have h2 := congrArg UInt8.toBitVec hc
    have h3 : b.toBitVec = BitVec.ofNat 8 b.toNat := by apply BitVec.eq_of_toNat_eq; simp
    rw [h3] at h2
    have h4 : BitVec.ofNat 8 e = 0#8 := by
      have h5 := congrArg (fun x => BitVec.ofNat 8 b.toNat ^^^ x) h2
      simpa [← BitVec.xor_assoc] using h5
    have h6 := congrArg BitVec.toNat h4
    simp at h6
    omega
end Go.Proofs.YtacpacllpjddlaaDoor
