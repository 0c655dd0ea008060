/- Contracts: any1, and the draws of chapter 1 that give one value. -/
import Derived.Test.YtacpacllpjddlaaDoorPick
import Derived.Test.YtacpacllpjddlaaDoorNum
import Derived.Lib.ItoaLen
import Derived.OwnWalk
import Derived.Laws.OwnMore
import Derived.Laws.BytesArg
namespace Go.Proofs.YtacpacllpjddlaaDoor
open Go.RowKit

theorem alloc_size (w : World) (o : Obj) : (w.alloc o).heap.size = w.heap.size + 1 := by
  show (w.heap.push o).size = _
  exact Array.size_push ..
theorem IsCur.lt {w : World} {B p : Nat} {a : Option Addr} {n cap M : Nat} (h : IsCur w B p a n cap M) : p < w.heap.size := by
  obtain ⟨hB, hR, at_, seed, hat, hp⟩ := h
  rcases Nat.lt_or_ge p w.heap.size with h1 | h1
  · exact h1
  · rw [Array.getElem?_eq_none h1] at hp; cases hp
theorem IsCur.kept {w w' : World} {B p : Nat} {a : Option Addr} {n cap M : Nat} {row : Option Nat} (h : IsCur w B p a n cap M) (hg : w.grownBy w' row) (hr : ∀ k, row = some k → p < k) : IsCur w' B p a n cap M := by
  have hlt := h.lt
  obtain ⟨hB, hR, at_, seed, hat, hp⟩ := h
  refine ⟨hB, fun hn => ?_, at_, seed, hat, (hg.block p hlt (fun e => by have := hr p e.symm; omega)).trans hp⟩
  obtain ⟨b, o, e, hb, hc⟩ := hR hn
  refine ⟨b, o, e, hb, fun k hk => ?_⟩
  obtain ⟨x, hx, h0, h1⟩ := hc k hk
  exact ⟨x, (World.cell?_of_block (hg.block b (by omega) (fun e => by have := hr b e.symm; omega))).trans hx, h0, h1⟩
theorem IsCur.alloc {w : World} {B p : Nat} {a : Option Addr} {n cap M : Nat} (h : IsCur w B p a n cap M) (o : Obj) : IsCur (w.alloc o) B p a n cap M :=
  h.kept (World.grownBy_alloc w o none) (by simp)
theorem isCur_new {w : World} {a : Option Addr} {n : Nat} (cap : Nat) (h : RdB w w.heap.size a n) : IsCur (w.alloc (.cells #[.slice a n cap, .int .i64 0, .int .u64 0] 37 (0, 0))) w.heap.size w.heap.size a n cap 0 := by
  refine ⟨Nat.le_refl _, fun hn => ?_, 0, 0, Nat.le_refl _, by show (w.heap.push _)[w.heap.size]? = _; exact Array.getElem?_push_size⟩
  obtain ⟨b, o, e, hb, hc⟩ := h hn
  refine ⟨b, o, e, hb, fun k hk => ?_⟩
  obtain ⟨x, hx, h0, h1⟩ := hc k hk
  exact ⟨x, (World.cell?_of_block (Below.heap_alloc w _ b hb)).trans hx, h0, h1⟩
theorem RdB.on {w w' : World} {a : Option Addr} {n : Nat} (h : RdB w w.heap.size a n) (hb : Below w.heap.size w w') : RdB w' w'.heap.size a n := by
  intro hn
  obtain ⟨b, o, e, hlt, hc⟩ := h hn
  have := hb.size
  refine ⟨b, o, e, by omega, fun k hk => ?_⟩
  obtain ⟨x, hx, h0, h1⟩ := hc k hk
  exact ⟨x, (hb.cell (p := ⟨b, o + k, none⟩) hlt).trans hx, h0, h1⟩

def isShort (S : Nat) : Value → Bool
  | .string s => decide (s.size ≤ S)
  | _ => false
theorem alloc_cell (w : World) (l : Array Value) (t : TypeId) (k : Nat) : (w.alloc (.cells l t)).cell? ⟨w.heap.size, k, none⟩ = l[k]? := by
  have e : (w.alloc (.cells l t)).heap[w.heap.size]? = some (.cells l t) := by show (w.heap.push _)[w.heap.size]? = _; exact Array.getElem?_push_size
  simp only [World.cell?, e]
  rfl
theorem shortRow_alloc (w : World) (l : Array Value) (t : TypeId) (S m : Nat) (hm : l.size = m) (h : l.toList.all (isShort S) = true) : ShortRow (w.alloc (.cells l t)) w.heap.size m S := by
  intro k hk
  rw [alloc_cell]
  have hk2 : k < l.size := by omega
  have h1 := List.all_eq_true.1 h l[k] (by simp)
  rw [Array.getElem?_eq_getElem hk2]
  cases hv : l[k] <;> rw [hv] at h1 <;> simp [isShort] at h1
  exact ⟨_, rfl, h1⟩
def isNum (L : Nat) : Value → Prop
  | .int .i64 x => -(L : Int) ≤ x ∧ x ≤ L
  | _ => False
theorem numRow_alloc (w : World) (l : Array Value) (t : TypeId) (L m : Nat) (hm : l.size = m) (h : ∀ v ∈ l.toList, isNum L v) : NumRow (w.alloc (.cells l t)) w.heap.size m L := by
  intro k hk
  rw [alloc_cell]
  have hk2 : k < l.size := by omega
  have h1 := h l[k] (by simp)
  rw [Array.getElem?_eq_getElem hk2]
  revert h1
  generalize l[k] = v
  intro h1
  unfold isNum at h1
  split at h1
  · exact ⟨_, rfl, h1⟩
  · exact h1.elim

theorem any1_any (B p : Nat) (a : Option Addr) (n cap M : Nat) (w : World) (h : IsCur w B p a n cap M) (hM : M ≤ 999990) (hn : n ≤ 65536) :
    Calls Tryd.prog 29 #[.pointer (some ⟨p, 0, none⟩)] w fun e w' => (∃ s : ByteArray, e = .returned (.string s) ∧ s.size ≤ 10) ∧ IsCur w' B p a n cap (M + 2) ∧ w.grownBy w' (some p) := by
  have H := Lib.hid h
  have hlt := h.lt
  clear h
  go_enter Tryd.func29, Tryd.ntmps29
  go_wp2_with fail
  refine (of_any B p a n cap M _ (H.out.alloc _) hM hn w.heap.size 9 9 10 (by omega) (by omega) (shortRow_alloc _ _ _ 10 9 rfl (by decide)) (by omega) (by rw [alloc_size]; omega)).mono ?_
  rintro e w1 ⟨⟨s, rfl, hS⟩, hc, hg⟩
  have HC := Lib.hid hc
  clear hc
  go_wp2_with fail
  go_ret
  exact ⟨⟨s, rfl, hS⟩, HC.out, (World.grownBy_alloc w _ _).trans hg⟩

theorem drawFormatInt_any (a : Option Addr) (n cap : Nat) (w : World) (h : RdB w w.heap.size a n) (hn : n ≤ 65536) :
    Calls Tryd.prog 9 #[.slice a n cap] w fun e w' => (∃ x : Int, e = .returned (.int .i64 x) ∧ -1000000 ≤ x ∧ x ≤ 1000000) ∧ Below w.heap.size w w' := by
  have hc0 := Lib.hid (isCur_new cap h)
  clear h
  go_enter Tryd.func9, Tryd.ntmps9
  go_wp2_with fail
  refine (pick_any w.heap.size w.heap.size a n cap 0 _ hc0.out (by omega) hn 1000 (by omega) (by omega)).mono ?_
  rintro e w1 ⟨⟨r, rfl, hr0, hr1⟩, hc1, hg1⟩
  have hb1 := ((Below.refl w.heap.size w).alloc (Nat.le_refl _) (.cells #[.slice a n cap, .int .i64 0, .int .u64 0] 37 (0, 0))).grown hg1 (by rw [alloc_size]; omega) (by simp)
  have HC := Lib.hid hc1
  clear hc1 hg1 hc0
  go_wp2_with fail
  refine (among_any w.heap.size w.heap.size a n cap 2 _ (HC.out.alloc _) (by omega) hn w1.heap.size 9 9 1000000 (by omega) (by omega) (numRow_alloc _ _ _ _ 9 rfl (by simp [isNum]; omega)) (by have := HC.out.lt; omega) (by rw [alloc_size]; omega)).mono ?_
  rintro e w2 ⟨⟨s, rfl, hS⟩, hc, hg⟩
  have hb2 := (hb1.alloc hb1.size _).grown hg (by rw [alloc_size]; have := hb1.size; omega) (by simp)
  clear hc hg
  go_wp2_with fail
  go_ret
  exact ⟨⟨s, rfl, hS⟩, hb2⟩

theorem drawParseInt_any (a : Option Addr) (n cap : Nat) (w : World) (h : RdB w w.heap.size a n) (hn : n ≤ 65536) :
    Calls Tryd.prog 12 #[.slice a n cap] w fun e w' => (∃ s : ByteArray, e = .returned (.string s) ∧ s.size ≤ 21) ∧ Below w.heap.size w w' := by
  have hc0 := Lib.hid (isCur_new cap h)
  clear h
  go_enter Tryd.func12, Tryd.ntmps12
  go_wp2_with fail
  refine (one_any w.heap.size w.heap.size a n cap 0 _ hc0.out (by omega) hn 2 (by omega) (by omega)).mono ?_
  rintro e w1 ⟨⟨b, rfl⟩, hc1, hg1⟩
  have hb1 := ((Below.refl w.heap.size w).alloc (Nat.le_refl _) (.cells #[.slice a n cap, .int .i64 0, .int .u64 0] 37 (0, 0))).grown hg1 (by rw [alloc_size]; omega) (by simp)
  have HC := Lib.hid hc1
  clear hc1 hg1 hc0
  cases b
  · go_wp2_with fail
    refine (pick_any w.heap.size w.heap.size a n cap 2 _ HC.out (by omega) hn 2000 (by omega) (by omega)).mono ?_
    rintro e w2 ⟨⟨r, rfl, hr0, hr1⟩, hc2, hg2⟩
    have hb2 := hb1.grown hg2 hb1.size (by simp)
    clear hc2 hg2
    go_wp2_with fail
    refine (l1Num_any (r - 1000) _ (by omega) (by omega)).mono ?_
    rintro e w3 ⟨rfl, m, rfl⟩
    have hlen := Lib.itoa_length_le (r - 1000) (by omega) (by omega)
    go_wp2_with fail
    go_ret
    exact ⟨⟨_, rfl, by rw [size_strOf]; omega⟩, below_drewN' hb2 _⟩
  · go_wp2_with fail
    refine (of_any w.heap.size w.heap.size a n cap 2 _ (HC.out.alloc _) (by omega) hn w1.heap.size 11 11 20 (by omega) (by omega) (shortRow_alloc _ _ _ _ 11 rfl (by decide)) (by have := HC.out.lt; omega) (by rw [alloc_size]; omega)).mono ?_
    rintro e w2 ⟨⟨s, rfl, hS⟩, hc, hg⟩
    have hb2 := (hb1.alloc hb1.size _).grown hg (by rw [alloc_size]; have := hb1.size; omega) (by simp)
    clear hc hg
    go_wp2_with fail
    go_ret
    exact ⟨⟨s, rfl, by omega⟩, hb2⟩

theorem infoU : (Tryd.prog.info? 5).map (fun i => (i.zero, i.size, i.bytes)) = some (some (.int .u8 0), 1, 1) := by kernel_rfl
theorem conv_zeros {w : World} {B g N : Nat} (h : w.ownsRow B 5 1 (.slice (some ⟨g, 0, none⟩) N N) N (madeCells (Value.int .u8 0).cells (N * 1)).toList) :
    ∃ s : ByteArray, s.size = N ∧ (convert (22 : Nat) (9 : Nat) (.slice (some ⟨g, 0, none⟩) N N)).run Tryd.prog w = .ok (.string s) w := by
  refine ⟨strOfNums (List.replicate N 0), ?_, run_convert_bytes_arg (P := Tryd.prog) w 22 5 Tryd.underlying22 Tryd.underlying5 g 0 N N (List.replicate N 0) (by simp) (fun i hi => ?_) 9 Tryd.underlying9⟩
  · simp [strOfNums, ByteArray.size]
  · rw [Nat.zero_add, h.cellAt i (by omega), Nat.mul_one, show (Value.int .u8 0).cells = #[.int .u8 0] from rfl, toList_madeCells_one]
    simp [hi, List.getD]

theorem drawAppend_any (a : Option Addr) (n cap : Nat) (w : World) (h : RdB w w.heap.size a n) (hn : n ≤ 65536) :
    Calls Tryd.prog 15 #[.slice a n cap] w fun e w' => (∃ s : ByteArray, e = .returned (.string s) ∧ s.size ≤ 4000) ∧ Below w.heap.size w w' := by
  have hc0 := Lib.hid (isCur_new cap h)
  clear h
  go_enter Tryd.func15, Tryd.ntmps15
  go_wp2_with fail
  refine (one_any w.heap.size w.heap.size a n cap 0 _ hc0.out (by omega) hn 20 (by omega) (by omega)).mono ?_
  rintro e w1 ⟨⟨b, rfl⟩, hc1, hg1⟩
  have hb1 := ((Below.refl w.heap.size w).alloc (Nat.le_refl _) (.cells #[.slice a n cap, .int .i64 0, .int .u64 0] 37 (0, 0))).grown hg1 (by rw [alloc_size]; omega) (by simp)
  have HC := Lib.hid hc1
  clear hc1 hg1 hc0
  cases b
  · go_wp2_with fail
    refine (any1_any w.heap.size w.heap.size a n cap 2 _ HC.out (by omega) hn).mono ?_
    rintro e w2 ⟨⟨s, rfl, hS⟩, hc, hg⟩
    have hb2 := hb1.grown hg hb1.size (by simp)
    clear hc hg
    go_wp2_with fail
    go_ret
    exact ⟨⟨s, rfl, by omega⟩, hb2⟩
  · go_wp2_with fail
    refine (pick_any w.heap.size w.heap.size a n cap 2 _ HC.out (by omega) hn 10 (by omega) (by omega)).mono ?_
    rintro e w2 ⟨⟨r, rfl, hr0, hr1⟩, hc2, hg2⟩
    have hb2 := hb1.grown hg2 hb1.size (by simp)
    obtain ⟨k, rfl⟩ : ∃ k : Nat, r = k := ⟨r.toNat, by omega⟩
    obtain ⟨i0, hi, hz0, hz1, hz2⟩ := info_parts infoU
    clear hc2 hg2
    go_wp2_with (at_make; refine wpList_make_full _ rfl _ _ 22 rfl w2.heap.size 5 i0 (.int .u8 0) 1 Tryd.underlying22 hi hz0 hz1 .i64 .i64 (3990 + (k : Int)) (3990 + (k : Int)) (3990 + k) rfl rfl (by omega) (by omega) (by rw [hz2]; omega) (by unfold maxLen; omega) (Nat.le_refl _) ?_; intro w3 hown3 hgr3)
    obtain ⟨s, hsz, hcv⟩ := conv_zeros hown3
    simp only [hcv]
    clear hown3 hcv hi hz0 hz1 hz2
    have hb3 := hb2.grown hgr3 hb2.size (by simp)
    go_wp2_with fail
    go_ret
    exact ⟨⟨s, rfl, by omega⟩, hb3⟩
end Go.Proofs.YtacpacllpjddlaaDoor
