/- Contracts: the laws' toIntS, eqIntS, markIntS and heldIntS, at slices of numbers, nil ones too. -/
import Derived.Test.YthapidnjioindaaBase
import Derived.Test.YthapidnjioindaaProg
import Derived.WalkLawsBesides
import Derived.IntWalk
import Derived.OwnWalk
import Derived.Laws.OwnMore
import Derived.Deep.QuietTactic
import Derived.Maps.AppendAt
import Derived.Deep.RegionWith
import Derived.Deep.LoopGhost
import Derived.BigQuiet
namespace Go.Proofs.Ythapidnjioindaa
open Go.RowKit

theorem infoI : (Try.prog.info? 3).map (fun i => (i.zero, i.size, i.bytes)) = some (some (.int .i64 0), 1, 8) := by kernel_rfl
theorem cellI_lt {w : World} {b o : Nat} {v : Value} (h : w.cell? ⟨b, o, none⟩ = some v) : b < w.heap.size := by
  rcases Nat.lt_or_ge b w.heap.size with h1 | h1
  · exact h1
  · unfold World.cell? at h
    rw [Array.getElem?_eq_none h1] at h
    simp at h
/-- The slice of address a and length n reads as these numbers; its cells are old ones. -/
def RdI (w : World) (a : Option Addr) (n : Nat) (X : List Int) : Prop :=
  X.length = n ∧ (0 < n → ∃ b o, a = some ⟨b, o, none⟩ ∧ b < w.heap.size ∧ ∀ k, k < n → w.cell? ⟨b, o + k, none⟩ = some (.int .i64 (X.getD k 0)))
theorem RdI.below {w w' : World} {a : Option Addr} {n : Nat} {X : List Int} (h : RdI w a n X) (hb : Below w.heap.size w w') : RdI w' a n X :=
  ⟨h.1, fun hn => by
    obtain ⟨b, o, e, hlt, hc⟩ := h.2 hn
    exact ⟨b, o, e, Nat.lt_of_lt_of_le hlt hb.size, fun k hk => (hb.cell (p := ⟨b, o + k, none⟩) hlt).trans (hc k hk)⟩⟩
theorem RdI.drewN {w : World} {a : Option Addr} {n : Nat} {X : List Int} (h : RdI w a n X) (m : Nat) : RdI (w.drewN m) a n X := h
/-- The slice owns a row from block B on that holds these numbers (or is nil and holds none). -/
def OwnI (w : World) (B : Nat) (a : Option Addr) (n cap : Nat) (X : List Int) : Prop := w.ownsRow B 3 1 (.slice a n cap) n (X.map (Value.int .i64))
theorem OwnI.len {w : World} {B n cap : Nat} {a : Option Addr} {X : List Int} (h : OwnI w B a n cap X) : X.length = n := by have := h.1; simpa using this
theorem OwnI.kept {w w' : World} {B n cap : Nat} {a : Option Addr} {X : List Int} {row : Option Nat} (h : OwnI w B a n cap X) (hg : w.grownBy w' row) (hne : (Value.slice a n cap).ownBlock = none ∨ (Value.slice a n cap).ownBlock ≠ row) : OwnI w' B a n cap X := World.ownsRow.kept h hg hne
theorem OwnI.below {w w' : World} {B n cap : Nat} {a : Option Addr} {X : List Int} (h : OwnI w B a n cap X) (hb : Below w.heap.size w w') : OwnI w' B a n cap X :=
  World.ownsRow.kept (row := none) h ⟨hb.os, hb.tape, hb.output, hb.size, fun i hi _ => hb.block i hi⟩ (by cases h : (Value.slice a n cap).ownBlock <;> simp)
theorem OwnI.shape {w : World} {B n cap : Nat} {a : Option Addr} {X : List Int} (h : OwnI w B a n cap X) : (a = none ∧ n = 0 ∧ cap = 0 ∧ X = []) ∨ ∃ g, a = some ⟨g, 0, none⟩ ∧ B ≤ g ∧ g < w.heap.size := by
  have hl := h.len
  have hlt := World.ownsRow.lt h
  rcases h.2 with ⟨h1, h2⟩ | ⟨g, cp, cur, h1, h2, h3, _⟩
  · cases h1
    exact .inl ⟨rfl, rfl, rfl, List.eq_nil_of_length_eq_zero (by omega)⟩
  · cases h1
    exact .inr ⟨g, rfl, hlt g rfl⟩
theorem OwnI.rd {w : World} {B n cap : Nat} {a : Option Addr} {X : List Int} (h : OwnI w B a n cap X) : RdI w a n X := by
  have hl := h.len
  refine ⟨hl, fun hn => ?_⟩
  rcases h.shape with ⟨_, h0, _⟩ | ⟨g, rfl, hB, hg⟩
  · omega
  · refine ⟨g, 0, rfl, hg, fun k hk => ?_⟩
    rw [Nat.zero_add, World.ownsRow.cellAt h k (by omega)]
    simp [List.getD, hl, hk]
theorem OwnI.low {w : World} {B B' n cap : Nat} {a : Option Addr} {X : List Int} (h : OwnI w B a n cap X) (hB : B' ≤ B) : OwnI w B' a n cap X := by
  refine ⟨h.1, ?_⟩
  rcases h.2 with h1 | ⟨g, cp, cur, h1, h2, h3⟩
  · exact .inl h1
  · exact .inr ⟨g, cp, cur, h1, Nat.le_trans hB h2, h3⟩
theorem grownI_of_below {w w' : World} (hb : Below w.heap.size w w') (row : Option Nat) : w.grownBy w' row := ⟨hb.os, hb.tape, hb.output, hb.size, fun i hi _ => hb.block i hi⟩
theorem rdI_at {w : World} {b o n k : Nat} {X : List Int} {x : Int} (hc : ∀ k, k < n → w.cell? ⟨b, o + k, none⟩ = some (.int .i64 (X.getD k 0))) (hk : k < n) (hx : X[k]? = some x) :
    w.cell? ⟨b, o + k, none⟩ = some (.int .i64 x) := by rw [hc k hk]; simp [List.getD, hx]
theorem atI_of_lt {X : List Int} {k n : Nat} (hX : X.length = n) (hk : k < n) : ∃ x, X[k]? = some x ∧ x ∈ X :=
  ⟨X[k]'(by omega), List.getElem?_eq_getElem (by omega), List.getElem_mem _⟩

/-- Block b is a box of these cells. -/
def BoxF (w : World) (b : Nat) (L : List Value) (t : TypeId) : Prop := w.heap[b]? = some (.cells L.toArray t (0, 0))
theorem BoxF.new (w : World) (L : List Value) (t : TypeId) : BoxF (w.alloc (.cells L.toArray t (0, 0))) w.heap.size L t := by
  show (w.heap.push _)[w.heap.size]? = _; exact Array.getElem?_push_size
theorem BoxF.lt {w : World} {b : Nat} {L : List Value} {t : TypeId} (h : BoxF w b L t) : b < w.heap.size := by
  rcases Nat.lt_or_ge b w.heap.size with h1 | h1
  · exact h1
  · unfold BoxF at h; rw [Array.getElem?_eq_none h1] at h; cases h
theorem BoxF.kept {w w' : World} {b : Nat} {L : List Value} {t : TypeId} {row : Option Nat} (h : BoxF w b L t) (hg : w.grownBy w' row) (hne : some b ≠ row) : BoxF w' b L t := (hg.block b h.lt hne).trans h
theorem BoxF.alloc {w : World} {b : Nat} {L : List Value} {t : TypeId} (h : BoxF w b L t) (o : Obj) : BoxF (w.alloc o) b L t := h.kept (World.grownBy_alloc w o none) (by simp)
theorem BoxF.set {w : World} {b : Nat} {L : List Value} {t : TypeId} (h : BoxF w b L t) (i : Nat) (v : Value) : BoxF (w.setCell ⟨b, i, none⟩ v) b (L.set i v) t := by
  have h1 := heap_setCell_same w b i L.toArray t v h
  unfold BoxF
  rw [h1]
  congr 2
  apply Array.toList_inj.1
  simp
theorem BoxF.far {w : World} {b b' : Nat} {L : List Value} {t : TypeId} (h : BoxF w b L t) (i : Nat) (v : Value) (hne : b ≠ b') : BoxF (w.setCell ⟨b', i, none⟩ v) b L t := (heap_setCell_other w ⟨b', i, none⟩ b v hne).trans h
theorem BoxF.at {w : World} {b : Nat} {L : List Value} {t : TypeId} (h : BoxF w b L t) (i : Nat) : w.cell? ⟨b, i, none⟩ = L[i]? := by
  unfold BoxF at h
  simp only [World.cell?, h]
  simp
theorem BoxF.free {w : World} {b : Nat} {L : List Value} {t : TypeId} (h : BoxF w b L t) (i : Nat) : w.frozen? ⟨b, i, none⟩ = false := by
  unfold BoxF at h
  simp [World.frozen?, h]
theorem BoxF.below {w w' : World} {b : Nat} {L : List Value} {t : TypeId} (h : BoxF w b L t) (hb : Below w.heap.size w w') : BoxF w' b L t := (hb.block b h.lt).trans h
theorem grownBy_set (w : World) (b i : Nat) (v : Value) : w.grownBy (w.setCell ⟨b, i, none⟩ v) (some b) :=
  ⟨rfl, rfl, rfl, by simp, fun k _ hk => heap_setCell_other w ⟨b, i, none⟩ k v (fun e => hk (by rw [e]))⟩
theorem BoxF.one {w : World} {b : Nat} {x0 : Value} {t : TypeId} (h : BoxF w b [x0] t) : w.cell? ⟨b, 0, none⟩ = some x0 ∧ (∀ i, w.frozen? ⟨b, i, none⟩ = false) := ⟨h.at 0, h.free⟩
theorem BoxF.drew {w : World} {b : Nat} {L : List Value} {t : TypeId} (h : BoxF w b L t) (m : Nat) : BoxF (w.drewN m) b L t := h
theorem OwnI.drewN {w : World} {B n cap : Nat} {a : Option Addr} {X : List Int} (h : OwnI w B a n cap X) (m : Nat) : OwnI (w.drewN m) B a n cap X := h
theorem ownI_append {w : World} {B : Nat} {v : Value} {n : Nat} {X : List Int} (h : w.ownsRow B 3 1 v n (X.map (Value.int .i64))) : ∃ a cap, v = .slice a n cap ∧ OwnI w B a n cap X := by
  rcases h.2 with ⟨rfl, rfl⟩ | ⟨g, cap, cur, rfl, h2, h3⟩
  · exact ⟨none, 0, rfl, h⟩
  · exact ⟨some ⟨g, 0, none⟩, cap, rfl, h⟩
theorem sliceR {w : World} {B : Nat} {v : Value} {n : Nat} {X Y : List Int} (h : w.ownsRow B 3 1 v n (X.map (Value.int .i64))) (e : X = Y) : w.ownsRow B 3 1 v Y.length (Y.map (Value.int .i64)) := by
  subst e
  have hl : X.length = n := by have := h.1; simpa using this
  rw [hl]; exact h
theorem app_len {w : World} {B : Nat} {v : Value} {n : Nat} {X : List Int} (h : w.ownsRow B 3 1 v n (X.map (Value.int .i64))) : X.length = n := by have := h.1; simpa using this
theorem app_one {w : World} {B : Nat} {v : Value} {n : Nat} {X : List Int} {x : Int} (h : w.ownsRow B 3 1 v n (X.map (Value.int .i64) ++ [.int .i64 x])) : w.ownsRow B 3 1 v n ((X ++ [x]).map (Value.int .i64)) := by simpa using h

theorem ownI_nil (w : World) (B : Nat) : OwnI w B none 0 0 [] := World.ownsRow_nil _ _ _ _

set_option maxHeartbeats 1000000 in
theorem eqIntS_true (X : List Int) (n : Nat) (a1 a2 : Option Addr) (c1 c2 : Nat) (w : World) (h1 : RdI w a1 n X) (h2 : RdI w a2 n X) (hn : n ≤ 1048577) :
    Calls Try.prog 28 #[.slice a1 n c1, .slice a2 n c2] w fun e w' => e = .returned (.bool true) ∧ ∃ m, w' = w.drewN m := by
  rcases Nat.eq_zero_or_pos n with h0 | h0
  · subst h0
    clear h1 h2
    go_enter Try.func28, Try.ntmps28
    go_wp2
    refine wp_loop_rounds 1 ?_
    rw [rounds_succ]
    go_wp2
    go_ret
    exact ⟨rfl, 0, rfl⟩
  · obtain ⟨b1, o1, rfl, _, hc1⟩ := h1.2 h0
    obtain ⟨b2, o2, rfl, _, hc2⟩ := h2.2 h0
    have HL := Lib.hid h1.1
    clear h1 h2
    have H1 := Lib.hid hc1
    have H2 := Lib.hid hc2
    clear hc1 hc2
    go_enter Try.func28, Try.ntmps28
    go_wp2
    go_loopw [5] (fun i wr => ∃ k q : Nat, k ≤ n ∧ i = .int .i64 k ∧ wr = w.drewN q) (fun i _ => n - (intOf i).toNat)
    case atStart => exact ⟨0, 0, Nat.zero_le _, rfl, rfl⟩
    case round =>
      obtain ⟨k, q, hk, rfl, rfl⟩ := hrel
      by_cases hlt : k < n
      · obtain ⟨x, hx, _⟩ := atI_of_lt HL.out hlt
        have g1 := rdI_at H1.out hlt hx
        have g2 := rdI_at H2.out hlt hx
        clear hx
        go_wp2
        go_quiet (fail)
        go_wp2
        go_roundw
        case rel => exact ⟨k + 1, _, by omega, by go_num, rfl⟩
        case measure => simp [intOf]; omega
      · go_wp2
        go_ret
        exact ⟨rfl, q, rfl⟩



def filledI (X : List Int) (n k : Nat) : List Value := (X.take k).map (Value.int .i64) ++ List.replicate (n - k) (.int .i64 0)
theorem filledI_len {X : List Int} {n k : Nat} (hX : X.length = n) (hk : k ≤ n) : (filledI X n k).length = n := by unfold filledI; simp; omega
theorem filledI_zero (X : List Int) (n : Nat) : filledI X n 0 = List.replicate n (.int .i64 0) := by unfold filledI; simp
theorem filledI_all {X : List Int} {n : Nat} (hX : X.length = n) : filledI X n n = X.map (Value.int .i64) := by
  unfold filledI; rw [List.take_of_length_le (by omega), Nat.sub_self]; simp
theorem filledI_set {X : List Int} {n k : Nat} {x : Int} (hX : X.length = n) (hk : k < n) (hx : X[k]? = some x) : (filledI X n k).set k (.int .i64 x) = filledI X n (k + 1) := by
  unfold filledI
  have hl : ((X.take k).map (Value.int .i64)).length = k := by simp; omega
  rw [List.set_append_right _ _ (by omega), hl, Nat.sub_self]
  obtain ⟨m, hm⟩ : ∃ m, n - k = m + 1 := ⟨n - k - 1, by omega⟩
  rw [hm, List.replicate_succ, List.set_cons_zero, show n - (k + 1) = m from by omega, List.take_add_one, hx]
  simp

set_option maxHeartbeats 1000000 in
theorem toIntS_any (X : List Int) (n : Nat) (a : Option Addr) (c : Nat) (w : World) (h : RdI w a n X) (hn : n ≤ 1048576) :
    Calls Try.prog 26 #[.slice a n c] w fun e w' => ∃ g : Nat, e = .returned (.slice (some ⟨g, 0, none⟩) n n) ∧ OwnI w' w.heap.size (some ⟨g, 0, none⟩) n n X ∧ Below w.heap.size w w' := by
  obtain ⟨i0, hi, hz0, hz1, hz2⟩ := info_parts infoI
  have hXl := h.1
  rcases Nat.eq_zero_or_pos n with hz | hz
  · subst hz
    have hX0 : X = [] := List.eq_nil_of_length_eq_zero hXl
    have HX := Lib.hid hX0
    clear h hXl hX0
    go_enter Try.func26, Try.ntmps26
    go_wp2_with (at_make; refine wpList_make_full _ rfl _ _ 28 rfl w.heap.size 3 i0 (.int .i64 0) 1 Try.underlying28 hi hz0 hz1 .i64 .i64 0 0 0 rfl rfl rfl rfl (by rw [hz2]; omega) (by unfold maxLen; omega) (Nat.le_refl _) ?_; intro w1 hown1 hgr1)
    refine wp_loop_rounds 1 ?_
    rw [rounds_succ]
    go_wp2
    go_ret
    exact ⟨_, rfl, by rw [HX.out]; simpa [OwnI, madeCells] using hown1, (Below.refl _ _).grown hgr1 (Nat.le_refl _) (by simp)⟩
  · obtain ⟨b, o, rfl, hb0, hc⟩ := h.2 hz
    have HC := Lib.hid hc
    have HXl := Lib.hid hXl
    clear h hXl hc
    go_enter Try.func26, Try.ntmps26
    go_wp2_with (at_make; refine wpList_make_full _ rfl _ _ 28 rfl w.heap.size 3 i0 (.int .i64 0) 1 Try.underlying28 hi hz0 hz1 .i64 .i64 (n : Int) (n : Int) n rfl rfl rfl rfl (by rw [hz2]; omega) (by unfold maxLen; omega) (Nat.le_refl _) ?_; intro w1 hown1 hgr1)
    have hfil : w1.ownsRow w.heap.size 3 1 (.slice (some ⟨w.heap.size, 0, none⟩) n n) n (filledI X n 0) := by
      rw [filledI_zero, ← toList_madeCells_one]
      rw [Nat.mul_one] at hown1
      exact hown1
    have hbel : Below w.heap.size w w1 := (Below.refl _ _).grown hgr1 (Nat.le_refl _) (by simp)
    clear hown1 hgr1
    go_loopg [4] n (fun g i wr => ∃ k : Nat, k + g = n ∧ i = .int .i64 k ∧ wr.ownsRow w.heap.size 3 1 (.slice (some ⟨w.heap.size, 0, none⟩) n n) n (filledI X n k) ∧ Below w.heap.size w wr)
    case atStart => exact ⟨0, by omega, rfl, hfil, hbel⟩
    case round =>
      obtain ⟨k, hk, rfl, ho, hb⟩ := hrel
      clear hfil hbel
      by_cases hlt : k < n
      · obtain ⟨g, rfl⟩ : ∃ g, gk = g + 1 := ⟨gk - 1, by omega⟩
        obtain ⟨x, hx, _⟩ := atI_of_lt HXl.out hlt
        have hcell : wr.cell? ⟨b, o + k, none⟩ = some (.int .i64 x) := (hb.cell (p := ⟨b, o + k, none⟩) hb0).trans (rdI_at HC.out hlt hx)
        obtain ⟨u0, hu⟩ : ∃ u, (filledI X n k)[k]? = some u := ⟨(filledI X n k)[k]'(by rw [filledI_len HXl.out (by omega)]; omega), List.getElem?_eq_getElem _⟩
        have hc1 := (ho.cellAt k (by omega)).trans hu
        have hf1 := ho.frozenAt k
        have hst := ho.stored k (.int .i64 x)
        have HS := Lib.hid (filledI_set HXl.out hlt hx)
        clear hx hu
        have HST := Lib.hid hst
        clear hst
        go_wp2
        go_roundg g
        case measure => omega
        case rel => exact ⟨k + 1, by omega, by go_num, by rw [← HS.out]; exact HST.out.1, hb.grown HST.out.2 hb.size (fun q hq => by cases hq; omega)⟩
      · obtain rfl : k = n := by omega
        go_wp2
        go_ret
        exact ⟨_, rfl, by unfold OwnI; rw [← filledI_all HXl.out]; exact ho, hb⟩
end Go.Proofs.Ythapidnjioindaa
