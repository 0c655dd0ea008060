/- Several small texts in one: Base, Tin, TMath, IntRows, Bases, Lists. -/
import Derived.WalkKit
import Derived.Below
import Derived.Lib.Hide
import Derived.Deep.QuietTactic
import Derived.Test.YthapidnjioindaaDoorProg
import Derived.WalkLawsBesides
import Derived.IntWalk
import Derived.OwnWalk
import Derived.Laws.OwnMore
import Derived.Maps.AppendAt
import Derived.Deep.RegionWith
import Derived.Deep.LoopGhost
import Derived.BigQuiet
namespace Go.Proofs.YthapidnjioindaaDoor
open Go.RowKit

/-- A string out of its bytes. -/
def strOf (l : List UInt8) : ByteArray := ⟨l.toArray⟩
theorem size_strOf (l : List UInt8) : (strOf l).size = l.length := rfl
theorem strOf_append (a b : List UInt8) : strOf a ++ strOf b = strOf (a ++ b) := ByteArray.mk_append_mk a b
theorem strOf_data (s : ByteArray) : strOf s.data.toList = s := rfl
theorem data_strOf (l : List UInt8) : (strOf l).data.toList = l := rfl
theorem strOf_inj {a b : List UInt8} (h : strOf a = strOf b) : a = b := by
  have := congrArg (fun s : ByteArray => s.data.toList) h
  exact this
theorem ret_str {a b : ByteArray} (h : a = b) : Ending.returned (.string a) = .returned (.string b) := by rw [h]
theorem ret_int {k : IntKind} {a b : Int} (h : a = b) : Ending.returned (.int k a) = .returned (.int k b) := by rw [h]
theorem str_eq {a b : ByteArray} (h : a = b) : (a.toList == b.toList) = true := by rw [h]; simp
theorem str_ne {a b : ByteArray} (h : a ≠ b) : (a.toList == b.toList) = false := by
  rw [ByteArray.toList_eq, ByteArray.toList_eq, beq_eq_false_iff_ne]
  intro e
  exact h (ByteArray.ext (Array.toList_inj.1 e))
theorem below_drewN' {B : Nat} {a w : World} (h : Below B a w) (n : Nat) : Below B a (w.drewN n) := ⟨h.os, h.tape, h.output, h.size, h.block⟩
theorem take_snoc (s : ByteArray) (k : Nat) (h : k < s.size) : s.data.toList.take (k + 1) = s.data.toList.take k ++ [s[k]] := by
  rw [List.take_succ_eq_append_getElem (by simpa using h)]; rfl
theorem take_all (s : ByteArray) (k : Nat) (h : s.size ≤ k) : s.data.toList.take k = s.data.toList := List.take_of_length_le (by simp; omega)
theorem drop_cons (s : ByteArray) (k : Nat) (h : k < s.size) : s.data.toList.drop k = s[k] :: s.data.toList.drop (k + 1) := by
  rw [List.drop_eq_getElem_cons (by simpa using h)]; rfl
theorem drop_all (s : ByteArray) (k : Nat) (h : s.size ≤ k) : s.data.toList.drop k = [] := List.drop_eq_nil_of_le (by simp; omega)
end Go.Proofs.YthapidnjioindaaDoor
namespace Go.Proofs.YthapidnjioindaaDoor
open Go.RowKit

theorem infoI : (Tryd.prog.info? 3).map (fun i => (i.zero, i.size, i.bytes)) = some (some (.int .i64 0), 1, 8) := by kernel_rfl
theorem cellI_lt {w : World} {b o : Nat} {v : Value} (h : w.cell? ⟨b, o, none⟩ = some v) : b < w.heap.size := by
  rcases Nat.lt_or_ge b w.heap.size with h1 | h1
  · exact h1
  · unfold World.cell? at h
    rw [Array.getElem?_eq_none h1] at h
    simp at h
/-- The slice of address a and length n reads as these numbers; its cells are old ones. -/
def RdI (w : World) (a : Option Addr) (n : Nat) (X : List Int) : Prop :=
  X.length = n ∧ (0 < n → ∃ b o, a = some ⟨b, o, none⟩ ∧ b < w.heap.size ∧ ∀ k, k < n → w.cell? ⟨b, o + k, none⟩ = some (.int .i64 (X.getD k 0)))
theorem RdI.below {w w' : World} {a : Option Addr} {n : Nat} {X : List Int} (h : RdI w a n X) (hb : Below w.heap.size w w') : RdI w' a n X :=
  ⟨h.1, fun hn => by
    obtain ⟨b, o, e, hlt, hc⟩ := h.2 hn
    exact ⟨b, o, e, Nat.lt_of_lt_of_le hlt hb.size, fun k hk => (hb.cell (p := ⟨b, o + k, none⟩) hlt).trans (hc k hk)⟩⟩
theorem RdI.drewN {w : World} {a : Option Addr} {n : Nat} {X : List Int} (h : RdI w a n X) (m : Nat) : RdI (w.drewN m) a n X := h
/-- The slice owns a row from block B on that holds these numbers (or is nil and holds none). -/
def OwnI (w : World) (B : Nat) (a : Option Addr) (n cap : Nat) (X : List Int) : Prop := w.ownsRow B 3 1 (.slice a n cap) n (X.map (Value.int .i64))
theorem OwnI.len {w : World} {B n cap : Nat} {a : Option Addr} {X : List Int} (h : OwnI w B a n cap X) : X.length = n := by have := h.1; simpa using this
theorem OwnI.kept {w w' : World} {B n cap : Nat} {a : Option Addr} {X : List Int} {row : Option Nat} (h : OwnI w B a n cap X) (hg : w.grownBy w' row) (hne : (Value.slice a n cap).ownBlock = none ∨ (Value.slice a n cap).ownBlock ≠ row) : OwnI w' B a n cap X := World.ownsRow.kept h hg hne
theorem OwnI.below {w w' : World} {B n cap : Nat} {a : Option Addr} {X : List Int} (h : OwnI w B a n cap X) (hb : Below w.heap.size w w') : OwnI w' B a n cap X :=
  World.ownsRow.kept (row := none) h ⟨hb.os, hb.tape, hb.output, hb.size, fun i hi _ => hb.block i hi⟩ (by cases h : (Value.slice a n cap).ownBlock <;> simp)
theorem OwnI.shape {w : World} {B n cap : Nat} {a : Option Addr} {X : List Int} (h : OwnI w B a n cap X) : (a = none ∧ n = 0 ∧ cap = 0 ∧ X = []) ∨ ∃ g, a = some ⟨g, 0, none⟩ ∧ B ≤ g ∧ g < w.heap.size := by
  have hl := h.len
  have hlt := World.ownsRow.lt h
  rcases h.2 with ⟨h1, h2⟩ | ⟨g, cp, cur, h1, h2, h3, _⟩
  · cases h1
    exact .inl ⟨rfl, rfl, rfl, List.eq_nil_of_length_eq_zero (by omega)⟩
  · cases h1
    exact .inr ⟨g, rfl, hlt g rfl⟩
theorem OwnI.rd {w : World} {B n cap : Nat} {a : Option Addr} {X : List Int} (h : OwnI w B a n cap X) : RdI w a n X := by
  have hl := h.len
  refine ⟨hl, fun hn => ?_⟩
  rcases h.shape with ⟨_, h0, _⟩ | ⟨g, rfl, hB, hg⟩
  · omega
  · refine ⟨g, 0, rfl, hg, fun k hk => ?_⟩
    rw [Nat.zero_add, World.ownsRow.cellAt h k (by omega)]
    simp [List.getD, hl, hk]
theorem OwnI.low {w : World} {B B' n cap : Nat} {a : Option Addr} {X : List Int} (h : OwnI w B a n cap X) (hB : B' ≤ B) : OwnI w B' a n cap X := by
  refine ⟨h.1, ?_⟩
  rcases h.2 with h1 | ⟨g, cp, cur, h1, h2, h3⟩
  · exact .inl h1
  · exact .inr ⟨g, cp, cur, h1, Nat.le_trans hB h2, h3⟩
theorem grownI_of_below {w w' : World} (hb : Below w.heap.size w w') (row : Option Nat) : w.grownBy w' row := ⟨hb.os, hb.tape, hb.output, hb.size, fun i hi _ => hb.block i hi⟩
theorem rdI_at {w : World} {b o n k : Nat} {X : List Int} {x : Int} (hc : ∀ k, k < n → w.cell? ⟨b, o + k, none⟩ = some (.int .i64 (X.getD k 0))) (hk : k < n) (hx : X[k]? = some x) :
    w.cell? ⟨b, o + k, none⟩ = some (.int .i64 x) := by rw [hc k hk]; simp [List.getD, hx]
theorem atI_of_lt {X : List Int} {k n : Nat} (hX : X.length = n) (hk : k < n) : ∃ x, X[k]? = some x ∧ x ∈ X :=
  ⟨X[k]'(by omega), List.getElem?_eq_getElem (by omega), List.getElem_mem _⟩

/-- Block b is a box of these cells. -/
def BoxF (w : World) (b : Nat) (L : List Value) (t : TypeId) : Prop := w.heap[b]? = some (.cells L.toArray t (0, 0))
theorem BoxF.new (w : World) (L : List Value) (t : TypeId) : BoxF (w.alloc (.cells L.toArray t (0, 0))) w.heap.size L t := by
  show (w.heap.push _)[w.heap.size]? = _; exact Array.getElem?_push_size
theorem BoxF.lt {w : World} {b : Nat} {L : List Value} {t : TypeId} (h : BoxF w b L t) : b < w.heap.size := by
  rcases Nat.lt_or_ge b w.heap.size with h1 | h1
  · exact h1
  · unfold BoxF at h; rw [Array.getElem?_eq_none h1] at h; cases h
theorem BoxF.kept {w w' : World} {b : Nat} {L : List Value} {t : TypeId} {row : Option Nat} (h : BoxF w b L t) (hg : w.grownBy w' row) (hne : some b ≠ row) : BoxF w' b L t := (hg.block b h.lt hne).trans h
theorem BoxF.alloc {w : World} {b : Nat} {L : List Value} {t : TypeId} (h : BoxF w b L t) (o : Obj) : BoxF (w.alloc o) b L t := h.kept (World.grownBy_alloc w o none) (by simp)
theorem BoxF.set {w : World} {b : Nat} {L : List Value} {t : TypeId} (h : BoxF w b L t) (i : Nat) (v : Value) : BoxF (w.setCell ⟨b, i, none⟩ v) b (L.set i v) t := by
  have h1 := heap_setCell_same w b i L.toArray t v h
  unfold BoxF
  rw [h1]
  congr 2
  apply Array.toList_inj.1
  simp
theorem BoxF.far {w : World} {b b' : Nat} {L : List Value} {t : TypeId} (h : BoxF w b L t) (i : Nat) (v : Value) (hne : b ≠ b') : BoxF (w.setCell ⟨b', i, none⟩ v) b L t := (heap_setCell_other w ⟨b', i, none⟩ b v hne).trans h
theorem BoxF.at {w : World} {b : Nat} {L : List Value} {t : TypeId} (h : BoxF w b L t) (i : Nat) : w.cell? ⟨b, i, none⟩ = L[i]? := by
  unfold BoxF at h
  simp only [World.cell?, h]
  simp
theorem BoxF.free {w : World} {b : Nat} {L : List Value} {t : TypeId} (h : BoxF w b L t) (i : Nat) : w.frozen? ⟨b, i, none⟩ = false := by
  unfold BoxF at h
  simp [World.frozen?, h]
theorem BoxF.below {w w' : World} {b : Nat} {L : List Value} {t : TypeId} (h : BoxF w b L t) (hb : Below w.heap.size w w') : BoxF w' b L t := (hb.block b h.lt).trans h
theorem grownBy_set (w : World) (b i : Nat) (v : Value) : w.grownBy (w.setCell ⟨b, i, none⟩ v) (some b) :=
  ⟨rfl, rfl, rfl, by simp, fun k _ hk => heap_setCell_other w ⟨b, i, none⟩ k v (fun e => hk (by rw [e]))⟩
theorem BoxF.one {w : World} {b : Nat} {x0 : Value} {t : TypeId} (h : BoxF w b [x0] t) : w.cell? ⟨b, 0, none⟩ = some x0 ∧ (∀ i, w.frozen? ⟨b, i, none⟩ = false) := ⟨h.at 0, h.free⟩
theorem BoxF.drew {w : World} {b : Nat} {L : List Value} {t : TypeId} (h : BoxF w b L t) (m : Nat) : BoxF (w.drewN m) b L t := h
theorem OwnI.drewN {w : World} {B n cap : Nat} {a : Option Addr} {X : List Int} (h : OwnI w B a n cap X) (m : Nat) : OwnI (w.drewN m) B a n cap X := h
theorem ownI_append {w : World} {B : Nat} {v : Value} {n : Nat} {X : List Int} (h : w.ownsRow B 3 1 v n (X.map (Value.int .i64))) : ∃ a cap, v = .slice a n cap ∧ OwnI w B a n cap X := by
  rcases h.2 with ⟨rfl, rfl⟩ | ⟨g, cap, cur, rfl, h2, h3⟩
  · exact ⟨none, 0, rfl, h⟩
  · exact ⟨some ⟨g, 0, none⟩, cap, rfl, h⟩
theorem sliceR {w : World} {B : Nat} {v : Value} {n : Nat} {X Y : List Int} (h : w.ownsRow B 3 1 v n (X.map (Value.int .i64))) (e : X = Y) : w.ownsRow B 3 1 v Y.length (Y.map (Value.int .i64)) := by
  subst e
  have hl : X.length = n := by have := h.1; simpa using this
  rw [hl]; exact h
theorem app_len {w : World} {B : Nat} {v : Value} {n : Nat} {X : List Int} (h : w.ownsRow B 3 1 v n (X.map (Value.int .i64))) : X.length = n := by have := h.1; simpa using this
theorem app_one {w : World} {B : Nat} {v : Value} {n : Nat} {X : List Int} {x : Int} (h : w.ownsRow B 3 1 v n (X.map (Value.int .i64) ++ [.int .i64 x])) : w.ownsRow B 3 1 v n ((X ++ [x]).map (Value.int .i64)) := by simpa using h

theorem ownI_nil (w : World) (B : Nat) : OwnI w B none 0 0 [] := World.ownsRow_nil _ _ _ _

set_option maxHeartbeats 1000000 in
theorem eqIntS_true (X : List Int) (n : Nat) (a1 a2 : Option Addr) (c1 c2 : Nat) (w : World) (h1 : RdI w a1 n X) (h2 : RdI w a2 n X) (hn : n ≤ 1048577) :
    Calls Tryd.prog 67 #[.slice a1 n c1, .slice a2 n c2] w fun e w' => e = .returned (.bool true) ∧ ∃ m, w' = w.drewN m := by
  rcases Nat.eq_zero_or_pos n with h0 | h0
  · subst h0
    clear h1 h2
    go_enter Tryd.func67, Tryd.ntmps67
    go_wp2
    refine wp_loop_rounds 1 ?_
    rw [rounds_succ]
    go_wp2
    go_ret
    exact ⟨rfl, 0, rfl⟩
  · obtain ⟨b1, o1, rfl, _, hc1⟩ := h1.2 h0
    obtain ⟨b2, o2, rfl, _, hc2⟩ := h2.2 h0
    have HL := Lib.hid h1.1
    clear h1 h2
    have H1 := Lib.hid hc1
    have H2 := Lib.hid hc2
    clear hc1 hc2
    go_enter Tryd.func67, Tryd.ntmps67
    go_wp2
    go_loopw [5] (fun i wr => ∃ k q : Nat, k ≤ n ∧ i = .int .i64 k ∧ wr = w.drewN q) (fun i _ => n - (intOf i).toNat)
    case atStart => exact ⟨0, 0, Nat.zero_le _, rfl, rfl⟩
    case round =>
      obtain ⟨k, q, hk, rfl, rfl⟩ := hrel
      by_cases hlt : k < n
      · obtain ⟨x, hx, _⟩ := atI_of_lt HL.out hlt
        have g1 := rdI_at H1.out hlt hx
        have g2 := rdI_at H2.out hlt hx
        clear hx
        go_wp2
        go_quiet (fail)
        go_wp2
        go_roundw
        case rel => exact ⟨k + 1, _, by omega, by go_num, rfl⟩
        case measure => simp [intOf]; omega
      · go_wp2
        go_ret
        exact ⟨rfl, q, rfl⟩

/-- The cells behind j marks. -/
def markedI (k0 : Nat) (xs : List Value) (j : Nat) : List Value := (List.range j).map (fun i => Value.int .i64 ((k0 + i : Nat) : Int)) ++ xs.drop j
theorem markedI_zero (k0 : Nat) (xs : List Value) : markedI k0 xs 0 = xs := by simp [markedI]
theorem markedI_at {k0 : Nat} {xs : List Value} {j : Nat} (h : j < xs.length) : ∃ u, (markedI k0 xs j)[j]? = some u := by
  refine ⟨xs[j], ?_⟩
  unfold markedI
  rw [List.getElem?_append_right (by simp)]
  simp
theorem markedI_set {k0 : Nat} {xs : List Value} {j : Nat} (h : j < xs.length) : (markedI k0 xs j).set j (.int .i64 ((k0 + j : Nat) : Int)) = markedI k0 xs (j + 1) := by
  unfold markedI
  rw [List.set_append_right _ _ (by simp), List.range_succ]
  simp only [List.length_map, List.length_range, Nat.sub_self, List.map_append, List.map_cons, List.map_nil, List.append_assoc, List.cons_append, List.nil_append]
  rw [List.drop_eq_getElem_cons h]
  rfl
theorem markedI_all {k0 n : Nat} {xs : List Value} (h : xs.length = n) : markedI k0 xs n = (List.range n).map (fun i => Value.int .i64 ((k0 + i : Nat) : Int)) := by
  unfold markedI; rw [List.drop_eq_nil_of_le (by omega), List.append_nil]
/-- The marks 1 to n. -/
def ones (n : Nat) : List Int := (List.range n).map (fun i => ((1 + i : Nat) : Int))

set_option maxHeartbeats 1000000 in
theorem markIntS_row (xs : List Value) (n g cap B k0 : Nat) (w : World) (hown : w.ownsRow B 3 1 (.slice (some ⟨g, 0, none⟩) n cap) n xs) (hn : n ≤ 1048577) (hk0 : 1 ≤ k0) (hk1 : k0 ≤ 100000000) :
    Calls Tryd.prog 68 #[.slice (some ⟨g, 0, none⟩) n cap, .int .i64 (k0 : Int)] w fun e w' => e = .returned (.int .i64 ((k0 : Int) + n)) ∧ w'.ownsRow B 3 1 (.slice (some ⟨g, 0, none⟩) n cap) n (markedI k0 xs n) ∧ w.grownBy w' (some g) := by
  have hlen : xs.length = n := by have := hown.1; omega
  go_enter Tryd.func68, Tryd.ntmps68
  go_wp2
  go_loopg [1, 5] n (fun gh kk i wr => ∃ j : Nat, j + gh = n ∧ i = .int .i64 j ∧ kk = .int .i64 ((k0 : Int) + j) ∧ wr.ownsRow B 3 1 (.slice (some ⟨g, 0, none⟩) n cap) n (markedI k0 xs j) ∧ w.grownBy wr (some g))
  case atStart => exact ⟨0, by omega, rfl, by simp, by rw [markedI_zero]; exact hown, World.grownBy.refl _ _⟩
  case round =>
    obtain ⟨j, hj, rfl, rfl, ho, hgr⟩ := hrel
    by_cases hlt : j < n
    · obtain ⟨gh, rfl⟩ : ∃ gh, gk = gh + 1 := ⟨gk - 1, by omega⟩
      obtain ⟨u0, hu⟩ := markedI_at (k0 := k0) (xs := xs) (j := j) (by omega)
      have hc1 := (ho.cellAt j (by omega)).trans hu
      have hf1 := ho.frozenAt j
      have HL := Lib.hid hlen
      have HST := Lib.hid (ho.stored j (.int .i64 ((k0 : Int) + j)))
      have HM := Lib.hid (markedI_set (k0 := k0) (xs := xs) (j := j) (by omega))
      clear hu hlen hown
      go_wp2
      go_roundg gh
      case measure => omega
      case rel => exact ⟨j + 1, by omega, by go_num, by go_num, by rw [← HM.out]; exact HST.out.1, hgr.trans HST.out.2⟩
    · obtain rfl : j = n := by omega
      go_wp2
      go_ret
      exact ⟨rfl, ho, hgr⟩

theorem markIntS_nil (a : Option Addr) (c : Nat) (w : World) :
    Calls Tryd.prog 68 #[.slice a 0 c, .int .i64 1] w fun e w' => e = .returned (.int .i64 1) ∧ w = w' := by
  go_enter Tryd.func68, Tryd.ntmps68
  go_wp2
  refine wp_loop_rounds 1 ?_
  rw [rounds_succ]
  go_wp2
  go_ret
  exact ⟨rfl, rfl⟩
theorem mark1 (X : List Int) (n B cap : Nat) (a : Option Addr) (w : World) (hown : OwnI w B a n cap X) (hn : n ≤ 1048577) :
    Calls Tryd.prog 68 #[.slice a n cap, .int .i64 1] w fun e w' => e = .returned (.int .i64 (1 + (n : Int))) ∧ OwnI w' B a n cap (ones n) ∧ w.grownBy w' (Value.slice a n cap).ownBlock := by
  have hl := hown.len
  rcases hown.shape with ⟨rfl, rfl, rfl, rfl⟩ | ⟨g, rfl, _, _⟩
  · exact (markIntS_nil _ _ _).mono fun e w' ⟨he, hw⟩ => ⟨he, by subst hw; exact hown, by subst hw; exact World.grownBy.refl _ _⟩
  · exact (show Calls Tryd.prog 68 #[.slice (some ⟨g, 0, none⟩) n cap, .int .i64 1] w _ from markIntS_row (X.map (Value.int .i64)) n g cap B 1 w hown hn (by omega) (by omega)).mono fun e w' ⟨he, ho, hg⟩ => ⟨he, by
      rw [markedI_all (by simpa using hl)] at ho
      unfold OwnI ones
      rw [List.map_map]; exact ho, hg⟩

theorem ones_at {n k : Nat} (hk : k < n) : (ones n).getD k 0 = 1 + (k : Int) := by
  unfold ones
  simp [List.getD, hk]
set_option maxHeartbeats 1000000 in
theorem held1 (n : Nat) (a : Option Addr) (c : Nat) (w : World) (h : RdI w a n (ones n)) (hn : n ≤ 1048577) :
    Calls Tryd.prog 75 #[.slice a n c, .int .i64 1] w fun e w' => e = .returned (.int .i64 (1 + (n : Int))) ∧ ∃ m, w' = w.drewN m := by
  rcases Nat.eq_zero_or_pos n with h0 | h0
  · subst h0
    clear h
    go_enter Tryd.func75, Tryd.ntmps75
    go_wp2
    refine wp_loop_rounds 1 ?_
    rw [rounds_succ]
    go_wp2
    go_ret
    exact ⟨by simp, 0, rfl⟩
  · obtain ⟨b, o, rfl, hlt0, hc⟩ := h.2 h0
    clear h
    have H := Lib.hid (fun k (hk : k < n) => by have := hc k hk; rw [ones_at hk] at this; exact this)
    clear hc
    go_enter Tryd.func75, Tryd.ntmps75
    go_wp2
    go_loopg [1, 5] n (fun gh kk i wr => ∃ j q : Nat, j + gh = n ∧ i = .int .i64 j ∧ kk = .int .i64 (1 + (j : Int)) ∧ wr = w.drewN q)
    case atStart => exact ⟨0, 0, by omega, rfl, by simp, rfl⟩
    case round =>
      obtain ⟨j, q, hj, rfl, rfl, rfl⟩ := hrel
      by_cases hlt : j < n
      · obtain ⟨gh, rfl⟩ : ∃ gh, gk = gh + 1 := ⟨gk - 1, by omega⟩
        have g1 := H.out j hlt
        go_wp2
        first
          | (go_quiet (fail)
             go_wp2)
          | skip
        go_roundg gh
        case measure => omega
        case rel => exact ⟨j + 1, _, by omega, by go_num, by go_num, rfl⟩
      · obtain rfl : j = n := by omega
        go_wp2
        go_ret
        exact ⟨rfl, q, rfl⟩

def filledI (X : List Int) (n k : Nat) : List Value := (X.take k).map (Value.int .i64) ++ List.replicate (n - k) (.int .i64 0)
theorem filledI_len {X : List Int} {n k : Nat} (hX : X.length = n) (hk : k ≤ n) : (filledI X n k).length = n := by unfold filledI; simp; omega
theorem filledI_zero (X : List Int) (n : Nat) : filledI X n 0 = List.replicate n (.int .i64 0) := by unfold filledI; simp
theorem filledI_all {X : List Int} {n : Nat} (hX : X.length = n) : filledI X n n = X.map (Value.int .i64) := by
  unfold filledI; rw [List.take_of_length_le (by omega), Nat.sub_self]; simp
theorem filledI_set {X : List Int} {n k : Nat} {x : Int} (hX : X.length = n) (hk : k < n) (hx : X[k]? = some x) : (filledI X n k).set k (.int .i64 x) = filledI X n (k + 1) := by
  unfold filledI
  have hl : ((X.take k).map (Value.int .i64)).length = k := by simp; omega
  rw [List.set_append_right _ _ (by omega), hl, Nat.sub_self]
  obtain ⟨m, hm⟩ : ∃ m, n - k = m + 1 := ⟨n - k - 1, by omega⟩
  rw [hm, List.replicate_succ, List.set_cons_zero, show n - (k + 1) = m from by omega, List.take_add_one, hx]
  simp

set_option maxHeartbeats 1000000 in
theorem toIntS_any (X : List Int) (n : Nat) (a : Option Addr) (c : Nat) (w : World) (h : RdI w a n X) (hn : n ≤ 1048576) :
    Calls Tryd.prog 65 #[.slice a n c] w fun e w' => ∃ g : Nat, e = .returned (.slice (some ⟨g, 0, none⟩) n n) ∧ OwnI w' w.heap.size (some ⟨g, 0, none⟩) n n X ∧ Below w.heap.size w w' := by
  obtain ⟨i0, hi, hz0, hz1, hz2⟩ := info_parts infoI
  have hXl := h.1
  rcases Nat.eq_zero_or_pos n with hz | hz
  · subst hz
    have hX0 : X = [] := List.eq_nil_of_length_eq_zero hXl
    have HX := Lib.hid hX0
    clear h hXl hX0
    go_enter Tryd.func65, Tryd.ntmps65
    go_wp2_with (at_make; refine wpList_make_full _ rfl _ _ 24 rfl w.heap.size 3 i0 (.int .i64 0) 1 Tryd.underlying24 hi hz0 hz1 .i64 .i64 0 0 0 rfl rfl rfl rfl (by rw [hz2]; omega) (by unfold maxLen; omega) (Nat.le_refl _) ?_; intro w1 hown1 hgr1)
    refine wp_loop_rounds 1 ?_
    rw [rounds_succ]
    go_wp2
    go_ret
    exact ⟨_, rfl, by rw [HX.out]; simpa [OwnI, madeCells] using hown1, (Below.refl _ _).grown hgr1 (Nat.le_refl _) (by simp)⟩
  · obtain ⟨b, o, rfl, hb0, hc⟩ := h.2 hz
    have HC := Lib.hid hc
    have HXl := Lib.hid hXl
    clear h hXl hc
    go_enter Tryd.func65, Tryd.ntmps65
    go_wp2_with (at_make; refine wpList_make_full _ rfl _ _ 24 rfl w.heap.size 3 i0 (.int .i64 0) 1 Tryd.underlying24 hi hz0 hz1 .i64 .i64 (n : Int) (n : Int) n rfl rfl rfl rfl (by rw [hz2]; omega) (by unfold maxLen; omega) (Nat.le_refl _) ?_; intro w1 hown1 hgr1)
    have hfil : w1.ownsRow w.heap.size 3 1 (.slice (some ⟨w.heap.size, 0, none⟩) n n) n (filledI X n 0) := by
      rw [filledI_zero, ← toList_madeCells_one]
      rw [Nat.mul_one] at hown1
      exact hown1
    have hbel : Below w.heap.size w w1 := (Below.refl _ _).grown hgr1 (Nat.le_refl _) (by simp)
    clear hown1 hgr1
    go_loopg [4] n (fun g i wr => ∃ k : Nat, k + g = n ∧ i = .int .i64 k ∧ wr.ownsRow w.heap.size 3 1 (.slice (some ⟨w.heap.size, 0, none⟩) n n) n (filledI X n k) ∧ Below w.heap.size w wr)
    case atStart => exact ⟨0, by omega, rfl, hfil, hbel⟩
    case round =>
      obtain ⟨k, hk, rfl, ho, hb⟩ := hrel
      clear hfil hbel
      by_cases hlt : k < n
      · obtain ⟨g, rfl⟩ : ∃ g, gk = g + 1 := ⟨gk - 1, by omega⟩
        obtain ⟨x, hx, _⟩ := atI_of_lt HXl.out hlt
        have hcell : wr.cell? ⟨b, o + k, none⟩ = some (.int .i64 x) := (hb.cell (p := ⟨b, o + k, none⟩) hb0).trans (rdI_at HC.out hlt hx)
        obtain ⟨u0, hu⟩ : ∃ u, (filledI X n k)[k]? = some u := ⟨(filledI X n k)[k]'(by rw [filledI_len HXl.out (by omega)]; omega), List.getElem?_eq_getElem _⟩
        have hc1 := (ho.cellAt k (by omega)).trans hu
        have hf1 := ho.frozenAt k
        have hst := ho.stored k (.int .i64 x)
        have HS := Lib.hid (filledI_set HXl.out hlt hx)
        clear hx hu
        have HST := Lib.hid hst
        clear hst
        go_wp2
        go_roundg g
        case measure => omega
        case rel => exact ⟨k + 1, by omega, by go_num, by rw [← HS.out]; exact HST.out.1, hb.grown HST.out.2 hb.size (fun q hq => by cases hq; omega)⟩
      · obtain rfl : k = n := by omega
        go_wp2
        go_ret
        exact ⟨_, rfl, by unfold OwnI; rw [← filledI_all HXl.out]; exact ho, hb⟩
end Go.Proofs.YthapidnjioindaaDoor
namespace Go.Proofs.YthapidnjioindaaDoor
open Go.RowKit

/-- The class of a tincture. -/
def cls (x : Int) : Int := if x ≤ 2 then 1 else if x ≤ 7 then 2 else 3
def clashB (a b : Int) : Bool := decide (a = b ∨ (cls a = cls b ∧ cls a ≠ 3))
theorem nine {x : Int} (h0 : 1 ≤ x) (h1 : x ≤ 9) : x = 1 ∨ x = 2 ∨ x = 3 ∨ x = 4 ∨ x = 5 ∨ x = 6 ∨ x = 7 ∨ x = 8 ∨ x = 9 := by omega

theorem isT_yes (x : Int) (w : World) (h0 : 1 ≤ x) (h1 : x ≤ 9) :
    Calls Tryd.prog 110 #[.int .i64 x] w fun e w' => e = .returned (.bool true) ∧ w = w' := by
  go_enter Tryd.func110, Tryd.ntmps110
  go_wp2
  go_ret
  exact ⟨rfl, rfl⟩
theorem isT_no (x : Int) (w : World) (h : x < 1 ∨ 9 < x) :
    Calls Tryd.prog 110 #[.int .i64 x] w fun e w' => e = .returned (.bool false) ∧ w = w' := by
  rcases h with h | h
  · have e1 : decide (1 ≤ x) = false := by simp; omega
    go_enter Tryd.func110, Tryd.ntmps110
    go_wp2
    go_ret
    exact ⟨rfl, rfl⟩
  · have e0 : decide (1 ≤ x) = true := by simp; omega
    have e1 : decide (x ≤ 9) = false := by simp; omega
    go_enter Tryd.func110, Tryd.ntmps110
    go_wp2
    go_ret
    exact ⟨rfl, rfl⟩

theorem l1In_yes (x a b : Int) (w : World) (h0 : a ≤ x) (h1 : x ≤ b) :
    Calls Tryd.prog 57 #[.int .i64 x, .int .i64 a, .int .i64 b] w fun e w' => e = .returned (.bool true) ∧ w = w' := by
  go_enter Tryd.func57, Tryd.ntmps57
  go_wp2
  go_ret
  exact ⟨rfl, rfl⟩
theorem l1In_no (x a b : Int) (w : World) (h : x < a ∨ b < x) :
    Calls Tryd.prog 57 #[.int .i64 x, .int .i64 a, .int .i64 b] w fun e w' => e = .returned (.bool false) ∧ w = w' := by
  by_cases hh : x < a
  · have e1 : decide (a ≤ x) = false := by simp; omega
    clear h
    go_enter Tryd.func57, Tryd.ntmps57
    go_wp2
    go_ret
    exact ⟨rfl, rfl⟩
  · have e0 : decide (a ≤ x) = true := by simp; omega
    have e1 : decide (x ≤ b) = false := by simp; omega
    clear h
    go_enter Tryd.func57, Tryd.ntmps57
    go_wp2
    go_ret
    exact ⟨rfl, rfl⟩
theorem l2Good_yes (x : Int) (w : World) (h0 : 1 ≤ x) (h1 : x ≤ 9) :
    Calls Tryd.prog 104 #[.int .i64 x] w fun e w' => e = .returned (.bool true) ∧ w = w' := by
  have c := l1In_yes x 1 9 w h0 h1
  go_enter Tryd.func104, Tryd.ntmps104
  go_wp2_with fail
  refine c.mono ?_
  rintro e w' ⟨rfl, rfl⟩
  go_wp2_with fail
  go_ret
  exact ⟨rfl, rfl⟩
theorem l2Good_no (x : Int) (w : World) (h : x < 1 ∨ 9 < x) :
    Calls Tryd.prog 104 #[.int .i64 x] w fun e w' => e = .returned (.bool false) ∧ w = w' := by
  have c := l1In_no x 1 9 w h
  clear h
  go_enter Tryd.func104, Tryd.ntmps104
  go_wp2_with fail
  refine c.mono ?_
  rintro e w' ⟨rfl, rfl⟩
  go_wp2_with fail
  go_ret
  exact ⟨rfl, rfl⟩

end Go.Proofs.YthapidnjioindaaDoor
namespace Go.Proofs.YthapidnjioindaaDoor

def tinGood (x : Int) : Bool := decide (1 ≤ x ∧ x ≤ 9)
theorem tinGood_yes {x : Int} (h0 : 1 ≤ x) (h1 : x ≤ 9) : tinGood x = true := by simp [tinGood]; omega
theorem tinGood_no {x : Int} (h : x < 1 ∨ 9 < x) : tinGood x = false := by simp [tinGood]; omega
theorem tinGood_out {x : Int} (h : tinGood x = true) : 1 ≤ x ∧ x ≤ 9 := by simpa [tinGood] using h
theorem tinGood_out' {x : Int} (h : tinGood x = false) : x < 1 ∨ 9 < x := by
  have h1 : ¬ (1 ≤ x ∧ x ≤ 9) := by
    unfold tinGood at h
    exact of_decide_eq_false h
  omega
def goodL (X : List Int) : Bool := decide (X.length ≤ 40) && X.all tinGood
theorem goodL_len {X : List Int} (h : goodL X = true) : X.length ≤ 40 := by simp [goodL] at h; exact h.1
theorem goodL_all {X : List Int} (h : goodL X = true) : ∀ x ∈ X, 1 ≤ x ∧ x ≤ 9 := by
  simp only [goodL, Bool.and_eq_true, List.all_eq_true] at h
  exact fun x hx => tinGood_out (h.2 x hx)
theorem goodL_big {X : List Int} (h : 40 < X.length) : goodL X = false := by simp [goodL]; omega
theorem goodL_bad {X : List Int} {k : Nat} {x : Int} (hx : X[k]? = some x) (h : x < 1 ∨ 9 < x) : goodL X = false := by
  cases hg : goodL X
  · rfl
  · have := goodL_all hg x (List.mem_of_getElem? hx)
    omega
theorem goodL_yes {X : List Int} (hl : X.length ≤ 40) (h : X.take X.length |>.all tinGood) : goodL X = true := by
  rw [List.take_length] at h
  simp [goodL, hl, h]
theorem all_take_succ {X : List Int} {k : Nat} {x : Int} (hx : X[k]? = some x) (h : (X.take k).all tinGood = true) (hg : tinGood x = true) : (X.take (k + 1)).all tinGood = true := by
  rw [List.take_add_one, hx]; simp only [List.all_append, h, Bool.true_and]; simp [hg]
theorem take_succ' {X : List Int} {k : Nat} {x : Int} (hx : X[k]? = some x) : X.take (k + 1) = X.take k ++ [x] := by rw [List.take_add_one, hx]; rfl

/-- The base tinctures. -/
def baseL (x : Int) : List Int := if x = 8 then [2, 5] else if x = 9 then [2, 4] else [x]
/-- Of the first k tinctures those that do not clash with x. -/
def agL (x : Int) (k : Nat) : List Int := ((List.range k).map fun i : Nat => ((i : Int) + 1)).filter fun y => !clashB x y
theorem agL_len (x : Int) (k : Nat) : (agL x k).length ≤ k := by
  unfold agL; exact Nat.le_trans (List.length_filter_le _ _) (by simp)
theorem agL_in {x : Int} {k : Nat} (h : clashB x ((k : Int) + 1) = false) : agL x (k + 1) = agL x k ++ [(k : Int) + 1] := by
  unfold agL; rw [List.range_succ, List.map_append, List.filter_append]; simp [h]
theorem agL_out {x : Int} {k : Nat} (h : clashB x ((k : Int) + 1) = true) : agL x (k + 1) = agL x k := by
  unfold agL; rw [List.range_succ, List.map_append, List.filter_append]; simp [h]

/-- How often each of the tinctures 1 to 9 occurs. -/
def cntL (X : List Int) : List Int := (List.range 9).map fun i : Nat => ((X.count ((i : Int) + 1) : Nat) : Int)
theorem cntL_len (X : List Int) : (cntL X).length = 9 := by simp [cntL]
theorem cntL_nil : cntL [] = List.replicate 9 0 := by decide
theorem cntL_at (X : List Int) {j : Nat} (hj : j < 9) : (cntL X)[j]? = some ((X.count ((j : Int) + 1) : Nat) : Int) := by simp [cntL, hj]
theorem cntL_snoc (X : List Int) {j : Nat} (_hj : j < 9) : (cntL X).set j ((X.count ((j : Int) + 1) : Nat) + 1 : Int) = cntL (X ++ [(j : Int) + 1]) := by
  apply List.ext_getElem?
  intro i
  rw [List.getElem?_set]
  by_cases hi : i < 9
  · rw [cntL_at _ hi, cntL_at _ hi, cntL_len]
    by_cases e : j = i
    · subst e
      simp [hi, List.count_append]
    · have h1 : ¬ ((j : Int) = (i : Int)) := by omega
      simp [e, h1, List.count_append]
  · have h1 : (cntL X)[i]? = none := List.getElem?_eq_none (by rw [cntL_len]; omega)
    have h2 : (cntL (X ++ [(j : Int) + 1]))[i]? = none := List.getElem?_eq_none (by rw [cntL_len]; omega)
    rw [h1, h2]
    split
    · omega
    · rfl

/-- The different ones in the order of their first occurrences. -/
def firstL (X : List Int) : List Int := X.foldl (fun acc x => if acc.contains x then acc else acc ++ [x]) []
theorem firstL_snoc (X : List Int) (x : Int) : firstL (X ++ [x]) = if (firstL X).contains x then firstL X else firstL X ++ [x] := by
  unfold firstL; rw [List.foldl_append]; rfl
theorem firstL_old {X : List Int} {x : Int} (h : (firstL X).contains x = true) : firstL (X ++ [x]) = firstL X := by rw [firstL_snoc, h]; rfl
theorem firstL_new {X : List Int} {x : Int} (h : (firstL X).contains x = false) : firstL (X ++ [x]) = firstL X ++ [x] := by rw [firstL_snoc, h]; rfl
theorem firstL_len (X : List Int) : (firstL X).length ≤ X.length := by
  unfold firstL
  suffices h : ∀ (l acc : List Int), (l.foldl (fun acc x => if acc.contains x then acc else acc ++ [x]) acc).length ≤ acc.length + l.length by simpa using h X []
  intro l
  induction l with
  | nil => intro acc; simp
  | cons a l ih =>
    intro acc
    simp only [List.foldl_cons, List.length_cons]
    refine Nat.le_trans (ih _) ?_
    split
    · omega
    · simp; omega
end Go.Proofs.YthapidnjioindaaDoor
namespace Go.Proofs.YthapidnjioindaaDoor
open Go.RowKit

/-- The answer: this list in memory of the call's own, and this boolean. -/
def Ans (w : World) (X : List Int) (ok : Bool) (e : Ending) (w' : World) : Prop :=
  ∃ a cap, e = .returned (.tuple #[.slice a X.length cap, .bool ok]) ∧ OwnI w' w.heap.size a X.length cap X ∧ Below w.heap.size w w'
def AnsL (w : World) (X : List Int) (e : Ending) (w' : World) : Prop :=
  ∃ a cap, e = .returned (.slice a X.length cap) ∧ OwnI w' w.heap.size a X.length cap X ∧ Below w.heap.size w w'
theorem ownI_lit (w : World) (B : Nat) (hB : B ≤ w.heap.size) (X : List Int) (hX : X.length ≤ 1000) : OwnI (w.alloc (.cells (X.map (Value.int .i64)).toArray 3 (0, 0))) B (some ⟨w.heap.size, 0, none⟩) X.length X.length X := by
  unfold OwnI
  have := World.ownsRow_lit (e := 3) (size := 1) w (X.map (Value.int .i64)).toArray X.length hB (by unfold maxLen; omega) (by simp)
  simpa using this
theorem ans_nil (w : World) (ok : Bool) : Ans w [] ok (.returned (.tuple #[.slice none 0 0, .bool ok])) w := ⟨none, 0, rfl, ownI_nil _ _, Below.refl _ _⟩
theorem ans_lit (w : World) (ok : Bool) (X : List Int) (hX : X.length ≤ 1000) : Ans w X ok (.returned (.tuple #[.slice (some ⟨w.heap.size, 0, none⟩) X.length X.length, .bool ok])) (w.alloc (.cells (X.map (Value.int .i64)).toArray 3 (0, 0))) :=
  ⟨_, _, rfl, ownI_lit w _ (Nat.le_refl _) X hX, (Below.refl _ _).alloc (Nat.le_refl _) _⟩
theorem ansL_lit (w : World) (X : List Int) (hX : X.length ≤ 1000) : AnsL w X (.returned (.slice (some ⟨w.heap.size, 0, none⟩) X.length X.length)) (w.alloc (.cells (X.map (Value.int .i64)).toArray 3 (0, 0))) :=
  ⟨_, _, rfl, ownI_lit w _ (Nat.le_refl _) X hX, (Below.refl _ _).alloc (Nat.le_refl _) _⟩
theorem base_8 {x : Int} (h : x = 8) : baseL x = [2, 5] := by simp [baseL, h]
theorem base_9 {x : Int} (h : x = 9) : baseL x = [2, 4] := by simp [baseL, h]
theorem base_x {x : Int} (h : x ≠ 8) (h9 : x ≠ 9) : baseL x = [x] := by simp [baseL, h, h9]
theorem base_len (x : Int) : (baseL x).length ≤ 2 := by unfold baseL; split; simp; split <;> simp

end Go.Proofs.YthapidnjioindaaDoor
namespace Go.Proofs.YthapidnjioindaaDoor
open Go.RowKit

theorem ret_bool {a b : Bool} (h : a = b) : Ending.returned (.bool a) = .returned (.bool b) := by rw [h]

theorem has_hit {X : List Int} {k : Nat} {x : Int} (hx : X[k]? = some x) : X.contains x = true := by
  rw [List.contains_iff_mem]; exact List.mem_of_getElem? hx
theorem has_step {X : List Int} {k : Nat} {y x : Int} (hx : X[k]? = some y) (h : (X.take k).contains x = false) (hne : y ≠ x) : (X.take (k + 1)).contains x = false := by
  rw [take_succ' hx]
  have h1 : x ∉ X.take k := by simpa using h
  simp only [List.contains_eq_mem, List.mem_append, List.mem_singleton, decide_eq_false_iff_not]
  rintro (h2 | h2)
  · exact h1 h2
  · exact hne h2.symm



end Go.Proofs.YthapidnjioindaaDoor
