/- Several small texts in one: Base, Tin, TMath, IntRows, Bases, Lists. -/
import Derived.WalkKit
import Derived.Below
import Derived.Lib.Hide
import Derived.Deep.QuietTactic
import Derived.Test.YtmmbhglmafnfpabDoorProg
import Derived.WalkLawsBesides
import Derived.IntWalk
import Derived.BigQuiet
import Derived.OwnWalk
import Derived.Laws.OwnMore
import Derived.Maps.AppendAt
import Derived.Deep.RegionWith
import Derived.Deep.LoopGhost
namespace Go.Proofs.YtmmbhglmafnfpabDoor
open Go.RowKit

/-- A string out of its bytes. -/
def strOf (l : List UInt8) : ByteArray := ⟨l.toArray⟩
theorem size_strOf (l : List UInt8) : (strOf l).size = l.length := rfl
theorem strOf_append (a b : List UInt8) : strOf a ++ strOf b = strOf (a ++ b) := ByteArray.mk_append_mk a b
theorem strOf_data (s : ByteArray) : strOf s.data.toList = s := rfl
theorem data_strOf (l : List UInt8) : (strOf l).data.toList = l := rfl
theorem strOf_inj {a b : List UInt8} (h : strOf a = strOf b) : a = b := by
  have := congrArg (fun s : ByteArray => s.data.toList) h
  exact this
theorem ret_str {a b : ByteArray} (h : a = b) : Ending.returned (.string a) = .returned (.string b) := by rw [h]
theorem ret_int {k : IntKind} {a b : Int} (h : a = b) : Ending.returned (.int k a) = .returned (.int k b) := by rw [h]
theorem str_eq {a b : ByteArray} (h : a = b) : (a.toList == b.toList) = true := by rw [h]; simp
theorem str_ne {a b : ByteArray} (h : a ≠ b) : (a.toList == b.toList) = false := by
  rw [ByteArray.toList_eq, ByteArray.toList_eq, beq_eq_false_iff_ne]
  intro e
  exact h (ByteArray.ext (Array.toList_inj.1 e))
theorem below_drewN' {B : Nat} {a w : World} (h : Below B a w) (n : Nat) : Below B a (w.drewN n) := ⟨h.os, h.tape, h.output, h.size, h.block⟩
theorem take_snoc (s : ByteArray) (k : Nat) (h : k < s.size) : s.data.toList.take (k + 1) = s.data.toList.take k ++ [s[k]] := by
  rw [List.take_succ_eq_append_getElem (by simpa using h)]; rfl
theorem take_all (s : ByteArray) (k : Nat) (h : s.size ≤ k) : s.data.toList.take k = s.data.toList := List.take_of_length_le (by simp; omega)
theorem drop_cons (s : ByteArray) (k : Nat) (h : k < s.size) : s.data.toList.drop k = s[k] :: s.data.toList.drop (k + 1) := by
  rw [List.drop_eq_getElem_cons (by simpa using h)]; rfl
theorem drop_all (s : ByteArray) (k : Nat) (h : s.size ≤ k) : s.data.toList.drop k = [] := List.drop_eq_nil_of_le (by simp; omega)
end Go.Proofs.YtmmbhglmafnfpabDoor
namespace Go.Proofs.YtmmbhglmafnfpabDoor
open Go.RowKit

/-- The class of a tincture. -/
def cls (x : Int) : Int := if x ≤ 2 then 1 else if x ≤ 7 then 2 else 3
def clashB (a b : Int) : Bool := decide (a = b ∨ (cls a = cls b ∧ cls a ≠ 3))
theorem nine {x : Int} (h0 : 1 ≤ x) (h1 : x ≤ 9) : x = 1 ∨ x = 2 ∨ x = 3 ∨ x = 4 ∨ x = 5 ∨ x = 6 ∨ x = 7 ∨ x = 8 ∨ x = 9 := by omega

theorem isT_yes (x : Int) (w : World) (h0 : 1 ≤ x) (h1 : x ≤ 9) :
    Calls Tryd.prog 68 #[.int .i64 x] w fun e w' => e = .returned (.bool true) ∧ w = w' := by
  go_enter Tryd.func68, Tryd.ntmps68
  go_wp2
  go_ret
  exact ⟨rfl, rfl⟩
theorem isT_no (x : Int) (w : World) (h : x < 1 ∨ 9 < x) :
    Calls Tryd.prog 68 #[.int .i64 x] w fun e w' => e = .returned (.bool false) ∧ w = w' := by
  rcases h with h | h
  · have e1 : decide (1 ≤ x) = false := by simp; omega
    go_enter Tryd.func68, Tryd.ntmps68
    go_wp2
    go_ret
    exact ⟨rfl, rfl⟩
  · have e0 : decide (1 ≤ x) = true := by simp; omega
    have e1 : decide (x ≤ 9) = false := by simp; omega
    go_enter Tryd.func68, Tryd.ntmps68
    go_wp2
    go_ret
    exact ⟨rfl, rfl⟩

theorem l1In_yes (x a b : Int) (w : World) (h0 : a ≤ x) (h1 : x ≤ b) :
    Calls Tryd.prog 40 #[.int .i64 x, .int .i64 a, .int .i64 b] w fun e w' => e = .returned (.bool true) ∧ w = w' := by
  go_enter Tryd.func40, Tryd.ntmps40
  go_wp2
  go_ret
  exact ⟨rfl, rfl⟩
theorem l1In_no (x a b : Int) (w : World) (h : x < a ∨ b < x) :
    Calls Tryd.prog 40 #[.int .i64 x, .int .i64 a, .int .i64 b] w fun e w' => e = .returned (.bool false) ∧ w = w' := by
  by_cases hh : x < a
  · have e1 : decide (a ≤ x) = false := by simp; omega
    clear h
    go_enter Tryd.func40, Tryd.ntmps40
    go_wp2
    go_ret
    exact ⟨rfl, rfl⟩
  · have e0 : decide (a ≤ x) = true := by simp; omega
    have e1 : decide (x ≤ b) = false := by simp; omega
    clear h
    go_enter Tryd.func40, Tryd.ntmps40
    go_wp2
    go_ret
    exact ⟨rfl, rfl⟩
theorem l2Good_yes (x : Int) (w : World) (h0 : 1 ≤ x) (h1 : x ≤ 9) :
    Calls Tryd.prog 78 #[.int .i64 x] w fun e w' => e = .returned (.bool true) ∧ w = w' := by
  have c := l1In_yes x 1 9 w h0 h1
  go_enter Tryd.func78, Tryd.ntmps78
  go_wp2_with fail
  refine c.mono ?_
  rintro e w' ⟨rfl, rfl⟩
  go_wp2_with fail
  go_ret
  exact ⟨rfl, rfl⟩
theorem l2Good_no (x : Int) (w : World) (h : x < 1 ∨ 9 < x) :
    Calls Tryd.prog 78 #[.int .i64 x] w fun e w' => e = .returned (.bool false) ∧ w = w' := by
  have c := l1In_no x 1 9 w h
  clear h
  go_enter Tryd.func78, Tryd.ntmps78
  go_wp2_with fail
  refine c.mono ?_
  rintro e w' ⟨rfl, rfl⟩
  go_wp2_with fail
  go_ret
  exact ⟨rfl, rfl⟩

theorem l2Class_any (x : Int) (w : World) :
    Calls Tryd.prog 80 #[.int .i64 x] w fun e w' => e = .returned (.int .i64 (cls x)) ∧ w = w' := by
  by_cases h1 : x ≤ 2
  · have hc := Lib.hid (show cls x = 1 by simp [cls, h1])
    go_enter Tryd.func80, Tryd.ntmps80
    go_wp2
    go_ret
    exact ⟨ret_int hc.out.symm, rfl⟩
  · by_cases h2 : x ≤ 7
    · have hc := Lib.hid (show cls x = 2 by simp [cls, h1, h2])
      go_enter Tryd.func80, Tryd.ntmps80
      go_wp2
      go_ret
      exact ⟨ret_int hc.out.symm, rfl⟩
    · have hc := Lib.hid (show cls x = 3 by simp [cls, h1, h2])
      go_enter Tryd.func80, Tryd.ntmps80
      go_wp2
      go_ret
      exact ⟨ret_int hc.out.symm, rfl⟩
set_option maxHeartbeats 1000000 in
theorem classOf_yes (x : Int) (w : World) (h0 : 1 ≤ x) (h1 : x ≤ 9) :
    Calls Tryd.prog 85 #[.int .i64 x] w fun e w' => e = .returned (.tuple #[.int .i64 (cls x), .bool true]) ∧ w = w' := by
  rcases nine h0 h1 with rfl | rfl | rfl | rfl | rfl | rfl | rfl | rfl | rfl
  all_goals
    clear h0 h1
    go_enter Tryd.func85, Tryd.ntmps85
    go_wp2
    go_ret2
    exact ⟨rfl, rfl⟩
theorem classOf_no (x : Int) (w : World) (h : x < 1 ∨ 9 < x) :
    Calls Tryd.prog 85 #[.int .i64 x] w fun e w' => e = .returned (.tuple #[.int .i64 0, .bool false]) ∧ w = w' := by
  have e1 : (x == 1) = false := by rw [beq_eq_false_iff_ne]; omega
  have e2 : (x == 2) = false := by rw [beq_eq_false_iff_ne]; omega
  have e3 : (x == 3) = false := by rw [beq_eq_false_iff_ne]; omega
  have e4 : (x == 4) = false := by rw [beq_eq_false_iff_ne]; omega
  have e5 : (x == 5) = false := by rw [beq_eq_false_iff_ne]; omega
  have e6 : (x == 6) = false := by rw [beq_eq_false_iff_ne]; omega
  have e7 : (x == 7) = false := by rw [beq_eq_false_iff_ne]; omega
  have e8 : (x == 8) = false := by rw [beq_eq_false_iff_ne]; omega
  have e9 : (x == 9) = false := by rw [beq_eq_false_iff_ne]; omega
  clear h
  go_enter Tryd.func85, Tryd.ntmps85
  go_wp2
  go_ret2
  exact ⟨rfl, rfl⟩
end Go.Proofs.YtmmbhglmafnfpabDoor
namespace Go.Proofs.YtmmbhglmafnfpabDoor

def tinGood (x : Int) : Bool := decide (1 ≤ x ∧ x ≤ 9)
theorem tinGood_yes {x : Int} (h0 : 1 ≤ x) (h1 : x ≤ 9) : tinGood x = true := by simp [tinGood]; omega
theorem tinGood_no {x : Int} (h : x < 1 ∨ 9 < x) : tinGood x = false := by simp [tinGood]; omega
theorem tinGood_out {x : Int} (h : tinGood x = true) : 1 ≤ x ∧ x ≤ 9 := by simpa [tinGood] using h
theorem tinGood_out' {x : Int} (h : tinGood x = false) : x < 1 ∨ 9 < x := by
  have h1 : ¬ (1 ≤ x ∧ x ≤ 9) := by
    unfold tinGood at h
    exact of_decide_eq_false h
  omega
def goodL (X : List Int) : Bool := decide (X.length ≤ 40) && X.all tinGood
theorem goodL_len {X : List Int} (h : goodL X = true) : X.length ≤ 40 := by simp [goodL] at h; exact h.1
theorem goodL_all {X : List Int} (h : goodL X = true) : ∀ x ∈ X, 1 ≤ x ∧ x ≤ 9 := by
  simp only [goodL, Bool.and_eq_true, List.all_eq_true] at h
  exact fun x hx => tinGood_out (h.2 x hx)
theorem goodL_big {X : List Int} (h : 40 < X.length) : goodL X = false := by simp [goodL]; omega
theorem goodL_bad {X : List Int} {k : Nat} {x : Int} (hx : X[k]? = some x) (h : x < 1 ∨ 9 < x) : goodL X = false := by
  cases hg : goodL X
  · rfl
  · have := goodL_all hg x (List.mem_of_getElem? hx)
    omega
theorem goodL_yes {X : List Int} (hl : X.length ≤ 40) (h : X.take X.length |>.all tinGood) : goodL X = true := by
  rw [List.take_length] at h
  simp [goodL, hl, h]
theorem all_take_succ {X : List Int} {k : Nat} {x : Int} (hx : X[k]? = some x) (h : (X.take k).all tinGood = true) (hg : tinGood x = true) : (X.take (k + 1)).all tinGood = true := by
  rw [List.take_add_one, hx]; simp only [List.all_append, h, Bool.true_and]; simp [hg]
theorem take_succ' {X : List Int} {k : Nat} {x : Int} (hx : X[k]? = some x) : X.take (k + 1) = X.take k ++ [x] := by rw [List.take_add_one, hx]; rfl

/-- The base tinctures. -/
def baseL (x : Int) : List Int := if x = 8 then [2, 5] else if x = 9 then [2, 4] else [x]
/-- Of the first k tinctures those that do not clash with x. -/
def agL (x : Int) (k : Nat) : List Int := ((List.range k).map fun i : Nat => ((i : Int) + 1)).filter fun y => !clashB x y
theorem agL_len (x : Int) (k : Nat) : (agL x k).length ≤ k := by
  unfold agL; exact Nat.le_trans (List.length_filter_le _ _) (by simp)
theorem agL_in {x : Int} {k : Nat} (h : clashB x ((k : Int) + 1) = false) : agL x (k + 1) = agL x k ++ [(k : Int) + 1] := by
  unfold agL; rw [List.range_succ, List.map_append, List.filter_append]; simp [h]
theorem agL_out {x : Int} {k : Nat} (h : clashB x ((k : Int) + 1) = true) : agL x (k + 1) = agL x k := by
  unfold agL; rw [List.range_succ, List.map_append, List.filter_append]; simp [h]

/-- How often each of the tinctures 1 to 9 occurs. -/
def cntL (X : List Int) : List Int := (List.range 9).map fun i : Nat => ((X.count ((i : Int) + 1) : Nat) : Int)
theorem cntL_len (X : List Int) : (cntL X).length = 9 := by simp [cntL]
theorem cntL_nil : cntL [] = List.replicate 9 0 := by decide
theorem cntL_at (X : List Int) {j : Nat} (hj : j < 9) : (cntL X)[j]? = some ((X.count ((j : Int) + 1) : Nat) : Int) := by simp [cntL, hj]
theorem cntL_snoc (X : List Int) {j : Nat} (_hj : j < 9) : (cntL X).set j ((X.count ((j : Int) + 1) : Nat) + 1 : Int) = cntL (X ++ [(j : Int) + 1]) := by
  apply List.ext_getElem?
  intro i
  rw [List.getElem?_set]
  by_cases hi : i < 9
  · rw [cntL_at _ hi, cntL_at _ hi, cntL_len]
    by_cases e : j = i
    · subst e
      simp [hi, List.count_append]
    · have h1 : ¬ ((j : Int) = (i : Int)) := by omega
      simp [e, h1, List.count_append]
  · have h1 : (cntL X)[i]? = none := List.getElem?_eq_none (by rw [cntL_len]; omega)
    have h2 : (cntL (X ++ [(j : Int) + 1]))[i]? = none := List.getElem?_eq_none (by rw [cntL_len]; omega)
    rw [h1, h2]
    split
    · omega
    · rfl

/-- The different ones in the order of their first occurrences. -/
def firstL (X : List Int) : List Int := X.foldl (fun acc x => if acc.contains x then acc else acc ++ [x]) []
theorem firstL_snoc (X : List Int) (x : Int) : firstL (X ++ [x]) = if (firstL X).contains x then firstL X else firstL X ++ [x] := by
  unfold firstL; rw [List.foldl_append]; rfl
theorem firstL_old {X : List Int} {x : Int} (h : (firstL X).contains x = true) : firstL (X ++ [x]) = firstL X := by rw [firstL_snoc, h]; rfl
theorem firstL_new {X : List Int} {x : Int} (h : (firstL X).contains x = false) : firstL (X ++ [x]) = firstL X ++ [x] := by rw [firstL_snoc, h]; rfl
theorem firstL_len (X : List Int) : (firstL X).length ≤ X.length := by
  unfold firstL
  suffices h : ∀ (l acc : List Int), (l.foldl (fun acc x => if acc.contains x then acc else acc ++ [x]) acc).length ≤ acc.length + l.length by simpa using h X []
  intro l
  induction l with
  | nil => intro acc; simp
  | cons a l ih =>
    intro acc
    simp only [List.foldl_cons, List.length_cons]
    refine Nat.le_trans (ih _) ?_
    split
    · omega
    · simp; omega
end Go.Proofs.YtmmbhglmafnfpabDoor
namespace Go.Proofs.YtmmbhglmafnfpabDoor
open Go.RowKit

theorem infoI : (Tryd.prog.info? 3).map (fun i => (i.zero, i.size, i.bytes)) = some (some (.int .i64 0), 1, 8) := by kernel_rfl
theorem cellI_lt {w : World} {b o : Nat} {v : Value} (h : w.cell? ⟨b, o, none⟩ = some v) : b < w.heap.size := by
  rcases Nat.lt_or_ge b w.heap.size with h1 | h1
  · exact h1
  · unfold World.cell? at h
    rw [Array.getElem?_eq_none h1] at h
    simp at h
/-- The slice of address a and length n reads as these numbers; its cells are old ones. -/
def RdI (w : World) (a : Option Addr) (n : Nat) (X : List Int) : Prop :=
  X.length = n ∧ (0 < n → ∃ b o, a = some ⟨b, o, none⟩ ∧ b < w.heap.size ∧ ∀ k, k < n → w.cell? ⟨b, o + k, none⟩ = some (.int .i64 (X.getD k 0)))
theorem RdI.below {w w' : World} {a : Option Addr} {n : Nat} {X : List Int} (h : RdI w a n X) (hb : Below w.heap.size w w') : RdI w' a n X :=
  ⟨h.1, fun hn => by
    obtain ⟨b, o, e, hlt, hc⟩ := h.2 hn
    exact ⟨b, o, e, Nat.lt_of_lt_of_le hlt hb.size, fun k hk => (hb.cell (p := ⟨b, o + k, none⟩) hlt).trans (hc k hk)⟩⟩
theorem RdI.drewN {w : World} {a : Option Addr} {n : Nat} {X : List Int} (h : RdI w a n X) (m : Nat) : RdI (w.drewN m) a n X := h
/-- The slice owns a row from block B on that holds these numbers (or is nil and holds none). -/
def OwnI (w : World) (B : Nat) (a : Option Addr) (n cap : Nat) (X : List Int) : Prop := w.ownsRow B 3 1 (.slice a n cap) n (X.map (Value.int .i64))
theorem OwnI.len {w : World} {B n cap : Nat} {a : Option Addr} {X : List Int} (h : OwnI w B a n cap X) : X.length = n := by have := h.1; simpa using this
theorem OwnI.kept {w w' : World} {B n cap : Nat} {a : Option Addr} {X : List Int} {row : Option Nat} (h : OwnI w B a n cap X) (hg : w.grownBy w' row) (hne : (Value.slice a n cap).ownBlock = none ∨ (Value.slice a n cap).ownBlock ≠ row) : OwnI w' B a n cap X := World.ownsRow.kept h hg hne
theorem OwnI.below {w w' : World} {B n cap : Nat} {a : Option Addr} {X : List Int} (h : OwnI w B a n cap X) (hb : Below w.heap.size w w') : OwnI w' B a n cap X :=
  World.ownsRow.kept (row := none) h ⟨hb.os, hb.tape, hb.output, hb.size, fun i hi _ => hb.block i hi⟩ (by cases h : (Value.slice a n cap).ownBlock <;> simp)
theorem OwnI.shape {w : World} {B n cap : Nat} {a : Option Addr} {X : List Int} (h : OwnI w B a n cap X) : (a = none ∧ n = 0 ∧ cap = 0 ∧ X = []) ∨ ∃ g, a = some ⟨g, 0, none⟩ ∧ B ≤ g ∧ g < w.heap.size := by
  have hl := h.len
  have hlt := World.ownsRow.lt h
  rcases h.2 with ⟨h1, h2⟩ | ⟨g, cp, cur, h1, h2, h3, _⟩
  · cases h1
    exact .inl ⟨rfl, rfl, rfl, List.eq_nil_of_length_eq_zero (by omega)⟩
  · cases h1
    exact .inr ⟨g, rfl, hlt g rfl⟩
theorem OwnI.rd {w : World} {B n cap : Nat} {a : Option Addr} {X : List Int} (h : OwnI w B a n cap X) : RdI w a n X := by
  have hl := h.len
  refine ⟨hl, fun hn => ?_⟩
  rcases h.shape with ⟨_, h0, _⟩ | ⟨g, rfl, hB, hg⟩
  · omega
  · refine ⟨g, 0, rfl, hg, fun k hk => ?_⟩
    rw [Nat.zero_add, World.ownsRow.cellAt h k (by omega)]
    simp [List.getD, hl, hk]
theorem OwnI.low {w : World} {B B' n cap : Nat} {a : Option Addr} {X : List Int} (h : OwnI w B a n cap X) (hB : B' ≤ B) : OwnI w B' a n cap X := by
  refine ⟨h.1, ?_⟩
  rcases h.2 with h1 | ⟨g, cp, cur, h1, h2, h3⟩
  · exact .inl h1
  · exact .inr ⟨g, cp, cur, h1, Nat.le_trans hB h2, h3⟩
theorem grownI_of_below {w w' : World} (hb : Below w.heap.size w w') (row : Option Nat) : w.grownBy w' row := ⟨hb.os, hb.tape, hb.output, hb.size, fun i hi _ => hb.block i hi⟩
theorem rdI_at {w : World} {b o n k : Nat} {X : List Int} {x : Int} (hc : ∀ k, k < n → w.cell? ⟨b, o + k, none⟩ = some (.int .i64 (X.getD k 0))) (hk : k < n) (hx : X[k]? = some x) :
    w.cell? ⟨b, o + k, none⟩ = some (.int .i64 x) := by rw [hc k hk]; simp [List.getD, hx]
theorem atI_of_lt {X : List Int} {k n : Nat} (hX : X.length = n) (hk : k < n) : ∃ x, X[k]? = some x ∧ x ∈ X :=
  ⟨X[k]'(by omega), List.getElem?_eq_getElem (by omega), List.getElem_mem _⟩




end Go.Proofs.YtmmbhglmafnfpabDoor
namespace Go.Proofs.YtmmbhglmafnfpabDoor
open Go.RowKit

/-- The answer: this list in memory of the call's own, and this boolean. -/
def Ans (w : World) (X : List Int) (ok : Bool) (e : Ending) (w' : World) : Prop :=
  ∃ a cap, e = .returned (.tuple #[.slice a X.length cap, .bool ok]) ∧ OwnI w' w.heap.size a X.length cap X ∧ Below w.heap.size w w'
def AnsL (w : World) (X : List Int) (e : Ending) (w' : World) : Prop :=
  ∃ a cap, e = .returned (.slice a X.length cap) ∧ OwnI w' w.heap.size a X.length cap X ∧ Below w.heap.size w w'
theorem ownI_lit (w : World) (B : Nat) (hB : B ≤ w.heap.size) (X : List Int) (hX : X.length ≤ 1000) : OwnI (w.alloc (.cells (X.map (Value.int .i64)).toArray 3 (0, 0))) B (some ⟨w.heap.size, 0, none⟩) X.length X.length X := by
  unfold OwnI
  have := World.ownsRow_lit (e := 3) (size := 1) w (X.map (Value.int .i64)).toArray X.length hB (by unfold maxLen; omega) (by simp)
  simpa using this
theorem ownI_nil (w : World) (B : Nat) : OwnI w B none 0 0 [] := World.ownsRow_nil _ _ _ _
theorem ans_nil (w : World) (ok : Bool) : Ans w [] ok (.returned (.tuple #[.slice none 0 0, .bool ok])) w := ⟨none, 0, rfl, ownI_nil _ _, Below.refl _ _⟩
theorem ans_lit (w : World) (ok : Bool) (X : List Int) (hX : X.length ≤ 1000) : Ans w X ok (.returned (.tuple #[.slice (some ⟨w.heap.size, 0, none⟩) X.length X.length, .bool ok])) (w.alloc (.cells (X.map (Value.int .i64)).toArray 3 (0, 0))) :=
  ⟨_, _, rfl, ownI_lit w _ (Nat.le_refl _) X hX, (Below.refl _ _).alloc (Nat.le_refl _) _⟩
theorem ansL_lit (w : World) (X : List Int) (hX : X.length ≤ 1000) : AnsL w X (.returned (.slice (some ⟨w.heap.size, 0, none⟩) X.length X.length)) (w.alloc (.cells (X.map (Value.int .i64)).toArray 3 (0, 0))) :=
  ⟨_, _, rfl, ownI_lit w _ (Nat.le_refl _) X hX, (Below.refl _ _).alloc (Nat.le_refl _) _⟩
theorem base_8 {x : Int} (h : x = 8) : baseL x = [2, 5] := by simp [baseL, h]
theorem base_9 {x : Int} (h : x = 9) : baseL x = [2, 4] := by simp [baseL, h]
theorem base_x {x : Int} (h : x ≠ 8) (h9 : x ≠ 9) : baseL x = [x] := by simp [baseL, h, h9]
theorem base_len (x : Int) : (baseL x).length ≤ 2 := by unfold baseL; split; simp; split <;> simp

end Go.Proofs.YtmmbhglmafnfpabDoor
namespace Go.Proofs.YtmmbhglmafnfpabDoor
open Go.RowKit

theorem OwnI.drewN {w : World} {B n cap : Nat} {a : Option Addr} {X : List Int} (h : OwnI w B a n cap X) (m : Nat) : OwnI (w.drewN m) B a n cap X := h
theorem ret_bool {a b : Bool} (h : a = b) : Ending.returned (.bool a) = .returned (.bool b) := by rw [h]

theorem has_hit {X : List Int} {k : Nat} {x : Int} (hx : X[k]? = some x) : X.contains x = true := by
  rw [List.contains_iff_mem]; exact List.mem_of_getElem? hx
theorem has_step {X : List Int} {k : Nat} {y x : Int} (hx : X[k]? = some y) (h : (X.take k).contains x = false) (hne : y ≠ x) : (X.take (k + 1)).contains x = false := by
  rw [take_succ' hx]
  have h1 : x ∉ X.take k := by simpa using h
  simp only [List.contains_eq_mem, List.mem_append, List.mem_singleton, decide_eq_false_iff_not]
  rintro (h2 | h2)
  · exact h1 h2
  · exact hne h2.symm



end Go.Proofs.YtmmbhglmafnfpabDoor
