/- Contracts: CountTinctures of the program and of the model. -/
import Derived.Test.YtflfdngcgebmmaaLists
import Derived.Test.YtflfdngcgebmmaaBases
namespace Go.Proofs.Ytflfdngcgebmmaa
open Go.RowKit

theorem ans_of {w w' : World} {X : List Int} {N cap : Nat} {a : Option Addr} {ok : Bool} (hN : X.length = N) (h : OwnI w' w.heap.size a N cap X) (hb : Below w.heap.size w w') : Ans w X ok (.returned (.tuple #[.slice a N cap, .bool ok])) w' := by
  subst hN; exact ⟨a, cap, rfl, h, hb⟩
theorem zeros_nine {w w1 : World} {X : List Int} (h : w1.ownsRow w.heap.size 3 1 (.slice (some ⟨w.heap.size, 0, none⟩) 9 9) 9 (madeCells (Value.int .i64 0).cells (9 * 1)).toList) : w1.ownsRow w.heap.size 3 1 (.slice (some ⟨w.heap.size, 0, none⟩) 9 9) 9 ((cntL (X.take 0)).map (Value.int .i64)) := by
  rw [List.take_zero, cntL_nil, List.map_replicate, ← toList_madeCells_one]
  exact h
theorem cnt_cell (X : List Int) {j : Nat} (hj : j < 9) : ((cntL X).map (Value.int .i64))[j]? = some (.int .i64 ((X.count ((j : Int) + 1) : Nat) : Int)) := by rw [List.getElem?_map, cntL_at X hj]; rfl
theorem cnt_set {X : List Int} {k j : Nat} (hj : j < 9) (hx : X[k]? = some ((j : Int) + 1)) : ((cntL (X.take k)).map (Value.int .i64)).set j (.int .i64 ((((X.take k).count ((j : Int) + 1) : Nat) : Int) + 1)) = (cntL (X.take (k + 1))).map (Value.int .i64) := by
  rw [take_succ' hx, ← cntL_snoc _ hj, List.map_set]
theorem count_le {X : List Int} {n k : Nat} (h : X.length = n) (x : Int) : (X.take k).count x ≤ n := by
  have h1 := List.count_le_length (a := x) (l := X.take k)
  have h2 := List.length_take_le k X
  simp at h1
  omega

set_option maxHeartbeats 1000000 in
theorem count_impl (X : List Int) (n : Nat) (a : Option Addr) (c : Nat) (w : World) (h : RdI w a n X) (hn : n ≤ 1048577) (hg : goodL X = true) :
    Calls Try.prog 14 #[.slice a n c] w (Ans w (cntL X) true) := by
  have cl := isList_any X n a c w h hn
  rw [hg] at cl
  obtain ⟨i0, hi, hz0, hz1, hz2⟩ := info_parts infoI
  have HL := Lib.hid h.1
  have HG := Lib.hid (goodL_all hg)
  have h40 : n ≤ 40 := by have := goodL_len hg; have := h.1; omega
  rcases Nat.eq_zero_or_pos n with hz | hz
  · have HX := Lib.hid (show X = [] from List.eq_nil_of_length_eq_zero (by have := h.1; omega))
    subst hz
    clear h hg
    go_enter Try.func14, Try.ntmps14
    go_wp2_with fail
    refine cl.mono ?_
    rintro e w' ⟨rfl, rfl⟩
    clear cl
    go_wp2_with (at_make; refine wpList_make_full _ rfl _ _ 24 rfl w.heap.size 3 i0 (.int .i64 0) 1 Try.underlying24 hi hz0 hz1 .i64 .i64 9 9 9 rfl rfl rfl rfl (by rw [hz2]; omega) (by unfold maxLen; omega) (Nat.le_refl _) ?_; intro w1 hown1 hgr1)
    refine wp_loop_rounds 1 ?_
    rw [rounds_succ]
    go_wp2_with fail
    go_ret2
    exact ans_of (cntL_len X) (by rw [HX.out]; exact zeros_nine (X := []) hown1) ((Below.refl _ _).grown hgr1 (Nat.le_refl _) (by simp))
  · obtain ⟨b, o, rfl, hb0, hc⟩ := h.2 hz
    have HC := Lib.hid hc
    clear h hg hc
    go_enter Try.func14, Try.ntmps14
    go_wp2_with fail
    refine cl.mono ?_
    rintro e w' ⟨rfl, rfl⟩
    clear cl
    go_wp2_with (at_make; refine wpList_make_full _ rfl _ _ 24 rfl w.heap.size 3 i0 (.int .i64 0) 1 Try.underlying24 hi hz0 hz1 .i64 .i64 9 9 9 rfl rfl rfl rfl (by rw [hz2]; omega) (by unfold maxLen; omega) (Nat.le_refl _) ?_; intro w1 hown1 hgr1)
    have hz9 := zeros_nine (X := X) hown1
    have hbel : Below w.heap.size w w1 := (Below.refl _ _).grown hgr1 (Nat.le_refl _) (by simp)
    clear hown1 hgr1
    go_loopw [13] (fun i wr => ∃ k : Nat, k ≤ n ∧ i = .int .i64 k ∧ wr.ownsRow w.heap.size 3 1 (.slice (some ⟨w.heap.size, 0, none⟩) 9 9) 9 ((cntL (X.take k)).map (Value.int .i64)) ∧ Below w.heap.size w wr) (fun i _ => n - (intOf i).toNat)
    case atStart => exact ⟨0, by omega, rfl, hz9, hbel⟩
    case round =>
      obtain ⟨k, hk, rfl, ho, hb⟩ := hrel
      clear hz9 hbel
      by_cases hlt : k < n
      · obtain ⟨x, hx, hm⟩ := atI_of_lt HL.out hlt
        have hgx := HG.out x hm
        obtain ⟨j, rfl⟩ : ∃ j : Nat, x = (j : Int) + 1 := ⟨(x - 1).toNat, by omega⟩
        have hj : j < 9 := by omega
        have hcell : wr.cell? ⟨b, o + k, none⟩ = some (.int .i64 ((j : Int) + 1)) := (hb.cell (p := ⟨b, o + k, none⟩) hb0).trans (rdI_at HC.out hlt hx)
        have hq := count_le (k := k) HL.out ((j : Int) + 1)
        have hc1 := (ho.cellAt j (by omega)).trans (cnt_cell (X.take k) hj)
        have HS := Lib.hid (cnt_set hj hx)
        clear hx hm hgx
        generalize (X.take k).count ((j : Int) + 1) = q at hq hc1 HS
        have hf1 := ho.frozenAt j
        have HST := Lib.hid (ho.stored j (.int .i64 ((q : Int) + 1)))
        go_wp2_with fail
        go_roundw
        case rel => exact ⟨k + 1, by omega, by go_num, by rw [← HS.out]; exact HST.out.1, hb.grown HST.out.2 hb.size (fun q hq => by cases hq; omega)⟩
        case measure => simp [intOf]; omega
      · have HT := Lib.hid (show X.take k = X from List.take_of_length_le (by have := HL.out; omega))
        go_wp2_with fail
        go_ret2
        exact ans_of (cntL_len X) (by rw [← HT.out]; exact ho) hb
theorem count_impl_no (X : List Int) (n : Nat) (a : Option Addr) (c : Nat) (w : World) (h : RdI w a n X) (hn : n ≤ 1048577) (hg : goodL X = false) :
    Calls Try.prog 14 #[.slice a n c] w (Ans w [] false) := by
  have cl := isList_any X n a c w h hn
  rw [hg] at cl
  clear h hg
  go_enter Try.func14, Try.ntmps14
  go_wp2_with fail
  refine cl.mono ?_
  rintro e w' ⟨rfl, rfl⟩
  clear cl
  go_wp2_with fail
  go_ret2
  exact ans_nil w false

set_option maxHeartbeats 1000000 in
theorem count_spec (X : List Int) (n : Nat) (a : Option Addr) (c : Nat) (w : World) (h : RdI w a n X) (hn : n ≤ 1048577) (hg : goodL X = true) :
    Calls Try.prog 16 #[.slice a n c] w (Ans w (cntL X) true) := by
  have cl := l2List_any X n a c w h hn
  rw [hg] at cl
  obtain ⟨i0, hi, hz0, hz1, hz2⟩ := info_parts infoI
  have HL := Lib.hid h.1
  have HG := Lib.hid (goodL_all hg)
  have h40 : n ≤ 40 := by have := goodL_len hg; have := h.1; omega
  rcases Nat.eq_zero_or_pos n with hz | hz
  · have HX := Lib.hid (show X = [] from List.eq_nil_of_length_eq_zero (by have := h.1; omega))
    subst hz
    clear h hg
    go_enter Try.func16, Try.ntmps16
    go_wp2_with fail
    refine cl.mono ?_
    rintro e w' ⟨rfl, rfl⟩
    clear cl
    go_wp2_with (at_make; refine wpList_make_full _ rfl _ _ 24 rfl w.heap.size 3 i0 (.int .i64 0) 1 Try.underlying24 hi hz0 hz1 .i64 .i64 9 9 9 rfl rfl rfl rfl (by rw [hz2]; omega) (by unfold maxLen; omega) (Nat.le_refl _) ?_; intro w1 hown1 hgr1)
    refine wp_loop_rounds 1 ?_
    rw [rounds_succ]
    go_wp2_with fail
    go_ret2
    exact ans_of (cntL_len X) (by rw [HX.out]; exact zeros_nine (X := []) hown1) ((Below.refl _ _).grown hgr1 (Nat.le_refl _) (by simp))
  · obtain ⟨b, o, rfl, hb0, hc⟩ := h.2 hz
    have HC := Lib.hid hc
    clear h hg hc
    go_enter Try.func16, Try.ntmps16
    go_wp2_with fail
    refine cl.mono ?_
    rintro e w' ⟨rfl, rfl⟩
    clear cl
    go_wp2_with (at_make; refine wpList_make_full _ rfl _ _ 24 rfl w.heap.size 3 i0 (.int .i64 0) 1 Try.underlying24 hi hz0 hz1 .i64 .i64 9 9 9 rfl rfl rfl rfl (by rw [hz2]; omega) (by unfold maxLen; omega) (Nat.le_refl _) ?_; intro w1 hown1 hgr1)
    have hz9 := zeros_nine (X := X) hown1
    have hbel : Below w.heap.size w w1 := (Below.refl _ _).grown hgr1 (Nat.le_refl _) (by simp)
    clear hown1 hgr1
    go_loopw [5] (fun i wr => ∃ k : Nat, k ≤ n ∧ i = .int .i64 k ∧ wr.ownsRow w.heap.size 3 1 (.slice (some ⟨w.heap.size, 0, none⟩) 9 9) 9 ((cntL (X.take k)).map (Value.int .i64)) ∧ Below w.heap.size w wr) (fun i _ => n - (intOf i).toNat)
    case atStart => exact ⟨0, by omega, rfl, hz9, hbel⟩
    case round =>
      obtain ⟨k, hk, rfl, ho, hb⟩ := hrel
      clear hz9 hbel
      by_cases hlt : k < n
      · obtain ⟨x, hx, hm⟩ := atI_of_lt HL.out hlt
        have hgx := HG.out x hm
        obtain ⟨j, rfl⟩ : ∃ j : Nat, x = (j : Int) + 1 := ⟨(x - 1).toNat, by omega⟩
        have hj : j < 9 := by omega
        have hcell : wr.cell? ⟨b, o + k, none⟩ = some (.int .i64 ((j : Int) + 1)) := (hb.cell (p := ⟨b, o + k, none⟩) hb0).trans (rdI_at HC.out hlt hx)
        have hq := count_le (k := k) HL.out ((j : Int) + 1)
        have hc1 := (ho.cellAt j (by omega)).trans (cnt_cell (X.take k) hj)
        have HS := Lib.hid (cnt_set hj hx)
        clear hx hm hgx
        generalize (X.take k).count ((j : Int) + 1) = q at hq hc1 HS
        have hf1 := ho.frozenAt j
        have HST := Lib.hid (ho.stored j (.int .i64 ((q : Int) + 1)))
        go_wp2_with fail
        go_roundw
        case rel => exact ⟨k + 1, by omega, by go_num, by rw [← HS.out]; exact HST.out.1, hb.grown HST.out.2 hb.size (fun q hq => by cases hq; omega)⟩
        case measure => simp [intOf]; omega
      · have HT := Lib.hid (show X.take k = X from List.take_of_length_le (by have := HL.out; omega))
        go_wp2_with fail
        go_ret2
        exact ans_of (cntL_len X) (by rw [← HT.out]; exact ho) hb
theorem count_spec_no (X : List Int) (n : Nat) (a : Option Addr) (c : Nat) (w : World) (h : RdI w a n X) (hn : n ≤ 1048577) (hg : goodL X = false) :
    Calls Try.prog 16 #[.slice a n c] w (Ans w [] false) := by
  have cl := l2List_any X n a c w h hn
  rw [hg] at cl
  clear h hg
  go_enter Try.func16, Try.ntmps16
  go_wp2_with fail
  refine cl.mono ?_
  rintro e w' ⟨rfl, rfl⟩
  clear cl
  go_wp2_with fail
  go_ret2
  exact ans_lit w false [] (by decide)
end Go.Proofs.Ytflfdngcgebmmaa
