/- Contracts: FirstOf of the program (a map of those that were seen) and of the model. -/
import Derived.Test.YtflfdngcgebmmaaCount
import Derived.Test.YtflfdngcgebmmaaAgainst
import Derived.Maps.OwnSet
import Derived.Maps.OwnOps
import Derived.Maps.Views
namespace Go.Proofs.Ytflfdngcgebmmaa
open Go.RowKit

theorem plainElem_bool_inv {H : Type} {P : Program} {e : TypeId} (he : P.underlying e = some .bool) {v : Value} {r : Bool} {ps : List MemPlace} (h : plainElem (H := H) P e v = some (.lit (.bool r), ps)) : v = .bool r := by
  unfold plainElem at h
  rw [he] at h
  cases v <;> simp at h
  rw [h.1]
/-- 'm[k]' at elements that are booleans, where it is known what the map reads as at this key. -/
theorem wpList_lookup_own_bool {H : Type} {P : Program} (w : World) {ops : Array Oper} {rest : List Oper} {o : Oper} {a : Act} {Q : Exit → Act → World → Prop}
    (hg : o.guard = none) (m x : Operand) (t : TypeId) (hop : o.op = Op.lookup t m x false)
    (k e : TypeId) (K : Maps.Keyed P k) (ht : P.underlying t = some (.map k e)) (he : P.underlying e = some .bool) (hz : (zeroValue e).run P w = .ok (.bool false) w) (b n : Nat) (D : DataW H)
    (hm : a.eval m = .map (some b)) (hown : w.ownsMap P k (plainElem P e) b n D) (key : Value) (kl : Lit) (hx : a.eval x = key) (hkey : keyOf P k key = some kl)
    (r : Bool) (hat : D.atKey kl (.lit (.bool false)) = .lit (.bool r)) (hK : wpList P ops Q rest (a.put o.dst (.bool r)) w) :
    wpList P ops Q (o :: rest) a w := by
  refine wpList_plain hg fun K' hK' => ?_
  obtain ⟨v, ps, hrun, hv⟩ := hown.lookup K ht hz (plainElem_bool he false) hkey
  rw [hat] at hv
  obtain rfl := plainElem_bool_inv he hv
  unfold Oper.wp
  simp [execOp, hop, hm, hx, hrun, Result.andThen]
  exact hK' _ _ hK

/-- The map holds true at just these numbers. -/
def SeenD (D : DataW Unit) (L : List Int) : Prop := ∀ x : Int, D.atKey (.int .i64 x) (.lit (.bool false)) = .lit (.bool (L.contains x))
theorem seenD_zero : SeenD (.map []) [] := fun _ => rfl
theorem seenD_put {D : DataW Unit} {L : List Int} {x : Int} (h : SeenD D L) (hm : Maps.IsMap D) : SeenD (D.put (.int .i64 x) (.lit (.bool true))) (L ++ [x]) := by
  intro y
  by_cases e : y = x
  · subst e
    rw [Maps.atKey_put_same hm (show WideAt.IsKeyLit (.int .i64 y) from trivial)]
    simp
  · rw [Maps.atKey_put_other (fun h => e (by cases h; rfl)), h y]
    have h1 : (L ++ [x]).contains y = L.contains y := by
      simp only [List.contains_eq_mem, List.mem_append, List.mem_singleton]
      simp [e]
    rw [h1]
theorem zeroB (w : World) : (zeroValue 4).run Try.prog w = .ok (.bool false) w := by kernel_rfl

set_option maxRecDepth 100000 in
set_option maxHeartbeats 2000000 in
theorem first_impl (X : List Int) (n : Nat) (a : Option Addr) (c : Nat) (w : World) (h : RdI w a n X) (hn : n ≤ 1048577) (hg : goodL X = true) :
    Calls Try.prog 15 #[.slice a n c] w (Ans w (firstL X) true) := by
  have cl := isList_any X n a c w h hn
  rw [hg] at cl
  obtain ⟨i0, hi, hz0, hz1, hz2⟩ := info_parts infoI
  have HL := Lib.hid h.1
  have HG := Lib.hid (goodL_all hg)
  have h40 : n ≤ 40 := by have := goodL_len hg; have := h.1; omega
  have hmm := @run_makeMap Try.prog
  rcases Nat.eq_zero_or_pos n with hz | hz
  · have HX := Lib.hid (show X = [] from List.eq_nil_of_length_eq_zero (by have := h.1; omega))
    subst hz
    clear h hg
    go_enter Try.func15, Try.ntmps15
    go_wp2_with fail
    refine cl.mono ?_
    rintro e w' ⟨rfl, rfl⟩
    clear cl
    go_wp2_with fail
    refine wp_loop_rounds 1 ?_
    rw [rounds_succ]
    go_wp2_with fail
    go_ret2
    exact ans_of (by rw [HX.out]; rfl) (by rw [HX.out]; exact ownI_nil _ _) ((Below.refl _ _).alloc (Nat.le_refl _) _)
  · obtain ⟨b, o, rfl, hb0, hc⟩ := h.2 hz
    have HC := Lib.hid hc
    clear h hg hc
    go_enter Try.func15, Try.ntmps15
    go_wp2_with fail
    refine cl.mono ?_
    rintro e w' ⟨rfl, rfl⟩
    clear cl
    go_wp2_with fail
    go_loopw [4, 14] (fun v i wr => ∃ (k : Nat) (D : DataW Unit), k ≤ n ∧ i = .int .i64 k ∧ wr.ownsMap Try.prog 3 (plainElem Try.prog 4) w.heap.size k D ∧ Hid (SeenD D (firstL (X.take k))) ∧
        wr.ownsRow (w.heap.size + 1) 3 1 v (firstL (X.take k)).length ((firstL (X.take k)).map (Value.int .i64)) ∧ Below w.heap.size w wr ∧ w.heap.size + 1 ≤ wr.heap.size) (fun _ i _ => n - (intOf i).toNat)
    case atStart => exact ⟨0, .map [], by omega, rfl, World.ownsMap_made _ _ _ _, by show SeenD _ _; exact seenD_zero, World.ownsRow_nil _ _ _ _, (Below.refl _ _).alloc (Nat.le_refl _) _, by simp⟩
    case round =>
      obtain ⟨k, D, hk, rfl, hmp, HD, ho, hb, hsz⟩ := hrel
      by_cases hlt : k < n
      · obtain ⟨x, hx, hm⟩ := atI_of_lt HL.out hlt
        have hgx := HG.out x hm
        have hcell : wr.cell? ⟨b, o + k, none⟩ = some (.int .i64 x) := (hb.cell (p := ⟨b, o + k, none⟩) hb0).trans (rdI_at HC.out hlt hx)
        have hkey := Maps.keyOf_int_mk (P := Try.prog) (k := 3) Try.underlying3 (a := x) (WalkArith.wf_i64 (by omega))
        have hlen : (firstL (X.take k)).length ≤ k := Nat.le_trans (firstL_len _) (by rw [List.length_take]; omega)
        have hat := HD.out x
        cases hs : (firstL (X.take k)).contains x
        · rw [hs] at hat
          have HF := Lib.hid (show firstL (X.take (k + 1)) = firstL (X.take k) ++ [x] by rw [take_succ' hx]; exact firstL_new hs)
          have HAT := Lib.hid hat
          have HKEY := Lib.hid hkey
          have HSN := Lib.hid (seenD_put (x := x) HD.out hmp.isMap)
          clear hs hx hm hat hkey
          go_wp2_with (first
            | (at_lookup; refine wpList_lookup_own_bool _ rfl _ _ 45 rfl 3 4 (Maps.int_keyed Try.underlying3) Try.underlying45 Try.underlying4 (zeroB _) w.heap.size k D rfl hmp _ _ rfl HKEY.out false HAT.out ?_)
            | (at_mapUpdate; refine wpList_mapUpdate_own _ rfl _ _ _ 45 rfl 3 4 (Maps.int_keyed Try.underlying3) Try.underlying45 (plainElem (H := Unit) Try.prog 4) w.heap.size k _ rfl hmp (by unfold maxLen; omega) _ _ _ rfl rfl HKEY.out _ [] (plainElem_bool Try.underlying4 true) ?_; intro w1 hmp1 hgr1; have hsz1 := Nat.le_trans hsz hgr1.size; have ho1 := ho.kept hgr1 (by cases hq : Value.ownBlock u4 with | none => exact .inl rfl | some q => (have h1 := (ho.lt q hq).1; exact .inr (by intro e; cases e; omega))))
            | (at_builtin; refine wpList_append_own _ rfl _ _ 24 rfl (w.heap.size + 1) 3 i0 (.int .i64 0) 1 8 Try.underlying24 hi hz0 hz1 hz2 rfl (by decide) _ _ _ rfl (ho1.alloc _) ⟨w1.heap.size, 0, none⟩ 1 1 [.int .i64 x] rfl rfl (cell_one_new _ _ _) (fun x hx => by simp at hx; subst hx; rfl) (by unfold maxLen; omega) (by omega) (by simp; omega) ?_; intro v' w3 hown' hgrow hnil))
          go_roundw
          case rel => exact ⟨k + 1, _, by omega, by go_num, (hmp1.alloc _).kept hgrow (fun e => by have := (ho1.lt _ e.symm).1; omega), by show SeenD _ _; rw [HF.out]; exact HSN.out, sliceR (app_one hown') HF.out.symm,
            ((hb.grown hgr1 hb.size (fun q hq => by cases hq; omega)).alloc (Nat.le_trans hb.size hgr1.size) _).grown hgrow (by have := hgr1.size; simp; omega) (fun q hq => by have := (ho1.lt q hq).1; omega), by have h1 := hgrow.size; rw [World.size_alloc] at h1; omega⟩
          case measure => simp [intOf]; omega
        · rw [hs] at hat
          have HF := Lib.hid (show firstL (X.take (k + 1)) = firstL (X.take k) by rw [take_succ' hx]; exact firstL_old hs)
          have HAT := Lib.hid hat
          have HKEY := Lib.hid hkey
          clear hs hx hm hat hkey
          go_wp2_with (at_lookup; refine wpList_lookup_own_bool _ rfl _ _ 45 rfl 3 4 (Maps.int_keyed Try.underlying3) Try.underlying45 Try.underlying4 (zeroB _) w.heap.size k D rfl hmp _ _ rfl HKEY.out true HAT.out ?_)
          go_roundw
          case rel => exact ⟨k + 1, D, by omega, by go_num, hmp.mono (by omega), by show SeenD _ _; rw [HF.out]; exact HD.out, sliceR ho HF.out.symm, hb, hsz⟩
          case measure => simp [intOf]; omega
      · have HT := Lib.hid (show X.take k = X from List.take_of_length_le (by have := HL.out; omega))
        obtain ⟨a', cap, rfl, hO⟩ := ownI_append ho
        have HO := Lib.hid hO
        clear ho hO
        go_wp2_with fail
        go_ret2
        rw [HT.out]
        exact ans_of rfl (OwnI.low (by have h1 := HO.out; rw [HT.out] at h1; exact h1) (by omega)) hb
theorem first_impl_no (X : List Int) (n : Nat) (a : Option Addr) (c : Nat) (w : World) (h : RdI w a n X) (hn : n ≤ 1048577) (hg : goodL X = false) :
    Calls Try.prog 15 #[.slice a n c] w (Ans w [] false) := by
  have cl := isList_any X n a c w h hn
  rw [hg] at cl
  clear h hg
  go_enter Try.func15, Try.ntmps15
  go_wp2_with fail
  refine cl.mono ?_
  rintro e w' ⟨rfl, rfl⟩
  clear cl
  go_wp2_with fail
  go_ret2
  exact ans_nil w false

set_option maxHeartbeats 2000000 in
theorem l2First_any (X : List Int) (n : Nat) (a : Option Addr) (c : Nat) (w : World) (h : RdI w a n X) (hn : n ≤ 1000) :
    Calls Try.prog 44 #[.slice a n c] w (AnsL w (firstL X)) := by
  obtain ⟨i0, hi, hz0, hz1, hz2⟩ := info_parts infoI
  have HL := Lib.hid h.1
  have hown0 := World.ownsRow_lit (e := 3) (size := 1) w #[] 0 (Nat.le_refl _) (by unfold maxLen; omega) rfl
  rcases Nat.eq_zero_or_pos n with hz | hz
  · have HX := Lib.hid (show X = [] from List.eq_nil_of_length_eq_zero (by have := h.1; omega))
    subst hz
    clear h hown0
    go_enter Try.func44, Try.ntmps44
    go_wp2_with fail
    refine wp_loop_rounds 1 ?_
    rw [rounds_succ]
    go_wp2_with fail
    go_ret
    rw [HX.out]
    exact ansL_lit w [] (by decide)
  · obtain ⟨b, o, rfl, hb0, hc⟩ := h.2 hz
    have HC := Lib.hid hc
    clear h hc
    go_enter Try.func44, Try.ntmps44
    go_wp2_with fail
    go_loopw [3, 4] (fun v i wr => ∃ k : Nat, k ≤ n ∧ i = .int .i64 k ∧ wr.ownsRow w.heap.size 3 1 v (firstL (X.take k)).length ((firstL (X.take k)).map (Value.int .i64)) ∧ Below w.heap.size w wr) (fun _ i _ => n - (intOf i).toNat)
    case atStart => exact ⟨0, by omega, rfl, hown0, (Below.refl _ _).alloc (Nat.le_refl _) _⟩
    case round =>
      obtain ⟨k, hk, rfl, ho, hb⟩ := hrel
      clear hown0
      by_cases hlt : k < n
      · obtain ⟨x, hx, hm⟩ := atI_of_lt HL.out hlt
        have hcell : wr.cell? ⟨b, o + k, none⟩ = some (.int .i64 x) := (hb.cell (p := ⟨b, o + k, none⟩) hb0).trans (rdI_at HC.out hlt hx)
        have hlen : (firstL (X.take k)).length ≤ k := Nat.le_trans (firstL_len _) (by rw [List.length_take]; omega)
        obtain ⟨a', cap', rfl, hO⟩ := ownI_append ho
        have cc := l1Has_any (firstL (X.take k)) x (firstL (X.take k)).length a' cap' wr hO.rd (by omega)
        clear hO
        cases hs : (firstL (X.take k)).contains x
        · rw [hs] at cc
          have HF := Lib.hid (show firstL (X.take (k + 1)) = firstL (X.take k) ++ [x] by rw [take_succ' hx]; exact firstL_new hs)
          clear hs hx hm
          go_wp2_with fail
          refine cc.mono ?_
          rintro e w' ⟨rfl, rfl⟩
          clear cc
          go_wp2_with (at_builtin; refine wpList_append_own _ rfl _ _ 24 rfl w.heap.size 3 i0 (.int .i64 0) 1 8 Try.underlying24 hi hz0 hz1 hz2 rfl (by decide) _ _ _ rfl (ho.alloc _) ⟨wr.heap.size, 0, none⟩ 1 1 [.int .i64 x] rfl rfl (cell_one_new _ _ _) (fun x hx => by simp at hx; subst hx; rfl) (by unfold maxLen; omega) (by omega) (by have := hb.size; simp; omega) ?_; intro v' w3 hown' hgrow hnil)
          go_roundw
          case rel => exact ⟨k + 1, by omega, by go_num, sliceR (app_one hown') HF.out.symm, (hb.alloc hb.size _).grown hgrow (by have := hb.size; simp; omega) (fun q hq => by have := (ho.lt q hq).1; omega)⟩
          case measure => simp [intOf]; omega
        · rw [hs] at cc
          have HF := Lib.hid (show firstL (X.take (k + 1)) = firstL (X.take k) by rw [take_succ' hx]; exact firstL_old hs)
          clear hs hx hm
          go_wp2_with fail
          refine cc.mono ?_
          rintro e w' ⟨rfl, rfl⟩
          clear cc
          go_wp2_with fail
          go_roundw
          case rel => exact ⟨k + 1, by omega, by go_num, sliceR ho HF.out.symm, hb⟩
          case measure => simp [intOf]; omega
      · have HT := Lib.hid (show X.take k = X from List.take_of_length_le (by have := HL.out; omega))
        obtain ⟨a', cap, rfl, hO⟩ := ownI_append ho
        have HO := Lib.hid hO
        clear ho hO
        go_wp2_with fail
        go_ret
        rw [HT.out]
        exact ⟨a', cap, rfl, by have h1 := HO.out; rw [HT.out] at h1; exact h1, hb⟩
theorem first_spec (X : List Int) (n : Nat) (a : Option Addr) (c : Nat) (w : World) (h : RdI w a n X) (hn : n ≤ 1048577) (hg : goodL X = true) :
    Calls Try.prog 34 #[.slice a n c] w (Ans w (firstL X) true) := by
  have cl := l2List_any X n a c w h hn
  rw [hg] at cl
  have cf := l2First_any X n a c w h (by have := goodL_len hg; have := h.1; omega)
  clear h hg
  go_enter Try.func34, Try.ntmps34
  go_wp2_with fail
  refine cl.mono ?_
  rintro e w' ⟨rfl, rfl⟩
  go_wp2_with fail
  refine cf.mono ?_
  rintro e w' ⟨a, cap, rfl, ho, hb⟩
  go_wp2_with fail
  go_ret2
  exact ⟨a, cap, rfl, ho, hb⟩
theorem first_spec_no (X : List Int) (n : Nat) (a : Option Addr) (c : Nat) (w : World) (h : RdI w a n X) (hn : n ≤ 1048577) (hg : goodL X = false) :
    Calls Try.prog 34 #[.slice a n c] w (Ans w [] false) := by
  have cl := l2List_any X n a c w h hn
  rw [hg] at cl
  clear h hg
  go_enter Try.func34, Try.ntmps34
  go_wp2_with fail
  refine cl.mono ?_
  rintro e w' ⟨rfl, rfl⟩
  go_wp2_with fail
  go_ret2
  exact ans_lit w false [] (by decide)
end Go.Proofs.Ytflfdngcgebmmaa
