/- Contract: the program's ParseGroup, at every string that is not too long. -/
import Derived.Test.YtklfkdmmclomoaaDoorSplitIt
import Derived.Test.YtklfkdmmclomoaaDoorGWord
import Derived.Test.YtklfkdmmclomoaaDoorRGText2
import Derived.Test.YtklfkdmmclomoaaDoorDrawField
import Derived.Test.YtklfkdmmclomoaaDoorGJoin
import Derived.RangeFuncWrites
import Derived.RangeFuncCalls
import Derived.RangeFuncLeaves
import Derived.Shelf.Abstract
import Derived.Scope
import Derived.OwnWalkIn
import Derived.TacticsInMore
namespace Go.Proofs.YtklfkdmmclomoaaDoor
open Go.RowKit Go.Shelf
attribute [local go_sem] Oper.semAt_some

theorem iter_stops (F : Fence) (n : Nat) (hf : F.fn 80) (hro : F.round = none) (hn : 1 ≤ n) (B1 B2 : Nat) (s : ByteArray) (c : UInt8) (hs : s.size ≤ 1048576) (w : World) (hB1 : B1 < w.heap.size) (hB2 : B2 < w.heap.size)
    (h1 : w.cell? ⟨B1, 0, none⟩ = some (.string s)) (h2 : w.cell? ⟨B2, 0, none⟩ = some (.int .u8 (c.toNat : Int))) :
    SeqStopsK F n Tryd.prog 80 #[.pointer (some ⟨B1, 0, none⟩), .pointer (some ⟨B2, 0, none⟩)] (fun x : BStr => #[encB x]) (KeepTwo B1 B2) (fun ys => ys.map bytesB = splitL c s.data.toList) (Begins s c) (splitL c s.data.toList).length w :=
  fun l J Jx W hW hJ _ hY h0 => iter_in F n hf hro hn l B1 B2 s c hs J Jx (fun pre A B h hg => hJ pre A B none h hg (fun r e => by cases e)) hY W ((hW.cell (p := ⟨B1, 0, none⟩) hB1).trans h1) ((hW.cell (p := ⟨B2, 0, none⟩) hB2).trans h2) h0
theorem keepTwo_t {B1 B2 : Nat} {A B C : World} (h : KeepTwo B1 B2 A B) (k : KeepTwo B1 B2 B C) : KeepTwo B1 B2 A C := ⟨k.1.trans h.1, k.2.trans h.2⟩
theorem keepTwo_b {B1 B2 : Nat} {w : World} (h1 : B1 < w.heap.size) (h2 : B2 < w.heap.size) (W : World) (l : Nat) (o o' : Obj) (hl : w.heap.size ≤ l) (_ : W.heap[l]? = some o) (_ : o.isCells = false) (_ : o.isWalk = false) : KeepTwo B1 B2 W (W.putObj l o') :=
  ⟨World.putObj_heap_other (by omega), World.putObj_heap_other (by omega)⟩
theorem boxF_own {W W' : World} {B b : Nat} {L : List Value} {t : TypeId} {row : Option Nat} (h : BoxF W b L t) (hg : W.grownBy W' row) (hr : ∀ r, row = some r → B ≤ r ∧ ∃ o : Obj, W.heap[r]? = some o ∧ o.isCells = false) : BoxF W' b L t :=
  h.kept hg (fun e => by
    obtain ⟨_, o, ho, hc⟩ := hr b e.symm
    have h2 := h.symm.trans ho
    cases h2
    cases hc)
/-- Between two rounds: the group's box holds what the words so far have given. -/
def GI (w : World) (pre : List BStr) (W : World) : Prop :=
  (∃ c k a : Nat, BoxF W (w.heap.size + 1) [.int .i64 (c : Int), .int .i64 (k : Int), .int .i64 (a : Int), .int .i64 0] 25 ∧ c ≤ 6 ∧ k ≤ 8 ∧ a ≤ 2 ∧ ∀ r, runG 0 0 0 (pre.map (·.1) ++ r) = runG c k a r) ∧
    BoxF W w.heap.size [.int .i64 0, .int .i64 0, .int .i64 0, .int .i64 0] 25 ∧ Below w.heap.size w W ∧ w.heap.size + 4 ≤ W.heap.size
/-- Behind the break. -/
def GX (w : World) (C : Code) (pre : List BStr) (W : World) : Prop :=
  C = .exit 0 ∧ (∃ c k a t : Nat, BoxF W (w.heap.size + 1) [.int .i64 (c : Int), .int .i64 (k : Int), .int .i64 (a : Int), .int .i64 (t : Int)] 25 ∧ ∀ r, runG 0 0 0 (pre.map (·.1) ++ r) = (c, k, a, t)) ∧
    BoxF W w.heap.size [.int .i64 0, .int .i64 0, .int .i64 0, .int .i64 0] 25 ∧ Below w.heap.size w W ∧ w.heap.size + 4 ≤ W.heap.size
theorem gi_own {w : World} {B : Nat} (hB : w.heap.size ≤ B) : OwnFrom B (GI w) := by
  rintro pre W W' row ⟨⟨c, k, a, hb, h1⟩, hz, hw, hs⟩ hg hr
  exact ⟨⟨c, k, a, boxF_own hb hg hr, h1⟩, boxF_own hz hg hr, hw.grown hg hw.size (fun q e => Nat.le_trans hB (hr q e).1), Nat.le_trans hs hg.size⟩
theorem gx_own {w : World} {B : Nat} (hB : w.heap.size ≤ B) (C : Code) : OwnFrom B (GX w C) := by
  rintro pre W W' row ⟨e, ⟨c, k, a, t, hb, h1⟩, hz, hw, hs⟩ hg hr
  exact ⟨e, ⟨c, k, a, t, boxF_own hb hg hr, h1⟩, boxF_own hz hg hr, hw.grown hg hw.size (fun q e => Nat.le_trans hB (hr q e).1), Nat.le_trans hs hg.size⟩
theorem deferred_kept {W : World} {D : Nat} (b : Nat) (v0 v1 v2 v3 : Value) (hK : W.heap[D]? = some (.deferred (some []))) :
    ((((W.setCell ⟨b, 0, none⟩ v0).setCell ⟨b, 1, none⟩ v1).setCell ⟨b, 2, none⟩ v2).setCell ⟨b, 3, none⟩ v3).heap[D]? = some (.deferred (some [])) :=
  (KeepsOthers.setCell _ _ _).same D _ ((KeepsOthers.setCell _ _ _).same D _ ((KeepsOthers.setCell _ _ _).same D _ ((KeepsOthers.setCell _ _ _).same D _ hK rfl) rfl) rfl) rfl
theorem run_snoc (pre : List BStr) (x : BStr) (r : List ByteArray) : (pre ++ [x]).map (·.1) ++ r = pre.map (·.1) ++ (x.1 :: r) := by simp
theorem keep_step {w W W1 : World} (hsz : w.heap.size + 4 ≤ W.heap.size) (h1 : Below W.heap.size W W1) (i : Nat) (v : Value) (D : Nat) :
    KeepsFrom D W (W1.setCell ⟨w.heap.size + 1, i, none⟩ v) ∧ KeepTwo (w.heap.size + 1 + 1) (w.heap.size + 1 + 1 + 1) W (W1.setCell ⟨w.heap.size + 1, i, none⟩ v) := by
  refine ⟨(KeepsOthers.trans (B := W1) ⟨h1.size, fun k o hk _ => (h1.block k (Array.getElem?_eq_some_iff.1 hk).1).trans hk⟩ (KeepsOthers.setCell _ _ _)).from D, ?_, ?_⟩
  · exact (Below.heap_setCell W1 ⟨w.heap.size + 1, i, none⟩ v _ (by show w.heap.size + 1 + 1 ≠ w.heap.size + 1; omega)).trans (h1.block _ (by omega))
  · exact (Below.heap_setCell W1 ⟨w.heap.size + 1, i, none⟩ v _ (by show w.heap.size + 1 + 1 + 1 ≠ w.heap.size + 1; omega)).trans (h1.block _ (by omega))
theorem step_rest {w W W1 : World} {L : List Value} (hbox : BoxF W (w.heap.size + 1) L 25) (hz : BoxF W w.heap.size [.int .i64 0, .int .i64 0, .int .i64 0, .int .i64 0] 25) (hB : Below w.heap.size w W) (hsz : w.heap.size + 4 ≤ W.heap.size) (h1 : Below W.heap.size W W1) (i : Nat) (v : Value) :
    BoxF (W1.setCell ⟨w.heap.size + 1, i, none⟩ v) (w.heap.size + 1) (L.set i v) 25 ∧ BoxF (W1.setCell ⟨w.heap.size + 1, i, none⟩ v) w.heap.size [.int .i64 0, .int .i64 0, .int .i64 0, .int .i64 0] 25 ∧ Below w.heap.size w (W1.setCell ⟨w.heap.size + 1, i, none⟩ v) ∧ w.heap.size + 4 ≤ (W1.setCell ⟨w.heap.size + 1, i, none⟩ v).heap.size :=
  ⟨(hbox.below h1).set i v, (hz.below h1).far i v (by omega), (hB.trans (h1.mono hB.size)).setCell (p := ⟨w.heap.size + 1, i, none⟩) (by show w.heap.size ≤ w.heap.size + 1; omega) v, by have := h1.size; simp; omega⟩
set_option maxRecDepth 100000 in
set_option maxHeartbeats 8000000 in
theorem parse_walk (s : ByteArray) (hs : s.size ≤ 1048576) (w : World) (hT : GTabs w) (c k a t : Nat) (hrun : runG 0 0 0 ((splitL 32 s.data.toList).map strOf) = (c, k, a, t)) (X : ByteArray) (g : Bool)
    (CG : ∀ W, Below w.heap.size w W → Calls Tryd.prog 16 #[.agg #[.int .i64 (c : Int), .int .i64 (k : Int), .int .i64 (a : Int), .int .i64 (t : Int)]] W fun e w' => e = .returned (.tuple #[.string X, .bool g]) ∧ Below W.heap.size W w') (ok : Bool) (hok : (g && decide (X = s)) = ok) :
    Calls Tryd.prog 17 #[.string s] w (if ok = true then AnsF w c k a t true else AnsF w 0 0 0 0 false) := by
  refine (callsIn_wide (n := 6)).1 ?_
  refine callsIn_of_wp_marks Tryd.func17 rfl trivial ?_ rfl
  simp only [Tryd.ntmps17, List.size_toArray, List.length_cons, List.length_nil, Nat.reduceAdd, Nat.reduceSub, Array.replicate_succ, Array.replicate_zero, List.push_toArray, List.append_toArray, List.nil_append, List.cons_append]
  gi_wp2
  refine wpIn_wide.2 (wp_scope_straight ((wpIn_wide (n := 6)).1 ?_))
  gi_wp2
  refine wpIn_label ?_
  gi_wp2
  refine ⟨trivial, ?_⟩
  refine (piecesOf_in Fence.wide (6 - 1) trivial rfl _ _ _).mono ?_
  rintro e w' ⟨rfl, rfl⟩
  gi_wp2
  have r0 := BoxF.new w [.int .i64 0, .int .i64 0, .int .i64 0, .int .i64 0] 25
  have r1 := BoxF.new (w.alloc (.cells #[.int .i64 0, .int .i64 0, .int .i64 0, .int .i64 0] 25 (0, 0))) [.int .i64 0, .int .i64 0, .int .i64 0, .int .i64 0] 25
  have b1 := Boxed.new ((w.alloc (.cells #[.int .i64 0, .int .i64 0, .int .i64 0, .int .i64 0] 25 (0, 0))).alloc (.cells #[.int .i64 0, .int .i64 0, .int .i64 0, .int .i64 0] 25 (0, 0))) 9 (.string s)
  have b2 := Boxed.new (((w.alloc (.cells #[.int .i64 0, .int .i64 0, .int .i64 0, .int .i64 0] 25 (0, 0))).alloc (.cells #[.int .i64 0, .int .i64 0, .int .i64 0, .int .i64 0] 25 (0, 0))).alloc (.cells #[.string s] 9)) 5 (.int .u8 32)
  simp only [World.size_alloc] at r1 b1 b2
  have hB0 : Below w.heap.size w ((((w.alloc (.cells #[.int .i64 0, .int .i64 0, .int .i64 0, .int .i64 0] 25 (0, 0))).alloc (.cells #[.int .i64 0, .int .i64 0, .int .i64 0, .int .i64 0] 25 (0, 0))).alloc (.cells #[.string s] 9)).alloc (.cells #[.int .u8 32] 5)) :=
    ((((Below.refl _ w).alloc (Nat.le_refl _) _).alloc (by simp) _).alloc (by simp; omega) _).alloc (by simp; omega) _
  refine wpIn_rangeFunc_ownG rfl (by decide) (gf := 80) (lb := #[.pointer (some ⟨w.heap.size + 1 + 1, 0, none⟩), .pointer (some ⟨w.heap.size + 1 + 1 + 1, 0, none⟩)]) rfl trivial (enters_of Tryd.func80 (by kernel_rfl) rfl)
    (iter_stops Fence.wide (6 - 1) trivial rfl (by decide) (w.heap.size + 1 + 1) (w.heap.size + 1 + 1 + 1) s 32 hs _ (by simp) (by simp) (b1.alloc _).cell b2.cell) keepTwo_t (keepTwo_b (by simp) (by simp)) (Below.refl _ _) (fun _ => rfl)
    (GI w) (GX w) (gi_own (by simp; omega)) (gx_own (by simp; omega))
    ⟨⟨0, 0, 0, (r1.alloc _).alloc _, by omega, by omega, by omega, fun r => rfl⟩, ((r0.alloc _).alloc _).alloc _, hB0, by simp⟩
    (fun x => { tmps := #[.string s, undef, .pointer (some ⟨w.heap.size, 0, none⟩), .bool false, .pointer (some ⟨w.heap.size + 1, 0, none⟩), encB x, undef, undef, .string s, .func (.func 80) #[] #[.pointer (some ⟨w.heap.size + 1 + 1, 0, none⟩), .pointer (some ⟨w.heap.size + 1 + 1 + 1, 0, none⟩)], encB x, undef, undef, undef, undef, undef, undef, undef, undef, undef, undef, undef, undef, undef, undef, undef, undef, undef, undef, undef, undef, undef, undef, undef, undef, undef, undef, undef, undef, undef, undef, undef, undef, undef, undef, undef, undef, undef, undef, undef, undef, undef, undef, undef, undef, undef, undef, undef, undef, undef, undef, undef, undef, undef, undef, undef, undef], defers := [] }) ?assign ?body ?done ?stop
  case assign =>
    intro l x W K hK
    gi_wp2
    exact hK
  case body =>
    rintro l pre x W ⟨⟨c1, k1, a1, hbox, hc, hk, ha, hr⟩, hz, hB, hsz⟩ hlt
    have hT1 := hT.below hB
    obtain ⟨x0, x1, x2, x3, xf⟩ := hbox.four
    have hb1 : w.heap.size + 1 < W.heap.size := hbox.lt
    by_cases hc0 : c1 = 0
    · have e1 : ((c1 : Int) == 0) = true := by rw [beq_iff_eq]; omega
      gi_wp2_with (refine ⟨trivial, ?_⟩; gi_at_call 49; refine (CallsIn.inRound l (callsIn_wide.2 (countOfWord_impl x.1 _ hT1.2.1))).mono ?_; rintro e w' ⟨rfl, rfl⟩)
      subst hc0
      exact ⟨(keep_step hsz (Below.refl _ _) 0 _ _).1, (keep_step hsz (Below.refl _ _) 0 _ 0).2, ⟨countW x.1, k1, a1, (step_rest hbox hz hB hsz (Below.refl _ _) 0 _).1, countW_le _, hk, ha, fun r => by rw [run_snoc, hr, runG_count]⟩, (step_rest hbox hz hB hsz (Below.refl _ _) 0 _).2⟩
    · have e1 : ((c1 : Int) == 0) = false := by rw [beq_eq_false_iff_ne]; omega
      by_cases hk0 : k1 = 0
      · have e2 : ((k1 : Int) == 0) = true := by rw [beq_iff_eq]; omega
        gi_wp2_with (refine ⟨trivial, ?_⟩; gi_at_call 50; refine (CallsIn.inRound l (callsIn_wide.2 (kindOfWord_impl x.1 x.2 _ hT1.2.2.1))).mono ?_; rintro e W1 ⟨rfl, hb⟩; obtain ⟨y0, y1, y2, y3, yf⟩ := (hbox.below hb).four)
        subst hk0
        exact ⟨(keep_step hsz hb 1 _ _).1, (keep_step hsz hb 1 _ 0).2, ⟨c1, kindW x.1, a1, (step_rest hbox hz hB hsz hb 1 _).1, hc, kindW_le _, ha, fun r => by rw [run_snoc, hr, runG_kind hc0]⟩, (step_rest hbox hz hB hsz hb 1 _).2⟩
      · have e2 : ((k1 : Int) == 0) = false := by rw [beq_eq_false_iff_ne]; omega
        obtain ⟨j, rfl⟩ : ∃ j, k1 = j + 1 := ⟨k1 - 1, by omega⟩
        have ej : ((j + 1 : Nat) : Int) = (j : Int) + 1 := by omega
        rw [ej] at x1 e2
        have wj : IntKind.i64.wrap (j : Int) = (j : Int) := IntWalk.i64_in _ (by omega)
        have j0 : (0 : Int) ≤ (j : Int) := by omega
        have j8 : (j : Int) < 8 := by omega
        by_cases ha0 : a1 = 0
        · have e3 : ((a1 : Int) == 0) = true := by rw [beq_iff_eq]; omega
          obtain ⟨y, hy, hrd⟩ := hT1.2.2.2 j (by omega)
          by_cases hj : j < 3
          · rw [attsL_two hj] at hy hrd
            obtain ⟨b, o, rfl, _, hcells⟩ := hrd.2 (by omega)
            have hl2 := attsL_two hj
            have ci := fun W => Tryd.slices_Index_string b o 2 2 (attsL ((j : Int) + 1)) x.1 W (by omega) (by omega)
            rw [show (attsL ((j : Int) + 1)).take 2 = attsL ((j : Int) + 1) from List.take_of_length_le (by omega)] at ci
            have hv := attW_idx (j + 1) x.1
            have hle := attW_le (j + 1) x.1
            rw [ej] at hv
            obtain ⟨z, hzz⟩ : ∃ z, Lib.idxOfS (attsL ((j : Int) + 1)) x.1 = z := ⟨_, rfl⟩
            rw [hzz] at ci hv
            have CI := Lib.hid (ci W (fun q hq => hcells q (by omega)))
            have hw : IntKind.i64.wrap (1 + z) = (attW (j + 1) x.1 : Int) := by rw [IntWalk.i64_in _ (by omega)]; exact hv
            clear ci hcells hrd
            gi_wp2_with (refine ⟨trivial, ?_⟩; gi_at_call 51; refine (CallsIn.inRound l (callsIn_wide.2 CI.out)).mono ?_; rintro e w' ⟨rfl, rfl⟩)
            have ha1 : a1 = 0 := ha0
            subst ha1
            exact ⟨(keep_step hsz (Below.refl _ _) 2 _ _).1, (keep_step hsz (Below.refl _ _) 2 _ 0).2, ⟨c1, j + 1, attW (j + 1) x.1, (step_rest hbox hz hB hsz (Below.refl _ _) 2 _).1, hc, hk, attW_le _ _, fun r => by rw [run_snoc, hr, runG_att hc0 (by omega) (by omega)]⟩, (step_rest hbox hz hB hsz (Below.refl _ _) 2 _).2⟩
          · rw [attsL_nil (by omega)] at hy
            gi_wp2_with (refine ⟨trivial, ?_⟩; gi_at_call 52; refine (CallsIn.inRound l (callsIn_wide.2 (parse_impl x.1 (tincW x.1) x.2 (tincW_is _) _ hT1.1))).mono ?_; rintro e W1 ⟨rfl, hb⟩; obtain ⟨y0, y1, y2, y3, yf⟩ := (hbox.below hb).four)
            exact ⟨(keep_step hsz hb 3 _ _).1, rfl, ⟨c1, j + 1, a1, tincW x.1, (step_rest hbox hz hB hsz hb 3 _).1, fun r => by rw [run_snoc, hr, runG_last hc0 (by omega) (by omega)]⟩, (step_rest hbox hz hB hsz hb 3 _).2⟩
        · have e3 : ((a1 : Int) == 0) = false := by rw [beq_eq_false_iff_ne]; omega
          gi_wp2_with (refine ⟨trivial, ?_⟩; gi_at_call 52; refine (CallsIn.inRound l (callsIn_wide.2 (parse_impl x.1 (tincW x.1) x.2 (tincW_is _) _ hT1.1))).mono ?_; rintro e W1 ⟨rfl, hb⟩; obtain ⟨y0, y1, y2, y3, yf⟩ := (hbox.below hb).four)
          exact ⟨(keep_step hsz hb 3 _ _).1, rfl, ⟨c1, j + 1, a1, tincW x.1, (step_rest hbox hz hB hsz hb 3 _).1, fun r => by rw [run_snoc, hr, runG_last hc0 (by omega) (by omega)]⟩, (step_rest hbox hz hB hsz hb 3 _).2⟩
  case done =>
    rintro D ys W hD hS ⟨⟨c1, k1, a1, hbox, hc, hk, ha, hr⟩, hz, hB, hsz⟩ hK
    have hy : ys.map (·.1) = (splitL 32 s.data.toList).map strOf := by rw [← hS, List.map_map]; rfl
    have he := hr []
    rw [List.append_nil, hy, hrun] at he
    injection he with he1 he
    injection he with he2 he
    injection he with he3 he4
    subst he1; subst he2; subst he3; subst he4
    clear hr hy hS hc hk ha hrun
    have hD4 : w.heap.size + 4 ≤ D := by simp at hD; omega
    have hlt : D < W.heap.size := (Array.getElem?_eq_some_iff.1 hK).1
    obtain ⟨x0, x1, x2, x3, xf⟩ := hbox.four
    clear r0 r1 b1 b2 hB0 hT
    cases g
    · obtain rfl : false = ok := hok
      gi_wp2_with (refine ⟨trivial, ?_⟩; gi_at_call 16; refine (callsIn_wide.2 (CG _ hB)).mono ?_; rintro e W2 ⟨rfl, h2⟩; obtain ⟨y0, y1, y2, y3, yf⟩ := (hbox.below h2).four; obtain ⟨z0, z1, z2, z3, zf⟩ := (hz.below h2).four)
      have hK3 := deferred_kept (w.heap.size) (.int .i64 0) (.int .i64 0) (.int .i64 0) (.int .i64 0) ((h2.block D hlt).trans hK)
      have BP := (BoxF.all4 (v0 := .int .i64 0) (v1 := .int .i64 0) (v2 := .int .i64 0) (v3 := .int .i64 0) (hz.below h2)).kept (grownBy_putObj' _ D (.deferred none)) (by simp; omega)
      obtain ⟨q0, q1, q2, q3, _⟩ := BP.four
      have hb2 := hB.trans (h2.mono hB.size)
      have hb3 := hb2.grown (grown4 W2 w.heap.size (.int .i64 0) (.int .i64 0) (.int .i64 0) (.int .i64 0)) hb2.size (fun q e => by cases e; exact Nat.le_refl _)
      have hb5 := hb3.grown (grownBy_putObj' _ D (.deferred none)) hb3.size (fun q e => by cases e; omega)
      show bodyPostM Fence.wide 6 Tryd.prog _ _ Exit.ret _ _
      refine ⟨by simp, .inl ⟨_, _, rfl, run_takeDeferred hK3, ?_⟩⟩
      rw [if_neg (by simp)]
      exact ⟨.tuple #[.agg #[.int .i64 0, .int .i64 0, .int .i64 0, .int .i64 0], .bool false], by simp [results, Tryd.results17, go_sem, q0, q1, q2, q3], rfl, hb5⟩
    · by_cases hX : X = s
      · obtain rfl : true = ok := by rw [← hok]; simp [hX]
        have e5 : (X.toList == s.toList) = true := (Lib.bytes_beq_iff _ _).2 hX
        have e6 : (X.toList != s.toList) = false := by rw [bne, e5]; rfl
        gi_wp2_with (refine ⟨trivial, ?_⟩; gi_at_call 16; refine (callsIn_wide.2 (CG _ hB)).mono ?_; rintro e W2 ⟨rfl, h2⟩; obtain ⟨y0, y1, y2, y3, yf⟩ := (hbox.below h2).four; obtain ⟨z0, z1, z2, z3, zf⟩ := (hz.below h2).four)
        have hK3 := deferred_kept (w.heap.size) (.int .i64 (c : Int)) (.int .i64 (k : Int)) (.int .i64 (a : Int)) (.int .i64 0) ((h2.block D hlt).trans hK)
        have BP := (BoxF.all4 (v0 := .int .i64 (c : Int)) (v1 := .int .i64 (k : Int)) (v2 := .int .i64 (a : Int)) (v3 := .int .i64 0) (hz.below h2)).kept (grownBy_putObj' _ D (.deferred none)) (by simp; omega)
        obtain ⟨q0, q1, q2, q3, _⟩ := BP.four
        have hb2 := hB.trans (h2.mono hB.size)
        have hb3 := hb2.grown (grown4 W2 w.heap.size (.int .i64 (c : Int)) (.int .i64 (k : Int)) (.int .i64 (a : Int)) (.int .i64 0)) hb2.size (fun q e => by cases e; exact Nat.le_refl _)
        have hb5 := hb3.grown (grownBy_putObj' _ D (.deferred none)) hb3.size (fun q e => by cases e; omega)
        show bodyPostM Fence.wide 6 Tryd.prog _ _ Exit.ret _ _
        refine ⟨by simp, .inl ⟨_, _, rfl, run_takeDeferred hK3, ?_⟩⟩
        rw [if_pos rfl]
        exact ⟨.tuple #[.agg #[.int .i64 (c : Int), .int .i64 (k : Int), .int .i64 (a : Int), .int .i64 0], .bool true], by simp [results, Tryd.results17, go_sem, q0, q1, q2, q3], rfl, hb5⟩
      · obtain rfl : false = ok := by rw [← hok]; simp [hX]
        have e5 : (X.toList == s.toList) = false := (Lib.bytes_beq_false_iff _ _).2 hX
        have e6 : (X.toList != s.toList) = true := by rw [bne, e5]; rfl
        gi_wp2_with (refine ⟨trivial, ?_⟩; gi_at_call 16; refine (callsIn_wide.2 (CG _ hB)).mono ?_; rintro e W2 ⟨rfl, h2⟩; obtain ⟨y0, y1, y2, y3, yf⟩ := (hbox.below h2).four; obtain ⟨z0, z1, z2, z3, zf⟩ := (hz.below h2).four)
        have hK3 := deferred_kept (w.heap.size) (.int .i64 0) (.int .i64 0) (.int .i64 0) (.int .i64 0) ((h2.block D hlt).trans hK)
        have BP := (BoxF.all4 (v0 := .int .i64 0) (v1 := .int .i64 0) (v2 := .int .i64 0) (v3 := .int .i64 0) (hz.below h2)).kept (grownBy_putObj' _ D (.deferred none)) (by simp; omega)
        obtain ⟨q0, q1, q2, q3, _⟩ := BP.four
        have hb2 := hB.trans (h2.mono hB.size)
        have hb3 := hb2.grown (grown4 W2 w.heap.size (.int .i64 0) (.int .i64 0) (.int .i64 0) (.int .i64 0)) hb2.size (fun q e => by cases e; exact Nat.le_refl _)
        have hb5 := hb3.grown (grownBy_putObj' _ D (.deferred none)) hb3.size (fun q e => by cases e; omega)
        show bodyPostM Fence.wide 6 Tryd.prog _ _ Exit.ret _ _
        refine ⟨by simp, .inl ⟨_, _, rfl, run_takeDeferred hK3, ?_⟩⟩
        rw [if_neg (by simp)]
        exact ⟨.tuple #[.agg #[.int .i64 0, .int .i64 0, .int .i64 0, .int .i64 0], .bool false], by simp [results, Tryd.results17, go_sem, q0, q1, q2, q3], rfl, hb5⟩
  case stop =>
    rintro D C' pre W hD ⟨r, hS⟩ ⟨rfl, ⟨c1, k1, a1, t1, hbox, hr⟩, hz, hB, hsz⟩ hK
    have hy : (splitL 32 s.data.toList).map strOf = pre.map (·.1) ++ r.map strOf := by rw [← hS, List.map_append, List.map_map]; rfl
    have he := hr (r.map strOf)
    rw [← hy, hrun] at he
    injection he with he1 he
    injection he with he2 he
    injection he with he3 he4
    subst he1; subst he2; subst he3; subst he4
    clear hr hy hS hrun
    have hD4 : w.heap.size + 4 ≤ D := by simp at hD; omega
    have hlt : D < W.heap.size := (Array.getElem?_eq_some_iff.1 hK).1
    obtain ⟨x0, x1, x2, x3, xf⟩ := hbox.four
    clear r0 r1 b1 b2 hB0 hT
    cases g
    · obtain rfl : false = ok := hok
      gi_wp2_with (refine ⟨trivial, ?_⟩; gi_at_call 16; refine (callsIn_wide.2 (CG _ hB)).mono ?_; rintro e W2 ⟨rfl, h2⟩; obtain ⟨y0, y1, y2, y3, yf⟩ := (hbox.below h2).four; obtain ⟨z0, z1, z2, z3, zf⟩ := (hz.below h2).four)
      have hK3 := deferred_kept (w.heap.size) (.int .i64 0) (.int .i64 0) (.int .i64 0) (.int .i64 0) ((h2.block D hlt).trans hK)
      have BP := (BoxF.all4 (v0 := .int .i64 0) (v1 := .int .i64 0) (v2 := .int .i64 0) (v3 := .int .i64 0) (hz.below h2)).kept (grownBy_putObj' _ D (.deferred none)) (by simp; omega)
      obtain ⟨q0, q1, q2, q3, _⟩ := BP.four
      have hb2 := hB.trans (h2.mono hB.size)
      have hb3 := hb2.grown (grown4 W2 w.heap.size (.int .i64 0) (.int .i64 0) (.int .i64 0) (.int .i64 0)) hb2.size (fun q e => by cases e; exact Nat.le_refl _)
      have hb5 := hb3.grown (grownBy_putObj' _ D (.deferred none)) hb3.size (fun q e => by cases e; omega)
      show bodyPostM Fence.wide 6 Tryd.prog _ _ Exit.ret _ _
      refine ⟨by simp, .inl ⟨_, _, rfl, run_takeDeferred hK3, ?_⟩⟩
      rw [if_neg (by simp)]
      exact ⟨.tuple #[.agg #[.int .i64 0, .int .i64 0, .int .i64 0, .int .i64 0], .bool false], by simp [results, Tryd.results17, go_sem, q0, q1, q2, q3], rfl, hb5⟩
    · by_cases hX : X = s
      · obtain rfl : true = ok := by rw [← hok]; simp [hX]
        have e5 : (X.toList == s.toList) = true := (Lib.bytes_beq_iff _ _).2 hX
        have e6 : (X.toList != s.toList) = false := by rw [bne, e5]; rfl
        gi_wp2_with (refine ⟨trivial, ?_⟩; gi_at_call 16; refine (callsIn_wide.2 (CG _ hB)).mono ?_; rintro e W2 ⟨rfl, h2⟩; obtain ⟨y0, y1, y2, y3, yf⟩ := (hbox.below h2).four; obtain ⟨z0, z1, z2, z3, zf⟩ := (hz.below h2).four)
        have hK3 := deferred_kept (w.heap.size) (.int .i64 (c : Int)) (.int .i64 (k : Int)) (.int .i64 (a : Int)) (.int .i64 (t : Int)) ((h2.block D hlt).trans hK)
        have BP := (BoxF.all4 (v0 := .int .i64 (c : Int)) (v1 := .int .i64 (k : Int)) (v2 := .int .i64 (a : Int)) (v3 := .int .i64 (t : Int)) (hz.below h2)).kept (grownBy_putObj' _ D (.deferred none)) (by simp; omega)
        obtain ⟨q0, q1, q2, q3, _⟩ := BP.four
        have hb2 := hB.trans (h2.mono hB.size)
        have hb3 := hb2.grown (grown4 W2 w.heap.size (.int .i64 (c : Int)) (.int .i64 (k : Int)) (.int .i64 (a : Int)) (.int .i64 (t : Int))) hb2.size (fun q e => by cases e; exact Nat.le_refl _)
        have hb5 := hb3.grown (grownBy_putObj' _ D (.deferred none)) hb3.size (fun q e => by cases e; omega)
        show bodyPostM Fence.wide 6 Tryd.prog _ _ Exit.ret _ _
        refine ⟨by simp, .inl ⟨_, _, rfl, run_takeDeferred hK3, ?_⟩⟩
        rw [if_pos rfl]
        exact ⟨.tuple #[.agg #[.int .i64 (c : Int), .int .i64 (k : Int), .int .i64 (a : Int), .int .i64 (t : Int)], .bool true], by simp [results, Tryd.results17, go_sem, q0, q1, q2, q3], rfl, hb5⟩
      · obtain rfl : false = ok := by rw [← hok]; simp [hX]
        have e5 : (X.toList == s.toList) = false := (Lib.bytes_beq_false_iff _ _).2 hX
        have e6 : (X.toList != s.toList) = true := by rw [bne, e5]; rfl
        gi_wp2_with (refine ⟨trivial, ?_⟩; gi_at_call 16; refine (callsIn_wide.2 (CG _ hB)).mono ?_; rintro e W2 ⟨rfl, h2⟩; obtain ⟨y0, y1, y2, y3, yf⟩ := (hbox.below h2).four; obtain ⟨z0, z1, z2, z3, zf⟩ := (hz.below h2).four)
        have hK3 := deferred_kept (w.heap.size) (.int .i64 0) (.int .i64 0) (.int .i64 0) (.int .i64 0) ((h2.block D hlt).trans hK)
        have BP := (BoxF.all4 (v0 := .int .i64 0) (v1 := .int .i64 0) (v2 := .int .i64 0) (v3 := .int .i64 0) (hz.below h2)).kept (grownBy_putObj' _ D (.deferred none)) (by simp; omega)
        obtain ⟨q0, q1, q2, q3, _⟩ := BP.four
        have hb2 := hB.trans (h2.mono hB.size)
        have hb3 := hb2.grown (grown4 W2 w.heap.size (.int .i64 0) (.int .i64 0) (.int .i64 0) (.int .i64 0)) hb2.size (fun q e => by cases e; exact Nat.le_refl _)
        have hb5 := hb3.grown (grownBy_putObj' _ D (.deferred none)) hb3.size (fun q e => by cases e; omega)
        show bodyPostM Fence.wide 6 Tryd.prog _ _ Exit.ret _ _
        refine ⟨by simp, .inl ⟨_, _, rfl, run_takeDeferred hK3, ?_⟩⟩
        rw [if_neg (by simp)]
        exact ⟨.tuple #[.agg #[.int .i64 0, .int .i64 0, .int .i64 0, .int .i64 0], .bool false], by simp [results, Tryd.results17, go_sem, q0, q1, q2, q3], rfl, hb5⟩
/-- Whatever the string: the program's answer is the group whose text it is, or none. -/
theorem parseGroup_impl (s : ByteArray) (hs : s.size ≤ 1048576) : ∃ (C K A T : Int) (ok : Bool), GAns s C K A T ok ∧ ∀ w, GTabs w → Calls Tryd.prog 17 #[.string s] w (AnsF w C K A T ok) := by
  obtain ⟨c, k, a, t, hrun⟩ : ∃ c k a t, runG 0 0 0 ((splitL 32 s.data.toList).map strOf) = (c, k, a, t) := ⟨_, _, _, _, rfl⟩
  have hno : ∀ C K A T : Int, gOkB C K A T = true → gtextN C.toNat K.toNat A.toNat (T - 1).toNat = s → (C = c ∧ K = k ∧ A = a ∧ T = t) := by
    intro C K A T h1 h2
    obtain ⟨g1, g2, g3, g4⟩ := gOk_out h1
    obtain ⟨i, rfl⟩ : ∃ i : Nat, T = (i : Int) + 1 := ⟨(T - 1).toNat, by omega⟩
    have ei : ((i : Int) + 1 - 1).toNat = i := by omega
    rw [ei] at h2
    have h3 := runG_text (i := i) (by omega) h1
    rw [h2, hrun] at h3
    injection h3 with e1 h3
    injection h3 with e2 h3
    injection h3 with e3 e4
    exact ⟨by omega, by omega, by omega, by omega⟩
  rcases Bool.eq_false_or_eq_true (gOkB (c : Int) (k : Int) (a : Int) (t : Int)) with h | h
  · obtain ⟨g1, g2, g3, g4⟩ := gOk_out h
    obtain ⟨i, rfl⟩ : ∃ i, t = i + 1 := ⟨t - 1, by omega⟩
    have ei : ((i + 1 : Nat) : Int) = (i : Int) + 1 := by omega
    have ej : (((i + 1 : Nat) : Int) - 1).toNat = i := by omega
    by_cases hX : gtextN c k a i = s
    · refine ⟨c, k, a, ((i + 1 : Nat) : Int), true, .inl ⟨rfl, h, ?_⟩, fun w hT => ?_⟩
      · rw [ej, Int.toNat_natCast, Int.toNat_natCast, Int.toNat_natCast]; exact hX
      · refine parse_walk s hs w hT c k a (i + 1) hrun (gtextN c k a i) true (fun W hb => ?_) true (by simp [hX])
        have hg := groupText_impl (c : Int) (k : Int) (a : Int) i W (by omega) (by rw [← ei]; exact h) (hT.below hb)
        rw [ei]
        simpa only [Int.toNat_natCast] using hg
    · refine ⟨0, 0, 0, 0, false, .inr ⟨rfl, ⟨rfl, rfl, rfl, rfl⟩, fun C K A T h1 h2 => ?_⟩, fun w hT => ?_⟩
      · obtain ⟨rfl, rfl, rfl, rfl⟩ := hno C K A T h1 h2
        rw [ej, Int.toNat_natCast, Int.toNat_natCast, Int.toNat_natCast] at h2
        exact hX h2
      · refine parse_walk s hs w hT c k a (i + 1) hrun (gtextN c k a i) true (fun W hb => ?_) false (by simp [hX])
        have hg := groupText_impl (c : Int) (k : Int) (a : Int) i W (by omega) (by rw [← ei]; exact h) (hT.below hb)
        rw [ei]
        simpa only [Int.toNat_natCast] using hg
  · refine ⟨0, 0, 0, 0, false, .inr ⟨rfl, ⟨rfl, rfl, rfl, rfl⟩, fun C K A T h1 h2 => ?_⟩, fun w hT => ?_⟩
    · obtain ⟨rfl, rfl, rfl, rfl⟩ := hno C K A T h1 h2
      rw [h1] at h
      cases h
    · exact parse_walk s hs w hT c k a t hrun ⟨#[]⟩ false (fun W hb => groupText_impl_no _ _ _ _ W h (hT.2.2.2.below hb)) false rfl
end Go.Proofs.YtklfkdmmclomoaaDoor
