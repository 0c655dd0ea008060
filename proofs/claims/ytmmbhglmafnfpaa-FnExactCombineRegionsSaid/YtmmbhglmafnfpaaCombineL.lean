/- FnExactCombineRegions: at every two regions, valid or not, and every number the law returns true: CombineRegions of the program answers as its model does, in memory of its own, and leaves its arguments as they were. No condition. -/
import Derived.Test.YtmmbhglmafnfpaaRows
import Derived.WalkKit
import Derived.ProofKit
import Derived.OpenShut
import Derived.ShutString
import Derived.Test.YtmmbhglmafnfpaaC9C
import Derived.Test.YtmmbhglmafnfpaaC9L
import Derived.Test.YtmmbhglmafnfpaaRegArg
import Derived.Deep.DeepCutAuto
import Derived.Deep.RegionHeld3
import Derived.Test.YtmmbhglmafnfpaaRegArg
import Derived.ChangeOld
import Derived.Below
namespace Go.Proofs.Ytmmbhglmafnfpaa.fnExactCombineRegions
open Go.ChangeShapes Go.WideShapes Go.ChangeAt Go.RowKit
open Go.ChangeMaps (open_string shut_string)
set_option linter.unusedVariables false

theorem own : ownKnob Try.prog.godebug = none := by kernel_rfl
theorem laidOut : laidOutB Try.prog = true := by kernel_rfl

/-- WHAT THE WALK IS TOLD OF A SLICE OF INTEGERS THAT CAME IN: it is nil; or it leads to a row of 'cap' cells, the numbers 'zs' (the first 'len' are its elements, the rest its spare room), each fitting its kind. -/
def IsRow (k : IntKind) (w : World) (a : Option Addr) (len cap : Nat) (zs : List Int) : Prop :=
  (a = none ∧ len = 0 ∧ cap = 0 ∧ zs = []) ∨
  ∃ x, a = some x ∧ len ≤ cap ∧ cap ≤ maxLen ∧ zs.length = cap ∧ (∀ i, i < zs.length → w.cell? (x.add i) = some (.int k (zs.getD i 0))) ∧ ∀ n ∈ zs, (Lit.int k n).wf = true

/-! ### STEP 1: THE WALK: the Go text returns true, AND WRITES NOTHING THAT WAS THERE: 'Below w.heap.size w w'' (Derived/Below.lean: '.refl', '.alloc', '.drew', '.setCell' at a new block, '.trans'). Open each 'IsRow' by 'rcases' AHEAD of 'go_enter'; part every test ahead of the walk. -/
set_option maxHeartbeats 16000000 in
set_option maxRecDepth 100000 in
theorem walk (a0 : Option Addr) (len0 cap0 : Nat) (z0 : List Int) (a1 : Option Addr) (len1 cap1 : Nat) (z1 : List Int) (a2 : Int) (w : World) (w0 : IsRow .i64 w a0 len0 cap0 z0) (w1 : IsRow .i64 w a1 len1 cap1 z1) (w2 : (Lit.int .i64 a2).wf = true) :
    Calls Try.prog 8 #[.agg #[.slice a0 len0 cap0], .agg #[.slice a1 len1 cap1], .int .i64 a2] w fun e w' => e = .returned (.bool true) ∧ Below w.heap.size w w' := by
  have hR0 : RdI w a0 len0 (z0.take len0) ∧ len0 ≤ maxLen ∧ WfI (z0.take len0) := by
    rcases w0 with ⟨rfl, rfl, rfl, rfl⟩ | ⟨⟨b, o, spot⟩, rfl, hl, hm, hz, hc, hwf⟩
    · exact ⟨⟨rfl, fun h => by omega⟩, by unfold maxLen; omega, fun z hz => by simp at hz⟩
    · refine ⟨⟨by simp; omega, fun hn => ?_⟩, by omega, fun z hz => ?_⟩
      · have h0 := hc 0 (by omega)
        have hspot : spot = none := by simpa [Addr.add] using World.cell?_spot h0
        subst hspot
        refine ⟨b, o, rfl, ?_, fun k hk => ?_⟩
        · simp only [Addr.add] at h0
          exact cellI_lt h0
        · have h1 := hc k (by omega)
          have e : (⟨b, o, none⟩ : Addr).add k = ⟨b, o + k, none⟩ := by unfold Addr.add; split <;> simp_all
          rw [e] at h1
          rw [h1]
          congr 2
          simp [List.getD, hk]
      · have := hwf z (List.mem_of_mem_take hz)
        simp [Lit.wf, IntKind.min, IntKind.max, IntKind.signed, IntKind.bits] at this
        omega
  obtain ⟨hR0, hl0, hw0⟩ := hR0
  obtain ⟨X0, hX0⟩ : ∃ X, z0.take len0 = X := ⟨_, rfl⟩
  rw [hX0] at hR0 hw0
  clear hX0 w0
  have hR1 : RdI w a1 len1 (z1.take len1) ∧ len1 ≤ maxLen ∧ WfI (z1.take len1) := by
    rcases w1 with ⟨rfl, rfl, rfl, rfl⟩ | ⟨⟨b, o, spot⟩, rfl, hl, hm, hz, hc, hwf⟩
    · exact ⟨⟨rfl, fun h => by omega⟩, by unfold maxLen; omega, fun z hz => by simp at hz⟩
    · refine ⟨⟨by simp; omega, fun hn => ?_⟩, by omega, fun z hz => ?_⟩
      · have h0 := hc 0 (by omega)
        have hspot : spot = none := by simpa [Addr.add] using World.cell?_spot h0
        subst hspot
        refine ⟨b, o, rfl, ?_, fun k hk => ?_⟩
        · simp only [Addr.add] at h0
          exact cellI_lt h0
        · have h1 := hc k (by omega)
          have e : (⟨b, o, none⟩ : Addr).add k = ⟨b, o + k, none⟩ := by unfold Addr.add; split <;> simp_all
          rw [e] at h1
          rw [h1]
          congr 2
          simp [List.getD, hk]
      · have := hwf z (List.mem_of_mem_take hz)
        simp [Lit.wf, IntKind.min, IntKind.max, IntKind.signed, IntKind.bits] at this
        omega
  obtain ⟨hR1, hl1, hw1⟩ := hR1
  obtain ⟨X1, hX1⟩ : ∃ X, z1.take len1 = X := ⟨_, rfl⟩
  rw [hX1] at hR1 hw1
  clear hX1 w1
  by_cases hbig : (1048576 : Int) < (len0 : Int)
  · clear hR0 hw0 hR1 hw1
    have B_arg0 := Lib.hid ((BoxF.new w [.slice a0 len0 cap0] 25).alloc (.cells #[.slice a1 len1 cap1] 25 (0, 0)))
    have B_arg1_ := BoxF.new (w.alloc (.cells #[.slice a0 len0 cap0] 25 (0, 0))) [.slice a1 len1 cap1] 25
    simp only [World.size_alloc] at B_arg1_
    have B_arg1 := Lib.hid B_arg1_
    clear B_arg1_
    have HB := Lib.hid (((Below.refl w.heap.size w).alloc (Nat.le_refl _) (.cells #[.slice a0 len0 cap0] 25 (0, 0))).alloc (by simp) (.cells #[.slice a1 len1 cap1] 25 (0, 0)))
    go_enter Try.func8, Try.ntmps8
    have c_arg0 := B_arg0.out.one.1
    go_wp2_with fail
    clear c_arg0
    refine (szRegion_big a0 len0 cap0 1048576 _ (by omega) (by omega) hl0).mono ?_
    rintro e w1 ⟨rfl, hb_⟩
    have z_w1 := hb_.size
    try simp only [World.size_alloc] at z_w1
    have B_arg0_ := Lib.hid (B_arg0.out.below hb_)
    have B_arg1_ := Lib.hid (B_arg1.out.below hb_)
    have HB_ := Lib.hid (HB.out.trans (hb_.mono HB.out.size))
    clear B_arg0 B_arg1 HB
    have B_arg0 := B_arg0_
    have B_arg1 := B_arg1_
    have HB := HB_
    clear B_arg0_ B_arg1_ HB_
    clear hb_
    go_wp2_with fail
    go_ret
    exact ⟨rfl, HB.out⟩
  have e1 : decide ((1048576 : Int) - (len0 : Int) < 0) = false := by simp; omega
  by_cases hbig2 : (1048576 : Int) < (len0 : Int) + (len1 : Int)
  · clear hR0 hw0 hR1 hw1
    have B_arg0 := Lib.hid ((BoxF.new w [.slice a0 len0 cap0] 25).alloc (.cells #[.slice a1 len1 cap1] 25 (0, 0)))
    have B_arg1_ := BoxF.new (w.alloc (.cells #[.slice a0 len0 cap0] 25 (0, 0))) [.slice a1 len1 cap1] 25
    simp only [World.size_alloc] at B_arg1_
    have B_arg1 := Lib.hid B_arg1_
    clear B_arg1_
    have HB := Lib.hid (((Below.refl w.heap.size w).alloc (Nat.le_refl _) (.cells #[.slice a0 len0 cap0] 25 (0, 0))).alloc (by simp) (.cells #[.slice a1 len1 cap1] 25 (0, 0)))
    go_enter Try.func8, Try.ntmps8
    have c_arg0 := B_arg0.out.one.1
    go_wp2_with fail
    clear c_arg0
    refine (szRegion_ok a0 len0 cap0 1048576 _ (by omega) (by omega)).mono ?_
    rintro e w1 ⟨rfl, hb_⟩
    have z_w1 := hb_.size
    try simp only [World.size_alloc] at z_w1
    have B_arg0_ := Lib.hid (B_arg0.out.below hb_)
    have B_arg1_ := Lib.hid (B_arg1.out.below hb_)
    have HB_ := Lib.hid (HB.out.trans (hb_.mono HB.out.size))
    clear B_arg0 B_arg1 HB
    have B_arg0 := B_arg0_
    have B_arg1 := B_arg1_
    have HB := HB_
    clear B_arg0_ B_arg1_ HB_
    clear hb_
    have c_arg1 := B_arg1.out.one.1
    go_wp2_with fail
    clear c_arg1
    refine (szRegion_big a1 len1 cap1 (1048576 - (len0 : Int)) _ (by omega) (by omega) hl1).mono ?_
    rintro e w2 ⟨rfl, hb_⟩
    have z_w2 := hb_.size
    try simp only [World.size_alloc] at z_w2
    have B_arg0_ := Lib.hid (B_arg0.out.below hb_)
    have B_arg1_ := Lib.hid (B_arg1.out.below hb_)
    have HB_ := Lib.hid (HB.out.trans (hb_.mono HB.out.size))
    clear B_arg0 B_arg1 HB
    have B_arg0 := B_arg0_
    have B_arg1 := B_arg1_
    have HB := HB_
    clear B_arg0_ B_arg1_ HB_
    clear hb_
    go_wp2_with fail
    go_ret
    exact ⟨rfl, HB.out⟩
  have e2 : decide ((1048576 : Int) - (len0 : Int) - (len1 : Int) < 0) = false := by simp; omega
  have e3 : decide ((1 : Int) + (len0 : Int) + (len1 : Int) < 0) = false := by simp; omega
  obtain ⟨X, n, ok, hn24, CS, CI⟩ : ∃ (X : List Int) (n : Nat) (ok : Bool), n ≤ 24 ∧ (∀ W a1 c1 a2' c2, RdI W a1 len0 X0 → RdI W a2' len1 X1 → Calls Try.prog 28 #[.agg #[.slice a1 len0 c1], .agg #[.slice a2' len1 c2], .int .i64 a2] W (AnsRB W X n ok)) ∧ (∀ W a1 c1 a2' c2, RdI W a1 len0 X0 → RdI W a2' len1 X1 → Calls Try.prog 29 #[.agg #[.slice a1 len0 c1], .agg #[.slice a2' len1 c2], .int .i64 a2] W (AnsRB W X n ok)) := by
    by_cases h : goodR X0 = true ∧ goodR X1 = true ∧ (1 ≤ a2 ∧ a2 ≤ 3)
    · have k0 : len0 = 24 := by rw [← hR0.1]; exact goodR_len h.1
      have k1 : len1 = 24 := by rw [← hR1.1]; exact goodR_len h.2.1
      subst k0
      subst k1
      exact ⟨_, 24, true, by omega, fun W a1 c1 a2' c2 h1 h2 => comb_spec X0 X1 a2 c1 c2 a1 a2' W h1 h2 h.1 h.2.1 h.2.2.1 h.2.2.2, fun W a1 c1 a2' c2 h1 h2 => comb_impl X0 X1 a2 c1 c2 a1 a2' W h1 h2 hw0 hw1 h.1 h.2.1 h.2.2.1 h.2.2.2⟩
    · exact ⟨[], 0, false, by omega, fun W a1 c1 a2' c2 h1 h2 => comb_spec_no X0 X1 a2 len0 len1 c1 c2 a1 a2' W h1 h2 (by omega) (by omega) h, fun W a1 c1 a2' c2 h1 h2 => comb_impl_no X0 X1 a2 len0 len1 c1 c2 a1 a2' W h1 h2 hw0 hw1 (by omega) (by omega) h⟩
  have eok : (ok != ok) = false := by simp
  have e0 : decide ((1 : Int) + (n : Int) < 0) = false := by simp; omega
  have HS := Lib.hid CS
  have HI := Lib.hid CI
  have RW0 := Lib.hid hR0
  have RW1 := Lib.hid hR1
  have hn0 : len0 ≤ 1048576 := by omega
  have hsum : (len0 : Int) + (len1 : Int) ≤ 1048576 := by omega
  have hn1 : len1 ≤ 1048576 := by omega
  clear CS CI hR0 hR1 hw0 hw1 hbig hbig2 w2
  have B_arg0 := Lib.hid ((BoxF.new w [.slice a0 len0 cap0] 25).alloc (.cells #[.slice a1 len1 cap1] 25 (0, 0)))
  have B_arg1_ := BoxF.new (w.alloc (.cells #[.slice a0 len0 cap0] 25 (0, 0))) [.slice a1 len1 cap1] 25
  simp only [World.size_alloc] at B_arg1_
  have B_arg1 := Lib.hid B_arg1_
  clear B_arg1_
  have HB := Lib.hid (((Below.refl w.heap.size w).alloc (Nat.le_refl _) (.cells #[.slice a0 len0 cap0] 25 (0, 0))).alloc (by simp) (.cells #[.slice a1 len1 cap1] 25 (0, 0)))
  go_enter Try.func8, Try.ntmps8
  have c_arg0 := B_arg0.out.one.1
  go_wp2_with fail
  clear c_arg0
  refine (szRegion_ok a0 len0 cap0 1048576 _ (by omega) (by omega)).mono ?_
  rintro e w1 ⟨rfl, hb_⟩
  have z_w1 := hb_.size
  try simp only [World.size_alloc] at z_w1
  have B_arg0_ := Lib.hid (B_arg0.out.below hb_)
  have B_arg1_ := Lib.hid (B_arg1.out.below hb_)
  have HB_ := Lib.hid (HB.out.trans (hb_.mono HB.out.size))
  clear B_arg0 B_arg1 HB
  have B_arg0 := B_arg0_
  have B_arg1 := B_arg1_
  have HB := HB_
  clear B_arg0_ B_arg1_ HB_
  clear hb_
  have c_arg1 := B_arg1.out.one.1
  go_wp2_with fail
  clear c_arg1
  refine (szRegion_ok a1 len1 cap1 (1048576 - (len0 : Int)) _ (by omega) (by omega)).mono ?_
  rintro e w2 ⟨rfl, hb_⟩
  have z_w2 := hb_.size
  try simp only [World.size_alloc] at z_w2
  have B_arg0_ := Lib.hid (B_arg0.out.below hb_)
  have B_arg1_ := Lib.hid (B_arg1.out.below hb_)
  have HB_ := Lib.hid (HB.out.trans (hb_.mono HB.out.size))
  clear B_arg0 B_arg1 HB
  have B_arg0 := B_arg0_
  have B_arg1 := B_arg1_
  have HB := HB_
  clear B_arg0_ B_arg1_ HB_
  clear hb_
  go_upto_region 8 with fail
  go_cut [8, 9] (fun sx sy wx => ∃ (q : Nat) (aS : Option Addr) (cS : Nat), sx = .pointer (some ⟨q, 0, none⟩) ∧ sy = .bool ok ∧ BoxF wx q [.slice aS n cS] 28 ∧ OwnI wx w2.heap.size aS n cS X ∧ Below w2.heap.size w2 wx)
  case first =>
    refine wp_region_noPanic ?_
    refine wp_region_held_drew (S := fun W => Below w2.heap.size w2 W) (by kernel_rfl) (below_drewN' (Below.refl _ w2) 1) (fun hHeld => ?_)
    have HK0 := Lib.hid (fun W (h : Below w2.heap.size w2 W) => (B_arg0.out.below h).one.1)
    have HK1 := Lib.hid (fun W (h : Below w2.heap.size w2 W) => (B_arg1.out.below h).one.1)
    have HZ0 := HB.out.size
    generalize w2.drew = Wd at *
    refine wpAnyH_take (i := 0) (oi := { dst := some 30, op := _, type := _, pos := _, after := _, guard := _ }) (v := .agg #[.slice a0 len0 cap0]) rfl (by kernel_rfl) (by kernel_rfl) (by kernel_rfl) (fun _ _ _ h => h) (Or.inl ⟨by rfl, ?_⟩) hHeld ?_
    · (intro w_ hSw; have c_ := HK0.out _ hSw; clear hSw; go_simp; first | done | with_reducible rfl | rfl | (intro h_; omega) | (simp only [IntKind.wrap, IntKind.bits, IntKind.signed]; omega) | (simp [IntKind.wrap, IntKind.bits, IntKind.signed]; omega))
    set_option linter.unusedSimpArgs false in try simp only [Act.put, List.setIfInBounds_toArray, List.set_cons_zero, List.set_cons_succ]
    refine wpAnyH_take (i := 2) (oi := { dst := some 32, op := _, type := _, pos := _, after := _, guard := _ }) (v := .agg #[.slice a1 len1 cap1]) rfl (by kernel_rfl) (by kernel_rfl) (by kernel_rfl) (fun _ _ _ h => h) (Or.inl ⟨by rfl, ?_⟩) hHeld ?_
    · (intro w_ hSw; have c_ := HK1.out _ hSw; clear hSw; go_simp; first | done | with_reducible rfl | rfl | (intro h_; omega) | (simp only [IntKind.wrap, IntKind.bits, IntKind.signed]; omega) | (simp [IntKind.wrap, IntKind.bits, IntKind.signed]; omega))
    set_option linter.unusedSimpArgs false in try simp only [Act.put, List.setIfInBounds_toArray, List.set_cons_zero, List.set_cons_succ]
    refine wpAnyH_take (i := 4) (oi := { dst := some 34, op := _, type := _, pos := _, after := _, guard := _ }) (v := .int .i64 a2) rfl (by kernel_rfl) (by kernel_rfl) (by kernel_rfl) (fun _ _ _ h => h) (Or.inl ⟨by rfl, ?_⟩) hHeld ?_
    · (intro w_ hSw; clear hSw; go_simp; first | done | with_reducible rfl | rfl | (intro h_; omega) | (simp only [IntKind.wrap, IntKind.bits, IntKind.signed]; omega) | (simp [IntKind.wrap, IntKind.bits, IntKind.signed]; omega))
    set_option linter.unusedSimpArgs false in try simp only [Act.put, List.setIfInBounds_toArray, List.set_cons_zero, List.set_cons_succ]
    refine wpAnyH_ready (rs := [1, 9]) (by kernel_rfl) (by simp) ?_
    refine AllReadyH.cons rfl (fun K hK => ?_) ?_
    · try rw [if_pos (by rfl)]
      go_simp
      refine (toRegion_any X0 len0 a0 cap0 _ (RW0.out.below (HB.out.trans (hHeld.mono HB.out.size))) (by omega)).mono ?_
      rintro e v1 ⟨g_1, rfl, ho_, hb_⟩
      have hS : Below w2.heap.size w2 v1 := hHeld.trans (hb_.mono hHeld.size)
      have z_v1 := hb_.size
      have r_1 := Lib.hid ho_.rd
      clear ho_ hb_ hHeld
      go_wp2_with fail
      refine hK.out _ _ hS (fun hHeld => ?_)
      clear hK K hS
      set_option linter.unusedSimpArgs false in try simp only [Act.put, List.setIfInBounds_toArray, List.set_cons_zero, List.set_cons_succ]
      refine wpAnyH_ready (rs := [3, 9]) (by kernel_rfl) (by simp) ?_
      refine AllReadyH.cons rfl (fun K hK => ?_) ?_
      · try rw [if_pos (by rfl)]
        go_simp
        refine (toRegion_any X1 len1 a1 cap1 _ (RW1.out.below (HB.out.trans (hHeld.mono HB.out.size))) (by omega)).mono ?_
        rintro e v2 ⟨g_3, rfl, ho_, hb_⟩
        have hS : Below w2.heap.size w2 v2 := hHeld.trans (hb_.mono hHeld.size)
        have z_v2 := hb_.size
        have r_1 := Lib.hid (r_1.out.below hb_)
        have r_3 := Lib.hid ho_.rd
        clear ho_ hb_ hHeld
        go_wp2_with fail
        refine hK.out _ _ hS (fun hHeld => ?_)
        clear hK K hS
        set_option linter.unusedSimpArgs false in try simp only [Act.put, List.setIfInBounds_toArray, List.set_cons_zero, List.set_cons_succ]
        refine wpAnyH_ready (rs := [5, 9]) (by kernel_rfl) (by simp) ?_
        refine AllReadyH.cons rfl (fun K hK => ?_) ?_
        · try rw [if_pos (by rfl)]
          go_simp
          refine (HS.out _ _ _ _ _ r_1.out r_3.out).mono ?_
          rintro e v3 ⟨aS, cS, rfl, ho_, hb_⟩
          have lS : ∀ q, (Value.slice aS n cS).ownBlock = some q → _ := fun q hq => World.ownsRow.lt ho_ q hq
          have hb0 := hHeld.size
          have hS : Below w2.heap.size w2 v3 := hHeld.trans (hb_.mono hHeld.size)
          have z_v3 := hb_.size
          have r_1 := Lib.hid (r_1.out.below hb_)
          have r_3 := Lib.hid (r_3.out.below hb_)
          have oS := Lib.hid ho_
          clear ho_ hb_ hHeld
          go_wp2_with fail
          refine hK.out _ _ hS (fun hHeld => ?_)
          clear hK K hS
          set_option linter.unusedSimpArgs false in try simp only [Act.put, List.setIfInBounds_toArray, List.set_cons_zero, List.set_cons_succ]
          refine wpAnyH_take (i := 6) (oi := { dst := some 29, op := _, type := _, pos := _, after := _, guard := _ }) (v := .tuple #[.agg #[.slice aS n cS], .bool ok]) rfl (by kernel_rfl) (by kernel_rfl) (by kernel_rfl) (fun _ _ _ h => h) (Or.inl ⟨by rfl, ?_⟩) hHeld ?_
          · (intro w_ hSw; clear hSw; go_simp; first | done | with_reducible rfl | rfl | (intro h_; omega) | (simp only [IntKind.wrap, IntKind.bits, IntKind.signed]; omega) | (simp [IntKind.wrap, IntKind.bits, IntKind.signed]; omega))
          set_option linter.unusedSimpArgs false in try simp only [Act.put, List.setIfInBounds_toArray, List.set_cons_zero, List.set_cons_succ]
          refine wpAnyH_take (i := 7) (oi := { dst := some 36, op := _, type := _, pos := _, after := _, guard := _ }) (v := .agg #[.slice aS n cS]) rfl (by kernel_rfl) (by kernel_rfl) (by kernel_rfl) (fun _ _ _ h => h) (Or.inl ⟨by rfl, ?_⟩) hHeld ?_
          · (intro w_ hSw; clear hSw; go_simp; first | done | with_reducible rfl | rfl | (intro h_; omega) | (simp only [IntKind.wrap, IntKind.bits, IntKind.signed]; omega) | (simp [IntKind.wrap, IntKind.bits, IntKind.signed]; omega))
          set_option linter.unusedSimpArgs false in try simp only [Act.put, List.setIfInBounds_toArray, List.set_cons_zero, List.set_cons_succ]
          refine wpAnyH_take (i := 8) (oi := { dst := some 37, op := _, type := _, pos := _, after := _, guard := _ }) (v := .bool ok) rfl (by kernel_rfl) (by kernel_rfl) (by kernel_rfl) (fun _ _ _ h => h) (Or.inl ⟨by rfl, ?_⟩) hHeld ?_
          · (intro w_ hSw; clear hSw; go_simp; first | done | with_reducible rfl | rfl | (intro h_; omega) | (simp only [IntKind.wrap, IntKind.bits, IntKind.signed]; omega) | (simp [IntKind.wrap, IntKind.bits, IntKind.signed]; omega))
          set_option linter.unusedSimpArgs false in try simp only [Act.put, List.setIfInBounds_toArray, List.set_cons_zero, List.set_cons_succ]
          refine wpAnyH_ready (rs := [9]) (by kernel_rfl) (by simp) ?_
          refine AllReadyH.cons rfl (fun K hK => ?_) ?_
          · go_simp
            have qb0 := (BoxF.new v3 [.slice none 0 0] 28).one
            have c_q := qb0.1
            have f_q := qb0.2 0
            have ha0 := (Below.refl v3.heap.size v3).alloc (Nat.le_refl _) (.cells #[.slice none 0 0] 28 (0, 0))
            have ha9 := (Below.refl v3.heap.size v3).alloc (Nat.le_refl _) (.cells #[.slice aS n cS] 28 (0, 0))
            have qb9 := Lib.hid (BoxF.new v3 [.slice aS n cS] 28)
            have oS9 := Lib.hid (oS.out.below ha9)
            have hS0 : Below w2.heap.size w2 (v3.alloc (.cells #[.slice none 0 0] 28 (0, 0))) := hHeld.trans (ha0.mono hHeld.size)
            have hS : Below w2.heap.size w2 (v3.alloc (.cells #[.slice aS n cS] 28 (0, 0))) := hHeld.trans (ha9.mono hHeld.size)
            have hz0 := hHeld.size
            clear qb0 ha0 ha9 hHeld
            refine hK.out _ _ hS0 (fun hHeld => ?_)
            clear hK K hS0
            set_option linter.unusedSimpArgs false in try simp only [Act.put, List.setIfInBounds_toArray, List.set_cons_zero, List.set_cons_succ]
            refine wpAnyH_ready (rs := [10]) (by kernel_rfl) (by simp) ?_
            refine AllReadyH.cons rfl (fun K hK => ?_) ?_
            rotate_left
            · exact AllReadyH.nil
            try rw [if_pos (by rfl)]
            go_simp
            refine hK.out _ _ hS (fun hHeld => ?_)
            clear hK K
            set_option linter.unusedSimpArgs false in try simp only [Act.put, List.setIfInBounds_toArray, List.set_cons_zero, List.set_cons_succ]
            refine wpAnyH_take (i := 11) (oi := { dst := some 9, op := _, type := _, pos := _, after := _, guard := _ }) (v := .bool ok) rfl (by kernel_rfl) (by kernel_rfl) (by kernel_rfl) (fun _ _ _ h => h) (Or.inl ⟨by rfl, ?_⟩) hHeld ?_
            · (intro w_ hSw; clear hSw; go_simp; first | done | with_reducible rfl | rfl | (intro h_; omega) | (simp only [IntKind.wrap, IntKind.bits, IntKind.signed]; omega) | (simp [IntKind.wrap, IntKind.bits, IntKind.signed]; omega))
            set_option linter.unusedSimpArgs false in try simp only [Act.put, List.setIfInBounds_toArray, List.set_cons_zero, List.set_cons_succ]
            refine wpAnyH_done (by kernel_rfl) ?_ _
            refine NoPanic.normal ?_
            have HS9 := Lib.hid hS
            clear hS hHeld c_q f_q
            go_wp2_with fail
            go_meet
            case rel => exact ⟨_, aS, cS, rfl, rfl, qb9.out, OwnI.low oS9.out (by first | omega | (simp; omega)), HS9.out⟩
          exact AllReadyH.nil
        refine AllReadyH.cons rfl (fun K hK => ?_) ?_
        · go_simp
          have qb := Lib.hid (BoxF.new v2 [.slice none 0 0] 28)
          have hq0 := hHeld.size
          have ha_ := (Below.refl v2.heap.size v2).alloc (Nat.le_refl _) (.cells #[.slice none 0 0] 28 (0, 0))
          have hS : Below w2.heap.size w2 (v2.alloc (.cells #[.slice none 0 0] 28 (0, 0))) := hHeld.trans (ha_.mono hHeld.size)
          have r_1 := Lib.hid (r_1.out.below ha_)
          have r_3 := Lib.hid (r_3.out.below ha_)
          clear ha_ hHeld
          refine hK.out _ _ hS (fun hHeld => ?_)
          clear hK K hS
          set_option linter.unusedSimpArgs false in try simp only [Act.put, List.setIfInBounds_toArray, List.set_cons_zero, List.set_cons_succ]
          refine wpAnyH_ready (rs := [5]) (by kernel_rfl) (by simp) ?_
          refine AllReadyH.cons rfl (fun K hK => ?_) ?_
          · try rw [if_pos (by rfl)]
            go_simp
            refine (HS.out _ _ _ _ _ r_1.out r_3.out).mono ?_
            rintro e v6 ⟨aS, cS, rfl, ho_, hb_⟩
            have lS : ∀ q, (Value.slice aS n cS).ownBlock = some q → _ := fun q hq => World.ownsRow.lt ho_ q hq
            have hb0 := hHeld.size
            have hS : Below w2.heap.size w2 v6 := hHeld.trans (hb_.mono hHeld.size)
            have z_v6 := hb_.size
            have r_1 := Lib.hid (r_1.out.below hb_)
            have r_3 := Lib.hid (r_3.out.below hb_)
            have qb := Lib.hid (qb.out.below hb_)
            have oS := Lib.hid ho_
            clear ho_ hb_ hHeld
            go_wp2_with fail
            refine hK.out _ _ hS (fun hHeld => ?_)
            clear hK K hS
            set_option linter.unusedSimpArgs false in try simp only [Act.put, List.setIfInBounds_toArray, List.set_cons_zero, List.set_cons_succ]
            refine wpAnyH_take (i := 6) (oi := { dst := some 29, op := _, type := _, pos := _, after := _, guard := _ }) (v := .tuple #[.agg #[.slice aS n cS], .bool ok]) rfl (by kernel_rfl) (by kernel_rfl) (by kernel_rfl) (fun _ _ _ h => h) (Or.inl ⟨by rfl, ?_⟩) hHeld ?_
            · (intro w_ hSw; clear hSw; go_simp; first | done | with_reducible rfl | rfl | (intro h_; omega) | (simp only [IntKind.wrap, IntKind.bits, IntKind.signed]; omega) | (simp [IntKind.wrap, IntKind.bits, IntKind.signed]; omega))
            set_option linter.unusedSimpArgs false in try simp only [Act.put, List.setIfInBounds_toArray, List.set_cons_zero, List.set_cons_succ]
            refine wpAnyH_take (i := 7) (oi := { dst := some 36, op := _, type := _, pos := _, after := _, guard := _ }) (v := .agg #[.slice aS n cS]) rfl (by kernel_rfl) (by kernel_rfl) (by kernel_rfl) (fun _ _ _ h => h) (Or.inl ⟨by rfl, ?_⟩) hHeld ?_
            · (intro w_ hSw; clear hSw; go_simp; first | done | with_reducible rfl | rfl | (intro h_; omega) | (simp only [IntKind.wrap, IntKind.bits, IntKind.signed]; omega) | (simp [IntKind.wrap, IntKind.bits, IntKind.signed]; omega))
            set_option linter.unusedSimpArgs false in try simp only [Act.put, List.setIfInBounds_toArray, List.set_cons_zero, List.set_cons_succ]
            refine wpAnyH_take (i := 8) (oi := { dst := some 37, op := _, type := _, pos := _, after := _, guard := _ }) (v := .bool ok) rfl (by kernel_rfl) (by kernel_rfl) (by kernel_rfl) (fun _ _ _ h => h) (Or.inl ⟨by rfl, ?_⟩) hHeld ?_
            · (intro w_ hSw; clear hSw; go_simp; first | done | with_reducible rfl | rfl | (intro h_; omega) | (simp only [IntKind.wrap, IntKind.bits, IntKind.signed]; omega) | (simp [IntKind.wrap, IntKind.bits, IntKind.signed]; omega))
            set_option linter.unusedSimpArgs false in try simp only [Act.put, List.setIfInBounds_toArray, List.set_cons_zero, List.set_cons_succ]
            have c_q := qb.out.one.1
            have f_q := qb.out.one.2 0
            have hg_ := grownBy_set v6 (v2.heap.size) 0 (.slice aS n cS)
            have qb9 := Lib.hid (qb.out.set 0 (.slice aS n cS))
            have oS9 := Lib.hid (oS.out.kept hg_ (by
              cases hq : (Value.slice aS n cS).ownBlock with
              | none => exact .inl rfl
              | some q => refine .inr ?_; intro e; cases e; have h1 := lS _ hq; (try simp only [World.size_alloc] at *); omega))
            have hS : Below w2.heap.size w2 (v6.setCell ⟨v2.heap.size, 0, none⟩ (.slice aS n cS)) := hHeld.grown hg_ hHeld.size (fun q hq => by cases hq; omega)
            refine wpAnyH_ready (rs := [10]) (by kernel_rfl) (by simp) ?_
            refine AllReadyH.cons rfl (fun K hK => ?_) ?_
            rotate_left
            · exact AllReadyH.nil
            try rw [if_pos (by rfl)]
            go_simp
            refine hK.out _ _ hS (fun hHeld => ?_)
            clear hK K
            set_option linter.unusedSimpArgs false in try simp only [Act.put, List.setIfInBounds_toArray, List.set_cons_zero, List.set_cons_succ]
            refine wpAnyH_take (i := 11) (oi := { dst := some 9, op := _, type := _, pos := _, after := _, guard := _ }) (v := .bool ok) rfl (by kernel_rfl) (by kernel_rfl) (by kernel_rfl) (fun _ _ _ h => h) (Or.inl ⟨by rfl, ?_⟩) hHeld ?_
            · (intro w_ hSw; clear hSw; go_simp; first | done | with_reducible rfl | rfl | (intro h_; omega) | (simp only [IntKind.wrap, IntKind.bits, IntKind.signed]; omega) | (simp [IntKind.wrap, IntKind.bits, IntKind.signed]; omega))
            set_option linter.unusedSimpArgs false in try simp only [Act.put, List.setIfInBounds_toArray, List.set_cons_zero, List.set_cons_succ]
            refine wpAnyH_done (by kernel_rfl) ?_ _
            refine NoPanic.normal ?_
            have HS9 := Lib.hid hS
            clear hS hHeld hg_ c_q f_q
            go_wp2_with fail
            go_meet
            case rel => exact ⟨_, aS, cS, rfl, rfl, qb9.out, OwnI.low oS9.out (by first | omega | (simp; omega)), HS9.out⟩
          exact AllReadyH.nil
        exact AllReadyH.nil
      refine AllReadyH.cons rfl (fun K hK => ?_) ?_
      · go_simp
        have qb := Lib.hid (BoxF.new v1 [.slice none 0 0] 28)
        have hq0 := hHeld.size
        have ha_ := (Below.refl v1.heap.size v1).alloc (Nat.le_refl _) (.cells #[.slice none 0 0] 28 (0, 0))
        have hS : Below w2.heap.size w2 (v1.alloc (.cells #[.slice none 0 0] 28 (0, 0))) := hHeld.trans (ha_.mono hHeld.size)
        have r_1 := Lib.hid (r_1.out.below ha_)
        clear ha_ hHeld
        refine hK.out _ _ hS (fun hHeld => ?_)
        clear hK K hS
        set_option linter.unusedSimpArgs false in try simp only [Act.put, List.setIfInBounds_toArray, List.set_cons_zero, List.set_cons_succ]
        refine wpAnyH_ready (rs := [3]) (by kernel_rfl) (by simp) ?_
        refine AllReadyH.cons rfl (fun K hK => ?_) ?_
        · try rw [if_pos (by rfl)]
          go_simp
          refine (toRegion_any X1 len1 a1 cap1 _ (RW1.out.below (HB.out.trans (hHeld.mono HB.out.size))) (by omega)).mono ?_
          rintro e v8 ⟨g_3, rfl, ho_, hb_⟩
          have hS : Below w2.heap.size w2 v8 := hHeld.trans (hb_.mono hHeld.size)
          have z_v8 := hb_.size
          have r_1 := Lib.hid (r_1.out.below hb_)
          have qb := Lib.hid (qb.out.below hb_)
          have r_3 := Lib.hid ho_.rd
          clear ho_ hb_ hHeld
          go_wp2_with fail
          refine hK.out _ _ hS (fun hHeld => ?_)
          clear hK K hS
          set_option linter.unusedSimpArgs false in try simp only [Act.put, List.setIfInBounds_toArray, List.set_cons_zero, List.set_cons_succ]
          refine wpAnyH_ready (rs := [5]) (by kernel_rfl) (by simp) ?_
          refine AllReadyH.cons rfl (fun K hK => ?_) ?_
          · try rw [if_pos (by rfl)]
            go_simp
            refine (HS.out _ _ _ _ _ r_1.out r_3.out).mono ?_
            rintro e v9 ⟨aS, cS, rfl, ho_, hb_⟩
            have lS : ∀ q, (Value.slice aS n cS).ownBlock = some q → _ := fun q hq => World.ownsRow.lt ho_ q hq
            have hb0 := hHeld.size
            have hS : Below w2.heap.size w2 v9 := hHeld.trans (hb_.mono hHeld.size)
            have z_v9 := hb_.size
            have r_1 := Lib.hid (r_1.out.below hb_)
            have qb := Lib.hid (qb.out.below hb_)
            have r_3 := Lib.hid (r_3.out.below hb_)
            have oS := Lib.hid ho_
            clear ho_ hb_ hHeld
            go_wp2_with fail
            refine hK.out _ _ hS (fun hHeld => ?_)
            clear hK K hS
            set_option linter.unusedSimpArgs false in try simp only [Act.put, List.setIfInBounds_toArray, List.set_cons_zero, List.set_cons_succ]
            refine wpAnyH_take (i := 6) (oi := { dst := some 29, op := _, type := _, pos := _, after := _, guard := _ }) (v := .tuple #[.agg #[.slice aS n cS], .bool ok]) rfl (by kernel_rfl) (by kernel_rfl) (by kernel_rfl) (fun _ _ _ h => h) (Or.inl ⟨by rfl, ?_⟩) hHeld ?_
            · (intro w_ hSw; clear hSw; go_simp; first | done | with_reducible rfl | rfl | (intro h_; omega) | (simp only [IntKind.wrap, IntKind.bits, IntKind.signed]; omega) | (simp [IntKind.wrap, IntKind.bits, IntKind.signed]; omega))
            set_option linter.unusedSimpArgs false in try simp only [Act.put, List.setIfInBounds_toArray, List.set_cons_zero, List.set_cons_succ]
            refine wpAnyH_take (i := 7) (oi := { dst := some 36, op := _, type := _, pos := _, after := _, guard := _ }) (v := .agg #[.slice aS n cS]) rfl (by kernel_rfl) (by kernel_rfl) (by kernel_rfl) (fun _ _ _ h => h) (Or.inl ⟨by rfl, ?_⟩) hHeld ?_
            · (intro w_ hSw; clear hSw; go_simp; first | done | with_reducible rfl | rfl | (intro h_; omega) | (simp only [IntKind.wrap, IntKind.bits, IntKind.signed]; omega) | (simp [IntKind.wrap, IntKind.bits, IntKind.signed]; omega))
            set_option linter.unusedSimpArgs false in try simp only [Act.put, List.setIfInBounds_toArray, List.set_cons_zero, List.set_cons_succ]
            refine wpAnyH_take (i := 8) (oi := { dst := some 37, op := _, type := _, pos := _, after := _, guard := _ }) (v := .bool ok) rfl (by kernel_rfl) (by kernel_rfl) (by kernel_rfl) (fun _ _ _ h => h) (Or.inl ⟨by rfl, ?_⟩) hHeld ?_
            · (intro w_ hSw; clear hSw; go_simp; first | done | with_reducible rfl | rfl | (intro h_; omega) | (simp only [IntKind.wrap, IntKind.bits, IntKind.signed]; omega) | (simp [IntKind.wrap, IntKind.bits, IntKind.signed]; omega))
            set_option linter.unusedSimpArgs false in try simp only [Act.put, List.setIfInBounds_toArray, List.set_cons_zero, List.set_cons_succ]
            have c_q := qb.out.one.1
            have f_q := qb.out.one.2 0
            have hg_ := grownBy_set v9 (v1.heap.size) 0 (.slice aS n cS)
            have qb9 := Lib.hid (qb.out.set 0 (.slice aS n cS))
            have oS9 := Lib.hid (oS.out.kept hg_ (by
              cases hq : (Value.slice aS n cS).ownBlock with
              | none => exact .inl rfl
              | some q => refine .inr ?_; intro e; cases e; have h1 := lS _ hq; (try simp only [World.size_alloc] at *); omega))
            have hS : Below w2.heap.size w2 (v9.setCell ⟨v1.heap.size, 0, none⟩ (.slice aS n cS)) := hHeld.grown hg_ hHeld.size (fun q hq => by cases hq; omega)
            refine wpAnyH_ready (rs := [10]) (by kernel_rfl) (by simp) ?_
            refine AllReadyH.cons rfl (fun K hK => ?_) ?_
            rotate_left
            · exact AllReadyH.nil
            try rw [if_pos (by rfl)]
            go_simp
            refine hK.out _ _ hS (fun hHeld => ?_)
            clear hK K
            set_option linter.unusedSimpArgs false in try simp only [Act.put, List.setIfInBounds_toArray, List.set_cons_zero, List.set_cons_succ]
            refine wpAnyH_take (i := 11) (oi := { dst := some 9, op := _, type := _, pos := _, after := _, guard := _ }) (v := .bool ok) rfl (by kernel_rfl) (by kernel_rfl) (by kernel_rfl) (fun _ _ _ h => h) (Or.inl ⟨by rfl, ?_⟩) hHeld ?_
            · (intro w_ hSw; clear hSw; go_simp; first | done | with_reducible rfl | rfl | (intro h_; omega) | (simp only [IntKind.wrap, IntKind.bits, IntKind.signed]; omega) | (simp [IntKind.wrap, IntKind.bits, IntKind.signed]; omega))
            set_option linter.unusedSimpArgs false in try simp only [Act.put, List.setIfInBounds_toArray, List.set_cons_zero, List.set_cons_succ]
            refine wpAnyH_done (by kernel_rfl) ?_ _
            refine NoPanic.normal ?_
            have HS9 := Lib.hid hS
            clear hS hHeld hg_ c_q f_q
            go_wp2_with fail
            go_meet
            case rel => exact ⟨_, aS, cS, rfl, rfl, qb9.out, OwnI.low oS9.out (by first | omega | (simp; omega)), HS9.out⟩
          exact AllReadyH.nil
        exact AllReadyH.nil
      exact AllReadyH.nil
    refine AllReadyH.cons rfl (fun K hK => ?_) ?_
    · go_simp
      have qb := Lib.hid (BoxF.new Wd [.slice none 0 0] 28)
      have hq0 := hHeld.size
      have ha_ := (Below.refl Wd.heap.size Wd).alloc (Nat.le_refl _) (.cells #[.slice none 0 0] 28 (0, 0))
      have hS : Below w2.heap.size w2 (Wd.alloc (.cells #[.slice none 0 0] 28 (0, 0))) := hHeld.trans (ha_.mono hHeld.size)
      clear ha_ hHeld
      refine hK.out _ _ hS (fun hHeld => ?_)
      clear hK K hS
      set_option linter.unusedSimpArgs false in try simp only [Act.put, List.setIfInBounds_toArray, List.set_cons_zero, List.set_cons_succ]
      refine wpAnyH_ready (rs := [1]) (by kernel_rfl) (by simp) ?_
      refine AllReadyH.cons rfl (fun K hK => ?_) ?_
      · try rw [if_pos (by rfl)]
        go_simp
        refine (toRegion_any X0 len0 a0 cap0 _ (RW0.out.below (HB.out.trans (hHeld.mono HB.out.size))) (by omega)).mono ?_
        rintro e v11 ⟨g_1, rfl, ho_, hb_⟩
        have hS : Below w2.heap.size w2 v11 := hHeld.trans (hb_.mono hHeld.size)
        have z_v11 := hb_.size
        have qb := Lib.hid (qb.out.below hb_)
        have r_1 := Lib.hid ho_.rd
        clear ho_ hb_ hHeld
        go_wp2_with fail
        refine hK.out _ _ hS (fun hHeld => ?_)
        clear hK K hS
        set_option linter.unusedSimpArgs false in try simp only [Act.put, List.setIfInBounds_toArray, List.set_cons_zero, List.set_cons_succ]
        refine wpAnyH_ready (rs := [3]) (by kernel_rfl) (by simp) ?_
        refine AllReadyH.cons rfl (fun K hK => ?_) ?_
        · try rw [if_pos (by rfl)]
          go_simp
          refine (toRegion_any X1 len1 a1 cap1 _ (RW1.out.below (HB.out.trans (hHeld.mono HB.out.size))) (by omega)).mono ?_
          rintro e v12 ⟨g_3, rfl, ho_, hb_⟩
          have hS : Below w2.heap.size w2 v12 := hHeld.trans (hb_.mono hHeld.size)
          have z_v12 := hb_.size
          have qb := Lib.hid (qb.out.below hb_)
          have r_1 := Lib.hid (r_1.out.below hb_)
          have r_3 := Lib.hid ho_.rd
          clear ho_ hb_ hHeld
          go_wp2_with fail
          refine hK.out _ _ hS (fun hHeld => ?_)
          clear hK K hS
          set_option linter.unusedSimpArgs false in try simp only [Act.put, List.setIfInBounds_toArray, List.set_cons_zero, List.set_cons_succ]
          refine wpAnyH_ready (rs := [5]) (by kernel_rfl) (by simp) ?_
          refine AllReadyH.cons rfl (fun K hK => ?_) ?_
          · try rw [if_pos (by rfl)]
            go_simp
            refine (HS.out _ _ _ _ _ r_1.out r_3.out).mono ?_
            rintro e v13 ⟨aS, cS, rfl, ho_, hb_⟩
            have lS : ∀ q, (Value.slice aS n cS).ownBlock = some q → _ := fun q hq => World.ownsRow.lt ho_ q hq
            have hb0 := hHeld.size
            have hS : Below w2.heap.size w2 v13 := hHeld.trans (hb_.mono hHeld.size)
            have z_v13 := hb_.size
            have qb := Lib.hid (qb.out.below hb_)
            have r_1 := Lib.hid (r_1.out.below hb_)
            have r_3 := Lib.hid (r_3.out.below hb_)
            have oS := Lib.hid ho_
            clear ho_ hb_ hHeld
            go_wp2_with fail
            refine hK.out _ _ hS (fun hHeld => ?_)
            clear hK K hS
            set_option linter.unusedSimpArgs false in try simp only [Act.put, List.setIfInBounds_toArray, List.set_cons_zero, List.set_cons_succ]
            refine wpAnyH_take (i := 6) (oi := { dst := some 29, op := _, type := _, pos := _, after := _, guard := _ }) (v := .tuple #[.agg #[.slice aS n cS], .bool ok]) rfl (by kernel_rfl) (by kernel_rfl) (by kernel_rfl) (fun _ _ _ h => h) (Or.inl ⟨by rfl, ?_⟩) hHeld ?_
            · (intro w_ hSw; clear hSw; go_simp; first | done | with_reducible rfl | rfl | (intro h_; omega) | (simp only [IntKind.wrap, IntKind.bits, IntKind.signed]; omega) | (simp [IntKind.wrap, IntKind.bits, IntKind.signed]; omega))
            set_option linter.unusedSimpArgs false in try simp only [Act.put, List.setIfInBounds_toArray, List.set_cons_zero, List.set_cons_succ]
            refine wpAnyH_take (i := 7) (oi := { dst := some 36, op := _, type := _, pos := _, after := _, guard := _ }) (v := .agg #[.slice aS n cS]) rfl (by kernel_rfl) (by kernel_rfl) (by kernel_rfl) (fun _ _ _ h => h) (Or.inl ⟨by rfl, ?_⟩) hHeld ?_
            · (intro w_ hSw; clear hSw; go_simp; first | done | with_reducible rfl | rfl | (intro h_; omega) | (simp only [IntKind.wrap, IntKind.bits, IntKind.signed]; omega) | (simp [IntKind.wrap, IntKind.bits, IntKind.signed]; omega))
            set_option linter.unusedSimpArgs false in try simp only [Act.put, List.setIfInBounds_toArray, List.set_cons_zero, List.set_cons_succ]
            refine wpAnyH_take (i := 8) (oi := { dst := some 37, op := _, type := _, pos := _, after := _, guard := _ }) (v := .bool ok) rfl (by kernel_rfl) (by kernel_rfl) (by kernel_rfl) (fun _ _ _ h => h) (Or.inl ⟨by rfl, ?_⟩) hHeld ?_
            · (intro w_ hSw; clear hSw; go_simp; first | done | with_reducible rfl | rfl | (intro h_; omega) | (simp only [IntKind.wrap, IntKind.bits, IntKind.signed]; omega) | (simp [IntKind.wrap, IntKind.bits, IntKind.signed]; omega))
            set_option linter.unusedSimpArgs false in try simp only [Act.put, List.setIfInBounds_toArray, List.set_cons_zero, List.set_cons_succ]
            have c_q := qb.out.one.1
            have f_q := qb.out.one.2 0
            have hg_ := grownBy_set v13 (Wd.heap.size) 0 (.slice aS n cS)
            have qb9 := Lib.hid (qb.out.set 0 (.slice aS n cS))
            have oS9 := Lib.hid (oS.out.kept hg_ (by
              cases hq : (Value.slice aS n cS).ownBlock with
              | none => exact .inl rfl
              | some q => refine .inr ?_; intro e; cases e; have h1 := lS _ hq; (try simp only [World.size_alloc] at *); omega))
            have hS : Below w2.heap.size w2 (v13.setCell ⟨Wd.heap.size, 0, none⟩ (.slice aS n cS)) := hHeld.grown hg_ hHeld.size (fun q hq => by cases hq; omega)
            refine wpAnyH_ready (rs := [10]) (by kernel_rfl) (by simp) ?_
            refine AllReadyH.cons rfl (fun K hK => ?_) ?_
            rotate_left
            · exact AllReadyH.nil
            try rw [if_pos (by rfl)]
            go_simp
            refine hK.out _ _ hS (fun hHeld => ?_)
            clear hK K
            set_option linter.unusedSimpArgs false in try simp only [Act.put, List.setIfInBounds_toArray, List.set_cons_zero, List.set_cons_succ]
            refine wpAnyH_take (i := 11) (oi := { dst := some 9, op := _, type := _, pos := _, after := _, guard := _ }) (v := .bool ok) rfl (by kernel_rfl) (by kernel_rfl) (by kernel_rfl) (fun _ _ _ h => h) (Or.inl ⟨by rfl, ?_⟩) hHeld ?_
            · (intro w_ hSw; clear hSw; go_simp; first | done | with_reducible rfl | rfl | (intro h_; omega) | (simp only [IntKind.wrap, IntKind.bits, IntKind.signed]; omega) | (simp [IntKind.wrap, IntKind.bits, IntKind.signed]; omega))
            set_option linter.unusedSimpArgs false in try simp only [Act.put, List.setIfInBounds_toArray, List.set_cons_zero, List.set_cons_succ]
            refine wpAnyH_done (by kernel_rfl) ?_ _
            refine NoPanic.normal ?_
            have HS9 := Lib.hid hS
            clear hS hHeld hg_ c_q f_q
            go_wp2_with fail
            go_meet
            case rel => exact ⟨_, aS, cS, rfl, rfl, qb9.out, OwnI.low oS9.out (by first | omega | (simp; omega)), HS9.out⟩
          exact AllReadyH.nil
        exact AllReadyH.nil
      exact AllReadyH.nil
    exact AllReadyH.nil
  case rest =>
    obtain ⟨q_s, a_s, c_s, rfl, rfl, bx_, ho_, hb_⟩ := hcut
    have l_s : ∀ q, (Value.slice a_s n c_s).ownBlock = some q → _ := fun q hq => World.ownsRow.lt ho_ q hq
    have z_s := hb_.size
    have bl_s := bx_.lt
    have B_arg0_ := Lib.hid (B_arg0.out.below hb_)
    have B_arg1_ := Lib.hid (B_arg1.out.below hb_)
    have HB_ := Lib.hid (HB.out.trans (hb_.mono HB.out.size))
    clear B_arg0 B_arg1 HB
    have B_arg0 := B_arg0_
    have B_arg1 := B_arg1_
    have HB := HB_
    clear B_arg0_ B_arg1_ HB_
    have R_s := Lib.hid ho_
    have B_s := Lib.hid bx_
    clear ho_ hb_ bx_
    have c_arg0 := B_arg0.out.one.1
    go_wp2_with fail
    clear c_arg0
    refine (toRegion_any X0 len0 a0 cap0 _ (RW0.out.below HB.out) (by omega)).mono ?_
    rintro e w3_ ⟨g_x, rfl, ho_, hb_⟩
    have l_x : ∀ q, (Value.slice (some ⟨g_x, 0, none⟩) len0 len0).ownBlock = some q → _ := fun q hq => World.ownsRow.lt ho_ q hq
    have z_w3_ := hb_.size
    try simp only [World.size_alloc] at l_x z_w3_
    have R_s_ := Lib.hid (R_s.out.below hb_)
    have B_arg0_ := Lib.hid (B_arg0.out.below hb_)
    have B_arg1_ := Lib.hid (B_arg1.out.below hb_)
    have B_s_ := Lib.hid (B_s.out.below hb_)
    have HB_ := Lib.hid (HB.out.trans (hb_.mono HB.out.size))
    clear R_s B_arg0 B_arg1 B_s HB
    have R_s := R_s_
    have B_arg0 := B_arg0_
    have B_arg1 := B_arg1_
    have B_s := B_s_
    have HB := HB_
    clear R_s_ B_arg0_ B_arg1_ B_s_ HB_
    have R_x := Lib.hid ho_
    clear ho_ hb_
    have R_s_ := Lib.hid (R_s.out.below ((Below.refl _ w3_).alloc (Nat.le_refl _) (.cells #[.slice (some ⟨g_x, 0, none⟩) len0 len0] 28 (0, 0))))
    have R_x_ := Lib.hid (R_x.out.below ((Below.refl _ w3_).alloc (Nat.le_refl _) (.cells #[.slice (some ⟨g_x, 0, none⟩) len0 len0] 28 (0, 0))))
    have B_arg0_ := Lib.hid (B_arg0.out.alloc (.cells #[.slice (some ⟨g_x, 0, none⟩) len0 len0] 28 (0, 0)))
    have B_arg1_ := Lib.hid (B_arg1.out.alloc (.cells #[.slice (some ⟨g_x, 0, none⟩) len0 len0] 28 (0, 0)))
    have B_s_ := Lib.hid (B_s.out.alloc (.cells #[.slice (some ⟨g_x, 0, none⟩) len0 len0] 28 (0, 0)))
    have HB_ := Lib.hid (HB.out.alloc HB.out.size (.cells #[.slice (some ⟨g_x, 0, none⟩) len0 len0] 28 (0, 0)))
    clear R_s R_x B_arg0 B_arg1 B_s HB
    have R_s := R_s_
    have R_x := R_x_
    have B_arg0 := B_arg0_
    have B_arg1 := B_arg1_
    have B_s := B_s_
    have HB := HB_
    clear R_s_ R_x_ B_arg0_ B_arg1_ B_s_ HB_
    have B_x := Lib.hid (BoxF.new w3_ [.slice (some ⟨g_x, 0, none⟩) len0 len0] 28)
    have c_arg1 := B_arg1.out.one.1
    go_wp2_with fail
    clear c_arg1
    refine (toRegion_any X1 len1 a1 cap1 _ (RW1.out.below HB.out) (by omega)).mono ?_
    rintro e w4_ ⟨g_y, rfl, ho_, hb_⟩
    have l_y : ∀ q, (Value.slice (some ⟨g_y, 0, none⟩) len1 len1).ownBlock = some q → _ := fun q hq => World.ownsRow.lt ho_ q hq
    have z_w4_ := hb_.size
    try simp only [World.size_alloc] at l_y z_w4_
    have R_s_ := Lib.hid (R_s.out.below hb_)
    have R_x_ := Lib.hid (R_x.out.below hb_)
    have B_arg0_ := Lib.hid (B_arg0.out.below hb_)
    have B_arg1_ := Lib.hid (B_arg1.out.below hb_)
    have B_s_ := Lib.hid (B_s.out.below hb_)
    have B_x_ := Lib.hid (B_x.out.below hb_)
    have HB_ := Lib.hid (HB.out.trans (hb_.mono HB.out.size))
    clear R_s R_x B_arg0 B_arg1 B_s B_x HB
    have R_s := R_s_
    have R_x := R_x_
    have B_arg0 := B_arg0_
    have B_arg1 := B_arg1_
    have B_s := B_s_
    have B_x := B_x_
    have HB := HB_
    clear R_s_ R_x_ B_arg0_ B_arg1_ B_s_ B_x_ HB_
    have R_y := Lib.hid ho_
    clear ho_ hb_
    have R_s_ := Lib.hid (R_s.out.below ((Below.refl _ w4_).alloc (Nat.le_refl _) (.cells #[.slice (some ⟨g_y, 0, none⟩) len1 len1] 28 (0, 0))))
    have R_x_ := Lib.hid (R_x.out.below ((Below.refl _ w4_).alloc (Nat.le_refl _) (.cells #[.slice (some ⟨g_y, 0, none⟩) len1 len1] 28 (0, 0))))
    have R_y_ := Lib.hid (R_y.out.below ((Below.refl _ w4_).alloc (Nat.le_refl _) (.cells #[.slice (some ⟨g_y, 0, none⟩) len1 len1] 28 (0, 0))))
    have B_arg0_ := Lib.hid (B_arg0.out.alloc (.cells #[.slice (some ⟨g_y, 0, none⟩) len1 len1] 28 (0, 0)))
    have B_arg1_ := Lib.hid (B_arg1.out.alloc (.cells #[.slice (some ⟨g_y, 0, none⟩) len1 len1] 28 (0, 0)))
    have B_s_ := Lib.hid (B_s.out.alloc (.cells #[.slice (some ⟨g_y, 0, none⟩) len1 len1] 28 (0, 0)))
    have B_x_ := Lib.hid (B_x.out.alloc (.cells #[.slice (some ⟨g_y, 0, none⟩) len1 len1] 28 (0, 0)))
    have HB_ := Lib.hid (HB.out.alloc HB.out.size (.cells #[.slice (some ⟨g_y, 0, none⟩) len1 len1] 28 (0, 0)))
    clear R_s R_x R_y B_arg0 B_arg1 B_s B_x HB
    have R_s := R_s_
    have R_x := R_x_
    have R_y := R_y_
    have B_arg0 := B_arg0_
    have B_arg1 := B_arg1_
    have B_s := B_s_
    have B_x := B_x_
    have HB := HB_
    clear R_s_ R_x_ R_y_ B_arg0_ B_arg1_ B_s_ B_x_ HB_
    have B_y := Lib.hid (BoxF.new w4_ [.slice (some ⟨g_y, 0, none⟩) len1 len1] 28)
    have c_x := B_x.out.one.1
    have c_y := B_y.out.one.1
    go_wp2_with fail
    clear c_x c_y
    refine (HI.out _ _ _ _ _ R_x.out.rd R_y.out.rd).mono ?_
    rintro e w5 ⟨a_g, c_g, rfl, ho_, hb_⟩
    have l_g : ∀ q, (Value.slice a_g n c_g).ownBlock = some q → _ := fun q hq => World.ownsRow.lt ho_ q hq
    have z_w5 := hb_.size
    try simp only [World.size_alloc] at l_g z_w5
    have R_s_ := Lib.hid (R_s.out.below hb_)
    have R_x_ := Lib.hid (R_x.out.below hb_)
    have R_y_ := Lib.hid (R_y.out.below hb_)
    have B_arg0_ := Lib.hid (B_arg0.out.below hb_)
    have B_arg1_ := Lib.hid (B_arg1.out.below hb_)
    have B_s_ := Lib.hid (B_s.out.below hb_)
    have B_x_ := Lib.hid (B_x.out.below hb_)
    have B_y_ := Lib.hid (B_y.out.below hb_)
    have HB_ := Lib.hid (HB.out.trans (hb_.mono HB.out.size))
    clear R_s R_x R_y B_arg0 B_arg1 B_s B_x B_y HB
    have R_s := R_s_
    have R_x := R_x_
    have R_y := R_y_
    have B_arg0 := B_arg0_
    have B_arg1 := B_arg1_
    have B_s := B_s_
    have B_x := B_x_
    have B_y := B_y_
    have HB := HB_
    clear R_s_ R_x_ R_y_ B_arg0_ B_arg1_ B_s_ B_x_ B_y_ HB_
    have R_g := Lib.hid ho_
    clear ho_ hb_
    have R_s_ := Lib.hid (R_s.out.below ((Below.refl _ w5).alloc (Nat.le_refl _) (.cells #[.slice a_g n c_g] 28 (0, 0))))
    have R_x_ := Lib.hid (R_x.out.below ((Below.refl _ w5).alloc (Nat.le_refl _) (.cells #[.slice a_g n c_g] 28 (0, 0))))
    have R_y_ := Lib.hid (R_y.out.below ((Below.refl _ w5).alloc (Nat.le_refl _) (.cells #[.slice a_g n c_g] 28 (0, 0))))
    have R_g_ := Lib.hid (R_g.out.below ((Below.refl _ w5).alloc (Nat.le_refl _) (.cells #[.slice a_g n c_g] 28 (0, 0))))
    have B_arg0_ := Lib.hid (B_arg0.out.alloc (.cells #[.slice a_g n c_g] 28 (0, 0)))
    have B_arg1_ := Lib.hid (B_arg1.out.alloc (.cells #[.slice a_g n c_g] 28 (0, 0)))
    have B_s_ := Lib.hid (B_s.out.alloc (.cells #[.slice a_g n c_g] 28 (0, 0)))
    have B_x_ := Lib.hid (B_x.out.alloc (.cells #[.slice a_g n c_g] 28 (0, 0)))
    have B_y_ := Lib.hid (B_y.out.alloc (.cells #[.slice a_g n c_g] 28 (0, 0)))
    have HB_ := Lib.hid (HB.out.alloc HB.out.size (.cells #[.slice a_g n c_g] 28 (0, 0)))
    clear R_s R_x R_y R_g B_arg0 B_arg1 B_s B_x B_y HB
    have R_s := R_s_
    have R_x := R_x_
    have R_y := R_y_
    have R_g := R_g_
    have B_arg0 := B_arg0_
    have B_arg1 := B_arg1_
    have B_s := B_s_
    have B_x := B_x_
    have B_y := B_y_
    have HB := HB_
    clear R_s_ R_x_ R_y_ R_g_ B_arg0_ B_arg1_ B_s_ B_x_ B_y_ HB_
    have B_g := Lib.hid (BoxF.new w5 [.slice a_g n c_g] 28)
    have c_g := B_g.out.one.1
    have c_s := B_s.out.one.1
    go_wp2_with fail
    clear c_g c_s
    refine (eqRegion_true X n a_g a_s c_g c_s _ R_g.out.rd R_s.out.rd (by omega)).mono ?_
    rintro e w6 ⟨rfl, hb_⟩
    have z_w6 := hb_.size
    try simp only [World.size_alloc] at z_w6
    have R_s_ := Lib.hid (R_s.out.below hb_)
    have R_x_ := Lib.hid (R_x.out.below hb_)
    have R_y_ := Lib.hid (R_y.out.below hb_)
    have R_g_ := Lib.hid (R_g.out.below hb_)
    have B_arg0_ := Lib.hid (B_arg0.out.below hb_)
    have B_arg1_ := Lib.hid (B_arg1.out.below hb_)
    have B_s_ := Lib.hid (B_s.out.below hb_)
    have B_x_ := Lib.hid (B_x.out.below hb_)
    have B_y_ := Lib.hid (B_y.out.below hb_)
    have B_g_ := Lib.hid (B_g.out.below hb_)
    have HB_ := Lib.hid (HB.out.trans (hb_.mono HB.out.size))
    clear R_s R_x R_y R_g B_arg0 B_arg1 B_s B_x B_y B_g HB
    have R_s := R_s_
    have R_x := R_x_
    have R_y := R_y_
    have R_g := R_g_
    have B_arg0 := B_arg0_
    have B_arg1 := B_arg1_
    have B_s := B_s_
    have B_x := B_x_
    have B_y := B_y_
    have B_g := B_g_
    have HB := HB_
    clear R_s_ R_x_ R_y_ R_g_ B_arg0_ B_arg1_ B_s_ B_x_ B_y_ B_g_ HB_
    clear hb_
    go_upto_region 14 with fail
    go_cut [62] (fun sl wx => sl = .bool false ∧ Below w6.heap.size w6 wx)
    case first =>
      have c_x := B_x.out.one.1
      have c_arg0 := B_arg0.out.one.1
      go_region_with (first | (go_at_call 17; refine (toRegion_any X0 len0 a0 cap0 _ ((RW0.out.below HB.out).drewN 1) (by omega)).mono ?_; rintro e wA ⟨gA, rfl, hoA, hbA⟩; have hwA : Below w6.heap.size w6 wA := ⟨hbA.os, hbA.tape, hbA.output, hbA.size, hbA.block⟩; have hoA2 := Lib.hid hoA; have d_x := (B_x.out.below hwA).one.1; have d_arg0 := (B_arg0.out.below hwA).one.1; clear hoA hbA) | (go_at_call 19; refine (eqRegion_true X0 len0 _ _ _ _ _ (R_x.out.rd.below hwA) hoA2.out.rd (by omega)).mono ?_; rintro e wB ⟨rfl, hbB⟩; have hwB : Below w6.heap.size w6 wB := hwA.trans (hbB.mono hwA.size)))
      all_goals
        go_wp2_with fail
        go_meet
        case rel => exact ⟨rfl, hwB⟩
    case rest =>
      obtain ⟨rfl, hb_⟩ := hcut
      have z_c7 := hb_.size
      have R_s_ := Lib.hid (R_s.out.below hb_)
      have R_x_ := Lib.hid (R_x.out.below hb_)
      have R_y_ := Lib.hid (R_y.out.below hb_)
      have R_g_ := Lib.hid (R_g.out.below hb_)
      have B_arg0_ := Lib.hid (B_arg0.out.below hb_)
      have B_arg1_ := Lib.hid (B_arg1.out.below hb_)
      have B_s_ := Lib.hid (B_s.out.below hb_)
      have B_x_ := Lib.hid (B_x.out.below hb_)
      have B_y_ := Lib.hid (B_y.out.below hb_)
      have B_g_ := Lib.hid (B_g.out.below hb_)
      have HB_ := Lib.hid (HB.out.trans (hb_.mono HB.out.size))
      clear R_s R_x R_y R_g B_arg0 B_arg1 B_s B_x B_y B_g HB
      have R_s := R_s_
      have R_x := R_x_
      have R_y := R_y_
      have R_g := R_g_
      have B_arg0 := B_arg0_
      have B_arg1 := B_arg1_
      have B_s := B_s_
      have B_x := B_x_
      have B_y := B_y_
      have B_g := B_g_
      have HB := HB_
      clear R_s_ R_x_ R_y_ R_g_ B_arg0_ B_arg1_ B_s_ B_x_ B_y_ B_g_ HB_
      clear hb_
      go_upto_region 16 with fail
      go_cut [67] (fun sl wx => sl = .bool false ∧ Below wc.heap.size wc wx)
      case first =>
        have c_y := B_y.out.one.1
        have c_arg1 := B_arg1.out.one.1
        go_region_with (first | (go_at_call 17; refine (toRegion_any X1 len1 a1 cap1 _ ((RW1.out.below HB.out).drewN 1) (by omega)).mono ?_; rintro e wA ⟨gA, rfl, hoA, hbA⟩; have hwA : Below wc.heap.size wc wA := ⟨hbA.os, hbA.tape, hbA.output, hbA.size, hbA.block⟩; have hoA2 := Lib.hid hoA; have d_y := (B_y.out.below hwA).one.1; have d_arg1 := (B_arg1.out.below hwA).one.1; clear hoA hbA) | (go_at_call 19; refine (eqRegion_true X1 len1 _ _ _ _ _ (R_y.out.rd.below hwA) hoA2.out.rd (by omega)).mono ?_; rintro e wB ⟨rfl, hbB⟩; have hwB : Below wc.heap.size wc wB := hwA.trans (hbB.mono hwA.size)))
        all_goals
          go_wp2_with fail
          go_meet
          case rel => exact ⟨rfl, hwB⟩
      case rest =>
        obtain ⟨rfl, hb_⟩ := hcut
        have z_c8 := hb_.size
        have R_s_ := Lib.hid (R_s.out.below hb_)
        have R_x_ := Lib.hid (R_x.out.below hb_)
        have R_y_ := Lib.hid (R_y.out.below hb_)
        have R_g_ := Lib.hid (R_g.out.below hb_)
        have B_arg0_ := Lib.hid (B_arg0.out.below hb_)
        have B_arg1_ := Lib.hid (B_arg1.out.below hb_)
        have B_s_ := Lib.hid (B_s.out.below hb_)
        have B_x_ := Lib.hid (B_x.out.below hb_)
        have B_y_ := Lib.hid (B_y.out.below hb_)
        have B_g_ := Lib.hid (B_g.out.below hb_)
        have HB_ := Lib.hid (HB.out.trans (hb_.mono HB.out.size))
        clear R_s R_x R_y R_g B_arg0 B_arg1 B_s B_x B_y B_g HB
        have R_s := R_s_
        have R_x := R_x_
        have R_y := R_y_
        have R_g := R_g_
        have B_arg0 := B_arg0_
        have B_arg1 := B_arg1_
        have B_s := B_s_
        have B_x := B_x_
        have B_y := B_y_
        have B_g := B_g_
        have HB := HB_
        clear R_s_ R_x_ R_y_ R_g_ B_arg0_ B_arg1_ B_s_ B_x_ B_y_ B_g_ HB_
        clear hb_
        have c_x := B_x.out.one.1
        go_wp2_with fail
        clear c_x
        refine (markRegion_any X0 len0 _ len0 (some ⟨g_x, 0, none⟩) _ R_x.out (by omega)).mono ?_
        rintro e w9 ⟨rfl, ho_, hg_⟩
        have z_w9 := hg_.size
        try simp only [World.size_alloc] at z_w9
        have R_s_ := Lib.hid (R_s.out.kept hg_ (by
          cases hq : (Value.slice a_s n c_s).ownBlock with
          | none => exact .inl rfl
          | some q => refine .inr ?_; intro e; have h1 := l_s q hq; have h2 := l_x q e.symm; omega))
        have R_x_ := Lib.hid ho_
        have R_y_ := Lib.hid (R_y.out.kept hg_ (by
          cases hq : (Value.slice (some ⟨g_y, 0, none⟩) len1 len1).ownBlock with
          | none => exact .inl rfl
          | some q => refine .inr ?_; intro e; have h1 := l_y q hq; have h2 := l_x q e.symm; omega))
        have R_g_ := Lib.hid (R_g.out.kept hg_ (by
          cases hq : (Value.slice a_g n c_g).ownBlock with
          | none => exact .inl rfl
          | some q => refine .inr ?_; intro e; have h1 := l_g q hq; have h2 := l_x q e.symm; omega))
        have B_arg0_ := Lib.hid (B_arg0.out.kept hg_ (by intro e; have h2 := l_x _ e.symm; omega))
        have B_arg1_ := Lib.hid (B_arg1.out.kept hg_ (by intro e; have h2 := l_x _ e.symm; omega))
        have B_s_ := Lib.hid (B_s.out.kept hg_ (by intro e; have h2 := l_x _ e.symm; omega))
        have B_x_ := Lib.hid (B_x.out.kept hg_ (by intro e; have h2 := l_x _ e.symm; omega))
        have B_y_ := Lib.hid (B_y.out.kept hg_ (by intro e; have h2 := l_x _ e.symm; omega))
        have B_g_ := Lib.hid (B_g.out.kept hg_ (by intro e; have h2 := l_x _ e.symm; omega))
        have HB_ := Lib.hid (HB.out.grown hg_ HB.out.size (fun q hq => by have := l_x q hq; omega))
        clear R_s R_x R_y R_g B_arg0 B_arg1 B_s B_x B_y B_g HB
        have R_s := R_s_
        have R_x := R_x_
        have R_y := R_y_
        have R_g := R_g_
        have B_arg0 := B_arg0_
        have B_arg1 := B_arg1_
        have B_s := B_s_
        have B_x := B_x_
        have B_y := B_y_
        have B_g := B_g_
        have HB := HB_
        clear R_s_ R_x_ R_y_ R_g_ B_arg0_ B_arg1_ B_s_ B_x_ B_y_ B_g_ HB_
        clear ho_ hg_
        have c_y := B_y.out.one.1
        have ek : ((1 : Int) + (len0 : Int)) = ((1 + len0 : Nat) : Int) := by omega
        have HMY := Lib.hid (fun (W : World) (p_ : Nat) (h : OwnI W p_ (some ⟨g_y, 0, none⟩) len1 len1 X1) => markRegion_k X1 len1 p_ len1 (1 + len0) (some ⟨g_y, 0, none⟩) W h (by omega) (by omega) (by omega))
        rw [← ek] at HMY
        clear ek
        go_wp2_with fail
        clear c_y
        refine (HMY.out _ _ R_y.out).mono ?_
        rintro e w10 ⟨rfl, hg_⟩
        have z_w10 := hg_.size
        try simp only [World.size_alloc] at z_w10
        clear HMY
        clear R_y
        have R_s_ := Lib.hid (R_s.out.kept hg_ (by
          cases hq : (Value.slice a_s n c_s).ownBlock with
          | none => exact .inl rfl
          | some q => refine .inr ?_; intro e; have h1 := l_s q hq; have h2 := l_y q e.symm; omega))
        have R_x_ := Lib.hid (R_x.out.kept hg_ (by
          cases hq : (Value.slice (some ⟨g_x, 0, none⟩) len0 len0).ownBlock with
          | none => exact .inl rfl
          | some q => refine .inr ?_; intro e; have h1 := l_x q hq; have h2 := l_y q e.symm; omega))
        have R_g_ := Lib.hid (R_g.out.kept hg_ (by
          cases hq : (Value.slice a_g n c_g).ownBlock with
          | none => exact .inl rfl
          | some q => refine .inr ?_; intro e; have h1 := l_g q hq; have h2 := l_y q e.symm; omega))
        have B_arg0_ := Lib.hid (B_arg0.out.kept hg_ (by intro e; have h2 := l_y _ e.symm; omega))
        have B_arg1_ := Lib.hid (B_arg1.out.kept hg_ (by intro e; have h2 := l_y _ e.symm; omega))
        have B_s_ := Lib.hid (B_s.out.kept hg_ (by intro e; have h2 := l_y _ e.symm; omega))
        have B_x_ := Lib.hid (B_x.out.kept hg_ (by intro e; have h2 := l_y _ e.symm; omega))
        have B_y_ := Lib.hid (B_y.out.kept hg_ (by intro e; have h2 := l_y _ e.symm; omega))
        have B_g_ := Lib.hid (B_g.out.kept hg_ (by intro e; have h2 := l_y _ e.symm; omega))
        have HB_ := Lib.hid (HB.out.grown hg_ HB.out.size (fun q hq => by have := l_y q hq; omega))
        clear R_s R_x R_g B_arg0 B_arg1 B_s B_x B_y B_g HB
        have R_s := R_s_
        have R_x := R_x_
        have R_g := R_g_
        have B_arg0 := B_arg0_
        have B_arg1 := B_arg1_
        have B_s := B_s_
        have B_x := B_x_
        have B_y := B_y_
        have B_g := B_g_
        have HB := HB_
        clear R_s_ R_x_ R_g_ B_arg0_ B_arg1_ B_s_ B_x_ B_y_ B_g_ HB_
        clear hg_
        have c_g := B_g.out.one.1
        have c_s := B_s.out.one.1
        go_wp2_with fail
        clear c_g c_s
        refine (eqRegion_true X n a_g a_s c_g c_s _ R_g.out.rd R_s.out.rd (by omega)).mono ?_
        rintro e w11 ⟨rfl, hb_⟩
        have z_w11 := hb_.size
        try simp only [World.size_alloc] at z_w11
        have R_s_ := Lib.hid (R_s.out.below hb_)
        have R_x_ := Lib.hid (R_x.out.below hb_)
        have R_g_ := Lib.hid (R_g.out.below hb_)
        have B_arg0_ := Lib.hid (B_arg0.out.below hb_)
        have B_arg1_ := Lib.hid (B_arg1.out.below hb_)
        have B_s_ := Lib.hid (B_s.out.below hb_)
        have B_x_ := Lib.hid (B_x.out.below hb_)
        have B_y_ := Lib.hid (B_y.out.below hb_)
        have B_g_ := Lib.hid (B_g.out.below hb_)
        have HB_ := Lib.hid (HB.out.trans (hb_.mono HB.out.size))
        clear R_s R_x R_g B_arg0 B_arg1 B_s B_x B_y B_g HB
        have R_s := R_s_
        have R_x := R_x_
        have R_g := R_g_
        have B_arg0 := B_arg0_
        have B_arg1 := B_arg1_
        have B_s := B_s_
        have B_x := B_x_
        have B_y := B_y_
        have B_g := B_g_
        have HB := HB_
        clear R_s_ R_x_ R_g_ B_arg0_ B_arg1_ B_s_ B_x_ B_y_ B_g_ HB_
        clear hb_
        have c_g := B_g.out.one.1
        go_wp2_with fail
        clear c_g
        refine (markRegion_any X n _ c_g a_g _ R_g.out (by omega)).mono ?_
        rintro e w12 ⟨rfl, ho_, hg_⟩
        have z_w12 := hg_.size
        try simp only [World.size_alloc] at z_w12
        have R_s_ := Lib.hid (R_s.out.kept hg_ (by
          cases hq : (Value.slice a_s n c_s).ownBlock with
          | none => exact .inl rfl
          | some q => refine .inr ?_; intro e; have h1 := l_s q hq; have h2 := l_g q e.symm; omega))
        have R_x_ := Lib.hid (R_x.out.kept hg_ (by
          cases hq : (Value.slice (some ⟨g_x, 0, none⟩) len0 len0).ownBlock with
          | none => exact .inl rfl
          | some q => refine .inr ?_; intro e; have h1 := l_x q hq; have h2 := l_g q e.symm; omega))
        have R_g_ := Lib.hid ho_
        have B_arg0_ := Lib.hid (B_arg0.out.kept hg_ (by intro e; have h2 := l_g _ e.symm; omega))
        have B_arg1_ := Lib.hid (B_arg1.out.kept hg_ (by intro e; have h2 := l_g _ e.symm; omega))
        have B_s_ := Lib.hid (B_s.out.kept hg_ (by intro e; have h2 := l_g _ e.symm; omega))
        have B_x_ := Lib.hid (B_x.out.kept hg_ (by intro e; have h2 := l_g _ e.symm; omega))
        have B_y_ := Lib.hid (B_y.out.kept hg_ (by intro e; have h2 := l_g _ e.symm; omega))
        have B_g_ := Lib.hid (B_g.out.kept hg_ (by intro e; have h2 := l_g _ e.symm; omega))
        have HB_ := Lib.hid (HB.out.grown hg_ HB.out.size (fun q hq => by have := l_g q hq; omega))
        clear R_s R_x R_g B_arg0 B_arg1 B_s B_x B_y B_g HB
        have R_s := R_s_
        have R_x := R_x_
        have R_g := R_g_
        have B_arg0 := B_arg0_
        have B_arg1 := B_arg1_
        have B_s := B_s_
        have B_x := B_x_
        have B_y := B_y_
        have B_g := B_g_
        have HB := HB_
        clear R_s_ R_x_ R_g_ B_arg0_ B_arg1_ B_s_ B_x_ B_y_ B_g_ HB_
        clear ho_ hg_
        have c_g := B_g.out.one.1
        go_wp2_with fail
        clear c_g
        refine (heldRegion_any n a_g c_g _ R_g.out.rd (by omega)).mono ?_
        rintro e w13 ⟨rfl, hb_⟩
        have z_w13 := hb_.size
        try simp only [World.size_alloc] at z_w13
        have R_s_ := Lib.hid (R_s.out.below hb_)
        have R_x_ := Lib.hid (R_x.out.below hb_)
        have R_g_ := Lib.hid (R_g.out.below hb_)
        have B_arg0_ := Lib.hid (B_arg0.out.below hb_)
        have B_arg1_ := Lib.hid (B_arg1.out.below hb_)
        have B_s_ := Lib.hid (B_s.out.below hb_)
        have B_x_ := Lib.hid (B_x.out.below hb_)
        have B_y_ := Lib.hid (B_y.out.below hb_)
        have B_g_ := Lib.hid (B_g.out.below hb_)
        have HB_ := Lib.hid (HB.out.trans (hb_.mono HB.out.size))
        clear R_s R_x R_g B_arg0 B_arg1 B_s B_x B_y B_g HB
        have R_s := R_s_
        have R_x := R_x_
        have R_g := R_g_
        have B_arg0 := B_arg0_
        have B_arg1 := B_arg1_
        have B_s := B_s_
        have B_x := B_x_
        have B_y := B_y_
        have B_g := B_g_
        have HB := HB_
        clear R_s_ R_x_ R_g_ B_arg0_ B_arg1_ B_s_ B_x_ B_y_ B_g_ HB_
        clear hb_
        go_upto_region 31 with fail
        go_cut [17, 18] (fun sx sy wx => ∃ (q : Nat) (aS : Option Addr) (cS : Nat), sx = .pointer (some ⟨q, 0, none⟩) ∧ sy = .bool ok ∧ BoxF wx q [.slice aS n cS] 28 ∧ OwnI wx w13.heap.size aS n cS X ∧ Below w13.heap.size w13 wx)
        case first =>
          refine wp_region_noPanic ?_
          refine wp_region_held_drew (S := fun W => Below w13.heap.size w13 W) (by kernel_rfl) (below_drewN' (Below.refl _ w13) 1) (fun hHeld => ?_)
          have HK0 := Lib.hid (fun W (h : Below w13.heap.size w13 W) => (B_arg0.out.below h).one.1)
          have HK1 := Lib.hid (fun W (h : Below w13.heap.size w13 W) => (B_arg1.out.below h).one.1)
          have HZ0 := HB.out.size
          generalize w13.drew = Wd at *
          refine wpAnyH_take (i := 0) (oi := { dst := some 99, op := _, type := _, pos := _, after := _, guard := _ }) (v := .agg #[.slice a0 len0 cap0]) rfl (by kernel_rfl) (by kernel_rfl) (by kernel_rfl) (fun _ _ _ h => h) (Or.inl ⟨by rfl, ?_⟩) hHeld ?_
          · (intro w_ hSw; have c_ := HK0.out _ hSw; clear hSw; go_simp; first | done | with_reducible rfl | rfl | (intro h_; omega) | (simp only [IntKind.wrap, IntKind.bits, IntKind.signed]; omega) | (simp [IntKind.wrap, IntKind.bits, IntKind.signed]; omega))
          set_option linter.unusedSimpArgs false in try simp only [Act.put, List.setIfInBounds_toArray, List.set_cons_zero, List.set_cons_succ]
          refine wpAnyH_take (i := 2) (oi := { dst := some 101, op := _, type := _, pos := _, after := _, guard := _ }) (v := .agg #[.slice a1 len1 cap1]) rfl (by kernel_rfl) (by kernel_rfl) (by kernel_rfl) (fun _ _ _ h => h) (Or.inl ⟨by rfl, ?_⟩) hHeld ?_
          · (intro w_ hSw; have c_ := HK1.out _ hSw; clear hSw; go_simp; first | done | with_reducible rfl | rfl | (intro h_; omega) | (simp only [IntKind.wrap, IntKind.bits, IntKind.signed]; omega) | (simp [IntKind.wrap, IntKind.bits, IntKind.signed]; omega))
          set_option linter.unusedSimpArgs false in try simp only [Act.put, List.setIfInBounds_toArray, List.set_cons_zero, List.set_cons_succ]
          refine wpAnyH_take (i := 4) (oi := { dst := some 103, op := _, type := _, pos := _, after := _, guard := _ }) (v := .int .i64 a2) rfl (by kernel_rfl) (by kernel_rfl) (by kernel_rfl) (fun _ _ _ h => h) (Or.inl ⟨by rfl, ?_⟩) hHeld ?_
          · (intro w_ hSw; clear hSw; go_simp; first | done | with_reducible rfl | rfl | (intro h_; omega) | (simp only [IntKind.wrap, IntKind.bits, IntKind.signed]; omega) | (simp [IntKind.wrap, IntKind.bits, IntKind.signed]; omega))
          set_option linter.unusedSimpArgs false in try simp only [Act.put, List.setIfInBounds_toArray, List.set_cons_zero, List.set_cons_succ]
          refine wpAnyH_ready (rs := [1, 9]) (by kernel_rfl) (by simp) ?_
          refine AllReadyH.cons rfl (fun K hK => ?_) ?_
          · try rw [if_pos (by rfl)]
            go_simp
            refine (toRegion_any X0 len0 a0 cap0 _ (RW0.out.below (HB.out.trans (hHeld.mono HB.out.size))) (by omega)).mono ?_
            rintro e v1 ⟨g_1, rfl, ho_, hb_⟩
            have hS : Below w13.heap.size w13 v1 := hHeld.trans (hb_.mono hHeld.size)
            have z_v1 := hb_.size
            have r_1 := Lib.hid ho_.rd
            clear ho_ hb_ hHeld
            go_wp2_with fail
            refine hK.out _ _ hS (fun hHeld => ?_)
            clear hK K hS
            set_option linter.unusedSimpArgs false in try simp only [Act.put, List.setIfInBounds_toArray, List.set_cons_zero, List.set_cons_succ]
            refine wpAnyH_ready (rs := [3, 9]) (by kernel_rfl) (by simp) ?_
            refine AllReadyH.cons rfl (fun K hK => ?_) ?_
            · try rw [if_pos (by rfl)]
              go_simp
              refine (toRegion_any X1 len1 a1 cap1 _ (RW1.out.below (HB.out.trans (hHeld.mono HB.out.size))) (by omega)).mono ?_
              rintro e v2 ⟨g_3, rfl, ho_, hb_⟩
              have hS : Below w13.heap.size w13 v2 := hHeld.trans (hb_.mono hHeld.size)
              have z_v2 := hb_.size
              have r_1 := Lib.hid (r_1.out.below hb_)
              have r_3 := Lib.hid ho_.rd
              clear ho_ hb_ hHeld
              go_wp2_with fail
              refine hK.out _ _ hS (fun hHeld => ?_)
              clear hK K hS
              set_option linter.unusedSimpArgs false in try simp only [Act.put, List.setIfInBounds_toArray, List.set_cons_zero, List.set_cons_succ]
              refine wpAnyH_ready (rs := [5, 9]) (by kernel_rfl) (by simp) ?_
              refine AllReadyH.cons rfl (fun K hK => ?_) ?_
              · try rw [if_pos (by rfl)]
                go_simp
                refine (HI.out _ _ _ _ _ r_1.out r_3.out).mono ?_
                rintro e v3 ⟨aS, cS, rfl, ho_, hb_⟩
                have lS : ∀ q, (Value.slice aS n cS).ownBlock = some q → _ := fun q hq => World.ownsRow.lt ho_ q hq
                have hb0 := hHeld.size
                have hS : Below w13.heap.size w13 v3 := hHeld.trans (hb_.mono hHeld.size)
                have z_v3 := hb_.size
                have r_1 := Lib.hid (r_1.out.below hb_)
                have r_3 := Lib.hid (r_3.out.below hb_)
                have oS := Lib.hid ho_
                clear ho_ hb_ hHeld
                go_wp2_with fail
                refine hK.out _ _ hS (fun hHeld => ?_)
                clear hK K hS
                set_option linter.unusedSimpArgs false in try simp only [Act.put, List.setIfInBounds_toArray, List.set_cons_zero, List.set_cons_succ]
                refine wpAnyH_take (i := 6) (oi := { dst := some 98, op := _, type := _, pos := _, after := _, guard := _ }) (v := .tuple #[.agg #[.slice aS n cS], .bool ok]) rfl (by kernel_rfl) (by kernel_rfl) (by kernel_rfl) (fun _ _ _ h => h) (Or.inl ⟨by rfl, ?_⟩) hHeld ?_
                · (intro w_ hSw; clear hSw; go_simp; first | done | with_reducible rfl | rfl | (intro h_; omega) | (simp only [IntKind.wrap, IntKind.bits, IntKind.signed]; omega) | (simp [IntKind.wrap, IntKind.bits, IntKind.signed]; omega))
                set_option linter.unusedSimpArgs false in try simp only [Act.put, List.setIfInBounds_toArray, List.set_cons_zero, List.set_cons_succ]
                refine wpAnyH_take (i := 7) (oi := { dst := some 105, op := _, type := _, pos := _, after := _, guard := _ }) (v := .agg #[.slice aS n cS]) rfl (by kernel_rfl) (by kernel_rfl) (by kernel_rfl) (fun _ _ _ h => h) (Or.inl ⟨by rfl, ?_⟩) hHeld ?_
                · (intro w_ hSw; clear hSw; go_simp; first | done | with_reducible rfl | rfl | (intro h_; omega) | (simp only [IntKind.wrap, IntKind.bits, IntKind.signed]; omega) | (simp [IntKind.wrap, IntKind.bits, IntKind.signed]; omega))
                set_option linter.unusedSimpArgs false in try simp only [Act.put, List.setIfInBounds_toArray, List.set_cons_zero, List.set_cons_succ]
                refine wpAnyH_take (i := 8) (oi := { dst := some 106, op := _, type := _, pos := _, after := _, guard := _ }) (v := .bool ok) rfl (by kernel_rfl) (by kernel_rfl) (by kernel_rfl) (fun _ _ _ h => h) (Or.inl ⟨by rfl, ?_⟩) hHeld ?_
                · (intro w_ hSw; clear hSw; go_simp; first | done | with_reducible rfl | rfl | (intro h_; omega) | (simp only [IntKind.wrap, IntKind.bits, IntKind.signed]; omega) | (simp [IntKind.wrap, IntKind.bits, IntKind.signed]; omega))
                set_option linter.unusedSimpArgs false in try simp only [Act.put, List.setIfInBounds_toArray, List.set_cons_zero, List.set_cons_succ]
                refine wpAnyH_ready (rs := [9]) (by kernel_rfl) (by simp) ?_
                refine AllReadyH.cons rfl (fun K hK => ?_) ?_
                · go_simp
                  have qb0 := (BoxF.new v3 [.slice none 0 0] 28).one
                  have c_q := qb0.1
                  have f_q := qb0.2 0
                  have ha0 := (Below.refl v3.heap.size v3).alloc (Nat.le_refl _) (.cells #[.slice none 0 0] 28 (0, 0))
                  have ha9 := (Below.refl v3.heap.size v3).alloc (Nat.le_refl _) (.cells #[.slice aS n cS] 28 (0, 0))
                  have qb9 := Lib.hid (BoxF.new v3 [.slice aS n cS] 28)
                  have oS9 := Lib.hid (oS.out.below ha9)
                  have hS0 : Below w13.heap.size w13 (v3.alloc (.cells #[.slice none 0 0] 28 (0, 0))) := hHeld.trans (ha0.mono hHeld.size)
                  have hS : Below w13.heap.size w13 (v3.alloc (.cells #[.slice aS n cS] 28 (0, 0))) := hHeld.trans (ha9.mono hHeld.size)
                  have hz0 := hHeld.size
                  clear qb0 ha0 ha9 hHeld
                  refine hK.out _ _ hS0 (fun hHeld => ?_)
                  clear hK K hS0
                  set_option linter.unusedSimpArgs false in try simp only [Act.put, List.setIfInBounds_toArray, List.set_cons_zero, List.set_cons_succ]
                  refine wpAnyH_ready (rs := [10]) (by kernel_rfl) (by simp) ?_
                  refine AllReadyH.cons rfl (fun K hK => ?_) ?_
                  rotate_left
                  · exact AllReadyH.nil
                  try rw [if_pos (by rfl)]
                  go_simp
                  refine hK.out _ _ hS (fun hHeld => ?_)
                  clear hK K
                  set_option linter.unusedSimpArgs false in try simp only [Act.put, List.setIfInBounds_toArray, List.set_cons_zero, List.set_cons_succ]
                  refine wpAnyH_take (i := 11) (oi := { dst := some 18, op := _, type := _, pos := _, after := _, guard := _ }) (v := .bool ok) rfl (by kernel_rfl) (by kernel_rfl) (by kernel_rfl) (fun _ _ _ h => h) (Or.inl ⟨by rfl, ?_⟩) hHeld ?_
                  · (intro w_ hSw; clear hSw; go_simp; first | done | with_reducible rfl | rfl | (intro h_; omega) | (simp only [IntKind.wrap, IntKind.bits, IntKind.signed]; omega) | (simp [IntKind.wrap, IntKind.bits, IntKind.signed]; omega))
                  set_option linter.unusedSimpArgs false in try simp only [Act.put, List.setIfInBounds_toArray, List.set_cons_zero, List.set_cons_succ]
                  refine wpAnyH_done (by kernel_rfl) ?_ _
                  refine NoPanic.normal ?_
                  have HS9 := Lib.hid hS
                  clear hS hHeld c_q f_q
                  go_wp2_with fail
                  go_meet
                  case rel => exact ⟨_, aS, cS, rfl, rfl, qb9.out, OwnI.low oS9.out (by first | omega | (simp; omega)), HS9.out⟩
                exact AllReadyH.nil
              refine AllReadyH.cons rfl (fun K hK => ?_) ?_
              · go_simp
                have qb := Lib.hid (BoxF.new v2 [.slice none 0 0] 28)
                have hq0 := hHeld.size
                have ha_ := (Below.refl v2.heap.size v2).alloc (Nat.le_refl _) (.cells #[.slice none 0 0] 28 (0, 0))
                have hS : Below w13.heap.size w13 (v2.alloc (.cells #[.slice none 0 0] 28 (0, 0))) := hHeld.trans (ha_.mono hHeld.size)
                have r_1 := Lib.hid (r_1.out.below ha_)
                have r_3 := Lib.hid (r_3.out.below ha_)
                clear ha_ hHeld
                refine hK.out _ _ hS (fun hHeld => ?_)
                clear hK K hS
                set_option linter.unusedSimpArgs false in try simp only [Act.put, List.setIfInBounds_toArray, List.set_cons_zero, List.set_cons_succ]
                refine wpAnyH_ready (rs := [5]) (by kernel_rfl) (by simp) ?_
                refine AllReadyH.cons rfl (fun K hK => ?_) ?_
                · try rw [if_pos (by rfl)]
                  go_simp
                  refine (HI.out _ _ _ _ _ r_1.out r_3.out).mono ?_
                  rintro e v6 ⟨aS, cS, rfl, ho_, hb_⟩
                  have lS : ∀ q, (Value.slice aS n cS).ownBlock = some q → _ := fun q hq => World.ownsRow.lt ho_ q hq
                  have hb0 := hHeld.size
                  have hS : Below w13.heap.size w13 v6 := hHeld.trans (hb_.mono hHeld.size)
                  have z_v6 := hb_.size
                  have r_1 := Lib.hid (r_1.out.below hb_)
                  have r_3 := Lib.hid (r_3.out.below hb_)
                  have qb := Lib.hid (qb.out.below hb_)
                  have oS := Lib.hid ho_
                  clear ho_ hb_ hHeld
                  go_wp2_with fail
                  refine hK.out _ _ hS (fun hHeld => ?_)
                  clear hK K hS
                  set_option linter.unusedSimpArgs false in try simp only [Act.put, List.setIfInBounds_toArray, List.set_cons_zero, List.set_cons_succ]
                  refine wpAnyH_take (i := 6) (oi := { dst := some 98, op := _, type := _, pos := _, after := _, guard := _ }) (v := .tuple #[.agg #[.slice aS n cS], .bool ok]) rfl (by kernel_rfl) (by kernel_rfl) (by kernel_rfl) (fun _ _ _ h => h) (Or.inl ⟨by rfl, ?_⟩) hHeld ?_
                  · (intro w_ hSw; clear hSw; go_simp; first | done | with_reducible rfl | rfl | (intro h_; omega) | (simp only [IntKind.wrap, IntKind.bits, IntKind.signed]; omega) | (simp [IntKind.wrap, IntKind.bits, IntKind.signed]; omega))
                  set_option linter.unusedSimpArgs false in try simp only [Act.put, List.setIfInBounds_toArray, List.set_cons_zero, List.set_cons_succ]
                  refine wpAnyH_take (i := 7) (oi := { dst := some 105, op := _, type := _, pos := _, after := _, guard := _ }) (v := .agg #[.slice aS n cS]) rfl (by kernel_rfl) (by kernel_rfl) (by kernel_rfl) (fun _ _ _ h => h) (Or.inl ⟨by rfl, ?_⟩) hHeld ?_
                  · (intro w_ hSw; clear hSw; go_simp; first | done | with_reducible rfl | rfl | (intro h_; omega) | (simp only [IntKind.wrap, IntKind.bits, IntKind.signed]; omega) | (simp [IntKind.wrap, IntKind.bits, IntKind.signed]; omega))
                  set_option linter.unusedSimpArgs false in try simp only [Act.put, List.setIfInBounds_toArray, List.set_cons_zero, List.set_cons_succ]
                  refine wpAnyH_take (i := 8) (oi := { dst := some 106, op := _, type := _, pos := _, after := _, guard := _ }) (v := .bool ok) rfl (by kernel_rfl) (by kernel_rfl) (by kernel_rfl) (fun _ _ _ h => h) (Or.inl ⟨by rfl, ?_⟩) hHeld ?_
                  · (intro w_ hSw; clear hSw; go_simp; first | done | with_reducible rfl | rfl | (intro h_; omega) | (simp only [IntKind.wrap, IntKind.bits, IntKind.signed]; omega) | (simp [IntKind.wrap, IntKind.bits, IntKind.signed]; omega))
                  set_option linter.unusedSimpArgs false in try simp only [Act.put, List.setIfInBounds_toArray, List.set_cons_zero, List.set_cons_succ]
                  have c_q := qb.out.one.1
                  have f_q := qb.out.one.2 0
                  have hg_ := grownBy_set v6 (v2.heap.size) 0 (.slice aS n cS)
                  have qb9 := Lib.hid (qb.out.set 0 (.slice aS n cS))
                  have oS9 := Lib.hid (oS.out.kept hg_ (by
                    cases hq : (Value.slice aS n cS).ownBlock with
                    | none => exact .inl rfl
                    | some q => refine .inr ?_; intro e; cases e; have h1 := lS _ hq; (try simp only [World.size_alloc] at *); omega))
                  have hS : Below w13.heap.size w13 (v6.setCell ⟨v2.heap.size, 0, none⟩ (.slice aS n cS)) := hHeld.grown hg_ hHeld.size (fun q hq => by cases hq; omega)
                  refine wpAnyH_ready (rs := [10]) (by kernel_rfl) (by simp) ?_
                  refine AllReadyH.cons rfl (fun K hK => ?_) ?_
                  rotate_left
                  · exact AllReadyH.nil
                  try rw [if_pos (by rfl)]
                  go_simp
                  refine hK.out _ _ hS (fun hHeld => ?_)
                  clear hK K
                  set_option linter.unusedSimpArgs false in try simp only [Act.put, List.setIfInBounds_toArray, List.set_cons_zero, List.set_cons_succ]
                  refine wpAnyH_take (i := 11) (oi := { dst := some 18, op := _, type := _, pos := _, after := _, guard := _ }) (v := .bool ok) rfl (by kernel_rfl) (by kernel_rfl) (by kernel_rfl) (fun _ _ _ h => h) (Or.inl ⟨by rfl, ?_⟩) hHeld ?_
                  · (intro w_ hSw; clear hSw; go_simp; first | done | with_reducible rfl | rfl | (intro h_; omega) | (simp only [IntKind.wrap, IntKind.bits, IntKind.signed]; omega) | (simp [IntKind.wrap, IntKind.bits, IntKind.signed]; omega))
                  set_option linter.unusedSimpArgs false in try simp only [Act.put, List.setIfInBounds_toArray, List.set_cons_zero, List.set_cons_succ]
                  refine wpAnyH_done (by kernel_rfl) ?_ _
                  refine NoPanic.normal ?_
                  have HS9 := Lib.hid hS
                  clear hS hHeld hg_ c_q f_q
                  go_wp2_with fail
                  go_meet
                  case rel => exact ⟨_, aS, cS, rfl, rfl, qb9.out, OwnI.low oS9.out (by first | omega | (simp; omega)), HS9.out⟩
                exact AllReadyH.nil
              exact AllReadyH.nil
            refine AllReadyH.cons rfl (fun K hK => ?_) ?_
            · go_simp
              have qb := Lib.hid (BoxF.new v1 [.slice none 0 0] 28)
              have hq0 := hHeld.size
              have ha_ := (Below.refl v1.heap.size v1).alloc (Nat.le_refl _) (.cells #[.slice none 0 0] 28 (0, 0))
              have hS : Below w13.heap.size w13 (v1.alloc (.cells #[.slice none 0 0] 28 (0, 0))) := hHeld.trans (ha_.mono hHeld.size)
              have r_1 := Lib.hid (r_1.out.below ha_)
              clear ha_ hHeld
              refine hK.out _ _ hS (fun hHeld => ?_)
              clear hK K hS
              set_option linter.unusedSimpArgs false in try simp only [Act.put, List.setIfInBounds_toArray, List.set_cons_zero, List.set_cons_succ]
              refine wpAnyH_ready (rs := [3]) (by kernel_rfl) (by simp) ?_
              refine AllReadyH.cons rfl (fun K hK => ?_) ?_
              · try rw [if_pos (by rfl)]
                go_simp
                refine (toRegion_any X1 len1 a1 cap1 _ (RW1.out.below (HB.out.trans (hHeld.mono HB.out.size))) (by omega)).mono ?_
                rintro e v8 ⟨g_3, rfl, ho_, hb_⟩
                have hS : Below w13.heap.size w13 v8 := hHeld.trans (hb_.mono hHeld.size)
                have z_v8 := hb_.size
                have r_1 := Lib.hid (r_1.out.below hb_)
                have qb := Lib.hid (qb.out.below hb_)
                have r_3 := Lib.hid ho_.rd
                clear ho_ hb_ hHeld
                go_wp2_with fail
                refine hK.out _ _ hS (fun hHeld => ?_)
                clear hK K hS
                set_option linter.unusedSimpArgs false in try simp only [Act.put, List.setIfInBounds_toArray, List.set_cons_zero, List.set_cons_succ]
                refine wpAnyH_ready (rs := [5]) (by kernel_rfl) (by simp) ?_
                refine AllReadyH.cons rfl (fun K hK => ?_) ?_
                · try rw [if_pos (by rfl)]
                  go_simp
                  refine (HI.out _ _ _ _ _ r_1.out r_3.out).mono ?_
                  rintro e v9 ⟨aS, cS, rfl, ho_, hb_⟩
                  have lS : ∀ q, (Value.slice aS n cS).ownBlock = some q → _ := fun q hq => World.ownsRow.lt ho_ q hq
                  have hb0 := hHeld.size
                  have hS : Below w13.heap.size w13 v9 := hHeld.trans (hb_.mono hHeld.size)
                  have z_v9 := hb_.size
                  have r_1 := Lib.hid (r_1.out.below hb_)
                  have qb := Lib.hid (qb.out.below hb_)
                  have r_3 := Lib.hid (r_3.out.below hb_)
                  have oS := Lib.hid ho_
                  clear ho_ hb_ hHeld
                  go_wp2_with fail
                  refine hK.out _ _ hS (fun hHeld => ?_)
                  clear hK K hS
                  set_option linter.unusedSimpArgs false in try simp only [Act.put, List.setIfInBounds_toArray, List.set_cons_zero, List.set_cons_succ]
                  refine wpAnyH_take (i := 6) (oi := { dst := some 98, op := _, type := _, pos := _, after := _, guard := _ }) (v := .tuple #[.agg #[.slice aS n cS], .bool ok]) rfl (by kernel_rfl) (by kernel_rfl) (by kernel_rfl) (fun _ _ _ h => h) (Or.inl ⟨by rfl, ?_⟩) hHeld ?_
                  · (intro w_ hSw; clear hSw; go_simp; first | done | with_reducible rfl | rfl | (intro h_; omega) | (simp only [IntKind.wrap, IntKind.bits, IntKind.signed]; omega) | (simp [IntKind.wrap, IntKind.bits, IntKind.signed]; omega))
                  set_option linter.unusedSimpArgs false in try simp only [Act.put, List.setIfInBounds_toArray, List.set_cons_zero, List.set_cons_succ]
                  refine wpAnyH_take (i := 7) (oi := { dst := some 105, op := _, type := _, pos := _, after := _, guard := _ }) (v := .agg #[.slice aS n cS]) rfl (by kernel_rfl) (by kernel_rfl) (by kernel_rfl) (fun _ _ _ h => h) (Or.inl ⟨by rfl, ?_⟩) hHeld ?_
                  · (intro w_ hSw; clear hSw; go_simp; first | done | with_reducible rfl | rfl | (intro h_; omega) | (simp only [IntKind.wrap, IntKind.bits, IntKind.signed]; omega) | (simp [IntKind.wrap, IntKind.bits, IntKind.signed]; omega))
                  set_option linter.unusedSimpArgs false in try simp only [Act.put, List.setIfInBounds_toArray, List.set_cons_zero, List.set_cons_succ]
                  refine wpAnyH_take (i := 8) (oi := { dst := some 106, op := _, type := _, pos := _, after := _, guard := _ }) (v := .bool ok) rfl (by kernel_rfl) (by kernel_rfl) (by kernel_rfl) (fun _ _ _ h => h) (Or.inl ⟨by rfl, ?_⟩) hHeld ?_
                  · (intro w_ hSw; clear hSw; go_simp; first | done | with_reducible rfl | rfl | (intro h_; omega) | (simp only [IntKind.wrap, IntKind.bits, IntKind.signed]; omega) | (simp [IntKind.wrap, IntKind.bits, IntKind.signed]; omega))
                  set_option linter.unusedSimpArgs false in try simp only [Act.put, List.setIfInBounds_toArray, List.set_cons_zero, List.set_cons_succ]
                  have c_q := qb.out.one.1
                  have f_q := qb.out.one.2 0
                  have hg_ := grownBy_set v9 (v1.heap.size) 0 (.slice aS n cS)
                  have qb9 := Lib.hid (qb.out.set 0 (.slice aS n cS))
                  have oS9 := Lib.hid (oS.out.kept hg_ (by
                    cases hq : (Value.slice aS n cS).ownBlock with
                    | none => exact .inl rfl
                    | some q => refine .inr ?_; intro e; cases e; have h1 := lS _ hq; (try simp only [World.size_alloc] at *); omega))
                  have hS : Below w13.heap.size w13 (v9.setCell ⟨v1.heap.size, 0, none⟩ (.slice aS n cS)) := hHeld.grown hg_ hHeld.size (fun q hq => by cases hq; omega)
                  refine wpAnyH_ready (rs := [10]) (by kernel_rfl) (by simp) ?_
                  refine AllReadyH.cons rfl (fun K hK => ?_) ?_
                  rotate_left
                  · exact AllReadyH.nil
                  try rw [if_pos (by rfl)]
                  go_simp
                  refine hK.out _ _ hS (fun hHeld => ?_)
                  clear hK K
                  set_option linter.unusedSimpArgs false in try simp only [Act.put, List.setIfInBounds_toArray, List.set_cons_zero, List.set_cons_succ]
                  refine wpAnyH_take (i := 11) (oi := { dst := some 18, op := _, type := _, pos := _, after := _, guard := _ }) (v := .bool ok) rfl (by kernel_rfl) (by kernel_rfl) (by kernel_rfl) (fun _ _ _ h => h) (Or.inl ⟨by rfl, ?_⟩) hHeld ?_
                  · (intro w_ hSw; clear hSw; go_simp; first | done | with_reducible rfl | rfl | (intro h_; omega) | (simp only [IntKind.wrap, IntKind.bits, IntKind.signed]; omega) | (simp [IntKind.wrap, IntKind.bits, IntKind.signed]; omega))
                  set_option linter.unusedSimpArgs false in try simp only [Act.put, List.setIfInBounds_toArray, List.set_cons_zero, List.set_cons_succ]
                  refine wpAnyH_done (by kernel_rfl) ?_ _
                  refine NoPanic.normal ?_
                  have HS9 := Lib.hid hS
                  clear hS hHeld hg_ c_q f_q
                  go_wp2_with fail
                  go_meet
                  case rel => exact ⟨_, aS, cS, rfl, rfl, qb9.out, OwnI.low oS9.out (by first | omega | (simp; omega)), HS9.out⟩
                exact AllReadyH.nil
              exact AllReadyH.nil
            exact AllReadyH.nil
          refine AllReadyH.cons rfl (fun K hK => ?_) ?_
          · go_simp
            have qb := Lib.hid (BoxF.new Wd [.slice none 0 0] 28)
            have hq0 := hHeld.size
            have ha_ := (Below.refl Wd.heap.size Wd).alloc (Nat.le_refl _) (.cells #[.slice none 0 0] 28 (0, 0))
            have hS : Below w13.heap.size w13 (Wd.alloc (.cells #[.slice none 0 0] 28 (0, 0))) := hHeld.trans (ha_.mono hHeld.size)
            clear ha_ hHeld
            refine hK.out _ _ hS (fun hHeld => ?_)
            clear hK K hS
            set_option linter.unusedSimpArgs false in try simp only [Act.put, List.setIfInBounds_toArray, List.set_cons_zero, List.set_cons_succ]
            refine wpAnyH_ready (rs := [1]) (by kernel_rfl) (by simp) ?_
            refine AllReadyH.cons rfl (fun K hK => ?_) ?_
            · try rw [if_pos (by rfl)]
              go_simp
              refine (toRegion_any X0 len0 a0 cap0 _ (RW0.out.below (HB.out.trans (hHeld.mono HB.out.size))) (by omega)).mono ?_
              rintro e v11 ⟨g_1, rfl, ho_, hb_⟩
              have hS : Below w13.heap.size w13 v11 := hHeld.trans (hb_.mono hHeld.size)
              have z_v11 := hb_.size
              have qb := Lib.hid (qb.out.below hb_)
              have r_1 := Lib.hid ho_.rd
              clear ho_ hb_ hHeld
              go_wp2_with fail
              refine hK.out _ _ hS (fun hHeld => ?_)
              clear hK K hS
              set_option linter.unusedSimpArgs false in try simp only [Act.put, List.setIfInBounds_toArray, List.set_cons_zero, List.set_cons_succ]
              refine wpAnyH_ready (rs := [3]) (by kernel_rfl) (by simp) ?_
              refine AllReadyH.cons rfl (fun K hK => ?_) ?_
              · try rw [if_pos (by rfl)]
                go_simp
                refine (toRegion_any X1 len1 a1 cap1 _ (RW1.out.below (HB.out.trans (hHeld.mono HB.out.size))) (by omega)).mono ?_
                rintro e v12 ⟨g_3, rfl, ho_, hb_⟩
                have hS : Below w13.heap.size w13 v12 := hHeld.trans (hb_.mono hHeld.size)
                have z_v12 := hb_.size
                have qb := Lib.hid (qb.out.below hb_)
                have r_1 := Lib.hid (r_1.out.below hb_)
                have r_3 := Lib.hid ho_.rd
                clear ho_ hb_ hHeld
                go_wp2_with fail
                refine hK.out _ _ hS (fun hHeld => ?_)
                clear hK K hS
                set_option linter.unusedSimpArgs false in try simp only [Act.put, List.setIfInBounds_toArray, List.set_cons_zero, List.set_cons_succ]
                refine wpAnyH_ready (rs := [5]) (by kernel_rfl) (by simp) ?_
                refine AllReadyH.cons rfl (fun K hK => ?_) ?_
                · try rw [if_pos (by rfl)]
                  go_simp
                  refine (HI.out _ _ _ _ _ r_1.out r_3.out).mono ?_
                  rintro e v13 ⟨aS, cS, rfl, ho_, hb_⟩
                  have lS : ∀ q, (Value.slice aS n cS).ownBlock = some q → _ := fun q hq => World.ownsRow.lt ho_ q hq
                  have hb0 := hHeld.size
                  have hS : Below w13.heap.size w13 v13 := hHeld.trans (hb_.mono hHeld.size)
                  have z_v13 := hb_.size
                  have qb := Lib.hid (qb.out.below hb_)
                  have r_1 := Lib.hid (r_1.out.below hb_)
                  have r_3 := Lib.hid (r_3.out.below hb_)
                  have oS := Lib.hid ho_
                  clear ho_ hb_ hHeld
                  go_wp2_with fail
                  refine hK.out _ _ hS (fun hHeld => ?_)
                  clear hK K hS
                  set_option linter.unusedSimpArgs false in try simp only [Act.put, List.setIfInBounds_toArray, List.set_cons_zero, List.set_cons_succ]
                  refine wpAnyH_take (i := 6) (oi := { dst := some 98, op := _, type := _, pos := _, after := _, guard := _ }) (v := .tuple #[.agg #[.slice aS n cS], .bool ok]) rfl (by kernel_rfl) (by kernel_rfl) (by kernel_rfl) (fun _ _ _ h => h) (Or.inl ⟨by rfl, ?_⟩) hHeld ?_
                  · (intro w_ hSw; clear hSw; go_simp; first | done | with_reducible rfl | rfl | (intro h_; omega) | (simp only [IntKind.wrap, IntKind.bits, IntKind.signed]; omega) | (simp [IntKind.wrap, IntKind.bits, IntKind.signed]; omega))
                  set_option linter.unusedSimpArgs false in try simp only [Act.put, List.setIfInBounds_toArray, List.set_cons_zero, List.set_cons_succ]
                  refine wpAnyH_take (i := 7) (oi := { dst := some 105, op := _, type := _, pos := _, after := _, guard := _ }) (v := .agg #[.slice aS n cS]) rfl (by kernel_rfl) (by kernel_rfl) (by kernel_rfl) (fun _ _ _ h => h) (Or.inl ⟨by rfl, ?_⟩) hHeld ?_
                  · (intro w_ hSw; clear hSw; go_simp; first | done | with_reducible rfl | rfl | (intro h_; omega) | (simp only [IntKind.wrap, IntKind.bits, IntKind.signed]; omega) | (simp [IntKind.wrap, IntKind.bits, IntKind.signed]; omega))
                  set_option linter.unusedSimpArgs false in try simp only [Act.put, List.setIfInBounds_toArray, List.set_cons_zero, List.set_cons_succ]
                  refine wpAnyH_take (i := 8) (oi := { dst := some 106, op := _, type := _, pos := _, after := _, guard := _ }) (v := .bool ok) rfl (by kernel_rfl) (by kernel_rfl) (by kernel_rfl) (fun _ _ _ h => h) (Or.inl ⟨by rfl, ?_⟩) hHeld ?_
                  · (intro w_ hSw; clear hSw; go_simp; first | done | with_reducible rfl | rfl | (intro h_; omega) | (simp only [IntKind.wrap, IntKind.bits, IntKind.signed]; omega) | (simp [IntKind.wrap, IntKind.bits, IntKind.signed]; omega))
                  set_option linter.unusedSimpArgs false in try simp only [Act.put, List.setIfInBounds_toArray, List.set_cons_zero, List.set_cons_succ]
                  have c_q := qb.out.one.1
                  have f_q := qb.out.one.2 0
                  have hg_ := grownBy_set v13 (Wd.heap.size) 0 (.slice aS n cS)
                  have qb9 := Lib.hid (qb.out.set 0 (.slice aS n cS))
                  have oS9 := Lib.hid (oS.out.kept hg_ (by
                    cases hq : (Value.slice aS n cS).ownBlock with
                    | none => exact .inl rfl
                    | some q => refine .inr ?_; intro e; cases e; have h1 := lS _ hq; (try simp only [World.size_alloc] at *); omega))
                  have hS : Below w13.heap.size w13 (v13.setCell ⟨Wd.heap.size, 0, none⟩ (.slice aS n cS)) := hHeld.grown hg_ hHeld.size (fun q hq => by cases hq; omega)
                  refine wpAnyH_ready (rs := [10]) (by kernel_rfl) (by simp) ?_
                  refine AllReadyH.cons rfl (fun K hK => ?_) ?_
                  rotate_left
                  · exact AllReadyH.nil
                  try rw [if_pos (by rfl)]
                  go_simp
                  refine hK.out _ _ hS (fun hHeld => ?_)
                  clear hK K
                  set_option linter.unusedSimpArgs false in try simp only [Act.put, List.setIfInBounds_toArray, List.set_cons_zero, List.set_cons_succ]
                  refine wpAnyH_take (i := 11) (oi := { dst := some 18, op := _, type := _, pos := _, after := _, guard := _ }) (v := .bool ok) rfl (by kernel_rfl) (by kernel_rfl) (by kernel_rfl) (fun _ _ _ h => h) (Or.inl ⟨by rfl, ?_⟩) hHeld ?_
                  · (intro w_ hSw; clear hSw; go_simp; first | done | with_reducible rfl | rfl | (intro h_; omega) | (simp only [IntKind.wrap, IntKind.bits, IntKind.signed]; omega) | (simp [IntKind.wrap, IntKind.bits, IntKind.signed]; omega))
                  set_option linter.unusedSimpArgs false in try simp only [Act.put, List.setIfInBounds_toArray, List.set_cons_zero, List.set_cons_succ]
                  refine wpAnyH_done (by kernel_rfl) ?_ _
                  refine NoPanic.normal ?_
                  have HS9 := Lib.hid hS
                  clear hS hHeld hg_ c_q f_q
                  go_wp2_with fail
                  go_meet
                  case rel => exact ⟨_, aS, cS, rfl, rfl, qb9.out, OwnI.low oS9.out (by first | omega | (simp; omega)), HS9.out⟩
                exact AllReadyH.nil
              exact AllReadyH.nil
            exact AllReadyH.nil
          exact AllReadyH.nil
        case rest =>
          obtain ⟨q_h, a_h, c_h, rfl, rfl, bx_, ho_, hb_⟩ := hcut
          have l_h : ∀ q, (Value.slice a_h n c_h).ownBlock = some q → _ := fun q hq => World.ownsRow.lt ho_ q hq
          have z_h := hb_.size
          have bl_h := bx_.lt
          have R_s_ := Lib.hid (R_s.out.below hb_)
          have R_x_ := Lib.hid (R_x.out.below hb_)
          have R_g_ := Lib.hid (R_g.out.below hb_)
          have B_arg0_ := Lib.hid (B_arg0.out.below hb_)
          have B_arg1_ := Lib.hid (B_arg1.out.below hb_)
          have B_s_ := Lib.hid (B_s.out.below hb_)
          have B_x_ := Lib.hid (B_x.out.below hb_)
          have B_y_ := Lib.hid (B_y.out.below hb_)
          have B_g_ := Lib.hid (B_g.out.below hb_)
          have HB_ := Lib.hid (HB.out.trans (hb_.mono HB.out.size))
          clear R_s R_x R_g B_arg0 B_arg1 B_s B_x B_y B_g HB
          have R_s := R_s_
          have R_x := R_x_
          have R_g := R_g_
          have B_arg0 := B_arg0_
          have B_arg1 := B_arg1_
          have B_s := B_s_
          have B_x := B_x_
          have B_y := B_y_
          have B_g := B_g_
          have HB := HB_
          clear R_s_ R_x_ R_g_ B_arg0_ B_arg1_ B_s_ B_x_ B_y_ B_g_ HB_
          have R_h := Lib.hid ho_
          have B_h := Lib.hid bx_
          clear ho_ hb_ bx_
          have c_h := B_h.out.one.1
          have c_s := B_s.out.one.1
          go_wp2_with fail
          clear c_h c_s
          refine (eqRegion_true X n a_h a_s c_h c_s _ R_h.out.rd R_s.out.rd (by omega)).mono ?_
          rintro e w14 ⟨rfl, hb_⟩
          have z_w14 := hb_.size
          try simp only [World.size_alloc] at z_w14
          have R_s_ := Lib.hid (R_s.out.below hb_)
          have R_x_ := Lib.hid (R_x.out.below hb_)
          have R_g_ := Lib.hid (R_g.out.below hb_)
          have R_h_ := Lib.hid (R_h.out.below hb_)
          have B_arg0_ := Lib.hid (B_arg0.out.below hb_)
          have B_arg1_ := Lib.hid (B_arg1.out.below hb_)
          have B_s_ := Lib.hid (B_s.out.below hb_)
          have B_x_ := Lib.hid (B_x.out.below hb_)
          have B_y_ := Lib.hid (B_y.out.below hb_)
          have B_g_ := Lib.hid (B_g.out.below hb_)
          have B_h_ := Lib.hid (B_h.out.below hb_)
          have HB_ := Lib.hid (HB.out.trans (hb_.mono HB.out.size))
          clear R_s R_x R_g R_h B_arg0 B_arg1 B_s B_x B_y B_g B_h HB
          have R_s := R_s_
          have R_x := R_x_
          have R_g := R_g_
          have R_h := R_h_
          have B_arg0 := B_arg0_
          have B_arg1 := B_arg1_
          have B_s := B_s_
          have B_x := B_x_
          have B_y := B_y_
          have B_g := B_g_
          have B_h := B_h_
          have HB := HB_
          clear R_s_ R_x_ R_g_ R_h_ B_arg0_ B_arg1_ B_s_ B_x_ B_y_ B_g_ B_h_ HB_
          clear hb_
          have c_g := B_g.out.one.1
          go_wp2_with fail
          clear c_g
          refine (heldRegion_any n a_g c_g _ R_g.out.rd (by omega)).mono ?_
          rintro e w15 ⟨rfl, hb_⟩
          have z_w15 := hb_.size
          try simp only [World.size_alloc] at z_w15
          have R_s_ := Lib.hid (R_s.out.below hb_)
          have R_x_ := Lib.hid (R_x.out.below hb_)
          have R_g_ := Lib.hid (R_g.out.below hb_)
          have R_h_ := Lib.hid (R_h.out.below hb_)
          have B_arg0_ := Lib.hid (B_arg0.out.below hb_)
          have B_arg1_ := Lib.hid (B_arg1.out.below hb_)
          have B_s_ := Lib.hid (B_s.out.below hb_)
          have B_x_ := Lib.hid (B_x.out.below hb_)
          have B_y_ := Lib.hid (B_y.out.below hb_)
          have B_g_ := Lib.hid (B_g.out.below hb_)
          have B_h_ := Lib.hid (B_h.out.below hb_)
          have HB_ := Lib.hid (HB.out.trans (hb_.mono HB.out.size))
          clear R_s R_x R_g R_h B_arg0 B_arg1 B_s B_x B_y B_g B_h HB
          have R_s := R_s_
          have R_x := R_x_
          have R_g := R_g_
          have R_h := R_h_
          have B_arg0 := B_arg0_
          have B_arg1 := B_arg1_
          have B_s := B_s_
          have B_x := B_x_
          have B_y := B_y_
          have B_g := B_g_
          have B_h := B_h_
          have HB := HB_
          clear R_s_ R_x_ R_g_ R_h_ B_arg0_ B_arg1_ B_s_ B_x_ B_y_ B_g_ B_h_ HB_
          clear hb_
          go_wp2_with fail
          go_ret
          exact ⟨rfl, HB.out⟩

/-! ### THE ROW's STEP: WRITTEN OUT: LEAVE IT -/
set_option maxRecDepth 100000 in
theorem lifted (os : Os) (started : os.Started) (H : Type) (enc : TypeId × Value → H) :
    ReturnsInHanded {} Try.checked os 8 .any (Rows.fnExactCombineRegionsSpec.pre6 enc Try.prog Try.f8 Rows.fnExactCombineRegionsRow.domain false) (Rows.fnExactCombineRegionsSpec.post enc Try.prog Try.f8 false true false false) := by
  refine returnsInHanded_of_change (C := Try.checked) own started (by kernel_rfl) Try.func8
    (ChangeSpec.witness6 (enc := enc) (C := Try.checked) false ⟨#[], #[.agg #[.slice none 0 0], .agg #[.slice none 0 0], .int .i64 0], []⟩ 8 (by kernel_rfl) (by kernel_rfl) (by kernel_rfl) (by kernel_rfl)) ?_
  intro W base args ds gs before hval0 hW hcnd _
  have hval : ∀ (j : Nat) t v, Try.f8.params[j]? = some t → args[j]? = some v → Value.okWide Try.prog W .any base t v := hval0
  have hW' := hW
  obtain ⟨p, q, hA0, hV, rfl, hfz, hnd⟩ := hW
  have hA : DataW.TrodAll enc Try.prog W 0 (fun _ => true) true Try.f8.params.toList args.toList ds p := hA0
  rw [Try.params8] at hA hval
  obtain ⟨v0, vs0, d0, ds0, p0, q0, hargs, rfl, rfl, h0, r0⟩ := trodAll_cons hA
  obtain ⟨v1, vs1, d1, ds1, p1, q1, rfl, rfl, rfl, h1, r1⟩ := trodAll_cons r0
  obtain ⟨v2, vs2, d2, ds2, p2, q2, rfl, rfl, rfl, h2, r2⟩ := trodAll_cons r1
  obtain ⟨rfl, rfl, rfl⟩ := trodAll_nil r2
  obtain rfl : args = #[v0, v1, v2] := by cases args; simp_all
  obtain ⟨rfl, rfl⟩ := trodVars_none hV
  obtain ⟨a0, len0, cap0, rfl, hs0⟩ := reg_open Try.underlying25 (s := 23) rfl rfl (by kernel_rfl) (by kernel_rfl) Try.underlying23 Try.underlying3 (by kernel_rfl) (hval 0 25 v0 rfl rfl) h0
  have k0 := h0
  have lt0 : ∀ x ∈ p0, x.block < W.heap.size := by obtain ⟨m, hm⟩ := k0; exact DataW.trod_lt m _ _ _ hm
  obtain ⟨z0, w0⟩ : ∃ zs, IsRow .i64 W a0 len0 cap0 zs := by
    obtain ⟨fuel, xx, hf⟩ := hs0
    rcases open_ints Try.underlying23 Try.underlying3 (by kernel_rfl) hf with ⟨hcs, _⟩ | ⟨x, l, c, zs, hcs, _, hl, hm, hz, _, hcell, hwz⟩
    · simp [Value.cells] at hcs
      obtain ⟨rfl, rfl, rfl⟩ := hcs
      exact ⟨[], .inl ⟨rfl, rfl, rfl, rfl⟩⟩
    · simp [Value.cells] at hcs
      obtain ⟨rfl, rfl, rfl⟩ := hcs
      exact ⟨zs, .inr ⟨_, rfl, hl, hm, by simpa using hz, hcell, hwz⟩⟩
  obtain ⟨a1, len1, cap1, rfl, hs1⟩ := reg_open Try.underlying25 (s := 23) rfl rfl (by kernel_rfl) (by kernel_rfl) Try.underlying23 Try.underlying3 (by kernel_rfl) (hval 1 25 v1 rfl rfl) h1
  have k1 := h1
  have lt1 : ∀ x ∈ p1, x.block < W.heap.size := by obtain ⟨m, hm⟩ := k1; exact DataW.trod_lt m _ _ _ hm
  obtain ⟨z1, w1⟩ : ∃ zs, IsRow .i64 W a1 len1 cap1 zs := by
    obtain ⟨fuel, xx, hf⟩ := hs1
    rcases open_ints Try.underlying23 Try.underlying3 (by kernel_rfl) hf with ⟨hcs, _⟩ | ⟨x, l, c, zs, hcs, _, hl, hm, hz, _, hcell, hwz⟩
    · simp [Value.cells] at hcs
      obtain ⟨rfl, rfl, rfl⟩ := hcs
      exact ⟨[], .inl ⟨rfl, rfl, rfl, rfl⟩⟩
    · simp [Value.cells] at hcs
      obtain ⟨rfl, rfl, rfl⟩ := hcs
      exact ⟨zs, .inr ⟨_, rfl, hl, hm, by simpa using hz, hcell, hwz⟩⟩
  obtain ⟨a2, rfl, rfl, rfl, w2⟩ := open_int Try.underlying3 (hval 2 3 v2 rfl rfl) h2
  clear hA0 hval0
  refine (walk a0 len0 cap0 z0 a1 len1 cap1 z1 a2 W w0 w1 w2).mono fun e W' ⟨he, bel⟩ => ?_
  subst he
  exact ⟨_, rfl, _, _, _, [], _, [], hW', trodAll_mk1 (shut_bool Try.underlying4 _), (trodAll_cons_mk (Below.trod laidOut (by kernel_rfl) (of_decide_eq_true (by kernel_rfl)) k0 bel lt0) (trodAll_cons_mk (Below.trod laidOut (by kernel_rfl) (of_decide_eq_true (by kernel_rfl)) k1 bel lt1) (trodAll_cons_mk (shut_int Try.underlying3 w2) trodAll_mk0))), rfl, bel.frame _, fun h => by cases h⟩

theorem over : Rows.fnExactCombineRegionsRow.holds Try.pinned (OpenSpec.ofChange Rows.fnExactCombineRegionsSpec) :=
  OpenClaim.holds_of_wide 8 Try.f8 rfl rfl rfl rfl rfl rfl rfl ⟨rfl, rfl, rfl, rfl, rfl⟩ rfl rfl rfl rfl rfl (by kernel_rfl) Try.func8 (by kernel_rfl)
    (of_decide_eq_true (by kernel_rfl)) (by unfold Func.isWrapper; first | (rw [if_pos (by decide +kernel)]; kernel_rfl) | (rw [if_neg (by decide +kernel)]; exact ⟨rfl, rfl⟩))
    (fun os started H enc _ => lifted os started H enc)

/-- ████ THE STATEMENT ████ -/
theorem proved : Rows.FnExactCombineRegionsSaid := over
#print axioms proved
end Go.Proofs.Ytmmbhglmafnfpaa.fnExactCombineRegions
