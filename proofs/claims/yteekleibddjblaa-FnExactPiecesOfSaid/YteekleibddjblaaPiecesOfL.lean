/- FnExactPiecesOf: at every region, valid or not, the law returns true: PiecesOf of the program answers as its model does, and leaves its argument as it was. No condition. -/
import Derived.Test.YteekleibddjblaaRows
import Derived.WalkKit
import Derived.ProofKit
import Derived.OpenShut
import Derived.ShutString
import Derived.Test.YteekleibddjblaaC9F
import Derived.Test.YteekleibddjblaaC9L
import Derived.Test.YteekleibddjblaaRegArg
import Derived.Deep.DeepCutAuto
import Derived.Test.YteekleibddjblaaRegArg
import Derived.ChangeOld
import Derived.Below
namespace Go.Proofs.Yteekleibddjblaa.fnExactPiecesOf
open Go.ChangeShapes Go.WideShapes Go.ChangeAt Go.RowKit
open Go.ChangeMaps (open_string shut_string)
set_option linter.unusedVariables false

theorem own : ownKnob Try.prog.godebug = none := by kernel_rfl
theorem laidOut : laidOutB Try.prog = true := by kernel_rfl

/-- WHAT THE WALK IS TOLD OF A SLICE OF INTEGERS THAT CAME IN: it is nil; or it leads to a row of 'cap' cells, the numbers 'zs' (the first 'len' are its elements, the rest its spare room), each fitting its kind. -/
def IsRow (k : IntKind) (w : World) (a : Option Addr) (len cap : Nat) (zs : List Int) : Prop :=
  (a = none ∧ len = 0 ∧ cap = 0 ∧ zs = []) ∨
  ∃ x, a = some x ∧ len ≤ cap ∧ cap ≤ maxLen ∧ zs.length = cap ∧ (∀ i, i < zs.length → w.cell? (x.add i) = some (.int k (zs.getD i 0))) ∧ ∀ n ∈ zs, (Lit.int k n).wf = true

/-! ### STEP 1: THE WALK: the Go text returns true, AND WRITES NOTHING THAT WAS THERE: 'Below w.heap.size w w'' (Derived/Below.lean: '.refl', '.alloc', '.drew', '.setCell' at a new block, '.trans'). Open each 'IsRow' by 'rcases' AHEAD of 'go_enter'; part every test ahead of the walk. -/
set_option maxHeartbeats 4000000 in
set_option maxRecDepth 100000 in
theorem walk (a0 : Option Addr) (len0 cap0 : Nat) (z0 : List Int) (w : World) (w0 : IsRow .i64 w a0 len0 cap0 z0) :
    Calls Try.prog 5 #[.agg #[.slice a0 len0 cap0]] w fun e w' => e = .returned (.bool true) ∧ Below w.heap.size w w' := by
  have hR0 : RdI w a0 len0 (z0.take len0) ∧ len0 ≤ maxLen ∧ WfI (z0.take len0) := by
    rcases w0 with ⟨rfl, rfl, rfl, rfl⟩ | ⟨⟨b, o, spot⟩, rfl, hl, hm, hz, hc, hwf⟩
    · exact ⟨⟨rfl, fun h => by omega⟩, by unfold maxLen; omega, fun z hz => by simp at hz⟩
    · refine ⟨⟨by simp; omega, fun hn => ?_⟩, by omega, fun z hz => ?_⟩
      · have h0 := hc 0 (by omega)
        have hspot : spot = none := by simpa [Addr.add] using World.cell?_spot h0
        subst hspot
        refine ⟨b, o, rfl, ?_, fun k hk => ?_⟩
        · simp only [Addr.add] at h0
          exact cellI_lt h0
        · have h1 := hc k (by omega)
          have e : (⟨b, o, none⟩ : Addr).add k = ⟨b, o + k, none⟩ := by unfold Addr.add; split <;> simp_all
          rw [e] at h1
          rw [h1]
          congr 2
          simp [List.getD, hk]
      · have := hwf z (List.mem_of_mem_take hz)
        simp [Lit.wf, IntKind.min, IntKind.max, IntKind.signed, IntKind.bits] at this
        omega
  obtain ⟨hR0, hl0, hw0⟩ := hR0
  obtain ⟨X0, hX0⟩ : ∃ X, z0.take len0 = X := ⟨_, rfl⟩
  rw [hX0] at hR0 hw0
  clear hX0 w0
  by_cases hbig : (1048576 : Int) < (len0 : Int)
  · clear hR0 hw0
    go_enter Try.func5, Try.ntmps5
    go_wp2_with fail
    refine (szRegion_big a0 len0 cap0 1048576 _ (by omega) (by omega) hl0).mono ?_
    rintro e w1 ⟨rfl, hb_⟩
    have HB := Lib.hid (((Below.refl w.heap.size w).alloc (Nat.le_refl _) (.cells #[.slice a0 len0 cap0] 42 (0, 0))).trans (hb_.mono (by simp)))
    clear hb_
    go_wp2_with fail
    go_ret
    exact ⟨rfl, HB.out⟩
  · have hn : len0 ≤ 1048576 := by omega
    obtain ⟨m, r, CS, CI⟩ : ∃ (m : Int) (r : Bool), (∀ W a c, RdI W a len0 X0 → Calls Try.prog 25 #[.agg #[.slice a len0 c]] W fun e w' => e = .returned (.tuple #[.int .i64 m, .bool r]) ∧ Below W.heap.size W w') ∧ (∀ W a c, RdI W a len0 X0 → Calls Try.prog 27 #[.agg #[.slice a len0 c]] W fun e w' => e = .returned (.tuple #[.int .i64 m, .bool r]) ∧ Below W.heap.size W w') := by
      exact pieces_both X0 len0 hR0.1 hw0 (by omega)
    have er : (r == r) = true := by simp
    have er2 : (r != r) = false := by simp
    have em : (m == m) = true := by simp
    have em2 : (m != m) = false := by simp
    have e1 : decide ((1048576 : Int) - (len0 : Int) < 0) = false := by simp; omega
    have e0 : decide ((1 : Int) + (len0 : Int) < 0) = false := by simp; omega
    have HS := Lib.hid CS
    have HI := Lib.hid CI
    have RW0 := Lib.hid hR0
    clear CS CI hR0 hw0 hbig
    have HB := Lib.hid ((Below.refl w.heap.size w).alloc (Nat.le_refl _) (.cells #[.slice a0 len0 cap0] 42 (0, 0)))
    have B_arg0 := Lib.hid (BoxF.new w [.slice a0 len0 cap0] 42)
    go_enter Try.func5, Try.ntmps5
    have c_arg0 := B_arg0.out.one.1
    go_wp2_with fail
    clear c_arg0
    refine (szRegion_ok a0 len0 cap0 1048576 _ (by omega) (by omega)).mono ?_
    rintro e w1 ⟨rfl, hb_⟩
    have z_w1 := hb_.size
    try simp only [World.size_alloc] at z_w1
    have B_arg0_ := Lib.hid (B_arg0.out.below hb_)
    have HB_ := Lib.hid (HB.out.trans (hb_.mono HB.out.size))
    clear B_arg0 HB
    have B_arg0 := B_arg0_
    have HB := HB_
    clear B_arg0_ HB_
    clear hb_
    have c_arg0 := B_arg0.out.one.1
    go_wp2_with fail
    clear c_arg0
    refine (toRegion_any X0 len0 a0 cap0 _ (RW0.out.below HB.out) (by omega)).mono ?_
    rintro e w2_ ⟨g_t, rfl, ho_, hb_⟩
    have l_t : ∀ q, (Value.slice (some ⟨g_t, 0, none⟩) len0 len0).ownBlock = some q → _ := fun q hq => World.ownsRow.lt ho_ q hq
    have z_w2_ := hb_.size
    try simp only [World.size_alloc] at l_t z_w2_
    have B_arg0_ := Lib.hid (B_arg0.out.below hb_)
    have HB_ := Lib.hid (HB.out.trans (hb_.mono HB.out.size))
    clear B_arg0 HB
    have B_arg0 := B_arg0_
    have HB := HB_
    clear B_arg0_ HB_
    have R_t := Lib.hid ho_
    clear ho_ hb_
    go_wp2_with fail
    refine (HS.out _ _ _ R_t.out.rd).mono ?_
    rintro e w3 ⟨rfl, hb_⟩
    have z_w3 := hb_.size
    try simp only [World.size_alloc] at z_w3
    have R_t_ := Lib.hid (R_t.out.below hb_)
    have B_arg0_ := Lib.hid (B_arg0.out.below hb_)
    have HB_ := Lib.hid (HB.out.trans (hb_.mono HB.out.size))
    clear R_t B_arg0 HB
    have R_t := R_t_
    have B_arg0 := B_arg0_
    have HB := HB_
    clear R_t_ B_arg0_ HB_
    clear hb_
    clear R_t
    have c_arg0 := B_arg0.out.one.1
    go_wp2_with fail
    clear c_arg0
    refine (toRegion_any X0 len0 a0 cap0 _ (RW0.out.below HB.out) (by omega)).mono ?_
    rintro e w4_ ⟨g_x, rfl, ho_, hb_⟩
    have l_x : ∀ q, (Value.slice (some ⟨g_x, 0, none⟩) len0 len0).ownBlock = some q → _ := fun q hq => World.ownsRow.lt ho_ q hq
    have z_w4_ := hb_.size
    try simp only [World.size_alloc] at l_x z_w4_
    have B_arg0_ := Lib.hid (B_arg0.out.below hb_)
    have HB_ := Lib.hid (HB.out.trans (hb_.mono HB.out.size))
    clear B_arg0 HB
    have B_arg0 := B_arg0_
    have HB := HB_
    clear B_arg0_ HB_
    have R_x := Lib.hid ho_
    clear ho_ hb_
    have R_x_ := Lib.hid (R_x.out.below ((Below.refl _ w4_).alloc (Nat.le_refl _) (.cells #[.slice (some ⟨g_x, 0, none⟩) len0 len0] 28 (0, 0))))
    have B_arg0_ := Lib.hid (B_arg0.out.alloc (.cells #[.slice (some ⟨g_x, 0, none⟩) len0 len0] 28 (0, 0)))
    have HB_ := Lib.hid (HB.out.alloc HB.out.size (.cells #[.slice (some ⟨g_x, 0, none⟩) len0 len0] 28 (0, 0)))
    clear R_x B_arg0 HB
    have R_x := R_x_
    have B_arg0 := B_arg0_
    have HB := HB_
    clear R_x_ B_arg0_ HB_
    have B_x := Lib.hid (BoxF.new w4_ [.slice (some ⟨g_x, 0, none⟩) len0 len0] 28)
    have c_x := B_x.out.one.1
    go_wp2_with fail
    clear c_x
    refine (HI.out _ _ _ R_x.out.rd).mono ?_
    rintro e w5 ⟨rfl, hb_⟩
    have z_w5 := hb_.size
    try simp only [World.size_alloc] at z_w5
    have R_x_ := Lib.hid (R_x.out.below hb_)
    have B_arg0_ := Lib.hid (B_arg0.out.below hb_)
    have B_x_ := Lib.hid (B_x.out.below hb_)
    have HB_ := Lib.hid (HB.out.trans (hb_.mono HB.out.size))
    clear R_x B_arg0 B_x HB
    have R_x := R_x_
    have B_arg0 := B_arg0_
    have B_x := B_x_
    have HB := HB_
    clear R_x_ B_arg0_ B_x_ HB_
    clear hb_
    go_upto_region 10 with fail
    go_cut [39] (fun sl wx => sl = .bool false ∧ Below w5.heap.size w5 wx)
    case first =>
      have c_x := B_x.out.one.1
      have c_arg0 := B_arg0.out.one.1
      go_region_with (first | (go_at_call 26; refine (toRegion_any X0 len0 a0 cap0 _ ((RW0.out.below HB.out).drewN 1) (by omega)).mono ?_; rintro e wA ⟨gA, rfl, hoA, hbA⟩; have hwA : Below w5.heap.size w5 wA := ⟨hbA.os, hbA.tape, hbA.output, hbA.size, hbA.block⟩; have hoA2 := Lib.hid hoA; have d_x := (B_x.out.below hwA).one.1; have d_arg0 := (B_arg0.out.below hwA).one.1; clear hoA hbA) | (go_at_call 21; refine (eqRegion_true X0 len0 _ _ _ _ _ (R_x.out.rd.below hwA) hoA2.out.rd (by omega)).mono ?_; rintro e wB ⟨rfl, hbB⟩; have hwB : Below w5.heap.size w5 wB := hwA.trans (hbB.mono hwA.size)))
      all_goals
        go_wp2_with fail
        go_meet
        case rel => exact ⟨rfl, hwB⟩
    case rest =>
      obtain ⟨rfl, hb_⟩ := hcut
      have z_c6 := hb_.size
      have R_x_ := Lib.hid (R_x.out.below hb_)
      have B_arg0_ := Lib.hid (B_arg0.out.below hb_)
      have B_x_ := Lib.hid (B_x.out.below hb_)
      have HB_ := Lib.hid (HB.out.trans (hb_.mono HB.out.size))
      clear R_x B_arg0 B_x HB
      have R_x := R_x_
      have B_arg0 := B_arg0_
      have B_x := B_x_
      have HB := HB_
      clear R_x_ B_arg0_ B_x_ HB_
      clear hb_
      go_wp2_with fail
      go_ret
      exact ⟨rfl, HB.out⟩

/-! ### THE ROW's STEP: WRITTEN OUT: LEAVE IT -/
set_option maxRecDepth 100000 in
theorem lifted (os : Os) (started : os.Started) (H : Type) (enc : TypeId × Value → H) :
    ReturnsInHanded {} Try.checked os 5 .any (Rows.fnExactPiecesOfSpec.pre6 enc Try.prog Try.f5 Rows.fnExactPiecesOfRow.domain false) (Rows.fnExactPiecesOfSpec.post enc Try.prog Try.f5 false true false false) := by
  refine returnsInHanded_of_change (C := Try.checked) own started (by kernel_rfl) Try.func5
    (ChangeSpec.witness6 (enc := enc) (C := Try.checked) false ⟨#[], #[.agg #[.slice none 0 0]], []⟩ 8 (by kernel_rfl) (by kernel_rfl) (by kernel_rfl) (by kernel_rfl)) ?_
  intro W base args ds gs before hval0 hW hcnd _
  have hval : ∀ (j : Nat) t v, Try.f5.params[j]? = some t → args[j]? = some v → Value.okWide Try.prog W .any base t v := hval0
  have hW' := hW
  obtain ⟨p, q, hA0, hV, rfl, hfz, hnd⟩ := hW
  have hA : DataW.TrodAll enc Try.prog W 0 (fun _ => true) true Try.f5.params.toList args.toList ds p := hA0
  rw [Try.params5] at hA hval
  obtain ⟨v0, vs0, d0, ds0, p0, q0, hargs, rfl, rfl, h0, r0⟩ := trodAll_cons hA
  obtain ⟨rfl, rfl, rfl⟩ := trodAll_nil r0
  obtain rfl : args = #[v0] := by cases args; simp_all
  obtain ⟨rfl, rfl⟩ := trodVars_none hV
  obtain ⟨a0, len0, cap0, rfl, hs0⟩ := reg_open Try.underlying42 (s := 26) rfl rfl (by kernel_rfl) (by kernel_rfl) Try.underlying26 Try.underlying3 (by kernel_rfl) (hval 0 42 v0 rfl rfl) h0
  have k0 := h0
  have lt0 : ∀ x ∈ p0, x.block < W.heap.size := by obtain ⟨m, hm⟩ := k0; exact DataW.trod_lt m _ _ _ hm
  obtain ⟨z0, w0⟩ : ∃ zs, IsRow .i64 W a0 len0 cap0 zs := by
    obtain ⟨fuel, xx, hf⟩ := hs0
    rcases open_ints Try.underlying26 Try.underlying3 (by kernel_rfl) hf with ⟨hcs, _⟩ | ⟨x, l, c, zs, hcs, _, hl, hm, hz, _, hcell, hwz⟩
    · simp [Value.cells] at hcs
      obtain ⟨rfl, rfl, rfl⟩ := hcs
      exact ⟨[], .inl ⟨rfl, rfl, rfl, rfl⟩⟩
    · simp [Value.cells] at hcs
      obtain ⟨rfl, rfl, rfl⟩ := hcs
      exact ⟨zs, .inr ⟨_, rfl, hl, hm, by simpa using hz, hcell, hwz⟩⟩
  clear hA0 hval0
  refine (walk a0 len0 cap0 z0 W w0).mono fun e W' ⟨he, bel⟩ => ?_
  subst he
  exact ⟨_, rfl, _, _, _, [], _, [], hW', trodAll_mk1 (shut_bool Try.underlying4 _), (trodAll_cons_mk (Below.trod laidOut (by kernel_rfl) (of_decide_eq_true (by kernel_rfl)) k0 bel lt0) trodAll_mk0), rfl, bel.frame _, fun h => by cases h⟩

theorem over : Rows.fnExactPiecesOfRow.holds Try.pinned (OpenSpec.ofChange Rows.fnExactPiecesOfSpec) :=
  OpenClaim.holds_of_wide 5 Try.f5 rfl rfl rfl rfl rfl rfl rfl ⟨rfl, rfl, rfl, rfl, rfl⟩ rfl rfl rfl rfl rfl (by kernel_rfl) Try.func5 (by kernel_rfl)
    (of_decide_eq_true (by kernel_rfl)) (by unfold Func.isWrapper; first | (rw [if_pos (by decide +kernel)]; kernel_rfl) | (rw [if_neg (by decide +kernel)]; exact ⟨rfl, rfl⟩))
    (fun os started H enc _ => lifted os started H enc)

/-- ████ THE STATEMENT ████ -/
theorem proved : Rows.FnExactPiecesOfSaid := over
#print axioms proved
end Go.Proofs.Yteekleibddjblaa.fnExactPiecesOf
