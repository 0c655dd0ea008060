/- FnExactCountTinctures: at every slice of numbers the law returns true: CountTinctures of the program answers as its model does, in memory of its own, and leaves its argument as it was. No condition. -/
import Derived.Test.YtflfdngcgebmmaaRows
import Derived.WalkKit
import Derived.ProofKit
import Derived.OpenShut
import Derived.ShutString
import Derived.Test.YtflfdngcgebmmaaCount
import Derived.ChangeOld
import Derived.Below
namespace Go.Proofs.Ytflfdngcgebmmaa.fnExactCountTinctures
open Go.ChangeShapes Go.WideShapes Go.ChangeAt Go.RowKit
open Go.ChangeMaps (open_string shut_string)
set_option linter.unusedVariables false

theorem own : ownKnob Try.prog.godebug = none := by kernel_rfl
theorem laidOut : laidOutB Try.prog = true := by kernel_rfl

/-- WHAT THE WALK IS TOLD OF A SLICE OF INTEGERS THAT CAME IN: it is nil; or it leads to a row of 'cap' cells, the numbers 'zs' (the first 'len' are its elements, the rest its spare room), each fitting its kind. -/
def IsRow (k : IntKind) (w : World) (a : Option Addr) (len cap : Nat) (zs : List Int) : Prop :=
  (a = none ∧ len = 0 ∧ cap = 0 ∧ zs = []) ∨
  ∃ x, a = some x ∧ len ≤ cap ∧ cap ≤ maxLen ∧ zs.length = cap ∧ (∀ i, i < zs.length → w.cell? (x.add i) = some (.int k (zs.getD i 0))) ∧ ∀ n ∈ zs, (Lit.int k n).wf = true

/-! ### STEP 1: THE WALK: the Go text returns true, AND WRITES NOTHING THAT WAS THERE: 'Below w.heap.size w w'' (Derived/Below.lean: '.refl', '.alloc', '.drew', '.setCell' at a new block, '.trans'). Open each 'IsRow' by 'rcases' AHEAD of 'go_enter'; part every test ahead of the walk. -/
theorem walk (a0 : Option Addr) (len0 cap0 : Nat) (z0 : List Int) (w : World) (w0 : IsRow .i64 w a0 len0 cap0 z0) :
    Calls Try.prog 10 #[.slice a0 len0 cap0] w fun e w' => e = .returned (.bool true) ∧ Below w.heap.size w w' := by
  have hR : RdI w a0 len0 (z0.take len0) ∧ len0 ≤ maxLen := by
    rcases w0 with ⟨rfl, rfl, rfl, rfl⟩ | ⟨⟨b, o, spot⟩, rfl, hl, hm, hz, hc, hwf⟩
    · exact ⟨⟨rfl, fun h => by omega⟩, by unfold maxLen; omega⟩
    · refine ⟨⟨by simp; omega, fun hn => ?_⟩, by omega⟩
      have h0 := hc 0 (by omega)
      have hspot : spot = none := by simpa [Addr.add] using World.cell?_spot h0
      subst hspot
      refine ⟨b, o, rfl, ?_, fun k hk => ?_⟩
      · simp only [Addr.add] at h0
        exact cellI_lt h0
      · have h1 := hc k (by omega)
        have e : (⟨b, o, none⟩ : Addr).add k = ⟨b, o + k, none⟩ := by unfold Addr.add; split <;> simp_all
        rw [e] at h1
        rw [h1]
        congr 2
        simp [List.getD, hk]
  obtain ⟨hR, hlm⟩ := hR
  obtain ⟨X, hXdef⟩ : ∃ X, z0.take len0 = X := ⟨_, rfl⟩
  rw [hXdef] at hR
  clear hXdef w0
  unfold maxLen at hlm
  by_cases hbig : (1048576 : Int) < (len0 : Int)
  · clear hR
    go_enter Try.func10, Try.ntmps10
    go_wp2_with fail
    go_ret
    exact ⟨rfl, Below.refl _ _⟩
  · have hn : len0 ≤ 1048576 := by omega
    obtain ⟨Y, ok, hY, CS, CI⟩ : ∃ (Y : List Int) (ok : Bool), Y.length ≤ 1000 ∧ (∀ W a c, RdI W a len0 X → Calls Try.prog 16 #[.slice a len0 c] W (Ans W Y ok)) ∧ (∀ W a c, RdI W a len0 X → Calls Try.prog 14 #[.slice a len0 c] W (Ans W Y ok)) := by
      cases hg : goodL X
      · exact ⟨[], false, by simp, fun W a c h => count_spec_no X len0 a c W h (by omega) hg, fun W a c h => count_impl_no X len0 a c W h (by omega) hg⟩
      · exact ⟨_, true, by rw [cntL_len]; omega, fun W a c h => count_spec X len0 a c W h (by omega) hg, fun W a c h => count_impl X len0 a c W h (by omega) hg⟩
    obtain ⟨N, hN⟩ : ∃ N, Y.length = N := ⟨_, rfl⟩
    have hN2 : N ≤ 1000 := by omega
    have e0 : decide ((1 : Int) + (N : Int) < 0) = false := by simp; omega
    have e1 : decide ((1 : Int) + (len0 : Int) < 0) = false := by simp; omega
    unfold Ans at CS CI
    rw [hN] at CS CI
    clear hY hN
    have HS := Lib.hid CS
    have HI := Lib.hid CI
    clear CS CI
    cases ok
    all_goals
      go_enter Try.func10, Try.ntmps10
      go_wp2_with fail
      refine (toIntS_any X len0 a0 cap0 w hR (by omega)).mono ?_
      rintro e W1 ⟨g1, rfl, ho1, hb1⟩
      go_wp2_with fail
      refine (HS.out _ _ _ ho1.rd).mono ?_
      rintro e W2 ⟨gs, cs, rfl, hos, hb2⟩
      have B2 := hb1.trans (hb2.mono hb1.size)
      go_wp2_with fail
      refine (toIntS_any X len0 a0 cap0 W2 ((hR.below hb1).below hb2) (by omega)).mono ?_
      rintro e W3 ⟨g3, rfl, ho3, hb3⟩
      have B3 := B2.trans (hb3.mono B2.size)
      go_wp2_with fail
      refine (HI.out _ _ _ ho3.rd).mono ?_
      rintro e W4 ⟨gi, ci, rfl, hoi, hb4⟩
      have B4 := B3.trans (hb4.mono B3.size)
      have rs := (hos.rd.below hb3).below hb4
      go_wp2_with fail
      refine (eqIntS_true Y N _ _ _ _ _ hoi.rd rs (by omega)).mono ?_
      rintro e W5 ⟨rfl, m5, rfl⟩
      have B5 := below_drewN' B4 m5
      have R5 : RdI (W4.drewN m5) a0 len0 X := RdI.drewN ((((hR.below hb1).below hb2).below hb3).below hb4) m5
      go_wp2_with fail
      refine (toIntS_any X len0 a0 cap0 _ R5 (by omega)).mono ?_
      rintro e W6 ⟨g6, rfl, ho6, hb6⟩
      have B6 := B5.trans (hb6.mono B5.size)
      have o6 : OwnI W6 W2.heap.size (some ⟨g3, 0, none⟩) len0 len0 X := (OwnI.drewN (ho3.below hb4) m5).below hb6
      have i6 : OwnI W6 W3.heap.size gi N ci Y := (OwnI.drewN (hoi) m5).below hb6
      have s6 : OwnI W6 W1.heap.size gs N cs Y := (OwnI.drewN ((hos.below hb3).below hb4) m5).below hb6
      have hlt3 : W2.heap.size ≤ g3 ∧ g3 < W3.heap.size := ⟨(World.ownsRow.lt ho3 g3 rfl).1, (World.ownsRow.lt ho3 g3 rfl).2⟩
      have hlts : ∀ q, (Value.slice gs N cs).ownBlock = some q → q < W2.heap.size := fun q hq => (World.ownsRow.lt hos q hq).2
      have hlti : ∀ q, (Value.slice gi N ci).ownBlock = some q → W3.heap.size ≤ q := fun q hq => (World.ownsRow.lt hoi q hq).1
      have z1 := hb1.size
      have z2 := hb2.size
      have z3 := hb3.size
      clear ho1 hos ho3 hoi rs R5
      go_wp2_with fail
      refine (eqIntS_true X len0 _ _ _ _ _ o6.rd ho6.rd (by omega)).mono ?_
      rintro e W7 ⟨rfl, m7, rfl⟩
      have B7 := below_drewN' B6 m7
      go_wp2_with fail
      refine (mark1 X len0 W2.heap.size len0 (some ⟨g3, 0, none⟩) (W6.drewN m7) o6 (by omega)).mono ?_
      rintro e W8 ⟨rfl, _, hg8⟩
      have B8 : Below w.heap.size w W8 := B7.grown hg8 B7.size (fun q hq => by have e2 : q = g3 := (by cases hq; rfl); omega)
      have i8 : OwnI W8 W3.heap.size gi N ci Y := (OwnI.drewN i6 m7).kept hg8 (by
        cases hq : (Value.slice gi N ci).ownBlock with
        | none => exact .inl rfl
        | some q => refine .inr ?_; intro e; have h1 := hlti q hq; have e2 : q = g3 := (by cases e; rfl); omega)
      have s8 : OwnI W8 W1.heap.size gs N cs Y := (OwnI.drewN s6 m7).kept hg8 (by
        cases hq : (Value.slice gs N cs).ownBlock with
        | none => exact .inl rfl
        | some q => refine .inr ?_; intro e; have h1 := hlts q hq; have e2 : q = g3 := (by cases e; rfl); omega)
      have RA : RdI (W6.drewN m7) a0 len0 X := RdI.drewN (RdI.below (RdI.drewN ((((hR.below hb1).below hb2).below hb3).below hb4) m5) hb6) m7
      have R8 : RdI W8 a0 len0 X := hR.below B8
      clear o6 i6 s6 ho6 hg8 RA
      go_wp2_with fail
      refine (eqIntS_true Y N _ _ _ _ _ i8.rd s8.rd (by omega)).mono ?_
      rintro e W9 ⟨rfl, m9, rfl⟩
      have B9 := below_drewN' B8 m9
      go_wp2_with fail
      refine (mark1 Y N W3.heap.size ci gi (W8.drewN m9) i8 (by omega)).mono ?_
      rintro e W10 ⟨rfl, i10, hg10⟩
      have B10 : Below w.heap.size w W10 := B9.grown hg10 B9.size (fun q hq => by have := hlti q hq; omega)
      have s10 : OwnI W10 W1.heap.size gs N cs Y := (OwnI.drewN s8 m9).kept hg10 (by
        cases hq : (Value.slice gs N cs).ownBlock with
        | none => exact .inl rfl
        | some q => refine .inr ?_; intro e; have h1 := hlts q hq; have h2 := hlti q e.symm; omega)
      have R10 : RdI W10 a0 len0 X := hR.below B10
      clear i8 s8 hg10 R8
      go_wp2_with fail
      refine (held1 N _ _ _ i10.rd (by omega)).mono ?_
      rintro e W11 ⟨rfl, m11, rfl⟩
      have B11 := below_drewN' B10 m11
      go_wp2_with fail
      refine (toIntS_any X len0 a0 cap0 _ (R10.drewN m11) (by omega)).mono ?_
      rintro e W12 ⟨g12, rfl, ho12, hb12⟩
      have B12 := B11.trans (hb12.mono B11.size)
      go_wp2_with fail
      refine (HI.out _ _ _ ho12.rd).mono ?_
      rintro e W13 ⟨gh, ch, rfl, hoh, hb13⟩
      have B13 := B12.trans (hb13.mono B12.size)
      have s13 : RdI W13 gs N Y := ((s10.rd.drewN m11).below hb12).below hb13
      have i13 : RdI W13 gi N (ones N) := ((i10.rd.drewN m11).below hb12).below hb13
      go_wp2_with fail
      refine (eqIntS_true Y N _ _ _ _ _ hoh.rd s13 (by omega)).mono ?_
      rintro e W14 ⟨rfl, m14, rfl⟩
      go_wp2_with fail
      refine (held1 N _ _ (W13.drewN m14) (i13.drewN m14) (by omega)).mono ?_
      rintro e W15 ⟨rfl, m15, rfl⟩
      go_wp2_with fail
      go_ret
      exact ⟨rfl, below_drewN' B13 _⟩

/-! ### THE ROW's STEP: WRITTEN OUT: LEAVE IT -/
set_option maxRecDepth 100000 in
theorem lifted (os : Os) (started : os.Started) (H : Type) (enc : TypeId × Value → H) :
    ReturnsInHanded {} Try.checked os 10 .any (Rows.fnExactCountTincturesSpec.pre6 enc Try.prog Try.f10 Rows.fnExactCountTincturesRow.domain false) (Rows.fnExactCountTincturesSpec.post enc Try.prog Try.f10 false true false false) := by
  refine returnsInHanded_of_change (C := Try.checked) own started (by kernel_rfl) Try.func10
    (ChangeSpec.witness6 (enc := enc) (C := Try.checked) false ⟨#[], #[.slice none 0 0], []⟩ 8 (by kernel_rfl) (by kernel_rfl) (by kernel_rfl) (by kernel_rfl)) ?_
  intro W base args ds gs before hval0 hW hcnd _
  have hval : ∀ (j : Nat) t v, Try.f10.params[j]? = some t → args[j]? = some v → Value.okWide Try.prog W .any base t v := hval0
  have hW' := hW
  obtain ⟨p, q, hA0, hV, rfl, hfz, hnd⟩ := hW
  have hA : DataW.TrodAll enc Try.prog W 0 (fun _ => true) true Try.f10.params.toList args.toList ds p := hA0
  rw [Try.params10] at hA hval
  obtain ⟨v0, vs0, d0, ds0, p0, q0, hargs, rfl, rfl, h0, r0⟩ := trodAll_cons hA
  obtain ⟨rfl, rfl, rfl⟩ := trodAll_nil r0
  obtain rfl : args = #[v0] := by cases args; simp_all
  obtain ⟨rfl, rfl⟩ := trodVars_none hV
  obtain ⟨a0, len0, cap0, rfl⟩ := okWide_slice Try.underlying24 (hval 0 24 v0 rfl rfl)
  have k0 := h0
  have lt0 : ∀ x ∈ p0, x.block < W.heap.size := by obtain ⟨m, hm⟩ := k0; exact DataW.trod_lt m _ _ _ hm
  obtain ⟨z0, w0⟩ : ∃ zs, IsRow .i64 W a0 len0 cap0 zs := by
    obtain ⟨fuel, hf⟩ := h0
    rcases open_ints Try.underlying24 Try.underlying3 (by kernel_rfl) hf with ⟨hcs, _⟩ | ⟨x, l, c, zs, hcs, _, hl, hm, hz, _, hcell, hwz⟩
    · simp [Value.cells] at hcs
      obtain ⟨rfl, rfl, rfl⟩ := hcs
      exact ⟨[], .inl ⟨rfl, rfl, rfl, rfl⟩⟩
    · simp [Value.cells] at hcs
      obtain ⟨rfl, rfl, rfl⟩ := hcs
      exact ⟨zs, .inr ⟨_, rfl, hl, hm, by simpa using hz, hcell, hwz⟩⟩
  clear hA0 hval0
  refine (walk a0 len0 cap0 z0 W w0).mono fun e W' ⟨he, bel⟩ => ?_
  subst he
  exact ⟨_, rfl, _, _, _, [], _, [], hW', trodAll_mk1 (shut_bool Try.underlying4 _), (trodAll_cons_mk (Below.trod laidOut (by kernel_rfl) (of_decide_eq_true (by kernel_rfl)) k0 bel lt0) trodAll_mk0), rfl, bel.frame _, fun h => by cases h⟩

theorem over : Rows.fnExactCountTincturesRow.holds Try.pinned (OpenSpec.ofChange Rows.fnExactCountTincturesSpec) :=
  OpenClaim.holds_of_wide 10 Try.f10 rfl rfl rfl rfl rfl rfl rfl ⟨rfl, rfl, rfl, rfl, rfl⟩ rfl rfl rfl rfl rfl (by kernel_rfl) Try.func10 (by kernel_rfl)
    (of_decide_eq_true (by kernel_rfl)) (by unfold Func.isWrapper; first | (rw [if_pos (by decide +kernel)]; kernel_rfl) | (rw [if_neg (by decide +kernel)]; exact ⟨rfl, rfl⟩))
    (fun os started H enc _ => lifted os started H enc)

/-- ████ THE STATEMENT ████ -/
theorem proved : Rows.FnExactCountTincturesSaid := over
#print axioms proved
end Go.Proofs.Ytflfdngcgebmmaa.fnExactCountTinctures
