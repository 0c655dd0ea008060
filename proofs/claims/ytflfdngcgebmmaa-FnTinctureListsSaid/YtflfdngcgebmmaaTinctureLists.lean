/- FnTinctureLists: at every slice of bytes the law returns true: the counts of tinctures are those of the list, and every different one is listed once. No condition. -/
import Derived.Test.YtflfdngcgebmmaaRows
import Derived.WalkKit
import Derived.ProofKit
import Derived.OpenShut
import Derived.ShutString
import Derived.Test.YtflfdngcgebmmaaLawIn
import Derived.Test.YtflfdngcgebmmaaDrawTin
import Derived.Test.YtflfdngcgebmmaaCMath
import Derived.Test.YtflfdngcgebmmaaFirst
import Derived.ChangeOld
import Derived.Below
namespace Go.Proofs.Ytflfdngcgebmmaa.fnTinctureLists
open Go.ChangeShapes Go.WideShapes Go.ChangeAt Go.RowKit
open Go.ChangeMaps (open_string shut_string)
set_option linter.unusedVariables false

theorem own : ownKnob Try.prog.godebug = none := by kernel_rfl
theorem laidOut : laidOutB Try.prog = true := by kernel_rfl

/-- WHAT THE WALK IS TOLD OF A SLICE OF INTEGERS THAT CAME IN: it is nil; or it leads to a row of 'cap' cells, the numbers 'zs' (the first 'len' are its elements, the rest its spare room), each fitting its kind. -/
def IsRow (k : IntKind) (w : World) (a : Option Addr) (len cap : Nat) (zs : List Int) : Prop :=
  (a = none ∧ len = 0 ∧ cap = 0 ∧ zs = []) ∨
  ∃ x, a = some x ∧ len ≤ cap ∧ cap ≤ maxLen ∧ zs.length = cap ∧ (∀ i, i < zs.length → w.cell? (x.add i) = some (.int k (zs.getD i 0))) ∧ ∀ n ∈ zs, (Lit.int k n).wf = true

/-! ### STEP 1: THE WALK: the Go text returns true, AND WRITES NOTHING THAT WAS THERE: 'Below w.heap.size w w'' (Derived/Below.lean: '.refl', '.alloc', '.drew', '.setCell' at a new block, '.trans'). Open each 'IsRow' by 'rcases' AHEAD of 'go_enter'; part every test ahead of the walk. -/
theorem walk (a0 : Option Addr) (len0 cap0 : Nat) (z0 : List Int) (w : World) (w0 : IsRow .u8 w a0 len0 cap0 z0) :
    Calls Try.prog 3 #[.slice a0 len0 cap0] w fun e w' => e = .returned (.bool true) ∧ Below w.heap.size w w' := by
  have hR : RdB w w.heap.size a0 len0 := by
    rcases w0 with ⟨rfl, rfl, rfl, rfl⟩ | ⟨⟨b, o, spot⟩, rfl, hl, hm, hz, hc, hwf⟩
    · intro h; omega
    · refine rdb_of (fun k hk => hc k (by omega)) (fun k hk => ?_)
      have e2 : z0.getD k 0 = z0[k]'(by omega) := by simp [List.getD, show k < z0.length by omega]
      have h2 := hwf (z0.getD k 0) (by rw [e2]; exact List.getElem_mem _)
      exact (by simpa [Lit.wf] using h2)
  clear w0
  have hB := vBig_any a0 len0 cap0 w
  by_cases hbig : (65536 : Int) < (len0 : Int)
  · have e1 : decide ((65536 : Int) < (len0 : Int)) = true := by simp; omega
    simp only [e1] at hB
    clear hR
    go_enter Try.func3, Try.ntmps3
    go_wp2_with (go_at_call 12; refine hB.mono ?_; rintro e w' ⟨rfl, rfl⟩)
    go_ret
    exact ⟨rfl, Below.refl _ _⟩
  · have e1 : decide ((65536 : Int) < (len0 : Int)) = false := by simp; omega
    simp only [e1] at hB
    have hn : len0 ≤ 65536 := by omega
    have cd := drawCount_any a0 len0 cap0 w hR hn
    clear hR
    go_enter Try.func3, Try.ntmps3
    go_wp2_with (go_at_call 12; refine hB.mono ?_; rintro e w' ⟨rfl, rfl⟩)
    refine cd.mono ?_
    rintro e w1 ⟨⟨a', N, c', X, rfl, hN, hO⟩, hb1⟩
    clear hB cd
    cases hg : goodL X
    · have c1 := fun W h => count_impl_no X N a' c' W h (by omega) hg
      have c2 := fun W h => first_impl_no X N a' c' W h (by omega) hg
      have c3 := fun W h => count_spec_no X N a' c' W h (by omega) hg
      have C1 := Lib.hid c1
      have C2 := Lib.hid c2
      have C3 := Lib.hid c3
      clear c1 c2 c3 hg
      go_wp2_with fail
      refine (C1.out _ hO.rd).mono ?_
      rintro e w2 ⟨g2, k2, rfl, ho2, hb2⟩
      have r2 := hO.rd.below hb2
      go_wp2_with fail
      refine (C2.out _ r2).mono ?_
      rintro e w3 ⟨g3, k3, rfl, ho3, hb3⟩
      go_wp2_with fail
      refine (C3.out _ (r2.below hb3)).mono ?_
      rintro e w4 ⟨g4, k4, rfl, ho4, hb4⟩
      go_wp2_with fail
      refine (vInts_true [] 0 _ _ _ _ _ ((ho2.rd.below hb3).below hb4) ho4.rd (by omega)).mono ?_
      rintro e w5 ⟨rfl, m, rfl⟩
      go_wp2_with fail
      go_ret
      have B2 := hb1.trans (hb2.mono hb1.size)
      have B3 := B2.trans (hb3.mono B2.size)
      exact ⟨rfl, below_drewN' (B3.trans (hb4.mono B3.size)) m⟩
    · have hga := goodL_all hg
      have c1 := fun W h => count_impl X N a' c' W h (by omega) hg
      have c2 := fun W h => first_impl X N a' c' W h (by omega) hg
      have c3 := fun W h => count_spec X N a' c' W h (by omega) hg
      have hXN := hO.rd.1
      have hN40 : N ≤ 40 := by have := goodL_len hg; omega
      have hs := psum_all hga
      have hd := pdif_all hga
      have hcl := cntL_len X
      have hfl := firstL_len X
      obtain ⟨F, hF⟩ : ∃ F, (firstL X).length = F := ⟨_, rfl⟩
      unfold Ans at c1 c2 c3
      rw [hcl] at c1 c3
      rw [hF] at c2 hd hfl
      have hF40 : F ≤ 40 := by omega
      have C1 := Lib.hid c1
      have C2 := Lib.hid c2
      have C3 := Lib.hid c3
      have HS := Lib.hid (hs.trans hXN)
      have HD := Lib.hid hd
      have HF := Lib.hid hF
      have HX := Lib.hid hXN
      have hF0 : N = 0 → F = 0 := by omega
      have HF0 := Lib.hid hF0
      clear c1 c2 c3 hs hd hF hXN hcl hfl hga hg hF0
      go_wp2_with fail
      refine (C1.out _ hO.rd).mono ?_
      rintro e w2 ⟨g2, k2, rfl, ho2, hb2⟩
      have r2 := hO.rd.below hb2
      go_wp2_with fail
      refine (C2.out _ r2).mono ?_
      rintro e w3 ⟨g3, k3, rfl, ho3, hb3⟩
      go_wp2_with fail
      refine (C3.out _ (r2.below hb3)).mono ?_
      rintro e w4 ⟨g4, k4, rfl, ho4, hb4⟩
      go_wp2_with fail
      have rc := (ho2.rd.below hb3).below hb4
      refine (vInts_true (cntL X) 9 _ _ _ _ _ rc ho4.rd (by omega)).mono ?_
      rintro e w5 ⟨rfl, m, rfl⟩
      have B2 := hb1.trans (hb2.mono hb1.size)
      have B3 := B2.trans (hb3.mono B2.size)
      have B4 := Lib.hid (below_drewN' (B3.trans (hb4.mono B3.size)) m)
      have RL := Lib.hid ((r2.below hb3).below hb4)
      have RF := Lib.hid (ho3.rd.below hb4)
      have RC := rc.drewN m
      rcases ho2.shape with ⟨_, h0, _⟩ | ⟨gc, rfl, _, _⟩
      · omega
      have HC : Hid (∀ k, k < 9 → (w4.drewN m).cell? ⟨gc, k, none⟩ = some (.int .i64 ((X.count ((k : Int) + 1) : Nat) : Int))) := by
        show ∀ k, _
        intro k hk
        obtain ⟨b', o', e', hl', hc'⟩ := RC.2 (by omega)
        cases e'
        have := rdI_at hc' hk (cntL_at X hk)
        rw [Nat.zero_add] at this
        exact this
      clear hO hb1 ho2 hb2 r2 ho3 hb3 ho4 hb4 rc B2 B3 RC
      go_wp2_with fail
      go_loopw [10, 11, 12] (fun s d i wr => ∃ k s' d' : Nat, k ≤ 9 ∧ i = .int .i64 k ∧ s = .int .i64 s' ∧ d = .int .i64 d' ∧ Hid (s' = psum X k) ∧ Hid (d' = pdif X k) ∧ s' ≤ 400 ∧ d' ≤ 9 ∧ wr = w4.drewN m) (fun _ _ i _ => 9 - (intOf i).toNat)
      case atStart => exact ⟨0, 0, 0, by omega, rfl, rfl, rfl, by show _ = _; rfl, by show _ = _; rfl, by omega, by omega, rfl⟩
      case round =>
        obtain ⟨k, s', d', hk, rfl, rfl, rfl, HS', HD', hs', hd', rfl⟩ := hrel
        by_cases hlt : k < 9
        · have hcell := HC.out k hlt
          have hq := count_le (k := N) HX.out ((k : Int) + 1)
          have hps := psum_le X (n := 40) (by have := HX.out; omega) (k + 1)
          have hpd := pdif_le X (k + 1)
          have e5 := HS'.out
          have e6 := HD'.out
          rw [psum] at hps
          rw [pdif] at hpd
          rw [← e5] at hps
          rw [← e6] at hpd
          have HS2 : Hid (s' + X.count ((k : Int) + 1) = psum X (k + 1)) := by show _ = _; rw [psum, ← e5]
          have HD2 : Hid (d' + (if 0 < X.count ((k : Int) + 1) then 1 else 0) = pdif X (k + 1)) := by show _ = _; rw [pdif, ← e6]
          clear e5 e6 hq
          generalize X.count ((k : Int) + 1) = q at *
          by_cases hq0 : 0 < q
          · rw [if_pos hq0] at hpd
            have HD3 : Hid (d' + 1 = pdif X (k + 1)) := by have h := HD2.out; rw [if_pos hq0] at h; exact h
            clear HD2
            go_wp2_with fail
            go_roundw
            case rel => exact ⟨k + 1, s' + q, d' + 1, by omega, by go_num, by go_num, by go_num, HS2, HD3, by omega, by omega, trivial⟩
            case measure => simp [intOf]; omega
          · rw [if_neg hq0] at hpd
            have HD3 : Hid (d' = pdif X (k + 1)) := by have h := HD2.out; rw [if_neg hq0] at h; exact h
            clear HD2
            go_wp2_with fail
            go_roundw
            case rel => exact ⟨k + 1, s' + q, d', by omega, by go_num, by go_num, rfl, HS2, HD3, by omega, by omega, trivial⟩
            case measure => simp [intOf]; omega
        · have es : s' = N := by
            have h1 := HS'.out; have h2 := HS.out; have e9 : k = 9 := by omega
            subst e9; omega
          have ed : d' = F := by
            have h1 := HD'.out; have h2 := HD.out; have e9 : k = 9 := by omega
            subst e9; omega
          subst es
          subst ed
          clear HC
          rcases Nat.eq_zero_or_pos s' with hz | hz
          · have hz2 := HF0.out hz
            subst hz
            subst hz2
            go_wp2_with fail
            go_quiet (fail)
            go_wp2_with fail
            go_ret
            exact ⟨rfl, below_drewN' B4.out _⟩
          · obtain ⟨b1, o1, rfl, _, hc1⟩ := RL.out.2 hz
            obtain ⟨x, hx, _⟩ := atI_of_lt HX.out hz
            have hx1 := rdI_at hc1 hz hx
            have hx2 := first_head hx
            have hFp : 0 < d' := by
              rcases Nat.eq_zero_or_pos d' with h | h
              · have h3 := HF.out
                rw [List.getElem?_eq_none (by omega)] at hx2; cases hx2
              · exact h
            obtain ⟨b2, o2, rfl, _, hc2⟩ := RF.out.2 hFp
            have hx3 := rdI_at hc2 hFp hx2
            have e7 : ((s' : Int) == 0) = false := by rw [beq_eq_false_iff_ne]; omega
            rw [Nat.add_zero] at hx1 hx3
            clear hc1 hc2 hx hx2
            go_wp2_with fail
            go_quiet (fail)
            go_wp2_with fail
            go_ret
            exact ⟨rfl, below_drewN' B4.out _⟩

/-! ### THE ROW's STEP: WRITTEN OUT: LEAVE IT -/
set_option maxRecDepth 100000 in
theorem lifted (os : Os) (started : os.Started) (H : Type) (enc : TypeId × Value → H) :
    ReturnsInHanded {} Try.checked os 3 .any (Rows.fnTinctureListsSpec.pre6 enc Try.prog Try.f3 Rows.fnTinctureListsRow.domain false) (Rows.fnTinctureListsSpec.post enc Try.prog Try.f3 false true false false) := by
  refine returnsInHanded_of_change (C := Try.checked) own started (by kernel_rfl) Try.func3
    (ChangeSpec.witness6 (enc := enc) (C := Try.checked) false ⟨#[], #[.slice none 0 0], []⟩ 8 (by kernel_rfl) (by kernel_rfl) (by kernel_rfl) (by kernel_rfl)) ?_
  intro W base args ds gs before hval0 hW hcnd _
  have hval : ∀ (j : Nat) t v, Try.f3.params[j]? = some t → args[j]? = some v → Value.okWide Try.prog W .any base t v := hval0
  have hW' := hW
  obtain ⟨p, q, hA0, hV, rfl, hfz, hnd⟩ := hW
  have hA : DataW.TrodAll enc Try.prog W 0 (fun _ => true) true Try.f3.params.toList args.toList ds p := hA0
  rw [Try.params3] at hA hval
  obtain ⟨v0, vs0, d0, ds0, p0, q0, hargs, rfl, rfl, h0, r0⟩ := trodAll_cons hA
  obtain ⟨rfl, rfl, rfl⟩ := trodAll_nil r0
  obtain rfl : args = #[v0] := by cases args; simp_all
  obtain ⟨rfl, rfl⟩ := trodVars_none hV
  obtain ⟨a0, len0, cap0, rfl⟩ := okWide_slice Try.underlying22 (hval 0 22 v0 rfl rfl)
  have k0 := h0
  have lt0 : ∀ x ∈ p0, x.block < W.heap.size := by obtain ⟨m, hm⟩ := k0; exact DataW.trod_lt m _ _ _ hm
  obtain ⟨z0, w0⟩ : ∃ zs, IsRow .u8 W a0 len0 cap0 zs := by
    obtain ⟨fuel, hf⟩ := h0
    rcases open_ints Try.underlying22 Try.underlying5 (by kernel_rfl) hf with ⟨hcs, _⟩ | ⟨x, l, c, zs, hcs, _, hl, hm, hz, _, hcell, hwz⟩
    · simp [Value.cells] at hcs
      obtain ⟨rfl, rfl, rfl⟩ := hcs
      exact ⟨[], .inl ⟨rfl, rfl, rfl, rfl⟩⟩
    · simp [Value.cells] at hcs
      obtain ⟨rfl, rfl, rfl⟩ := hcs
      exact ⟨zs, .inr ⟨_, rfl, hl, hm, by simpa using hz, hcell, hwz⟩⟩
  clear hA0 hval0
  refine (walk a0 len0 cap0 z0 W w0).mono fun e W' ⟨he, bel⟩ => ?_
  subst he
  exact ⟨_, rfl, _, _, _, [], _, [], hW', trodAll_mk1 (shut_bool Try.underlying4 _), (trodAll_cons_mk (Below.trod laidOut (by kernel_rfl) (of_decide_eq_true (by kernel_rfl)) k0 bel lt0) trodAll_mk0), rfl, bel.frame _, fun h => by cases h⟩

theorem over : Rows.fnTinctureListsRow.holds Try.pinned (OpenSpec.ofChange Rows.fnTinctureListsSpec) :=
  OpenClaim.holds_of_wide 3 Try.f3 rfl rfl rfl rfl rfl rfl rfl ⟨rfl, rfl, rfl, rfl, rfl⟩ rfl rfl rfl rfl rfl (by kernel_rfl) Try.func3 (by kernel_rfl)
    (of_decide_eq_true (by kernel_rfl)) (by unfold Func.isWrapper; first | (rw [if_pos (by decide +kernel)]; kernel_rfl) | (rw [if_neg (by decide +kernel)]; exact ⟨rfl, rfl⟩))
    (fun os started H enc _ => lifted os started H enc)

/-- ████ THE STATEMENT ████ -/
theorem proved : Rows.FnTinctureListsSaid := over
#print axioms proved
end Go.Proofs.Ytflfdngcgebmmaa.fnTinctureLists
