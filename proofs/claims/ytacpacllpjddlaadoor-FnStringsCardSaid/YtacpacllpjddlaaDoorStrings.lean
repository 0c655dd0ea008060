/- FnStrings: at every slice of bytes the law returns true: FormatInt and ParseInt are inverse, AppendChecksum and VerifyChecksum are inverse, and one changed byte of a sealed string is detected. The card is tied: three tables of Go's library read as the program's text lays them. -/
import Derived.Test.YtacpacllpjddlaaDoorRows
import Derived.Test.YtacpacllpjddlaaDoorCards
import Derived.Test.YtacpacllpjddlaaDoorTie
import Derived.WalkKit
import Derived.ProofKit
import Derived.OpenShut
import Derived.ShutString
import Derived.Test.YtacpacllpjddlaaDoorJoint
import Derived.Test.YtacpacllpjddlaaDoorBytes
import Derived.StillTailTactics
import Derived.Test.YtacpacllpjddlaaDoorTabs
import Derived.LaidMore
import Derived.Stop.Joined
import Derived.SevenTiedAt
import Derived.ChangeOld
import Derived.Below
namespace Go.Proofs.YtacpacllpjddlaaDoor.fnStrings
open Go.ChangeShapes Go.WideShapes Go.ChangeAt Go.RowKit
open Go.ChangeMaps (open_string shut_string)
set_option linter.unusedVariables false

def laidL : List (String × DataW Unit) := [("math/bits.deBruijn32tab", Rows.laid_math_bits_deBruijn32tab), ("math/bits.deBruijn64tab", Rows.laid_math_bits_deBruijn64tab), ("internal/strconv.uint64pow10", Rows.laid_internal_strconv_uint64pow10)]

/-- The door's own heap meets the condition. -/
theorem door_met (os : Os) (args : Array Value) : laidMetH Tryd.prog laidL ((World.doorLaid Tryd.prog 400 os).forCall (fun _ _ => 0) ⟨#[], args, []⟩).memory :=
  laidMetH_of_parts3 (fuel := 8) (laidMet_of_run' 8 (by kernel_rfl) (by kernel_rfl)) (by kernel_rfl) (by kernel_rfl)

theorem own : ownKnob Tryd.prog.godebug = none := by kernel_rfl
theorem laidOut : laidOutB Tryd.prog = true := by kernel_rfl

/-- WHAT THE WALK IS TOLD OF A SLICE OF INTEGERS THAT CAME IN: it is nil; or it leads to a row of 'cap' cells, the numbers 'zs' (the first 'len' are its elements, the rest its spare room), each fitting its kind. -/
def IsRow (k : IntKind) (w : World) (a : Option Addr) (len cap : Nat) (zs : List Int) : Prop :=
  (a = none ∧ len = 0 ∧ cap = 0 ∧ zs = []) ∨
  ∃ x, a = some x ∧ len ≤ cap ∧ cap ≤ maxLen ∧ zs.length = cap ∧ (∀ i, i < zs.length → w.cell? (x.add i) = some (.int k (zs.getD i 0))) ∧ ∀ n ∈ zs, (Lit.int k n).wf = true

/-! ### STEP 1: THE WALK: the Go text returns true, AND WRITES NOTHING THAT WAS THERE: 'Below w.heap.size w w'' (Derived/Below.lean: '.refl', '.alloc', '.drew', '.setCell' at a new block, '.trans'). Open each 'IsRow' by 'rcases' AHEAD of 'go_enter'; part every test ahead of the walk. -/
theorem walk (a0 : Option Addr) (len0 cap0 : Nat) (z0 : List Int) (w : World) (w0 : IsRow .u8 w a0 len0 cap0 z0) (hL : laidMetH Tryd.prog laidL w) :
    Calls Tryd.prog 3 #[.slice a0 len0 cap0] w fun e w' => e = .returned (.bool true) ∧ Below w.heap.size w w' := by
  have hT : Lib.TabIs Tryd.prog w "internal/strconv.uint64pow10" .u64 Lib.pow10Tab := by
    rw [MakeChecks.laidMetH_plain _ _ _ (by kernel_rfl)] at hL
    exact pow10_of hL.tail.tail
  have hR : RdB w w.heap.size a0 len0 := by
    rcases w0 with ⟨rfl, rfl, rfl, rfl⟩ | ⟨⟨b, o, spot⟩, rfl, hl, hm, hz, hc, hwf⟩
    · intro h; omega
    · refine rdb_of (fun k hk => hc k (by omega)) (fun k hk => ?_)
      have e2 : z0.getD k 0 = z0[k]'(by omega) := by simp [List.getD, show k < z0.length by omega]
      have h2 := hwf (z0.getD k 0) (by rw [e2]; exact List.getElem_mem _)
      exact (by simpa [Lit.wf] using h2)
  clear hL w0
  have hB := vBig_any a0 len0 cap0 w
  by_cases hbig : (65536 : Int) < (len0 : Int)
  · have e1 : decide ((65536 : Int) < (len0 : Int)) = true := by simp; omega
    simp only [e1] at hB
    clear hT hR
    go_enter Tryd.func3, Tryd.ntmps3
    go_wp2_with (go_at_call 8; refine hB.mono ?_; rintro e w' ⟨rfl, rfl⟩)
    go_ret
    exact ⟨rfl, Below.refl _ _⟩
  · have e1 : decide ((65536 : Int) < (len0 : Int)) = false := by simp; omega
    simp only [e1] at hB
    have hn : len0 ≤ 65536 := by omega
    have HT := fun w1 (hb : Below w.heap.size w w1) => ((Lib.tabBelow_of_tabIs hT).on hb).here
    have HR := fun w1 (hb : Below w.heap.size w w1) => hR.on hb
    clear hT
    go_enter Tryd.func3, Tryd.ntmps3
    go_wp2_with (go_at_call 8; refine hB.mono ?_; rintro e w' ⟨rfl, rfl⟩)
    refine (drawFormatInt_any a0 len0 cap0 w hR hn).mono ?_
    rintro e w1 ⟨⟨x, rfl, hx0, hx1⟩, hb1⟩
    clear hB hR
    obtain ⟨s, b, hs, hsb, ci, cs⟩ := fmt_joint x
    go_wp2_with fail
    refine (ci _ (HT _ hb1)).mono ?_
    rintro e w2 ⟨rfl, hb⟩
    have hb2 := hb1.trans (hb.mono hb1.size)
    clear hb
    go_wp2_with fail
    refine (cs _).mono ?_
    rintro e w3 ⟨rfl, hb⟩
    have hb3 := hb2.trans (hb.mono hb2.size)
    clear hb ci cs hb1 hb2
    go_wp2_with fail
    refine (drawParseInt_any a0 len0 cap0 _ (HR _ hb3) hn).mono ?_
    rintro e w4 ⟨⟨t, rfl, ht⟩, hb⟩
    have hb4 := hb3.trans (hb.mono hb3.size)
    clear hb
    obtain ⟨m, fine, -, ci, cs⟩ := parse_joint t (by unfold maxLen; omega)
    go_wp2_with fail
    refine (ci _ (HT _ hb4)).mono ?_
    rintro e w5 ⟨rfl, hb⟩
    have hb5 := hb4.trans (hb.mono hb4.size)
    clear hb
    go_wp2_with fail
    refine (cs _).mono ?_
    rintro e w6 ⟨rfl, hb⟩
    have hb6 := hb5.trans (hb.mono hb5.size)
    clear hb ci cs hb3 hb4 hb5 ht
    go_wp2_with fail
    refine (drawAppend_any a0 len0 cap0 _ (HR _ hb6) hn).mono ?_
    rintro e w7 ⟨⟨y, rfl, hy⟩, hb⟩
    have hb7 := hb6.trans (hb.mono hb6.size)
    clear hb
    obtain ⟨z, sealed, hz, hz1, hz0, ci, cs⟩ := append_joint y hy
    go_wp2_with fail
    refine (ci _ (HT _ hb7)).mono ?_
    rintro e w8 ⟨rfl, hb⟩
    have hb8 := hb7.trans (hb.mono hb7.size)
    clear hb
    go_wp2_with fail
    refine (cs _).mono ?_
    rintro e w9 ⟨rfl, hb⟩
    have hb9 := hb8.trans (hb.mono hb8.size)
    clear hb ci cs hb6 hb7 hb8
    obtain ⟨m2, f2, hm2, ci, -⟩ := parse_joint s hs
    go_wp2_with fail
    refine (ci _ (HT _ hb9)).mono ?_
    rintro e w10 ⟨rfl, hb⟩
    have hb10 := hb9.trans (hb.mono hb9.size)
    clear hb ci hb9
    cases sealed
    · obtain rfl := hz0 rfl
      cases b
      · clear hsb hm2 hz1 hz0
        go_wp2_with fail
        go_ret
        exact ⟨rfl, hb10⟩
      · obtain ⟨p1, p2, p3⟩ := hsb rfl
        obtain ⟨rfl, rfl⟩ := hm2 x p1 p2 p3
        clear hsb hm2 hz1 hz0 p3
        go_wp2_with fail
        go_ret
        exact ⟨rfl, hb10⟩
    · obtain ⟨rfl, hcan⟩ := hz1 rfl
      have cv := fun w1 hb1 => verify_impl (sealOf y) w1 (by unfold maxLen; omega) (sealed_seal hcan) (HT w1 hb1)
      rw [body_seal hcan.2.1] at cv
      cases b
      · clear hsb hm2 hz1 hz0
        go_wp2_with fail
        refine (cv _ hb10).mono ?_
        rintro e w11 ⟨rfl, hb⟩
        have hb11 := hb10.trans (hb.mono hb10.size)
        clear hb hb10 cv
        obtain ⟨W, cap, hcv, hba, hg⟩ := to_bytes (sealOf y) w11
        have hs2 := (seal_size y).1
        have hn0 : (((sealOf y).size : Int) == 0) = false := by rw [beq_eq_false_iff_ne]; omega
        have hb12 := hb11.grown hg hb11.size (by simp)
        clear hg
        have hgw : w.heap.size ≤ w11.heap.size := hb11.size
        generalize w11.heap.size = g at hba hcv hgw
        clear hb11
        go_wp2_with fail
        clear hcv
        obtain ⟨r, hr0, hr1, cr⟩ := vAt_any a0 len0 cap0 9 W (HR _ hb12) hn (by omega) (by omega)
        refine cr.mono ?_
        rintro e w12 ⟨rfl, rfl⟩
        clear cr
        obtain ⟨k, hk⟩ : ∃ k : Nat, r % ((sealOf y).size : Int) = k := ⟨(r % ((sealOf y).size : Int)).toNat, by have := Int.emod_nonneg r (b := ((sealOf y).size : Int)) (by omega); omega⟩
        have hkl : k < (sealOf y).size := by have := Int.emod_lt_of_pos r (b := ((sealOf y).size : Int)) (by omega); omega
        obtain ⟨hcell, hfroz⟩ := hba k (by simpa using hkl)
        obtain ⟨b0, hb0⟩ : ∃ b0, (sealOf y).data.toList.getD k 0 = b0 := ⟨_, rfl⟩
        rw [hb0] at hcell
        obtain ⟨r2, hr20, hr21, cr2⟩ := vAt_any a0 len0 cap0 10 w12.drew (HR _ hb12.drew) hn (by omega) (by omega)
        obtain ⟨c, hcx, hcne⟩ := xor_changes b0 (1 + r2 % 255) (by omega) (by omega)
        have hc1 : w12.drew.cell? ⟨g, k, none⟩ = some (.int .u8 (b0.toNat : Int)) := hcell
        have hf1 : w12.drew.frozen? ⟨g, k, none⟩ = false := hfroz
        have hw8 : IntKind.u8.wrap (1 + r2 % 255) = 1 + r2 % 255 := by rw [IntKind.wrap_u8]; omega
        go_wp2_with fail
        simp only [hk]
        have hk0 : (0 : Int) ≤ (k : Int) := by omega
        have hk1 : (k : Int) < ((sealOf y).size : Int) := by omega
        have hLn : (sealOf y).data.toList.length = (sealOf y).size := by simp
        have hba13 : BytesAt w12.drew g (sealOf y).data.toList := hba
        have hb13 := hb12.drew
        have hk5 := Lib.hid (bytes_set hba13 k (by omega) c)
        have hdet := Lib.hid (detect (x := y) hcan.2.1 k c hkl (fun e => hcne (by rw [← hb0]; unfold List.getD; rw [e]; rfl)))
        have hsz : (strOf ((sealOf y).data.toList.set k c)).size ≤ maxLen := by rw [size_strOf, List.length_set, hLn]; unfold maxLen; omega
        have hln := Lib.hid hLn
        have hgB : w.heap.size ≤ g := hgw
        clear hcan hz hs hx0 hx1 hy hbig e1 hba hba13 hb12 hs2 hk hkl hcne hb0 hLn hcell hfroz hgw
        refine wp_region_still_tail 13 (by kernel_rfl) (by kernel_rfl) ?_
        simp only [List.take_succ_cons, List.take_zero, List.drop_succ_cons, List.drop_zero]
        still_step
        still_step
        still_step
        still_step
        still_step
        still_step
        still_step
        still_call cr2
        still_step
        still_step
        still_step
        still_step
        still_step
        refine wpStill_nil ?_
        change wpList _ _ _ _ _ w12.drew
        clear cr2
        generalize w12.drew = w13 at *
        have hcv := of_bytes hk5.out (sealOf y).size cap (by rw [List.length_set]; exact hln.out)
        have hb14 := hb13.setCell (p := ⟨g, k, none⟩) hgB (.int .u8 (c.toNat : Int))
        have cno := verify_impl_no _ _ hsz hdet.out (HT _ hb14)
        clear hsz hdet hk5
        go_wp2_with fail
        refine cno.mono ?_
        rintro e w15 ⟨rfl, hb⟩
        clear hcv cno
        go_wp2_with fail
        go_ret
        exact ⟨rfl, hb14.trans (hb.mono hb14.size)⟩
      · obtain ⟨p1, p2, p3⟩ := hsb rfl
        obtain ⟨rfl, rfl⟩ := hm2 x p1 p2 p3
        clear hsb hm2 hz1 hz0 p1 p2 p3
        go_wp2_with fail
        refine (cv _ hb10).mono ?_
        rintro e w11 ⟨rfl, hb⟩
        have hb11 := hb10.trans (hb.mono hb10.size)
        clear hb hb10 cv
        obtain ⟨W, cap, hcv, hba, hg⟩ := to_bytes (sealOf y) w11
        have hs2 := (seal_size y).1
        have hn0 : (((sealOf y).size : Int) == 0) = false := by rw [beq_eq_false_iff_ne]; omega
        have hb12 := hb11.grown hg hb11.size (by simp)
        clear hg
        have hgw : w.heap.size ≤ w11.heap.size := hb11.size
        generalize w11.heap.size = g at hba hcv hgw
        clear hb11
        go_wp2_with fail
        clear hcv
        obtain ⟨r, hr0, hr1, cr⟩ := vAt_any a0 len0 cap0 9 W (HR _ hb12) hn (by omega) (by omega)
        refine cr.mono ?_
        rintro e w12 ⟨rfl, rfl⟩
        clear cr
        obtain ⟨k, hk⟩ : ∃ k : Nat, r % ((sealOf y).size : Int) = k := ⟨(r % ((sealOf y).size : Int)).toNat, by have := Int.emod_nonneg r (b := ((sealOf y).size : Int)) (by omega); omega⟩
        have hkl : k < (sealOf y).size := by have := Int.emod_lt_of_pos r (b := ((sealOf y).size : Int)) (by omega); omega
        obtain ⟨hcell, hfroz⟩ := hba k (by simpa using hkl)
        obtain ⟨b0, hb0⟩ : ∃ b0, (sealOf y).data.toList.getD k 0 = b0 := ⟨_, rfl⟩
        rw [hb0] at hcell
        obtain ⟨r2, hr20, hr21, cr2⟩ := vAt_any a0 len0 cap0 10 w12.drew (HR _ hb12.drew) hn (by omega) (by omega)
        obtain ⟨c, hcx, hcne⟩ := xor_changes b0 (1 + r2 % 255) (by omega) (by omega)
        have hc1 : w12.drew.cell? ⟨g, k, none⟩ = some (.int .u8 (b0.toNat : Int)) := hcell
        have hf1 : w12.drew.frozen? ⟨g, k, none⟩ = false := hfroz
        have hw8 : IntKind.u8.wrap (1 + r2 % 255) = 1 + r2 % 255 := by rw [IntKind.wrap_u8]; omega
        go_wp2_with fail
        simp only [hk]
        have hk0 : (0 : Int) ≤ (k : Int) := by omega
        have hk1 : (k : Int) < ((sealOf y).size : Int) := by omega
        have hLn : (sealOf y).data.toList.length = (sealOf y).size := by simp
        have hba13 : BytesAt w12.drew g (sealOf y).data.toList := hba
        have hb13 := hb12.drew
        have hk5 := Lib.hid (bytes_set hba13 k (by omega) c)
        have hdet := Lib.hid (detect (x := y) hcan.2.1 k c hkl (fun e => hcne (by rw [← hb0]; unfold List.getD; rw [e]; rfl)))
        have hsz : (strOf ((sealOf y).data.toList.set k c)).size ≤ maxLen := by rw [size_strOf, List.length_set, hLn]; unfold maxLen; omega
        have hln := Lib.hid hLn
        have hgB : w.heap.size ≤ g := hgw
        clear hcan hz hs hx0 hx1 hy hbig e1 hba hba13 hb12 hs2 hk hkl hcne hb0 hLn hcell hfroz hgw
        refine wp_region_still_tail 13 (by kernel_rfl) (by kernel_rfl) ?_
        simp only [List.take_succ_cons, List.take_zero, List.drop_succ_cons, List.drop_zero]
        still_step
        still_step
        still_step
        still_step
        still_step
        still_step
        still_step
        still_call cr2
        still_step
        still_step
        still_step
        still_step
        still_step
        refine wpStill_nil ?_
        change wpList _ _ _ _ _ w12.drew
        clear cr2
        generalize w12.drew = w13 at *
        have hcv := of_bytes hk5.out (sealOf y).size cap (by rw [List.length_set]; exact hln.out)
        have hb14 := hb13.setCell (p := ⟨g, k, none⟩) hgB (.int .u8 (c.toNat : Int))
        have cno := verify_impl_no _ _ hsz hdet.out (HT _ hb14)
        clear hsz hdet hk5
        go_wp2_with fail
        refine cno.mono ?_
        rintro e w15 ⟨rfl, hb⟩
        clear hcv cno
        go_wp2_with fail
        go_ret
        exact ⟨rfl, hb14.trans (hb.mono hb14.size)⟩

/-! ### THE ROW's STEP: WRITTEN OUT: LEAVE IT -/
set_option maxRecDepth 100000 in
theorem lifted (os : Os) (started : os.Started) (H : Type) (enc : TypeId × Value → H) :
    ReturnsInHanded {} Tryd.checked os 3 .any (fun w args => (Rows.fnStringsSpec.pre enc Tryd.prog Tryd.f3 Rows.fnStringsRow.domain false w args ∧ laidMetH Tryd.prog laidL w) ∧ sizedMet enc Tryd.prog Tryd.f3 (OpenSpec.ofChange Rows.fnStringsSpec) false w args)
      (Rows.fnStringsSpec.post enc Tryd.prog Tryd.f3 false true false false) := by
  refine returnsInHanded_of_change_and (C := Tryd.checked) (X := fun w _ => laidMetH Tryd.prog laidL w) (fun _ _ _ hh h => h.of_heap hh) own started (by kernel_rfl) Tryd.func3
    (ChangeSpec.witness_shaped (enc := enc) (C := Tryd.checked) (os := os) (X := fun w _ => laidMetH Tryd.prog laidL w) false (World.doorLaid Tryd.prog 400 os) #[.slice none 0 0] 8 rfl (World.shaped_of_RefB (by kernel_rfl) (by kernel_rfl)) (by kernel_rfl) (by kernel_rfl) (by kernel_rfl) (door_met os _)) ?_
  intro W base args ds gs before hval0 hW _ hsz0 hL _
  have hval : ∀ (j : Nat) t v, Tryd.f3.params[j]? = some t → args[j]? = some v → Value.okWide Tryd.prog W .any base t v := hval0
  have hW' := hW
  obtain ⟨p, q, hA0, hV, rfl, hfz, hnd⟩ := hW
  have hA : DataW.TrodAll enc Tryd.prog W 0 (fun _ => true) true Tryd.f3.params.toList args.toList ds p := hA0
  rw [Tryd.params3] at hA hval
  obtain ⟨v0, vs0, d0, ds0, p0, q0, hargs, rfl, rfl, h0, r0⟩ := trodAll_cons hA
  obtain ⟨rfl, rfl, rfl⟩ := trodAll_nil r0
  obtain rfl : args = #[v0] := by cases args; simp_all
  obtain ⟨rfl, rfl⟩ := trodVars_none hV
  obtain ⟨a0, len0, cap0, rfl⟩ := okWide_slice Tryd.underlying22 (hval 0 22 v0 rfl rfl)
  have k0 := h0
  have lt0 : ∀ x ∈ p0, x.block < W.heap.size := by obtain ⟨m, hm⟩ := k0; exact DataW.trod_lt m _ _ _ hm
  obtain ⟨z0, w0⟩ : ∃ zs, IsRow .u8 W a0 len0 cap0 zs := by
    obtain ⟨fuel, hf⟩ := h0
    rcases open_ints Tryd.underlying22 Tryd.underlying5 (by kernel_rfl) hf with ⟨hcs, _⟩ | ⟨x, l, c, zs, hcs, _, hl, hm, hz, _, hcell, hwz⟩
    · simp [Value.cells] at hcs
      obtain ⟨rfl, rfl, rfl⟩ := hcs
      exact ⟨[], .inl ⟨rfl, rfl, rfl, rfl⟩⟩
    · simp [Value.cells] at hcs
      obtain ⟨rfl, rfl, rfl⟩ := hcs
      exact ⟨zs, .inr ⟨_, rfl, hl, hm, by simpa using hz, hcell, hwz⟩⟩
  clear hA0 hval0
  refine (walk a0 len0 cap0 z0 W w0 hL).mono fun e W' ⟨he, bel⟩ => ?_
  subst he
  exact ⟨_, rfl, _, _, _, [], _, [], hW', trodAll_mk1 (shut_bool Tryd.underlying4 _), (trodAll_cons_mk (Below.trod laidOut (by kernel_rfl) (of_decide_eq_true (by kernel_rfl)) k0 bel lt0) trodAll_mk0), rfl, bel.frame _, fun h => by cases h⟩

theorem over : Rows.fnStringsRow.holds Tryd.pinned (OpenSpec.ofChange Rows.fnStringsSpec) :=
  OpenClaim.holds_of_wide 3 Tryd.f3 rfl rfl rfl rfl rfl rfl rfl ⟨rfl, rfl, rfl, rfl, rfl⟩ rfl rfl rfl rfl rfl (by kernel_rfl) Tryd.func3 (by kernel_rfl)
    (of_decide_eq_true (by kernel_rfl)) (by unfold Func.isWrapper; first | (rw [if_pos (by decide +kernel)]; kernel_rfl) | (rw [if_neg (by decide +kernel)]; exact ⟨rfl, rfl⟩))
    (fun os started H enc _ => lifted os started H enc)

/-- The row's statement. -/
theorem proved : Rows.FnStringsSaid :=
  over

/-- THE TIED CARD: the listed variables are those that the program's own text lays. -/
theorem card : Rows.FnStringsCardSaid :=
  Claim7.holds_tied_plain_at .later [] [.data, .data, .data] true (true, "5ae7b85d48d4cd3c87ba142165f6c4048a09e714d67d7ea6989e77ffc981be0f") false
    proved (fun _ h => by cases h) (by kernel_rfl) (fun _ h => by cases h) fnStrings_row_tie rfl ⟨rfl, rfl⟩ (by kernel_rfl) rfl
    (fun f fn hf hfn => by
      obtain rfl : f = 3 := Option.some.inj ((show Tryd.prog.funcNamed "loop.example/g00884/laws.FnStrings" = some 3 by kernel_rfl).symm.trans hf) |>.symm
      obtain rfl : fn = Tryd.f3 := (Option.some.inj (Tryd.func3.symm.trans hfn)).symm
      exact ⟨by kernel_rfl, fun j t ht => by
        rw [Tryd.params3] at ht
        have hm : t ∈ [22] := by
          have := Array.mem_of_getElem? ht
          simpa using this
        have hall : ([22].all fun u => !Tryd.prog.wantsStandIn u) = true := by kernel_rfl
        exact (show Tryd.prog.wantsStandIn t = false by simpa using List.all_eq_true.1 hall t hm)⟩)
    (by kernel_rfl)
#print axioms card
end Go.Proofs.YtacpacllpjddlaaDoor.fnStrings
