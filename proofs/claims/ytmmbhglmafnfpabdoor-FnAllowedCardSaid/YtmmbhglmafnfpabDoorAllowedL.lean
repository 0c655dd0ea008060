/- FnAllowed: at every slice of bytes the law returns true: a tincture is allowed for the charges around exactly if it gives no finding there, and lenient findings are findings. The card ties the table of attitudes to the program's text. No condition. -/
import Derived.Test.YtmmbhglmafnfpabDoorRows
import Derived.Test.YtmmbhglmafnfpabDoorCards
import Derived.Test.YtmmbhglmafnfpabDoorTie
import Derived.WalkKit
import Derived.ProofKit
import Derived.OpenShut
import Derived.ShutString
import Derived.Test.YtmmbhglmafnfpabDoorE8AllowL
import Derived.Test.YtmmbhglmafnfpabDoorE8Draw
import Derived.Test.YtmmbhglmafnfpabDoorE8DrawL
import Derived.Test.YtmmbhglmafnfpabDoorE8LawR
import Derived.Test.YtmmbhglmafnfpabDoorKO1
import Derived.Test.YtmmbhglmafnfpabDoorKM
import Derived.LaidMore
import Derived.Stop.Joined
import Derived.SevenTiedAt
import Derived.OpenVars
import Derived.ChangeVars
import Derived.ChangeOld
import Derived.Below
namespace Go.Proofs.YtmmbhglmafnfpabDoor.fnAllowed
open Go.ChangeShapes Go.WideShapes Go.ChangeAt Go.RowKit
open Go.ChangeMaps (open_string shut_string)
set_option linter.unusedVariables false

def laidL : List (String × DataW Unit) := [("loop.example/g00884/impl.attitudeWords", Rows.laid_loop_example_g00884_impl_attitudeWords)]

/-- The door's own heap meets the condition. -/
theorem door_met (os : Os) (args : Array Value) : laidMetH Tryd.prog laidL ((World.doorLaid Tryd.prog 400 os).forCall (fun _ _ => 0) ⟨#[], args, []⟩).memory :=
  laidMetH_of_parts3 (fuel := 8) (laidMet_of_run' 8 (by kernel_rfl) (by kernel_rfl)) (by kernel_rfl) (by kernel_rfl)

theorem own : ownKnob Tryd.prog.godebug = none := by kernel_rfl
theorem laidOut : laidOutB Tryd.prog = true := by kernel_rfl

/-- WHAT THE WALK IS TOLD OF A SLICE OF INTEGERS THAT CAME IN: it is nil; or it leads to a row of 'cap' cells, the numbers 'zs' (the first 'len' are its elements, the rest its spare room), each fitting its kind. -/
def IsRow (k : IntKind) (w : World) (a : Option Addr) (len cap : Nat) (zs : List Int) : Prop :=
  (a = none ∧ len = 0 ∧ cap = 0 ∧ zs = []) ∨
  ∃ x, a = some x ∧ len ≤ cap ∧ cap ≤ maxLen ∧ zs.length = cap ∧ (∀ i, i < zs.length → w.cell? (x.add i) = some (.int k (zs.getD i 0))) ∧ ∀ n ∈ zs, (Lit.int k n).wf = true

/-! ### STEP 1: THE WALK: the Go text returns true, AND WRITES NOTHING THAT WAS THERE: 'Below w.heap.size w w'' (Derived/Below.lean: '.refl', '.alloc', '.drew', '.setCell' at a new block, '.trans'). Open each 'IsRow' by 'rcases' AHEAD of 'go_enter'; part every test ahead of the walk. -/
set_option maxHeartbeats 16000000 in
set_option maxRecDepth 100000 in
theorem walk (a0 : Option Addr) (len0 cap0 : Nat) (z0 : List Int) (w : World) (w0 : IsRow .u8 w a0 len0 cap0 z0) (hL : laidMetH Tryd.prog laidL w) :
    Calls Tryd.prog 3 #[.slice a0 len0 cap0] w fun e w' => e = .returned (.bool true) ∧ Below w.heap.size w w' := by
  have hA : AttsLie w := attsH hL
  have hR : RdB w w.heap.size a0 len0 := by
    rcases w0 with ⟨rfl, rfl, rfl, rfl⟩ | ⟨⟨b, o, spot⟩, rfl, hl, hm, hz, hc, hwf⟩
    · intro h; omega
    · refine rdb_of (fun k hk => hc k (by omega)) (fun k hk => ?_)
      have e2 : z0.getD k 0 = z0[k]'(by omega) := by simp [List.getD, show k < z0.length by omega]
      have h2 := hwf (z0.getD k 0) (by rw [e2]; exact List.getElem_mem _)
      exact (by simpa [Lit.wf] using h2)
  clear w0 hL
  have hB := rBig_any a0 len0 cap0 w
  by_cases hbig : (65536 : Int) < (len0 : Int)
  · have e1 : decide ((65536 : Int) < (len0 : Int)) = true := by simp; omega
    simp only [e1] at hB
    clear hR hA
    go_enter Tryd.func3, Tryd.ntmps3
    go_wp2_with (go_at_call 6; refine hB.mono ?_; rintro e w' ⟨rfl, rfl⟩)
    go_ret
    exact ⟨rfl, Below.refl _ _⟩
  · have e1 : decide ((65536 : Int) < (len0 : Int)) = false := by simp; omega
    simp only [e1] at hB
    have hn : len0 ≤ 65536 := by omega
    have cd := drawAllow_any a0 len0 cap0 w hR hn
    have HAw := Lib.hid hA
    have HL := Lib.hid (fun W (h : Below w.heap.size w W) => drawLen_any a0 len0 cap0 W (hR.on h) hn)
    have HP := Lib.hid (fun W (h : Below w.heap.size w W) => drawPoor_any a0 len0 cap0 W (hR.on h) hn)
    clear hR hA
    go_enter Tryd.func3, Tryd.ntmps3
    go_wp2_with (go_at_call 6; refine hB.mono ?_; rintro e w' ⟨rfl, rfl⟩)
    refine cd.mono ?_
    rintro e w1 ⟨⟨d, l, f, s, o, n, x, c, k, a, t, c', k', a', t', pl, rfl⟩, hb1⟩
    clear hB cd
    obtain ⟨X, ok, hX, cs, ci, C3⟩ := allow_both3 d l f s o n x c k a t c' k' a' t' pl w HAw.out
    obtain ⟨N, hN⟩ : ∃ m, X.length = m := ⟨_, rfl⟩
    unfold Ans at cs ci
    rw [hN] at cs ci hX
    have HN := Lib.hid hN
    have CS := Lib.hid cs
    have CI := Lib.hid ci
    have H3 := Lib.hid C3
    have XA := BoxF.new w1 [.int .i64 d, .int .i64 l, .int .i64 f, .int .i64 s, .int .i64 o, .int .i64 n, .int .i64 x, .int .i64 c, .int .i64 k, .int .i64 a, .int .i64 t, .int .i64 c', .int .i64 k', .int .i64 a', .int .i64 t'] 29
    have HX1 := Lib.hid XA
    have B1 := Lib.hid (hb1.alloc hb1.size (.cells #[.int .i64 d, .int .i64 l, .int .i64 f, .int .i64 s, .int .i64 o, .int .i64 n, .int .i64 x, .int .i64 c, .int .i64 k, .int .i64 a, .int .i64 t, .int .i64 c', .int .i64 k', .int .i64 a', .int .i64 t'] 29 (0, 0)))
    have rA := XA.range
    clear cs ci hN hb1 XA C3
    go_wp2_with (with_reducible refine isList ?_; refine ld15 3 w1.heap.size [.int .i64 d, .int .i64 l, .int .i64 f, .int .i64 s, .int .i64 o, .int .i64 n, .int .i64 x, .int .i64 c, .int .i64 k, .int .i64 a, .int .i64 t, .int .i64 c', .int .i64 k', .int .i64 a', .int .i64 t'] rfl rfl rfl rfl ?_ ?_; exact rA)
    clear rA
    refine (CI.out _ B1.out).mono ?_
    rintro e w2 ⟨p0, k0, rfl, o2, h2⟩
    have X2 := HX1.out.below h2
    have P2 := Lib.hid o2.rd
    have B2 := Lib.hid (B1.out.trans (h2.mono B1.out.size))
    have HX2 := Lib.hid X2
    have rA := X2.range
    clear o2 h2 B1 HX1 X2
    go_wp2_with (with_reducible refine isList ?_; refine ld15 3 w1.heap.size [.int .i64 d, .int .i64 l, .int .i64 f, .int .i64 s, .int .i64 o, .int .i64 n, .int .i64 x, .int .i64 c, .int .i64 k, .int .i64 a, .int .i64 t, .int .i64 c', .int .i64 k', .int .i64 a', .int .i64 t'] rfl rfl rfl rfl ?_ ?_; exact rA)
    clear rA
    refine (CS.out _).mono ?_
    rintro e w3 ⟨p1, k1, rfl, o3, h3⟩
    have X3 := Lib.hid (HX2.out.below h3)
    have P3 := Lib.hid (P2.out.below h3)
    have Q3 := Lib.hid o3.rd
    have B3 := Lib.hid (B2.out.trans (h3.mono B2.out.size))
    clear o3 h3 B2 HX2 P2 CS CI
    have eok : (ok != ok) = false := by simp
    go_wp2_with fail
    refine (rInts_true X N _ _ _ _ _ P3.out Q3.out (by omega)).mono ?_
    rintro e w4 ⟨rfl, m4, rfl⟩
    have O4 := Lib.hid (show LS8 w w1.heap.size [.int .i64 d, .int .i64 l, .int .i64 f, .int .i64 s, .int .i64 o, .int .i64 n, .int .i64 x, .int .i64 c, .int .i64 k, .int .i64 a, .int .i64 t, .int .i64 c', .int .i64 k', .int .i64 a', .int .i64 t'] p0 N X (w3.drewN m4) from ⟨X3.out, P3.out.drewN m4, below_drewN' B3.out m4⟩)
    clear X3 P3 Q3 B3
    generalize w3.drewN m4 = w4 at *
    generalize w1.heap.size = q0 at *
    go_upto_region 8 with fail
    go_cut [59] (fun sl wx => sl = .bool (ok && pl == 3) ∧ LS8 w q0 [.int .i64 d, .int .i64 l, .int .i64 f, .int .i64 s, .int .i64 o, .int .i64 n, .int .i64 x, .int .i64 c, .int .i64 k, .int .i64 a, .int .i64 t, .int .i64 c', .int .i64 k', .int .i64 a', .int .i64 t'] p0 N X wx)
    case first =>
      cases ok
      · go_wp2_with fail
        go_meet
        case rel => exact ⟨rfl, O4.out⟩
      · go_wp2_with fail
        go_meet
        case rel => exact ⟨by first | rfl | simp, O4.out⟩
    case rest =>
      obtain ⟨rfl, ho⟩ := hcut
      clear O4
      have O4 := Lib.hid ho
      clear ho
      obtain ⟨bb, hbb⟩ : ∃ b, (ok && pl == 3) = b := ⟨_, rfl⟩
      rw [hbb]
      go_upto_if 59 with fail
      go_cut [] (fun wx => Below w.heap.size w wx)
      case first =>
        cases bb
        · have B4 := O4.out.2.2
          clear hbb O4
          go_wp2_with fail
          go_meet
          case rel => exact B4
        · have hbb2 := hbb
          simp only [Bool.and_eq_true, beq_iff_eq] at hbb2
          obtain ⟨hok, hpl⟩ := hbb2
          have HC3 := Lib.hid (H3.out (by first | exact hok | exact hpl) (by first | exact hok | exact hpl))
          clear hbb hok hpl H3
          go_wp2_with fail
          go_loopw [9] (fun v wr => ∃ i : Nat, i ≤ 9 ∧ v = .int .i64 ((i : Int) + 1) ∧ Hid (LS8 w q0 [.int .i64 d, .int .i64 l, .int .i64 f, .int .i64 s, .int .i64 o, .int .i64 n, .int .i64 x, .int .i64 c, .int .i64 k, .int .i64 a, .int .i64 t, .int .i64 c', .int .i64 k', .int .i64 a', .int .i64 t'] p0 N X wr)) (fun v _ => 30 - (intOf v).toNat)
          case atStart => exact ⟨0, by omega, rfl, O4⟩
          case round =>
            obtain ⟨i, hi, rfl, HO⟩ := hrel
            clear O4
            by_cases hlt : i < 9
            · have el : decide (((i : Int) + 1) ≤ 9) = true := decide_eq_true (by omega)
              obtain ⟨R, u, hR3, hRu, hXu, cf⟩ := around_step d l f s o n x c k a t c' k' a' t' w HAw.out X HC3.out.1 HC3.out.2.1 HC3.out.2.2 ((i : Int) + 1) (by omega)
              obtain ⟨N3, hN3⟩ : ∃ m, R.length = m := ⟨_, rfl⟩
              unfold AnsFn at cf
              rw [hN3] at cf hR3
              have CF := Lib.hid cf
              have HRU := Lib.hid hRu
              have HXU := Lib.hid hXu
              have HN3 := Lib.hid hN3
              have XB := BoxF.new wr [.int .i64 d, .int .i64 l, .int .i64 f, .int .i64 s, .int .i64 o, .int .i64 n, .int .i64 x, .int .i64 c, .int .i64 k, .int .i64 a, .int .i64 t, .int .i64 c', .int .i64 k', .int .i64 a', .int .i64 t'] 29
              have rA := HO.out.1.range
              have rB := (BoxF.new wr [.int .i64 d, .int .i64 l, .int .i64 f, .int .i64 s, .int .i64 o, .int .i64 n, .int .i64 x, .int .i64 c, .int .i64 k, .int .i64 a, .int .i64 t, .int .i64 c', .int .i64 k', .int .i64 a', .int .i64 ((i : Int) + 1)] 29).range
              have c14 := XB.at 14
              simp only [List.getElem?_cons_zero, List.getElem?_cons_succ] at c14
              have f14 := XB.free 14
              have hb0 : Below wr.heap.size wr (wr.alloc (.cells #[.int .i64 d, .int .i64 l, .int .i64 f, .int .i64 s, .int .i64 o, .int .i64 n, .int .i64 x, .int .i64 c, .int .i64 k, .int .i64 a, .int .i64 t, .int .i64 c', .int .i64 k', .int .i64 a', .int .i64 ((i : Int) + 1)] 29 (0, 0))) := (Below.refl _ wr).alloc (Nat.le_refl _) _
              have HO2 := Lib.hid (HO.out.below hb0)
              clear hRu hXu hN3 cf XB hb0 HO
              go_wp2_with (first | (with_reducible refine isList ?_; refine ld15 3 q0 [.int .i64 d, .int .i64 l, .int .i64 f, .int .i64 s, .int .i64 o, .int .i64 n, .int .i64 x, .int .i64 c, .int .i64 k, .int .i64 a, .int .i64 t, .int .i64 c', .int .i64 k', .int .i64 a', .int .i64 t'] rfl rfl rfl rfl ?_ ?_; exact rA) | (with_reducible refine isList ?_; refine ld15 10 wr.heap.size [.int .i64 d, .int .i64 l, .int .i64 f, .int .i64 s, .int .i64 o, .int .i64 n, .int .i64 x, .int .i64 c, .int .i64 k, .int .i64 a, .int .i64 t, .int .i64 c', .int .i64 k', .int .i64 a', .int .i64 ((i : Int) + 1)] rfl rfl rfl rfl ?_ ?_; exact rB))
              clear rA rB c14 f14
              refine (CF.out _ HO2.out.2.2).mono ?_
              rintro e w5 ⟨p4, k4, rfl, o5, h5⟩
              have RD := Lib.hid (rdFn_of HN3.out o5)
              have HO5 := Lib.hid (HO2.out.below h5)
              clear o5 h5 HO2 CF
              go_wp2_with fail
              go_loopw [13, 14] (fun v j wr' => ∃ q : Nat, q ≤ N3 ∧ j = .int .i64 (q : Int) ∧ v = .bool ((R.take q).any (fun F => F.p == 3)) ∧ w5 = wr') (fun _ j _ => N3 - (intOf j).toNat)
              case atStart => exact ⟨0, Nat.zero_le _, rfl, rfl, rfl⟩
              case round =>
                obtain ⟨q, hq, rfl, rfl, rfl⟩ := hrel
                by_cases hq2 : q < N3
                · obtain ⟨F, hF⟩ := atF_of_lt HN3.out hq2
                  obtain ⟨b5, o5, rfl, hb5, hc5⟩ := RD.out.2 (by omega)
                  have x0 := (hc5 q F hF).1
                  have hst : (R.take (q + 1)).any (fun F => F.p == 3) = ((R.take q).any (fun F => F.p == 3) || (F.p == 3)) := by rw [List.take_add_one, hF]; simp
                  have HST := Lib.hid hst
                  clear hc5 hF hst
                  generalize (R.take q).any (fun F => F.p == 3) = br at *
                  cases br
                  all_goals
                    go_wp2_with fail
                    go_roundw
                    case rel => exact ⟨q + 1, by omega, by go_num, by rw [HST.out]; simp, trivial⟩
                    case measure => simp [intOf]; omega
                · have hU : (R.take q).any (fun F => F.p == 3) = u := by rw [List.take_of_length_le (by have := HN3.out; omega)]; exact HRU.out
                  rw [hU]
                  have CH := Lib.hid (rHas_any X ((i : Int) + 1) N p0 k0 w5 HO5.out.2.1 (by omega))
                  rw [HXU.out] at CH
                  clear RD HRU HXU hU
                  cases u
                  all_goals
                    set_option maxRecDepth 100000 in go_wp2_with fail
                    refine CH.out.mono ?_
                    rintro e w6 ⟨rfl, rfl⟩
                    set_option maxRecDepth 100000 in go_wp2_with fail
                    go_roundw
                    case rel => exact ⟨i + 1, by omega, by go_num, HO5⟩
                    case measure => simp [intOf]; omega
            · have el : decide (((i : Int) + 1) ≤ 9) = false := decide_eq_false (by omega)
              have B4 := HO.out.2.2
              clear HO
              go_wp2_with fail
              go_meet
              case rel => exact B4
      case rest =>
        have B4 := Lib.hid hcut
        clear hcut O4 H3 hbb eok
        go_wp2_with fail
        refine (HL.out _ B4.out).mono ?_
        rintro e w5 ⟨⟨v0, v1, v2, v3, v4, v5, v6, v7, v8, v9, v10, v11, v12, v13, v14, rfl⟩, h5⟩
        have B5 := B4.out.trans (h5.mono B4.out.size)
        have XC := BoxF.new w5 [.int .i64 v0, .int .i64 v1, .int .i64 v2, .int .i64 v3, .int .i64 v4, .int .i64 v5, .int .i64 v6, .int .i64 v7, .int .i64 v8, .int .i64 v9, .int .i64 v10, .int .i64 v11, .int .i64 v12, .int .i64 v13, .int .i64 v14] 29
        have B6 := Lib.hid (B5.alloc B5.size (.cells #[.int .i64 v0, .int .i64 v1, .int .i64 v2, .int .i64 v3, .int .i64 v4, .int .i64 v5, .int .i64 v6, .int .i64 v7, .int .i64 v8, .int .i64 v9, .int .i64 v10, .int .i64 v11, .int .i64 v12, .int .i64 v13, .int .i64 v14] 29 (0, 0)))
        have HXC := Lib.hid XC
        clear h5 B5 B4
        obtain ⟨X', R', ok', hl1, hl2, cs, ci, cr⟩ := len_both v0 v1 v2 v3 v4 v5 v6 v7 v8 v9 v10 v11 v12 v13 v14 w HAw.out
        obtain ⟨N1, hN1⟩ : ∃ m, X'.length = m := ⟨_, rfl⟩
        obtain ⟨N2, hN2⟩ : ∃ m, R'.length = m := ⟨_, rfl⟩
        unfold AnsFn at cs ci cr
        rw [hN1] at cs ci hl1
        rw [hN2] at cr hl1 hl2
        have CS := Lib.hid cs
        have CI := Lib.hid ci
        have CR := Lib.hid cr
        have HN1 := Lib.hid hN1
        have eg : decide ((N2 : Int) < (N1 : Int)) = false := decide_eq_false (by omega)
        clear cs ci cr hN1 hN2
        have rA := XC.range
        clear XC
        go_wp2_with (with_reducible refine isList ?_; refine ld15 15 w5.heap.size [.int .i64 v0, .int .i64 v1, .int .i64 v2, .int .i64 v3, .int .i64 v4, .int .i64 v5, .int .i64 v6, .int .i64 v7, .int .i64 v8, .int .i64 v9, .int .i64 v10, .int .i64 v11, .int .i64 v12, .int .i64 v13, .int .i64 v14] rfl rfl rfl rfl ?_ ?_; exact rA)
        clear rA
        refine (CI.out _ B6.out).mono ?_
        rintro e w7 ⟨p5, k5, rfl, o7, h7⟩
        have X7 := HXC.out.below h7
        have R7 := Lib.hid (rdFn_of HN1.out o7)
        have B7 := Lib.hid (B6.out.trans (h7.mono B6.out.size))
        have HX7 := Lib.hid X7
        have rA := X7.range
        clear o7 h7 B6 HXC X7
        go_wp2_with (with_reducible refine isList ?_; refine ld15 15 w5.heap.size [.int .i64 v0, .int .i64 v1, .int .i64 v2, .int .i64 v3, .int .i64 v4, .int .i64 v5, .int .i64 v6, .int .i64 v7, .int .i64 v8, .int .i64 v9, .int .i64 v10, .int .i64 v11, .int .i64 v12, .int .i64 v13, .int .i64 v14] rfl rfl rfl rfl ?_ ?_; exact rA)
        clear rA
        refine (CR.out _ B7.out).mono ?_
        rintro e w8 ⟨p6, k6, rfl, o8, h8⟩
        have X8 := HX7.out.below h8
        have R8 := Lib.hid (R7.out.below h8)
        have B8 := Lib.hid (B7.out.trans (h8.mono B7.out.size))
        have rA := X8.range
        clear o8 h8 B7 HX7 R7 X8
        go_wp2_with (with_reducible refine isList ?_; refine ld15 15 w5.heap.size [.int .i64 v0, .int .i64 v1, .int .i64 v2, .int .i64 v3, .int .i64 v4, .int .i64 v5, .int .i64 v6, .int .i64 v7, .int .i64 v8, .int .i64 v9, .int .i64 v10, .int .i64 v11, .int .i64 v12, .int .i64 v13, .int .i64 v14] rfl rfl rfl rfl ?_ ?_; exact rA)
        clear rA
        refine (CS.out _).mono ?_
        rintro e w9 ⟨p7, k7, rfl, o9, h9⟩
        have R9 := Lib.hid (R8.out.below h9)
        have Q9 := Lib.hid (rdFn_of HN1.out o9)
        have B9 := Lib.hid (B8.out.trans (h9.mono B8.out.size))
        clear o9 h9 B8 R8
        have eok : (ok' != ok') = false := by simp
        go_wp2_with fail
        refine (rFindings_true X' N1 _ _ _ _ _ R9.out Q9.out (by omega)).mono ?_
        rintro e w10 ⟨rfl, m5, rfl⟩
        have B10 := Lib.hid (below_drewN' B9.out m5)
        clear R9 Q9 B9 CI CS CR
        generalize w9.drewN m5 = W10 at *
        go_wp2_with fail
        refine (HP.out _ B10.out).mono ?_
        rintro e w11 ⟨⟨y0, y1, y2, y3, rfl⟩, h11⟩
        have B11 := B10.out.trans (h11.mono B10.out.size)
        have XF := BoxF.new w11 [.int .i64 y0, .int .i64 y1, .int .i64 y2, .int .i64 y3] 25
        have B12 := Lib.hid (B11.alloc B11.size (.cells #[.int .i64 y0, .int .i64 y1, .int .i64 y2, .int .i64 y3] 25 (0, 0)))
        have HXF := Lib.hid XF
        obtain ⟨k0_, k1_, k2_, k3_, kf_⟩ := XF.four
        clear h11 B11 XF B10
        obtain ⟨pp, pk, cps, cpi⟩ := poor_both y0 y1 y2 y3
        have CPS := Lib.hid cps
        have CPI := Lib.hid cpi
        clear cps cpi
        go_wp2_with fail
        refine (CPI.out _).mono ?_
        rintro e w13 ⟨rfl, h13⟩
        have X13 := HXF.out.below h13
        have B13 := Lib.hid (B12.out.trans (h13.mono B12.out.size))
        clear k0_ k1_ k2_ k3_ kf_ h13 B12 HXF
        obtain ⟨k0_, k1_, k2_, k3_, kf_⟩ := X13.four
        clear X13
        go_wp2_with fail
        refine (CPS.out _).mono ?_
        rintro e w14 ⟨rfl, h14⟩
        have B14 := Lib.hid (B13.out.trans (h14.mono B13.out.size))
        clear k0_ k1_ k2_ k3_ kf_ h14 B13
        have epp : (pp == pp) = true := by simp
        have epk : (pk == pk) = true := by simp
        go_wp2_with fail
        go_ret
        exact ⟨by first | rfl | simp, B14.out⟩

/-! ### THE ROW's STEP: WRITTEN OUT: LEAVE IT -/
set_option maxRecDepth 100000 in
theorem lifted (os : Os) (started : os.Started) (H : Type) (enc : TypeId × Value → H) :
    ReturnsInHanded {} Tryd.checked os 3 .any (fun w args => (Rows.fnAllowedSpec.pre enc Tryd.prog Tryd.f3 Rows.fnAllowedRow.domain false w args ∧ laidMetH Tryd.prog laidL w) ∧ sizedMet enc Tryd.prog Tryd.f3 (OpenSpec.ofChange Rows.fnAllowedSpec) false w args)
      (Rows.fnAllowedSpec.post enc Tryd.prog Tryd.f3 false true false false) := by
  refine returnsInHanded_of_change_and (C := Tryd.checked) (X := fun w _ => laidMetH Tryd.prog laidL w) (fun _ _ _ hh h => h.of_heap hh) own started (by kernel_rfl) Tryd.func3
    (ChangeSpec.witness_shaped (enc := enc) (C := Tryd.checked) (os := os) (X := fun w _ => laidMetH Tryd.prog laidL w) false (World.doorLaid Tryd.prog 400 os) #[.slice none 0 0] 8 rfl (World.shaped_of_RefB (by kernel_rfl) (by kernel_rfl)) (by kernel_rfl) (by kernel_rfl) (by kernel_rfl) (door_met os _)) ?_
  intro W base args ds gs before hval0 hW _ hsz0 hL _
  have hval : ∀ (j : Nat) t v, Tryd.f3.params[j]? = some t → args[j]? = some v → Value.okWide Tryd.prog W .any base t v := hval0
  have hW' := hW
  obtain ⟨p, q, hA0, hV, rfl, hfz, hnd⟩ := hW
  have hA : DataW.TrodAll enc Tryd.prog W 0 (fun _ => true) true Tryd.f3.params.toList args.toList ds p := hA0
  rw [Tryd.params3] at hA hval
  obtain ⟨v0, vs0, d0, ds0, p0, q0, hargs, rfl, rfl, h0, r0⟩ := trodAll_cons hA
  obtain ⟨rfl, rfl, rfl⟩ := trodAll_nil r0
  obtain rfl : args = #[v0] := by cases args; simp_all
  obtain ⟨gv, tv, csv, fuelv, dv, pv, hgs, _⟩ := trodVars_one hV
  subst hgs
  obtain ⟨a0, len0, cap0, rfl⟩ := okWide_slice Tryd.underlying22 (hval 0 22 v0 rfl rfl)
  have k0 := h0
  have lt0 : ∀ x ∈ p0, x.block < W.heap.size := by obtain ⟨m, hm⟩ := k0; exact DataW.trod_lt m _ _ _ hm
  obtain ⟨z0, w0⟩ : ∃ zs, IsRow .u8 W a0 len0 cap0 zs := by
    obtain ⟨fuel, hf⟩ := h0
    rcases open_ints Tryd.underlying22 Tryd.underlying5 (by kernel_rfl) hf with ⟨hcs, _⟩ | ⟨x, l, c, zs, hcs, _, hl, hm, hz, _, hcell, hwz⟩
    · simp [Value.cells] at hcs
      obtain ⟨rfl, rfl, rfl⟩ := hcs
      exact ⟨[], .inl ⟨rfl, rfl, rfl, rfl⟩⟩
    · simp [Value.cells] at hcs
      obtain ⟨rfl, rfl, rfl⟩ := hcs
      exact ⟨zs, .inr ⟨_, rfl, hl, hm, by simpa using hz, hcell, hwz⟩⟩
  clear hA0 hval0
  refine (walk a0 len0 cap0 z0 W w0 hL).mono fun e W' ⟨he, bel⟩ => ?_
  subst he
  exact ⟨_, rfl, _, _, _, [], _, q, hW', trodAll_mk1 (shut_bool Tryd.underlying4 _), (trodAll_cons_mk (Below.trod laidOut (by kernel_rfl) (of_decide_eq_true (by kernel_rfl)) k0 bel lt0) trodAll_mk0), Below.trodVars (by kernel_rfl) bel (by kernel_rfl) hV, bel.frame _, fun h => by cases h⟩

theorem over : Rows.fnAllowedRow.holds Tryd.pinned (OpenSpec.ofChange Rows.fnAllowedSpec) :=
  OpenClaim.holds_of_wide 3 Tryd.f3 rfl rfl rfl rfl rfl rfl rfl ⟨rfl, rfl, rfl, rfl, rfl⟩ rfl rfl rfl rfl rfl (by kernel_rfl) Tryd.func3 (by kernel_rfl)
    (of_decide_eq_true (by kernel_rfl)) (by unfold Func.isWrapper; first | (rw [if_pos (by decide +kernel)]; kernel_rfl) | (rw [if_neg (by decide +kernel)]; exact ⟨rfl, rfl⟩))
    (fun os started H enc _ => lifted os started H enc)

/-- The row's statement. -/
theorem proved : Rows.FnAllowedSaid :=
  over

/-- THE TIED CARD: the listed variables are those that the program's own text lays. -/
theorem card : Rows.FnAllowedCardSaid :=
  Claim7.holds_tied_plain_at .later [] [.widerDeep] true (true, "e2e435e89f3f47eb06b7e6a7fb1f00eedc827a8730d9dd980d3820c13f0b2225") true
    proved (fun _ h => by cases h) (by kernel_rfl) (fun _ h => by cases h) fnAllowed_row_tie rfl ⟨rfl, rfl⟩ (by kernel_rfl) rfl
    (fun f fn hf hfn => by
      obtain rfl : f = 3 := Option.some.inj ((show Tryd.prog.funcNamed "loop.example/g00884/laws.FnAllowed" = some 3 by kernel_rfl).symm.trans hf) |>.symm
      obtain rfl : fn = Tryd.f3 := (Option.some.inj (Tryd.func3.symm.trans hfn)).symm
      exact ⟨by kernel_rfl, fun j t ht => by
        rw [Tryd.params3] at ht
        have hm : t ∈ [22] := by
          have := Array.mem_of_getElem? ht
          first | simpa using this | (simp at this ⊢; omega) | (simp at this ⊢; rcases this with h | h <;> simp [h])
        have hall : ([22].all fun u => !Tryd.prog.wantsStandIn u) = true := by kernel_rfl
        exact (show Tryd.prog.wantsStandIn t = false by simpa using List.all_eq_true.1 hall t hm)⟩)
    (by kernel_rfl)
#print axioms card
end Go.Proofs.YtmmbhglmafnfpabDoor.fnAllowed
