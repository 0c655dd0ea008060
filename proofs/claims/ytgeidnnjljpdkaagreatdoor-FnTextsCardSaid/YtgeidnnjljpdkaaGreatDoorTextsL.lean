/- FnTexts: at every slice of bytes the law returns true: arms are recovered from their texts, texts that are read are the texts of what is read, and the lines, joined by spaces, are the text. The card ties the tables to the program's text. No condition. -/
import Derived.Test.YtgeidnnjljpdkaaGreatDoorRows
import Derived.Test.YtgeidnnjljpdkaaGreatDoorCards
import Derived.Test.YtgeidnnjljpdkaaGreatDoorTie
import Derived.WalkKit
import Derived.ProofKit
import Derived.OpenShut
import Derived.ShutString
import Derived.Test.YtgeidnnjljpdkaaGreatDoorKO1
import Derived.Test.YtgeidnnjljpdkaaGreatDoorKO3
import Derived.Test.YtgeidnnjljpdkaaGreatDoorKQ
import Derived.Test.YtgeidnnjljpdkaaGreatDoorKS
import Derived.Deep.DeepCutAuto
import Derived.LaidMore
import Derived.Stop.Joined
import Derived.SevenTiedAt
import Derived.OpenVars
import Derived.ChangeVars
import Derived.Test.YtgeidnnjljpdkaaGreatDoorShape
import Derived.Lay
import Derived.ChangeOld
import Derived.Below
namespace Go.Proofs.YtgeidnnjljpdkaaGreatDoor.fnTexts
open Go.ChangeShapes Go.WideShapes Go.ChangeAt Go.RowKit
open Go.ChangeMaps (open_string shut_string)
set_option linter.unusedVariables false

def laidL : List (String × DataW Unit) := [("unicode/utf8.acceptRanges", Rows.laid_unicode_utf8_acceptRanges), ("loop.example/g00884/impl.tinctureWords", Rows.laid_loop_example_g00884_impl_tinctureWords), ("loop.example/g00884/impl.divisionWords", Rows.laid_loop_example_g00884_impl_divisionWords), ("loop.example/g00884/impl.lineWords", Rows.laid_loop_example_g00884_impl_lineWords), ("loop.example/g00884/impl.countWords", Rows.laid_loop_example_g00884_impl_countWords), ("loop.example/g00884/impl.kindWords", Rows.laid_loop_example_g00884_impl_kindWords), ("loop.example/g00884/impl.attitudeWords", Rows.laid_loop_example_g00884_impl_attitudeWords), ("loop.example/g00884/impl.ordinaryWords", Rows.laid_loop_example_g00884_impl_ordinaryWords), ("unicode/utf8.first", Rows.laid_unicode_utf8_first)]

theorem readings {H : Type} {enc : TypeId × Value → H} {P : Program} {w : World} {spare : Nat → Bool} {n0 n1 n2 n3 n4 n5 n6 : String} {gs : List (DataW H)} {ps : List MemPlace} (h : DataW.TrodVars enc P w spare [n0, n1, n2, n3, n4, n5, n6] gs ps) : ∃ gv0 gv1 gv2 gv3 gv4 gv5 gv6 : DataW H, gs = [gv0, gv1, gv2, gv3, gv4, gv5, gv6] := by
  cases gs with
  | nil => simp [DataW.TrodVars] at h
  | cons g0 gs =>
  obtain ⟨_, _, _, _, _, _, _, _, _, _, h, _⟩ := h
  cases gs with
  | nil => simp [DataW.TrodVars] at h
  | cons g1 gs =>
  obtain ⟨_, _, _, _, _, _, _, _, _, _, h, _⟩ := h
  cases gs with
  | nil => simp [DataW.TrodVars] at h
  | cons g2 gs =>
  obtain ⟨_, _, _, _, _, _, _, _, _, _, h, _⟩ := h
  cases gs with
  | nil => simp [DataW.TrodVars] at h
  | cons g3 gs =>
  obtain ⟨_, _, _, _, _, _, _, _, _, _, h, _⟩ := h
  cases gs with
  | nil => simp [DataW.TrodVars] at h
  | cons g4 gs =>
  obtain ⟨_, _, _, _, _, _, _, _, _, _, h, _⟩ := h
  cases gs with
  | nil => simp [DataW.TrodVars] at h
  | cons g5 gs =>
  obtain ⟨_, _, _, _, _, _, _, _, _, _, h, _⟩ := h
  cases gs with
  | nil => simp [DataW.TrodVars] at h
  | cons g6 gs =>
  obtain ⟨_, _, _, _, _, _, _, _, _, _, h, _⟩ := h
  obtain ⟨rfl, _⟩ := trodVars_none h
  exact ⟨g0, g1, g2, g3, g4, g5, g6, rfl⟩

theorem own : ownKnob Tryz.prog.godebug = none := by kernel_rfl
theorem laidOut : laidOutB Tryz.prog = true := by kernel_rfl

/-- WHAT THE WALK IS TOLD OF A SLICE OF INTEGERS THAT CAME IN: it is nil; or it leads to a row of 'cap' cells, the numbers 'zs' (the first 'len' are its elements, the rest its spare room), each fitting its kind. -/
def IsRow (k : IntKind) (w : World) (a : Option Addr) (len cap : Nat) (zs : List Int) : Prop :=
  (a = none ∧ len = 0 ∧ cap = 0 ∧ zs = []) ∨
  ∃ x, a = some x ∧ len ≤ cap ∧ cap ≤ maxLen ∧ zs.length = cap ∧ (∀ i, i < zs.length → w.cell? (x.add i) = some (.int k (zs.getD i 0))) ∧ ∀ n ∈ zs, (Lit.int k n).wf = true

/-! ### STEP 1: THE WALK: the Go text returns true, AND WRITES NOTHING THAT WAS THERE: 'Below w.heap.size w w'' (Derived/Below.lean: '.refl', '.alloc', '.drew', '.setCell' at a new block, '.trans'). Open each 'IsRow' by 'rcases' AHEAD of 'go_enter'; part every test ahead of the walk. -/
set_option maxHeartbeats 16000000 in
theorem walk (a0 : Option Addr) (len0 cap0 : Nat) (z0 : List Int) (w : World) (w0 : IsRow .u8 w a0 len0 cap0 z0) (hL : laidMetH Tryz.prog laidL w) (hS : w.ShapedOpen Tryz.prog) :
    Calls Tryz.prog 3 #[.slice a0 len0 cap0] w fun e w' => e = .returned (.bool true) ∧ Below w.heap.size w w' := by
  have hT : STabs w := stabsH9 (by kernel_rfl) hL
  have hM : MaxLenAt w := maxLen_of hS
  have hR : RdB w w.heap.size a0 len0 := by
    rcases w0 with ⟨rfl, rfl, rfl, rfl⟩ | ⟨⟨b, o, spot⟩, rfl, hl, hm, hz, hc, hwf⟩
    · intro h; omega
    · refine rdb_of (fun k hk => hc k (by omega)) (fun k hk => ?_)
      have e2 : z0.getD k 0 = z0[k]'(by omega) := by simp [List.getD, show k < z0.length by omega]
      have h2 := hwf (z0.getD k 0) (by rw [e2]; exact List.getElem_mem _)
      exact (by simpa [Lit.wf] using h2)
  clear w0 hL hS
  have hB := vBig_any a0 len0 cap0 w
  by_cases hbig : (65536 : Int) < (len0 : Int)
  · have e1 : decide ((65536 : Int) < (len0 : Int)) = true := by simp; omega
    simp only [e1] at hB
    clear hR hT hM
    go_enter Tryz.func3, Tryz.ntmps3
    go_wp2_with (go_at_call 4; refine hB.mono ?_; rintro e w' ⟨rfl, rfl⟩)
    go_ret
    exact ⟨rfl, Below.refl _ _⟩
  · have e1 : decide ((65536 : Int) < (len0 : Int)) = false := by simp; omega
    simp only [e1] at hB
    have hn : len0 ≤ 65536 := by omega
    have cd := drawWrap_any a0 len0 cap0 w hR hn
    have HT := Lib.hid (fun W (h : Below w.heap.size w W) => hT.below h)
    have HM := Lib.hid (fun W (h : Below w.heap.size w W) => hM.below h)
    have HD := Lib.hid (fun W (h : Below w.heap.size w W) => drawParseA_any a0 len0 cap0 W (hR.on h) hn)
    clear hR hT hM
    go_enter Tryz.func3, Tryz.ntmps3
    go_wp2_with (go_at_call 4; refine hB.mono ?_; rintro e w' ⟨rfl, rfl⟩)
    refine cd.mono ?_
    rintro e w1 ⟨⟨d, l, f, s, o, ln, tn, c, k, a, t, c', k', a', t', wd, rfl⟩, hb1⟩
    clear hB cd
    obtain ⟨s0, ok, b0, b1, b2, b3, b4, b5, b6, b7, b8, b9, b10, b11, b12, b13, b14, fine, X, known, k1, k2, k3, k4, k5, hX1, hX2, hF⟩ := text_answers d l f s o ln tn c k a t c' k' a' t' wd
    obtain ⟨N, hN⟩ : ∃ N, X.length = N := ⟨_, rfl⟩
    unfold AnsT at k4 k5
    rw [hN] at k4 k5 hX1
    have C1 := Lib.hid k1
    have C2 := Lib.hid k2
    have C3 := Lib.hid k3
    have C4 := Lib.hid k4
    have C5 := Lib.hid k5
    have HX := Lib.hid (And.intro hN hX2)
    have XA1 := Lib.hid (BoxF.new w1 [.int .i64 d, .int .i64 l, .int .i64 f, .int .i64 s, .int .i64 o, .int .i64 ln, .int .i64 tn, .int .i64 c, .int .i64 k, .int .i64 a, .int .i64 t, .int .i64 c', .int .i64 k', .int .i64 a', .int .i64 t'] 29)
    have HB1 := Lib.hid (hb1.alloc hb1.size (.cells #[.int .i64 d, .int .i64 l, .int .i64 f, .int .i64 s, .int .i64 o, .int .i64 ln, .int .i64 tn, .int .i64 c, .int .i64 k, .int .i64 a, .int .i64 t, .int .i64 c', .int .i64 k', .int .i64 a', .int .i64 t'] 29 (0, 0)))
    clear k1 k2 k3 k4 k5 hb1 hN hX2
    rcases hF with ⟨rfl, rfl, hXE⟩ | ⟨rfl, rfl, ⟨rfl, rfl, rfl, rfl, rfl, rfl, rfl, rfl, rfl, rfl, rfl, rfl, rfl, rfl, rfl⟩, hXE⟩
    · have HKN := Lib.hid hXE
      clear hXE
      have rA := XA1.out.range
      go_wp2_with (with_reducible refine isList ?_; refine ld15 3 w1.heap.size [.int .i64 d, .int .i64 l, .int .i64 f, .int .i64 s, .int .i64 o, .int .i64 ln, .int .i64 tn, .int .i64 c, .int .i64 k, .int .i64 a, .int .i64 t, .int .i64 c', .int .i64 k', .int .i64 a', .int .i64 t'] rfl rfl rfl rfl ?_ ?_; exact rA)
      clear rA
      refine (C1.out _ (HT.out _ HB1.out)).mono ?_
      rintro e w2 ⟨rfl, h2⟩
      have XA2 := Lib.hid (XA1.out.below h2)
      have HB2 := Lib.hid (HB1.out.trans (h2.mono HB1.out.size))
      clear XA1 HB1 h2
      go_wp2_with fail
      refine (C2.out _ (HT.out _ HB2.out) (HM.out _ HB2.out)).mono ?_
      rintro e w3 ⟨rfl, h3⟩
      have XA3 := Lib.hid ((XA2.out.below h3).alloc (.cells #[.int .i64 b0, .int .i64 b1, .int .i64 b2, .int .i64 b3, .int .i64 b4, .int .i64 b5, .int .i64 b6, .int .i64 b7, .int .i64 b8, .int .i64 b9, .int .i64 b10, .int .i64 b11, .int .i64 b12, .int .i64 b13, .int .i64 b14] 29 (0, 0)))
      have XB3 := Lib.hid (BoxF.new w3 [.int .i64 b0, .int .i64 b1, .int .i64 b2, .int .i64 b3, .int .i64 b4, .int .i64 b5, .int .i64 b6, .int .i64 b7, .int .i64 b8, .int .i64 b9, .int .i64 b10, .int .i64 b11, .int .i64 b12, .int .i64 b13, .int .i64 b14] 29)
      have HB3 := Lib.hid ((HB2.out.trans (h3.mono HB2.out.size)).alloc (HB2.out.trans (h3.mono HB2.out.size)).size (.cells #[.int .i64 b0, .int .i64 b1, .int .i64 b2, .int .i64 b3, .int .i64 b4, .int .i64 b5, .int .i64 b6, .int .i64 b7, .int .i64 b8, .int .i64 b9, .int .i64 b10, .int .i64 b11, .int .i64 b12, .int .i64 b13, .int .i64 b14] 29 (0, 0)))
      clear XA2 HB2 h3
      have rA := XA3.out.range
      go_wp2_with (with_reducible refine isList ?_; refine ld15 3 w1.heap.size [.int .i64 d, .int .i64 l, .int .i64 f, .int .i64 s, .int .i64 o, .int .i64 ln, .int .i64 tn, .int .i64 c, .int .i64 k, .int .i64 a, .int .i64 t, .int .i64 c', .int .i64 k', .int .i64 a', .int .i64 t'] rfl rfl rfl rfl ?_ ?_; exact rA)
      clear rA
      refine (C3.out _).mono ?_
      rintro e w4 ⟨rfl, h4⟩
      have XA4 := Lib.hid (XA3.out.below h4)
      have XB4 := Lib.hid (XB3.out.below h4)
      have HB4 := Lib.hid (HB3.out.trans (h4.mono HB3.out.size))
      clear XA3 XB3 HB3 h4
      go_wp2_with fail
      refine (HD.out _ HB4.out).mono ?_
      rintro e w5 ⟨⟨tt, rfl, htt⟩, h5⟩
      have XA5 := Lib.hid (XA4.out.below h5)
      have HB5 := Lib.hid (HB4.out.trans (h5.mono HB4.out.size))
      clear XA4 XB4 HB4 h5
      obtain ⟨u0, u1, u2, u3, u4, u5, u6, u7, u8, u9, u10, u11, u12, u13, u14, read, uu, told, d1, d2, hG⟩ := readA_answers tt (by omega)
      have E1 := Lib.hid d1
      have E2 := Lib.hid d2
      clear d1 d2
      go_wp2_with fail
      refine (E1.out _ (HT.out _ HB5.out) (HM.out _ HB5.out)).mono ?_
      rintro e w6 ⟨rfl, h6⟩
      have XA6 := Lib.hid ((XA5.out.below h6).alloc (.cells #[.int .i64 u0, .int .i64 u1, .int .i64 u2, .int .i64 u3, .int .i64 u4, .int .i64 u5, .int .i64 u6, .int .i64 u7, .int .i64 u8, .int .i64 u9, .int .i64 u10, .int .i64 u11, .int .i64 u12, .int .i64 u13, .int .i64 u14] 29 (0, 0)))
      have rC := (BoxF.new w6 [.int .i64 u0, .int .i64 u1, .int .i64 u2, .int .i64 u3, .int .i64 u4, .int .i64 u5, .int .i64 u6, .int .i64 u7, .int .i64 u8, .int .i64 u9, .int .i64 u10, .int .i64 u11, .int .i64 u12, .int .i64 u13, .int .i64 u14] 29).range
      have HB6 := Lib.hid ((HB5.out.trans (h6.mono HB5.out.size)).alloc (HB5.out.trans (h6.mono HB5.out.size)).size (.cells #[.int .i64 u0, .int .i64 u1, .int .i64 u2, .int .i64 u3, .int .i64 u4, .int .i64 u5, .int .i64 u6, .int .i64 u7, .int .i64 u8, .int .i64 u9, .int .i64 u10, .int .i64 u11, .int .i64 u12, .int .i64 u13, .int .i64 u14] 29 (0, 0)))
      clear XA5 HB5 h6 E1
      go_wp2_with (with_reducible refine isList ?_; refine ld15 10 w6.heap.size [.int .i64 u0, .int .i64 u1, .int .i64 u2, .int .i64 u3, .int .i64 u4, .int .i64 u5, .int .i64 u6, .int .i64 u7, .int .i64 u8, .int .i64 u9, .int .i64 u10, .int .i64 u11, .int .i64 u12, .int .i64 u13, .int .i64 u14] rfl rfl rfl rfl ?_ ?_; exact rC)
      clear rC
      refine (E2.out _ (HT.out _ HB6.out)).mono ?_
      rintro e w7 ⟨rfl, h7⟩
      have XA7 := Lib.hid (XA6.out.below h7)
      have HB7 := Lib.hid (HB6.out.trans (h7.mono HB6.out.size))
      clear XA6 HB6 h7 E2
      go_upto_region 11 with fail
      go_cut [74] (fun sc wx => sc = .bool false ∧ BoxF wx w1.heap.size [.int .i64 d, .int .i64 l, .int .i64 f, .int .i64 s, .int .i64 o, .int .i64 ln, .int .i64 tn, .int .i64 c, .int .i64 k, .int .i64 a, .int .i64 t, .int .i64 c', .int .i64 k', .int .i64 a', .int .i64 t'] 29 ∧ Below w.heap.size w wx)
      case first =>
        rcases hG with rfl | ⟨rfl, rfl, rfl⟩
        · set_option maxRecDepth 100000 in go_wp2_with fail
          go_meet
          exact ⟨rfl, XA7.out, HB7.out⟩
        · have hut := str_eq (rfl : uu = uu)
          set_option maxRecDepth 100000 in go_wp2_with fail
          go_meet
          exact ⟨rfl, XA7.out, HB7.out⟩
      case rest =>
        obtain ⟨rfl, xa_, hb_⟩ := hcut
        clear XA7 HB7 hG
        have XA7 := Lib.hid xa_
        have HB7 := Lib.hid hb_
        clear xa_ hb_
        have rA := XA7.out.range
        go_wp2_with (with_reducible refine isList ?_; refine ld15 3 w1.heap.size [.int .i64 d, .int .i64 l, .int .i64 f, .int .i64 s, .int .i64 o, .int .i64 ln, .int .i64 tn, .int .i64 c, .int .i64 k, .int .i64 a, .int .i64 t, .int .i64 c', .int .i64 k', .int .i64 a', .int .i64 t'] rfl rfl rfl rfl ?_ ?_; exact rA)
        clear rA
        refine (C4.out _ (HT.out _ HB7.out) (HM.out _ HB7.out)).mono ?_
        rintro e w8 ⟨g1, c1, rfl, own1, h8⟩
        have XA8 := Lib.hid (XA7.out.below h8)
        have HB8 := Lib.hid (HB7.out.trans (h8.mono HB7.out.size))
        have R1 := Lib.hid own1.rd
        clear XA7 HB7 h8 own1
        have rA := XA8.out.range
        go_wp2_with (with_reducible refine isList ?_; refine ld15 3 w1.heap.size [.int .i64 d, .int .i64 l, .int .i64 f, .int .i64 s, .int .i64 o, .int .i64 ln, .int .i64 tn, .int .i64 c, .int .i64 k, .int .i64 a, .int .i64 t, .int .i64 c', .int .i64 k', .int .i64 a', .int .i64 t'] rfl rfl rfl rfl ?_ ?_; exact rA)
        clear rA
        refine (C5.out _).mono ?_
        rintro e w9 ⟨g2, c2, rfl, own2, h9⟩
        have HB9 := Lib.hid (HB8.out.trans (h9.mono HB8.out.size))
        have S1 := Lib.hid (R1.out.below h9)
        have S2 := Lib.hid own2.rd
        clear XA8 HB8 h9 own2 R1 C1 C2 C3 C4 C5 HT HM HD
        have CV := Lib.hid (vTexts_true X N g1 g2 c1 c2 w9 S1.out S2.out (by omega))
        clear S2
        go_wp2_with fail
        refine CV.out.mono ?_
        rintro e w10 ⟨rfl, m, rfl⟩
        have HB10 := Lib.hid (below_drewN' HB9.out m)
        clear HB9 CV
        have hXE := HKN.out
        clear HKN
        obtain rfl : N = 0 := by have := HX.out.1; rw [hXE] at this; simpa using this.symm
        clear S1 HX hXE
        obtain ⟨eq, heq2⟩ : ∃ q, (([] : List UInt8) == s0.toList) = q := ⟨_, rfl⟩
        have heq : ((⟨#[]⟩ : ByteArray).toList == s0.toList) = eq := by rw [ByteArray.toList_eq]; exact heq2
        cases eq
        all_goals
          go_wp2_with fail
          refine wp_loop_rounds 1 ?_
          rw [rounds_succ]
          go_wp2_with fail
          go_ret
          exact ⟨rfl, HB10.out⟩
    · have HKN := Lib.hid hXE
      clear hXE
      have rA := XA1.out.range
      go_wp2_with (with_reducible refine isList ?_; refine ld15 3 w1.heap.size [.int .i64 d, .int .i64 l, .int .i64 f, .int .i64 s, .int .i64 o, .int .i64 ln, .int .i64 tn, .int .i64 c, .int .i64 k, .int .i64 a, .int .i64 t, .int .i64 c', .int .i64 k', .int .i64 a', .int .i64 t'] rfl rfl rfl rfl ?_ ?_; exact rA)
      clear rA
      refine (C1.out _ (HT.out _ HB1.out)).mono ?_
      rintro e w2 ⟨rfl, h2⟩
      have XA2 := Lib.hid (XA1.out.below h2)
      have HB2 := Lib.hid (HB1.out.trans (h2.mono HB1.out.size))
      clear XA1 HB1 h2
      go_wp2_with fail
      refine (C2.out _ (HT.out _ HB2.out) (HM.out _ HB2.out)).mono ?_
      rintro e w3 ⟨rfl, h3⟩
      have XA3 := Lib.hid ((XA2.out.below h3).alloc (.cells #[.int .i64 d, .int .i64 l, .int .i64 f, .int .i64 s, .int .i64 o, .int .i64 ln, .int .i64 tn, .int .i64 c, .int .i64 k, .int .i64 a, .int .i64 t, .int .i64 c', .int .i64 k', .int .i64 a', .int .i64 t'] 29 (0, 0)))
      have XB3 := Lib.hid (BoxF.new w3 [.int .i64 d, .int .i64 l, .int .i64 f, .int .i64 s, .int .i64 o, .int .i64 ln, .int .i64 tn, .int .i64 c, .int .i64 k, .int .i64 a, .int .i64 t, .int .i64 c', .int .i64 k', .int .i64 a', .int .i64 t'] 29)
      have HB3 := Lib.hid ((HB2.out.trans (h3.mono HB2.out.size)).alloc (HB2.out.trans (h3.mono HB2.out.size)).size (.cells #[.int .i64 d, .int .i64 l, .int .i64 f, .int .i64 s, .int .i64 o, .int .i64 ln, .int .i64 tn, .int .i64 c, .int .i64 k, .int .i64 a, .int .i64 t, .int .i64 c', .int .i64 k', .int .i64 a', .int .i64 t'] 29 (0, 0)))
      clear XA2 HB2 h3
      have rA := XA3.out.range
      go_wp2_with (with_reducible refine isList ?_; refine ld15 3 w1.heap.size [.int .i64 d, .int .i64 l, .int .i64 f, .int .i64 s, .int .i64 o, .int .i64 ln, .int .i64 tn, .int .i64 c, .int .i64 k, .int .i64 a, .int .i64 t, .int .i64 c', .int .i64 k', .int .i64 a', .int .i64 t'] rfl rfl rfl rfl ?_ ?_; exact rA)
      clear rA
      refine (C3.out _).mono ?_
      rintro e w4 ⟨rfl, h4⟩
      have XA4 := Lib.hid (XA3.out.below h4)
      have XB4 := Lib.hid (XB3.out.below h4)
      have HB4 := Lib.hid (HB3.out.trans (h4.mono HB3.out.size))
      clear XA3 XB3 HB3 h4
      have nr : ∀ W, (binOp .neq 29 (.agg #[.int .i64 d, .int .i64 l, .int .i64 f, .int .i64 s, .int .i64 o, .int .i64 ln, .int .i64 tn, .int .i64 c, .int .i64 k, .int .i64 a, .int .i64 t, .int .i64 c', .int .i64 k', .int .i64 a', .int .i64 t']) (.agg #[.int .i64 d, .int .i64 l, .int .i64 f, .int .i64 s, .int .i64 o, .int .i64 ln, .int .i64 tn, .int .i64 c, .int .i64 k, .int .i64 a, .int .i64 t, .int .i64 c', .int .i64 k', .int .i64 a', .int .i64 t'])).run Tryz.prog W = .ok (.bool false) W := fun W => (neArms_run d l f s o ln tn c k a t c' k' a' t' d l f s o ln tn c k a t c' k' a' t' W).trans (by simp)
      have q_ := XA4.out
      obtain ⟨x0, x1, x2, x3, x4, x5, x6, x7, x8, x9, x10, x11, x12, x13, x14, xf⟩ := q_.fifteen
      clear q_
      have q_ := XB4.out
      obtain ⟨y0, y1, y2, y3, y4, y5, y6, y7, y8, y9, y10, y11, y12, y13, y14, yf⟩ := q_.fifteen
      clear q_
      go_wp2_with fail
      clear nr x0 x1 x2 x3 x4 x5 x6 x7 x8 x9 x10 x11 x12 x13 x14 xf y0 y1 y2 y3 y4 y5 y6 y7 y8 y9 y10 y11 y12 y13 y14 yf
      refine (HD.out _ HB4.out).mono ?_
      rintro e w5 ⟨⟨tt, rfl, htt⟩, h5⟩
      have XA5 := Lib.hid (XA4.out.below h5)
      have HB5 := Lib.hid (HB4.out.trans (h5.mono HB4.out.size))
      clear XA4 XB4 HB4 h5
      obtain ⟨u0, u1, u2, u3, u4, u5, u6, u7, u8, u9, u10, u11, u12, u13, u14, read, uu, told, d1, d2, hG⟩ := readA_answers tt (by omega)
      have E1 := Lib.hid d1
      have E2 := Lib.hid d2
      clear d1 d2
      go_wp2_with fail
      refine (E1.out _ (HT.out _ HB5.out) (HM.out _ HB5.out)).mono ?_
      rintro e w6 ⟨rfl, h6⟩
      have XA6 := Lib.hid ((XA5.out.below h6).alloc (.cells #[.int .i64 u0, .int .i64 u1, .int .i64 u2, .int .i64 u3, .int .i64 u4, .int .i64 u5, .int .i64 u6, .int .i64 u7, .int .i64 u8, .int .i64 u9, .int .i64 u10, .int .i64 u11, .int .i64 u12, .int .i64 u13, .int .i64 u14] 29 (0, 0)))
      have rC := (BoxF.new w6 [.int .i64 u0, .int .i64 u1, .int .i64 u2, .int .i64 u3, .int .i64 u4, .int .i64 u5, .int .i64 u6, .int .i64 u7, .int .i64 u8, .int .i64 u9, .int .i64 u10, .int .i64 u11, .int .i64 u12, .int .i64 u13, .int .i64 u14] 29).range
      have HB6 := Lib.hid ((HB5.out.trans (h6.mono HB5.out.size)).alloc (HB5.out.trans (h6.mono HB5.out.size)).size (.cells #[.int .i64 u0, .int .i64 u1, .int .i64 u2, .int .i64 u3, .int .i64 u4, .int .i64 u5, .int .i64 u6, .int .i64 u7, .int .i64 u8, .int .i64 u9, .int .i64 u10, .int .i64 u11, .int .i64 u12, .int .i64 u13, .int .i64 u14] 29 (0, 0)))
      clear XA5 HB5 h6 E1
      go_wp2_with (with_reducible refine isList ?_; refine ld15 10 w6.heap.size [.int .i64 u0, .int .i64 u1, .int .i64 u2, .int .i64 u3, .int .i64 u4, .int .i64 u5, .int .i64 u6, .int .i64 u7, .int .i64 u8, .int .i64 u9, .int .i64 u10, .int .i64 u11, .int .i64 u12, .int .i64 u13, .int .i64 u14] rfl rfl rfl rfl ?_ ?_; exact rC)
      clear rC
      refine (E2.out _ (HT.out _ HB6.out)).mono ?_
      rintro e w7 ⟨rfl, h7⟩
      have XA7 := Lib.hid (XA6.out.below h7)
      have HB7 := Lib.hid (HB6.out.trans (h7.mono HB6.out.size))
      clear XA6 HB6 h7 E2
      go_upto_region 11 with fail
      go_cut [74] (fun sc wx => sc = .bool false ∧ BoxF wx w1.heap.size [.int .i64 d, .int .i64 l, .int .i64 f, .int .i64 s, .int .i64 o, .int .i64 ln, .int .i64 tn, .int .i64 c, .int .i64 k, .int .i64 a, .int .i64 t, .int .i64 c', .int .i64 k', .int .i64 a', .int .i64 t'] 29 ∧ Below w.heap.size w wx)
      case first =>
        rcases hG with rfl | ⟨rfl, rfl, rfl⟩
        · set_option maxRecDepth 100000 in go_wp2_with fail
          go_meet
          exact ⟨rfl, XA7.out, HB7.out⟩
        · have hut := str_eq (rfl : uu = uu)
          set_option maxRecDepth 100000 in go_wp2_with fail
          go_meet
          exact ⟨rfl, XA7.out, HB7.out⟩
      case rest =>
        obtain ⟨rfl, xa_, hb_⟩ := hcut
        clear XA7 HB7 hG
        have XA7 := Lib.hid xa_
        have HB7 := Lib.hid hb_
        clear xa_ hb_
        have rA := XA7.out.range
        go_wp2_with (with_reducible refine isList ?_; refine ld15 3 w1.heap.size [.int .i64 d, .int .i64 l, .int .i64 f, .int .i64 s, .int .i64 o, .int .i64 ln, .int .i64 tn, .int .i64 c, .int .i64 k, .int .i64 a, .int .i64 t, .int .i64 c', .int .i64 k', .int .i64 a', .int .i64 t'] rfl rfl rfl rfl ?_ ?_; exact rA)
        clear rA
        refine (C4.out _ (HT.out _ HB7.out) (HM.out _ HB7.out)).mono ?_
        rintro e w8 ⟨g1, c1, rfl, own1, h8⟩
        have XA8 := Lib.hid (XA7.out.below h8)
        have HB8 := Lib.hid (HB7.out.trans (h8.mono HB7.out.size))
        have R1 := Lib.hid own1.rd
        clear XA7 HB7 h8 own1
        have rA := XA8.out.range
        go_wp2_with (with_reducible refine isList ?_; refine ld15 3 w1.heap.size [.int .i64 d, .int .i64 l, .int .i64 f, .int .i64 s, .int .i64 o, .int .i64 ln, .int .i64 tn, .int .i64 c, .int .i64 k, .int .i64 a, .int .i64 t, .int .i64 c', .int .i64 k', .int .i64 a', .int .i64 t'] rfl rfl rfl rfl ?_ ?_; exact rA)
        clear rA
        refine (C5.out _).mono ?_
        rintro e w9 ⟨g2, c2, rfl, own2, h9⟩
        have HB9 := Lib.hid (HB8.out.trans (h9.mono HB8.out.size))
        have S1 := Lib.hid (R1.out.below h9)
        have S2 := Lib.hid own2.rd
        clear XA8 HB8 h9 own2 R1 C1 C2 C3 C4 C5 HT HM HD
        have CV := Lib.hid (vTexts_true X N g1 g2 c1 c2 w9 S1.out S2.out (by omega))
        clear S2
        have ekn : (known != known) = false := by cases known <;> rfl
        go_wp2_with fail
        refine CV.out.mono ?_
        rintro e w10 ⟨rfl, m, rfl⟩
        have HB10 := Lib.hid (below_drewN' HB9.out m)
        clear HB9 CV ekn
        rcases HKN.out with ⟨rfl, hXE⟩ | ⟨rfl, hXE⟩
        · clear HKN
          obtain rfl : N = 0 := by have := HX.out.1; rw [hXE] at this; simpa using this.symm
          clear S1 HX hXE
          obtain ⟨eq, heq2⟩ : ∃ q, (([] : List UInt8) == s0.toList) = q := ⟨_, rfl⟩
          have heq : ((⟨#[]⟩ : ByteArray).toList == s0.toList) = eq := by rw [ByteArray.toList_eq]; exact heq2
          cases eq
          all_goals
            go_wp2_with fail
            refine wp_loop_rounds 1 ?_
            rw [rounds_succ]
            go_wp2_with fail
            go_ret
            exact ⟨rfl, HB10.out⟩
        · clear HKN
          have HXE := Lib.hid hXE
          clear hXE
          have hS := S1.out
          go_wp2_with fail
          go_loopw [18, 19] (fun sv iv wr => ∃ k : Nat, k ≤ N ∧ sv = .string (joinW (X.take k)) ∧ iv = .int .i64 (k : Int) ∧ wr = w9.drewN m) (fun _ iv _ => N - (Lib.intOf iv).toNat)
          case atStart => exact ⟨0, Nat.zero_le _, rfl, rfl, rfl⟩
          case round =>
            obtain ⟨k, hk, rfl, rfl, rfl⟩ := hrel
            by_cases hlt : k < N
            · have hkX : k < X.length := by have := HX.out.1; omega
              obtain ⟨g, o, rfl, hgl, hcell⟩ := hS.2 (by omega)
              have hc := hcell k hlt
              have hy : X.getD k ByteArray.empty = X[k] := by simp [List.getD, hkX]
              rw [hy] at hc
              have hs1 := joinW_take X k
              have hs2 := joinW_elem X X[k] (List.getElem_mem _)
              have hs3 := HX.out.2
              have HST := Lib.hid (joinW_step X hkX)
              obtain ⟨y, hyy⟩ : ∃ y, X[k] = y := ⟨_, rfl⟩
              rw [hyy] at hc hs2 HST
              clear hcell hgl hy hyy
              rcases Nat.eq_zero_or_pos k with hk0 | hk0
              · subst hk0
                rw [show joinW (X.take 0) = ⟨#[]⟩ by rfl] at hs1 ⊢
                have hc2 : (w9.drewN m).cell? ⟨g, o, none⟩ = some (.string y) := hc
                have HY : Hid (joinW (X.take 1) = y) := Lib.hid (by have := HST.out; rwa [if_pos rfl] at this)
                have n1 : ¬ 9223372036854775807 < y.size := by omega
                have hN0 : (0 : Int) < (N : Int) := by omega
                clear hc HST hs1
                go_wp2_with fail
                go_roundw
                case rel => exact ⟨1, by omega, by rw [HY.out]; first | rfl | simp, by go_num, by first | rfl | trivial⟩
                case measure => simp [Lib.intOf]; omega
              · obtain ⟨j, rfl⟩ : ∃ j, k = j + 1 := ⟨k - 1, by omega⟩
                have ej : ((j + 1 : Nat) : Int) = (j : Int) + 1 := by omega
                obtain ⟨z, hz⟩ : ∃ z, joinW (X.take (j + 1)) = z := ⟨_, rfl⟩
                have HY : Hid (joinW (X.take (j + 1 + 1)) = z ++ ⟨#[32]⟩ ++ y) := Lib.hid (by have := HST.out; rwa [if_neg (by omega), hz] at this)
                rw [hz] at hs1 ⊢
                rw [ej]
                have hc2 : (w9.drewN m).cell? ⟨g, o + (j + 1), none⟩ = some (.string y) := hc
                have k1 : decide ((0 : Int) < (j : Int) + 1) = true := decide_eq_true (by omega)
                have k2 : (0 : Int) ≤ (j : Int) + 1 := by omega
                have k3 : (j : Int) + 1 < (N : Int) := by omega
                have k4 : ((j : Int) + 1).toNat = j + 1 := by omega
                have n1 : ¬ 9223372036854775807 < z.size + 1 := by omega
                have n2 : ¬ 9223372036854775807 < z.size + 1 + y.size := by omega
                clear hc HST hz hs1
                go_wp2_with fail
                go_roundw
                case rel => exact ⟨j + 1 + 1, by omega, by rw [HY.out], by go_num, by first | rfl | trivial⟩
                case measure => simp [Lib.intOf]; omega
            · obtain rfl : k = N := by omega
              have hz : joinW (X.take k) = s0 := by rw [List.take_of_length_le (by have := HX.out.1; omega)]; exact HXE.out
              rw [hz]
              clear hS S1 HX HXE hz
              have heq := str_eq (rfl : s0 = s0)
              go_wp2_with fail
              go_ret
              exact ⟨rfl, HB10.out⟩

/-! ### THE ROW's STEP: WRITTEN OUT: LEAVE IT -/
set_option maxRecDepth 100000 in
theorem lifted (os : Os) (started : os.Started) (H : Type) (enc : TypeId × Value → H) :
    ReturnsInHanded {} Tryz.checked os 3 .any (fun w args => (Rows.fnTextsSpec.pre enc Tryz.prog Tryz.f3 Rows.fnTextsRow.domain false w args ∧ laidMetH Tryz.prog laidL w) ∧ sizedMet enc Tryz.prog Tryz.f3 (OpenSpec.ofChange Rows.fnTextsSpec) false w args)
      (Rows.fnTextsSpec.post enc Tryz.prog Tryz.f3 false true false false) := by
  refine returns_and_shaped (C := Tryz.checked) (X := fun w _ => laidMetH Tryz.prog laidL w) (fun _ _ _ hh h => h.of_heap hh) own started (by kernel_rfl) Tryz.func3
    (ChangeSpec.witness_shaped (enc := enc) (C := Tryz.checked) (os := os) (X := fun w _ => laidMetH Tryz.prog laidL w) false (World.laidAll Tryz.prog os laidL) #[.slice none 0 0] 8 (World.laidAll_os _ _ _) (World.shaped_of_ZipB (by kernel_rfl) (by kernel_rfl)) (by kernel_rfl) (by kernel_rfl) (by kernel_rfl) (by rw [MakeChecks.laidMetH_plain _ _ _ (by kernel_rfl)]; exact laidMet_laidAll _ (by kernel_rfl) (by kernel_rfl))) ?_
  intro W base args ds gs before hsh hval0 hW _ hsz0 hL _
  have hval : ∀ (j : Nat) t v, Tryz.f3.params[j]? = some t → args[j]? = some v → Value.okWide Tryz.prog W .any base t v := hval0
  have hW' := hW
  obtain ⟨p, q, hA0, hV, rfl, hfz, hnd⟩ := hW
  have hA : DataW.TrodAll enc Tryz.prog W 0 (fun _ => true) true Tryz.f3.params.toList args.toList ds p := hA0
  rw [Tryz.params3] at hA hval
  obtain ⟨v0, vs0, d0, ds0, p0, q0, hargs, rfl, rfl, h0, r0⟩ := trodAll_cons hA
  obtain ⟨rfl, rfl, rfl⟩ := trodAll_nil r0
  obtain rfl : args = #[v0] := by cases args; simp_all
  obtain ⟨gv0, gv1, gv2, gv3, gv4, gv5, gv6, hgs⟩ := readings hV
  subst hgs
  obtain ⟨a0, len0, cap0, rfl⟩ := okWide_slice Tryz.underlying22 (hval 0 22 v0 rfl rfl)
  have k0 := h0
  have lt0 : ∀ x ∈ p0, x.block < W.heap.size := by obtain ⟨m, hm⟩ := k0; exact DataW.trod_lt m _ _ _ hm
  obtain ⟨z0, w0⟩ : ∃ zs, IsRow .u8 W a0 len0 cap0 zs := by
    obtain ⟨fuel, hf⟩ := h0
    rcases open_ints Tryz.underlying22 Tryz.underlying5 (by kernel_rfl) hf with ⟨hcs, _⟩ | ⟨x, l, c, zs, hcs, _, hl, hm, hz, _, hcell, hwz⟩
    · simp [Value.cells] at hcs
      obtain ⟨rfl, rfl, rfl⟩ := hcs
      exact ⟨[], .inl ⟨rfl, rfl, rfl, rfl⟩⟩
    · simp [Value.cells] at hcs
      obtain ⟨rfl, rfl, rfl⟩ := hcs
      exact ⟨zs, .inr ⟨_, rfl, hl, hm, by simpa using hz, hcell, hwz⟩⟩
  clear hA0 hval0
  refine (walk a0 len0 cap0 z0 W w0 hL hsh).mono fun e W' ⟨he, bel⟩ => ?_
  subst he
  exact ⟨_, rfl, _, _, _, [], _, q, hW', trodAll_mk1 (shut_bool Tryz.underlying4 _), (trodAll_cons_mk (Below.trod laidOut (by kernel_rfl) (of_decide_eq_true (by kernel_rfl)) k0 bel lt0) trodAll_mk0), Below.trodVars (by kernel_rfl) bel (by kernel_rfl) hV, bel.frame _, fun h => by cases h⟩

theorem over : Rows.fnTextsRow.holds Tryz.pinned (OpenSpec.ofChange Rows.fnTextsSpec) :=
  OpenClaim.holds_of_wide 3 Tryz.f3 rfl rfl rfl rfl rfl rfl rfl ⟨rfl, rfl, rfl, rfl, rfl⟩ rfl rfl rfl rfl rfl (by kernel_rfl) Tryz.func3 (by kernel_rfl)
    (of_decide_eq_true (by kernel_rfl)) (by unfold Func.isWrapper; first | (rw [if_pos (by decide +kernel)]; kernel_rfl) | (rw [if_neg (by decide +kernel)]; exact ⟨rfl, rfl⟩))
    (fun os started H enc _ => lifted os started H enc)

/-- The row's statement. -/
theorem proved : Rows.FnTextsSaid :=
  over

/-- THE TIED CARD: the listed variables are those that the program's own text lays. -/
theorem card : Rows.FnTextsCardSaid :=
  Claim7.holds_tied_plain_at .later [] [.data, .data, .widerDeep, .widerDeep, .widerDeep, .widerDeep, .widerDeep, .widerDeep, .pinned] true (true, "2143a3a314fed972c488e42a096ad7381c48ee8652fe0eae6b8a5de0aab169d1") false
    proved (fun _ h => by cases h) (by kernel_rfl) (fun _ h => by cases h) fnTexts_row_tie rfl ⟨rfl, rfl⟩ (by kernel_rfl) rfl
    (fun f fn hf hfn => by
      obtain rfl : f = 3 := Option.some.inj ((show Tryz.prog.funcNamed "loop.example/g00884/laws.FnTexts" = some 3 by kernel_rfl).symm.trans hf) |>.symm
      obtain rfl : fn = Tryz.f3 := (Option.some.inj (Tryz.func3.symm.trans hfn)).symm
      exact ⟨by kernel_rfl, fun j t ht => by
        rw [Tryz.params3] at ht
        have hm : t ∈ [22] := by
          have := Array.mem_of_getElem? ht
          first | simpa using this | (simp at this ⊢; omega) | (simp at this ⊢; rcases this with h | h <;> simp [h])
        have hall : ([22].all fun u => !Tryz.prog.wantsStandIn u) = true := by kernel_rfl
        exact (show Tryz.prog.wantsStandIn t = false by simpa using List.all_eq_true.1 hall t hm)⟩)
    (by kernel_rfl)
#print axioms card
end Go.Proofs.YtgeidnnjljpdkaaGreatDoor.fnTexts
