/- FnFields: at every slice of bytes the law returns true: fields are recovered from their texts, texts that are read are the texts of what is read, and a swapped field has the same tinctures. The card ties the tables of words to the program's text. No condition. -/
import Derived.Test.YtmogabnngphfgaaDoorRows
import Derived.Test.YtmogabnngphfgaaDoorCards
import Derived.Test.YtmogabnngphfgaaDoorTie
import Derived.WalkKit
import Derived.ProofKit
import Derived.OpenShut
import Derived.ShutString
import Derived.Test.YtmogabnngphfgaaDoorLawIn
import Derived.Test.YtmogabnngphfgaaDoorDrawFields
import Derived.Test.YtmogabnngphfgaaDoorPField
import Derived.Test.YtmogabnngphfgaaDoorSParse
import Derived.Test.YtmogabnngphfgaaDoorRSort
import Derived.Test.YtmogabnngphfgaaDoorRRep
import Derived.Test.YtmogabnngphfgaaDoorFMath
import Derived.LaidMore
import Derived.Stop.Joined
import Derived.SevenTiedAt
import Derived.OpenVars
import Derived.ChangeVars
import Derived.Test.YtmogabnngphfgaaDoorShape
import Derived.ChangeOld
import Derived.Below
namespace Go.Proofs.YtmogabnngphfgaaDoor.fnFields
open Go.ChangeShapes Go.WideShapes Go.ChangeAt Go.RowKit
open Go.ChangeMaps (open_string shut_string)
set_option linter.unusedVariables false

def laidL : List (String × DataW Unit) := [("loop.example/g00884/impl.tinctureWords", Rows.laid_loop_example_g00884_impl_tinctureWords), ("loop.example/g00884/impl.divisionWords", Rows.laid_loop_example_g00884_impl_divisionWords), ("loop.example/g00884/impl.lineWords", Rows.laid_loop_example_g00884_impl_lineWords)]

/-- The door's own heap meets the condition. -/
theorem door_met (os : Os) (args : Array Value) : laidMetH Tryd.prog laidL ((World.doorLaid Tryd.prog 400 os).forCall (fun _ _ => 0) ⟨#[], args, []⟩).memory :=
  laidMetH_of_parts3 (fuel := 8) (laidMet_of_run' 8 (by kernel_rfl) (by kernel_rfl)) (by kernel_rfl) (by kernel_rfl)

theorem readings {H : Type} {enc : TypeId × Value → H} {P : Program} {w : World} {spare : Nat → Bool} {n0 n1 n2 : String} {gs : List (DataW H)} {ps : List MemPlace} (h : DataW.TrodVars enc P w spare [n0, n1, n2] gs ps) : ∃ gv0 gv1 gv2 : DataW H, gs = [gv0, gv1, gv2] := by
  cases gs with
  | nil => simp [DataW.TrodVars] at h
  | cons g0 gs =>
  obtain ⟨_, _, _, _, _, _, _, _, _, _, h, _⟩ := h
  cases gs with
  | nil => simp [DataW.TrodVars] at h
  | cons g1 gs =>
  obtain ⟨_, _, _, _, _, _, _, _, _, _, h, _⟩ := h
  cases gs with
  | nil => simp [DataW.TrodVars] at h
  | cons g2 gs =>
  obtain ⟨_, _, _, _, _, _, _, _, _, _, h, _⟩ := h
  obtain ⟨rfl, _⟩ := trodVars_none h
  exact ⟨g0, g1, g2, rfl⟩

theorem own : ownKnob Tryd.prog.godebug = none := by kernel_rfl
theorem laidOut : laidOutB Tryd.prog = true := by kernel_rfl

/-- WHAT THE WALK IS TOLD OF A SLICE OF INTEGERS THAT CAME IN: it is nil; or it leads to a row of 'cap' cells, the numbers 'zs' (the first 'len' are its elements, the rest its spare room), each fitting its kind. -/
def IsRow (k : IntKind) (w : World) (a : Option Addr) (len cap : Nat) (zs : List Int) : Prop :=
  (a = none ∧ len = 0 ∧ cap = 0 ∧ zs = []) ∨
  ∃ x, a = some x ∧ len ≤ cap ∧ cap ≤ maxLen ∧ zs.length = cap ∧ (∀ i, i < zs.length → w.cell? (x.add i) = some (.int k (zs.getD i 0))) ∧ ∀ n ∈ zs, (Lit.int k n).wf = true

/-! ### STEP 1: THE WALK: the Go text returns true, AND WRITES NOTHING THAT WAS THERE: 'Below w.heap.size w w'' (Derived/Below.lean: '.refl', '.alloc', '.drew', '.setCell' at a new block, '.trans'). Open each 'IsRow' by 'rcases' AHEAD of 'go_enter'; part every test ahead of the walk. -/
set_option maxHeartbeats 16000000 in
theorem walk (a0 : Option Addr) (len0 cap0 : Nat) (z0 : List Int) (w : World) (w0 : IsRow .u8 w a0 len0 cap0 z0) (hL : laidMetH Tryd.prog laidL w) (hS : w.ShapedOpen Tryd.prog) :
    Calls Tryd.prog 3 #[.slice a0 len0 cap0] w fun e w' => e = .returned (.bool true) ∧ Below w.heap.size w w' := by
  have hT : TabsLie w := tabs_of hL
  have hM : MaxLenAt w := maxLen_of hS
  have hR : RdB w w.heap.size a0 len0 := by
    rcases w0 with ⟨rfl, rfl, rfl, rfl⟩ | ⟨⟨b, o, spot⟩, rfl, hl, hm, hz, hc, hwf⟩
    · intro h; omega
    · refine rdb_of (fun k hk => hc k (by omega)) (fun k hk => ?_)
      have e2 : z0.getD k 0 = z0[k]'(by omega) := by simp [List.getD, show k < z0.length by omega]
      have h2 := hwf (z0.getD k 0) (by rw [e2]; exact List.getElem_mem _)
      exact (by simpa [Lit.wf] using h2)
  clear w0 hL hS
  have hB := vBig_any a0 len0 cap0 w
  by_cases hbig : (65536 : Int) < (len0 : Int)
  · have e1 : decide ((65536 : Int) < (len0 : Int)) = true := by simp; omega
    simp only [e1] at hB
    clear hR hT hM
    go_enter Tryd.func3, Tryd.ntmps3
    go_wp2_with (go_at_call 6; refine hB.mono ?_; rintro e w' ⟨rfl, rfl⟩)
    go_ret
    exact ⟨rfl, Below.refl _ _⟩
  · have e1 : decide ((65536 : Int) < (len0 : Int)) = false := by simp; omega
    simp only [e1] at hB
    have hn : len0 ≤ 65536 := by omega
    have cd := drawText_any a0 len0 cap0 w hR hn
    have HT := Lib.hid (fun W (h : Below w.heap.size w W) => hT.below h)
    have HM := Lib.hid (fun W (h : Below w.heap.size w W) => hM.below h)
    have HD := Lib.hid (fun W (h : Below w.heap.size w W) => drawParse_any a0 len0 cap0 W (hR.on h) hn)
    clear hR hT hM
    go_enter Tryd.func3, Tryd.ntmps3
    go_wp2_with (go_at_call 6; refine hB.mono ?_; rintro e w' ⟨rfl, rfl⟩)
    refine cd.mono ?_
    rintro e w1 ⟨⟨d, l, f, s, rfl⟩, hb1⟩
    clear hB cd
    obtain ⟨t0, ok, d1, l1, f1, s1, fine, d2, l2, f2, s2, d3, l3, f3, s3, same, L, N, k1, k2, k3, k4, k5, k6, k7, k8, hF⟩ := fields_answers d l f s
    have C1 := Lib.hid k1
    have C2 := Lib.hid k2
    have C3 := Lib.hid k3
    have C4 := Lib.hid k4
    have C5 := Lib.hid k5
    have C6 := Lib.hid k6
    have C7 := Lib.hid k7
    have C8 := Lib.hid k8
    have B1 := Lib.hid hb1
    clear k1 k2 k3 k4 k5 k6 k7 k8 hb1
    rcases hF with rfl | ⟨rfl, rfl, rfl, rfl, rfl, rfl, rfl, rfl, rfl, rfl, rfl, hN, hL0⟩
    · have KF2 := Lib.hid (Box.new w1 [.int .i64 d, .int .i64 l, .int .i64 f, .int .i64 s] 25)
      have B1x := Lib.hid (B1.out.alloc B1.out.size (.cells #[.int .i64 d, .int .i64 l, .int .i64 f, .int .i64 s] 25 (0, 0)))
      clear B1
      go_wp2_with fail
      refine (C1.out _ (HT.out _ B1x.out)).mono ?_
      rintro e w2 ⟨rfl, h2⟩
      have KF3 := Lib.hid (KF2.out.below h2)
      clear KF2
      have B4 := Lib.hid (B1x.out.trans (h2.mono B1x.out.size))
      clear B1x
      clear h2
      go_wp2_with fail
      refine (C2.out _ (HT.out _ B4.out) (HM.out _ B4.out)).mono ?_
      rintro e w3 ⟨rfl, h3⟩
      have KF5 := Lib.hid (KF3.out.below h3)
      clear KF3
      have B6 := Lib.hid (B4.out.trans (h3.mono B4.out.size))
      clear B4
      clear h3
      have x0 := KF5.out.2 0 _ rfl
      have x1 := KF5.out.2 1 _ rfl
      have x2 := KF5.out.2 2 _ rfl
      have x3 := KF5.out.2 3 _ rfl
      have xz := KF5.out.1
      have KF5a := Lib.hid (KF5.out.alloc (.cells #[.int .i64 d1, .int .i64 l1, .int .i64 f1, .int .i64 s1] 25 (0, 0)))
      clear KF5
      have KB7 := Lib.hid (Box.new w3 [.int .i64 d1, .int .i64 l1, .int .i64 f1, .int .i64 s1] 25)
      have B6x := Lib.hid (B6.out.alloc B6.out.size (.cells #[.int .i64 d1, .int .i64 l1, .int .i64 f1, .int .i64 s1] 25 (0, 0)))
      clear B6
      go_wp2_with fail
      refine (C3.out _).mono ?_
      rintro e w4 ⟨rfl, h4⟩
      clear x0 x1 x2 x3 xz
      have KF8 := Lib.hid (KF5a.out.below h4)
      clear KF5a
      have KB9 := Lib.hid (KB7.out.below h4)
      clear KB7
      have B10 := Lib.hid (B6x.out.trans (h4.mono B6x.out.size))
      clear B6x
      clear h4
      have x0 := KF8.out.2 0 _ rfl
      have x1 := KF8.out.2 1 _ rfl
      have x2 := KF8.out.2 2 _ rfl
      have x3 := KF8.out.2 3 _ rfl
      have xz := KF8.out.1
      go_wp2_with fail
      refine (C4.out _).mono ?_
      rintro e w5 ⟨rfl, h5⟩
      clear x0 x1 x2 x3 xz
      have KF11 := Lib.hid (KF8.out.below h5)
      clear KF8
      have KB12 := Lib.hid (KB9.out.below h5)
      clear KB9
      have B13 := Lib.hid (B10.out.trans (h5.mono B10.out.size))
      clear B10
      clear h5
      have x0 := KF11.out.2 0 _ rfl
      have x1 := KF11.out.2 1 _ rfl
      have x2 := KF11.out.2 2 _ rfl
      have x3 := KF11.out.2 3 _ rfl
      have xz := KF11.out.1
      have y0 := KB12.out.2 0 _ rfl
      have y1 := KB12.out.2 1 _ rfl
      have y2 := KB12.out.2 2 _ rfl
      have y3 := KB12.out.2 3 _ rfl
      have yz := KB12.out.1
      go_wp2_with fail
      refine (HD.out _ B13.out).mono ?_
      rintro e w6 ⟨⟨t, rfl, ht⟩, h6⟩
      clear x0 x1 x2 x3 xz y0 y1 y2 y3 yz
      clear KB12
      have KF14 := Lib.hid (KF11.out.below h6)
      clear KF11
      have B15 := Lib.hid (B13.out.trans (h6.mono B13.out.size))
      clear B13
      clear h6
      obtain ⟨g1, g2, g3, g4, read, u, told, c1, c2, hG⟩ := read_answers t (by omega)
      have E1 := Lib.hid c1
      have E2 := Lib.hid c2
      clear c1 c2
      go_wp2_with fail
      refine (E1.out _ (HT.out _ B15.out) (HM.out _ B15.out)).mono ?_
      rintro e w7 ⟨rfl, h7⟩
      have KF16 := Lib.hid (KF14.out.below h7)
      clear KF14
      have B17 := Lib.hid (B15.out.trans (h7.mono B15.out.size))
      clear B15
      clear h7
      have KF16a := Lib.hid (KF16.out.alloc (.cells #[.int .i64 g1, .int .i64 g2, .int .i64 g3, .int .i64 g4] 25 (0, 0)))
      clear KF16
      have KG18 := Lib.hid (Box.new w7 [.int .i64 g1, .int .i64 g2, .int .i64 g3, .int .i64 g4] 25)
      have B17x := Lib.hid (B17.out.alloc B17.out.size (.cells #[.int .i64 g1, .int .i64 g2, .int .i64 g3, .int .i64 g4] 25 (0, 0)))
      clear B17
      go_wp2_with fail
      refine (E2.out _ (HT.out _ B17x.out)).mono ?_
      rintro e w8 ⟨rfl, h8⟩
      clear KG18
      have KF19 := Lib.hid (KF16a.out.below h8)
      clear KF16a
      have B20 := Lib.hid (B17x.out.trans (h8.mono B17x.out.size))
      clear B17x
      clear h8
      clear E1 E2
      have x0 := KF19.out.2 0 _ rfl
      have x1 := KF19.out.2 1 _ rfl
      have x2 := KF19.out.2 2 _ rfl
      have x3 := KF19.out.2 3 _ rfl
      have xz := KF19.out.1
      rcases hG with rfl | ⟨rfl, rfl, rfl⟩
      all_goals
        go_wp2_with fail
        refine (C5.out _).mono ?_
        rintro e w9 ⟨rfl, h9⟩
        clear x0 x1 x2 x3 xz
        have KF21 := Lib.hid (KF19.out.below h9)
        clear KF19
        have B22 := Lib.hid (B20.out.trans (h9.mono B20.out.size))
        clear B20
        clear h9
        have KF21a := Lib.hid (KF21.out.alloc (.cells #[.int .i64 d2, .int .i64 l2, .int .i64 f2, .int .i64 s2] 25 (0, 0)))
        clear KF21
        have KX23 := Lib.hid (Box.new w9 [.int .i64 d2, .int .i64 l2, .int .i64 f2, .int .i64 s2] 25)
        have B22x := Lib.hid (B22.out.alloc B22.out.size (.cells #[.int .i64 d2, .int .i64 l2, .int .i64 f2, .int .i64 s2] 25 (0, 0)))
        clear B22
        go_wp2_with fail
        refine (C6.out _).mono ?_
        rintro e w10 ⟨rfl, h10⟩
        have KF24 := Lib.hid (KF21a.out.below h10)
        clear KF21a
        have KX25 := Lib.hid (KX23.out.below h10)
        clear KX23
        have B26 := Lib.hid (B22x.out.trans (h10.mono B22x.out.size))
        clear B22x
        clear h10
        have x0 := KF24.out.2 0 _ rfl
        have x1 := KF24.out.2 1 _ rfl
        have x2 := KF24.out.2 2 _ rfl
        have x3 := KF24.out.2 3 _ rfl
        have xz := KF24.out.1
        have y0 := KX25.out.2 0 _ rfl
        have y1 := KX25.out.2 1 _ rfl
        have y2 := KX25.out.2 2 _ rfl
        have y3 := KX25.out.2 3 _ rfl
        have yz := KX25.out.1
        have KF24a := Lib.hid (KF24.out.alloc (.cells #[.int .i64 d3, .int .i64 l3, .int .i64 f3, .int .i64 s3] 25 (0, 0)))
        clear KF24
        have KX25a := Lib.hid (KX25.out.alloc (.cells #[.int .i64 d3, .int .i64 l3, .int .i64 f3, .int .i64 s3] 25 (0, 0)))
        clear KX25
        have KY27 := Lib.hid (Box.new w10 [.int .i64 d3, .int .i64 l3, .int .i64 f3, .int .i64 s3] 25)
        have B26x := Lib.hid (B26.out.alloc B26.out.size (.cells #[.int .i64 d3, .int .i64 l3, .int .i64 f3, .int .i64 s3] 25 (0, 0)))
        clear B26
        go_wp2_with fail
        refine (C7.out _).mono ?_
        rintro e w11 ⟨rfl, h11⟩
        clear x0 x1 x2 x3 xz y0 y1 y2 y3 yz
        clear KX25a
        have KF28 := Lib.hid (KF24a.out.below h11)
        clear KF24a
        have KY29 := Lib.hid (KY27.out.below h11)
        clear KY27
        have B30 := Lib.hid (B26x.out.trans (h11.mono B26x.out.size))
        clear B26x
        clear h11
        have x0 := KF28.out.2 0 _ rfl
        have x1 := KF28.out.2 1 _ rfl
        have x2 := KF28.out.2 2 _ rfl
        have x3 := KF28.out.2 3 _ rfl
        have xz := KF28.out.1
        go_wp2_with fail
        refine (C8.out _).mono ?_
        rintro e w12 ⟨xa, ka, rfl, ho, h12⟩
        clear x0 x1 x2 x3 xz
        have KF31 := Lib.hid (KF28.out.below h12)
        clear KF28
        have KY32 := Lib.hid (KY29.out.below h12)
        clear KY29
        have B33 := Lib.hid (B30.out.trans (h12.mono B30.out.size))
        clear B30
        clear h12
        clear ho
        go_wp2_with fail
        try go_quiet (fail)
        go_wp2_with fail
        go_ret
        first
          | exact ⟨rfl, B33.out⟩
          | exact ⟨rfl, below_drewN' B33.out _⟩
    · have KF2 := Lib.hid (Box.new w1 [.int .i64 d, .int .i64 l, .int .i64 f, .int .i64 s] 25)
      have B1x := Lib.hid (B1.out.alloc B1.out.size (.cells #[.int .i64 d, .int .i64 l, .int .i64 f, .int .i64 s] 25 (0, 0)))
      clear B1
      go_wp2_with fail
      refine (C1.out _ (HT.out _ B1x.out)).mono ?_
      rintro e w2 ⟨rfl, h2⟩
      have KF3 := Lib.hid (KF2.out.below h2)
      clear KF2
      have B4 := Lib.hid (B1x.out.trans (h2.mono B1x.out.size))
      clear B1x
      clear h2
      go_wp2_with fail
      refine (C2.out _ (HT.out _ B4.out) (HM.out _ B4.out)).mono ?_
      rintro e w3 ⟨rfl, h3⟩
      have KF5 := Lib.hid (KF3.out.below h3)
      clear KF3
      have B6 := Lib.hid (B4.out.trans (h3.mono B4.out.size))
      clear B4
      clear h3
      have x0 := KF5.out.2 0 _ rfl
      have x1 := KF5.out.2 1 _ rfl
      have x2 := KF5.out.2 2 _ rfl
      have x3 := KF5.out.2 3 _ rfl
      have xz := KF5.out.1
      have KF5a := Lib.hid (KF5.out.alloc (.cells #[.int .i64 d, .int .i64 l, .int .i64 f, .int .i64 s] 25 (0, 0)))
      clear KF5
      have KB7 := Lib.hid (Box.new w3 [.int .i64 d, .int .i64 l, .int .i64 f, .int .i64 s] 25)
      have B6x := Lib.hid (B6.out.alloc B6.out.size (.cells #[.int .i64 d, .int .i64 l, .int .i64 f, .int .i64 s] 25 (0, 0)))
      clear B6
      go_wp2_with fail
      refine (C3.out _).mono ?_
      rintro e w4 ⟨rfl, h4⟩
      clear x0 x1 x2 x3 xz
      have KF8 := Lib.hid (KF5a.out.below h4)
      clear KF5a
      have KB9 := Lib.hid (KB7.out.below h4)
      clear KB7
      have B10 := Lib.hid (B6x.out.trans (h4.mono B6x.out.size))
      clear B6x
      clear h4
      have x0 := KF8.out.2 0 _ rfl
      have x1 := KF8.out.2 1 _ rfl
      have x2 := KF8.out.2 2 _ rfl
      have x3 := KF8.out.2 3 _ rfl
      have xz := KF8.out.1
      go_wp2_with fail
      refine (C4.out _).mono ?_
      rintro e w5 ⟨rfl, h5⟩
      clear x0 x1 x2 x3 xz
      have KF11 := Lib.hid (KF8.out.below h5)
      clear KF8
      have KB12 := Lib.hid (KB9.out.below h5)
      clear KB9
      have B13 := Lib.hid (B10.out.trans (h5.mono B10.out.size))
      clear B10
      clear h5
      have x0 := KF11.out.2 0 _ rfl
      have x1 := KF11.out.2 1 _ rfl
      have x2 := KF11.out.2 2 _ rfl
      have x3 := KF11.out.2 3 _ rfl
      have xz := KF11.out.1
      have y0 := KB12.out.2 0 _ rfl
      have y1 := KB12.out.2 1 _ rfl
      have y2 := KB12.out.2 2 _ rfl
      have y3 := KB12.out.2 3 _ rfl
      have yz := KB12.out.1
      go_wp2_with fail
      refine (HD.out _ B13.out).mono ?_
      rintro e w6 ⟨⟨t, rfl, ht⟩, h6⟩
      clear x0 x1 x2 x3 xz y0 y1 y2 y3 yz
      clear KB12
      have KF14 := Lib.hid (KF11.out.below h6)
      clear KF11
      have B15 := Lib.hid (B13.out.trans (h6.mono B13.out.size))
      clear B13
      clear h6
      obtain ⟨g1, g2, g3, g4, read, u, told, c1, c2, hG⟩ := read_answers t (by omega)
      have E1 := Lib.hid c1
      have E2 := Lib.hid c2
      clear c1 c2
      go_wp2_with fail
      refine (E1.out _ (HT.out _ B15.out) (HM.out _ B15.out)).mono ?_
      rintro e w7 ⟨rfl, h7⟩
      have KF16 := Lib.hid (KF14.out.below h7)
      clear KF14
      have B17 := Lib.hid (B15.out.trans (h7.mono B15.out.size))
      clear B15
      clear h7
      have KF16a := Lib.hid (KF16.out.alloc (.cells #[.int .i64 g1, .int .i64 g2, .int .i64 g3, .int .i64 g4] 25 (0, 0)))
      clear KF16
      have KG18 := Lib.hid (Box.new w7 [.int .i64 g1, .int .i64 g2, .int .i64 g3, .int .i64 g4] 25)
      have B17x := Lib.hid (B17.out.alloc B17.out.size (.cells #[.int .i64 g1, .int .i64 g2, .int .i64 g3, .int .i64 g4] 25 (0, 0)))
      clear B17
      go_wp2_with fail
      refine (E2.out _ (HT.out _ B17x.out)).mono ?_
      rintro e w8 ⟨rfl, h8⟩
      clear KG18
      have KF19 := Lib.hid (KF16a.out.below h8)
      clear KF16a
      have B20 := Lib.hid (B17x.out.trans (h8.mono B17x.out.size))
      clear B17x
      clear h8
      clear E1 E2
      have x0 := KF19.out.2 0 _ rfl
      have x1 := KF19.out.2 1 _ rfl
      have x2 := KF19.out.2 2 _ rfl
      have x3 := KF19.out.2 3 _ rfl
      have xz := KF19.out.1
      rcases hG with rfl | ⟨rfl, rfl, rfl⟩
      all_goals
        go_wp2_with fail
        refine (C5.out _).mono ?_
        rintro e w9 ⟨rfl, h9⟩
        clear x0 x1 x2 x3 xz
        have KF21 := Lib.hid (KF19.out.below h9)
        clear KF19
        have B22 := Lib.hid (B20.out.trans (h9.mono B20.out.size))
        clear B20
        clear h9
        have KF21a := Lib.hid (KF21.out.alloc (.cells #[.int .i64 d2, .int .i64 l2, .int .i64 f2, .int .i64 s2] 25 (0, 0)))
        clear KF21
        have KX23 := Lib.hid (Box.new w9 [.int .i64 d2, .int .i64 l2, .int .i64 f2, .int .i64 s2] 25)
        have B22x := Lib.hid (B22.out.alloc B22.out.size (.cells #[.int .i64 d2, .int .i64 l2, .int .i64 f2, .int .i64 s2] 25 (0, 0)))
        clear B22
        go_wp2_with fail
        refine (C6.out _).mono ?_
        rintro e w10 ⟨rfl, h10⟩
        have KF24 := Lib.hid (KF21a.out.below h10)
        clear KF21a
        have KX25 := Lib.hid (KX23.out.below h10)
        clear KX23
        have B26 := Lib.hid (B22x.out.trans (h10.mono B22x.out.size))
        clear B22x
        clear h10
        have x0 := KF24.out.2 0 _ rfl
        have x1 := KF24.out.2 1 _ rfl
        have x2 := KF24.out.2 2 _ rfl
        have x3 := KF24.out.2 3 _ rfl
        have xz := KF24.out.1
        have y0 := KX25.out.2 0 _ rfl
        have y1 := KX25.out.2 1 _ rfl
        have y2 := KX25.out.2 2 _ rfl
        have y3 := KX25.out.2 3 _ rfl
        have yz := KX25.out.1
        have KF24a := Lib.hid (KF24.out.alloc (.cells #[.int .i64 d, .int .i64 l, .int .i64 f, .int .i64 s] 25 (0, 0)))
        clear KF24
        have KX25a := Lib.hid (KX25.out.alloc (.cells #[.int .i64 d, .int .i64 l, .int .i64 f, .int .i64 s] 25 (0, 0)))
        clear KX25
        have KY27 := Lib.hid (Box.new w10 [.int .i64 d, .int .i64 l, .int .i64 f, .int .i64 s] 25)
        have B26x := Lib.hid (B26.out.alloc B26.out.size (.cells #[.int .i64 d, .int .i64 l, .int .i64 f, .int .i64 s] 25 (0, 0)))
        clear B26
        go_wp2_with fail
        refine (C7.out _).mono ?_
        rintro e w11 ⟨rfl, h11⟩
        clear x0 x1 x2 x3 xz y0 y1 y2 y3 yz
        clear KX25a
        have KF28 := Lib.hid (KF24a.out.below h11)
        clear KF24a
        have KY29 := Lib.hid (KY27.out.below h11)
        clear KY27
        have B30 := Lib.hid (B26x.out.trans (h11.mono B26x.out.size))
        clear B26x
        clear h11
        have x0 := KF28.out.2 0 _ rfl
        have x1 := KF28.out.2 1 _ rfl
        have x2 := KF28.out.2 2 _ rfl
        have x3 := KF28.out.2 3 _ rfl
        have xz := KF28.out.1
        go_wp2_with fail
        refine (C8.out _).mono ?_
        rintro e w12 ⟨xa, ka, rfl, ho, h12⟩
        clear x0 x1 x2 x3 xz
        have KF31 := Lib.hid (KF28.out.below h12)
        clear KF28
        have KY32 := Lib.hid (KY29.out.below h12)
        clear KY29
        have B33 := Lib.hid (B30.out.trans (h12.mono B30.out.size))
        clear B30
        clear h12
        have x0 := KF31.out.2 0 _ rfl
        have x1 := KF31.out.2 1 _ rfl
        have x2 := KF31.out.2 2 _ rfl
        have x3 := KF31.out.2 3 _ rfl
        have xz := KF31.out.1
        have y0 := KY32.out.2 0 _ rfl
        have y1 := KY32.out.2 1 _ rfl
        have y2 := KY32.out.2 2 _ rfl
        have y3 := KY32.out.2 3 _ rfl
        have yz := KY32.out.1
        obtain ⟨pb, po, rfl, _, pc⟩ := ho.rd.2 (by omega)
        have p0 : w12.cell? ⟨pb, po, none⟩ = some (.int .i64 f) := by
          have := pc 0 (by omega)
          rw [hL0] at this
          exact this
        have e9 : decide ((0 : Int) < (N : Int)) = true := by simp; omega
        have e8 : (0 : Int) < (N : Int) := by omega
        have e7 : 0 < N := by omega
        have e6 : decide (0 < N) = true := by simp; omega
        clear ho pc
        go_wp2_with fail
        go_quiet (fail)
        go_wp2_with fail
        go_ret
        exact ⟨rfl, below_drewN' B33.out _⟩

/-! ### THE ROW's STEP: WRITTEN OUT: LEAVE IT -/
set_option maxRecDepth 100000 in
theorem lifted (os : Os) (started : os.Started) (H : Type) (enc : TypeId × Value → H) :
    ReturnsInHanded {} Tryd.checked os 3 .any (fun w args => (Rows.fnFieldsSpec.pre enc Tryd.prog Tryd.f3 Rows.fnFieldsRow.domain false w args ∧ laidMetH Tryd.prog laidL w) ∧ sizedMet enc Tryd.prog Tryd.f3 (OpenSpec.ofChange Rows.fnFieldsSpec) false w args)
      (Rows.fnFieldsSpec.post enc Tryd.prog Tryd.f3 false true false false) := by
  refine returns_and_shaped (C := Tryd.checked) (X := fun w _ => laidMetH Tryd.prog laidL w) (fun _ _ _ hh h => h.of_heap hh) own started (by kernel_rfl) Tryd.func3
    (ChangeSpec.witness_shaped (enc := enc) (C := Tryd.checked) (os := os) (X := fun w _ => laidMetH Tryd.prog laidL w) false (World.doorLaid Tryd.prog 400 os) #[.slice none 0 0] 8 rfl (World.shaped_of_RefB (by kernel_rfl) (by kernel_rfl)) (by kernel_rfl) (by kernel_rfl) (by kernel_rfl) (door_met os _)) ?_
  intro W base args ds gs before hsh hval0 hW _ hsz0 hL _
  have hval : ∀ (j : Nat) t v, Tryd.f3.params[j]? = some t → args[j]? = some v → Value.okWide Tryd.prog W .any base t v := hval0
  have hW' := hW
  obtain ⟨p, q, hA0, hV, rfl, hfz, hnd⟩ := hW
  have hA : DataW.TrodAll enc Tryd.prog W 0 (fun _ => true) true Tryd.f3.params.toList args.toList ds p := hA0
  rw [Tryd.params3] at hA hval
  obtain ⟨v0, vs0, d0, ds0, p0, q0, hargs, rfl, rfl, h0, r0⟩ := trodAll_cons hA
  obtain ⟨rfl, rfl, rfl⟩ := trodAll_nil r0
  obtain rfl : args = #[v0] := by cases args; simp_all
  obtain ⟨gv0, gv1, gv2, hgs⟩ := readings hV
  subst hgs
  obtain ⟨a0, len0, cap0, rfl⟩ := okWide_slice Tryd.underlying22 (hval 0 22 v0 rfl rfl)
  have k0 := h0
  have lt0 : ∀ x ∈ p0, x.block < W.heap.size := by obtain ⟨m, hm⟩ := k0; exact DataW.trod_lt m _ _ _ hm
  obtain ⟨z0, w0⟩ : ∃ zs, IsRow .u8 W a0 len0 cap0 zs := by
    obtain ⟨fuel, hf⟩ := h0
    rcases open_ints Tryd.underlying22 Tryd.underlying5 (by kernel_rfl) hf with ⟨hcs, _⟩ | ⟨x, l, c, zs, hcs, _, hl, hm, hz, _, hcell, hwz⟩
    · simp [Value.cells] at hcs
      obtain ⟨rfl, rfl, rfl⟩ := hcs
      exact ⟨[], .inl ⟨rfl, rfl, rfl, rfl⟩⟩
    · simp [Value.cells] at hcs
      obtain ⟨rfl, rfl, rfl⟩ := hcs
      exact ⟨zs, .inr ⟨_, rfl, hl, hm, by simpa using hz, hcell, hwz⟩⟩
  clear hA0 hval0
  refine (walk a0 len0 cap0 z0 W w0 hL hsh).mono fun e W' ⟨he, bel⟩ => ?_
  subst he
  exact ⟨_, rfl, _, _, _, [], _, q, hW', trodAll_mk1 (shut_bool Tryd.underlying4 _), (trodAll_cons_mk (Below.trod laidOut (by kernel_rfl) (of_decide_eq_true (by kernel_rfl)) k0 bel lt0) trodAll_mk0), Below.trodVars (by kernel_rfl) bel (by kernel_rfl) hV, bel.frame _, fun h => by cases h⟩

theorem over : Rows.fnFieldsRow.holds Tryd.pinned (OpenSpec.ofChange Rows.fnFieldsSpec) :=
  OpenClaim.holds_of_wide 3 Tryd.f3 rfl rfl rfl rfl rfl rfl rfl ⟨rfl, rfl, rfl, rfl, rfl⟩ rfl rfl rfl rfl rfl (by kernel_rfl) Tryd.func3 (by kernel_rfl)
    (of_decide_eq_true (by kernel_rfl)) (by unfold Func.isWrapper; first | (rw [if_pos (by decide +kernel)]; kernel_rfl) | (rw [if_neg (by decide +kernel)]; exact ⟨rfl, rfl⟩))
    (fun os started H enc _ => lifted os started H enc)

/-- The row's statement. -/
theorem proved : Rows.FnFieldsSaid :=
  over

/-- THE TIED CARD: the listed variables are those that the program's own text lays. -/
theorem card : Rows.FnFieldsCardSaid :=
  Claim7.holds_tied_plain_at .later [] [.data, .widerDeep, .widerDeep] true (true, "e3d2daf8564419b8129a1e4e60f672b82d6102e30c39a34edadc0f96e4c77fa6") false
    proved (fun _ h => by cases h) (by kernel_rfl) (fun _ h => by cases h) fnFields_row_tie rfl ⟨rfl, rfl⟩ (by kernel_rfl) rfl
    (fun f fn hf hfn => by
      obtain rfl : f = 3 := Option.some.inj ((show Tryd.prog.funcNamed "loop.example/g00884/laws.FnFields" = some 3 by kernel_rfl).symm.trans hf) |>.symm
      obtain rfl : fn = Tryd.f3 := (Option.some.inj (Tryd.func3.symm.trans hfn)).symm
      exact ⟨by kernel_rfl, fun j t ht => by
        rw [Tryd.params3] at ht
        have hm : t ∈ [22] := by
          have := Array.mem_of_getElem? ht
          simpa using this
        have hall : ([22].all fun u => !Tryd.prog.wantsStandIn u) = true := by kernel_rfl
        exact (show Tryd.prog.wantsStandIn t = false by simpa using List.all_eq_true.1 hall t hm)⟩)
    (by kernel_rfl)
#print axioms card
end Go.Proofs.YtmogabnngphfgaaDoor.fnFields
