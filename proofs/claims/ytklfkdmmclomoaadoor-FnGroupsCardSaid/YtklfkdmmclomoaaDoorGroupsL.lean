/- FnGroups: at every slice of bytes the law returns true: groups are recovered from their texts, texts that are read are the texts of what is read, the rows of a group have all its charges, and joined groups have the sum. The card ties the tables to the program's text. No condition. -/
import Derived.Test.YtklfkdmmclomoaaDoorRows
import Derived.Test.YtklfkdmmclomoaaDoorCards
import Derived.Test.YtklfkdmmclomoaaDoorTie
import Derived.WalkKit
import Derived.ProofKit
import Derived.OpenShut
import Derived.ShutString
import Derived.Test.YtklfkdmmclomoaaDoorLawIn
import Derived.Test.YtklfkdmmclomoaaDoorGAnswers
import Derived.LaidMore
import Derived.Stop.Joined
import Derived.SevenTiedAt
import Derived.OpenVars
import Derived.ChangeVars
import Derived.ChangeOld
import Derived.Below
namespace Go.Proofs.YtklfkdmmclomoaaDoor.fnGroups
open Go.ChangeShapes Go.WideShapes Go.ChangeAt Go.RowKit
open Go.ChangeMaps (open_string shut_string)
set_option linter.unusedVariables false

def laidL : List (String × DataW Unit) := [("loop.example/g00884/impl.tinctureWords", Rows.laid_loop_example_g00884_impl_tinctureWords), ("loop.example/g00884/impl.countWords", Rows.laid_loop_example_g00884_impl_countWords), ("loop.example/g00884/impl.kindWords", Rows.laid_loop_example_g00884_impl_kindWords), ("loop.example/g00884/impl.attitudeWords", Rows.laid_loop_example_g00884_impl_attitudeWords), ("loop.example/g00884/impl.rowsOfCharges", Rows.laid_loop_example_g00884_impl_rowsOfCharges)]

/-- The door's own heap meets the condition. -/
theorem door_met (os : Os) (args : Array Value) : laidMetH Tryd.prog laidL ((World.doorLaid Tryd.prog 400 os).forCall (fun _ _ => 0) ⟨#[], args, []⟩).memory :=
  laidMetH_of_parts3 (fuel := 8) (laidMet_of_run' 8 (by kernel_rfl) (by kernel_rfl)) (by kernel_rfl) (by kernel_rfl)

theorem readings {H : Type} {enc : TypeId × Value → H} {P : Program} {w : World} {spare : Nat → Bool} {n0 n1 n2 n3 n4 : String} {gs : List (DataW H)} {ps : List MemPlace} (h : DataW.TrodVars enc P w spare [n0, n1, n2, n3, n4] gs ps) : ∃ gv0 gv1 gv2 gv3 gv4 : DataW H, gs = [gv0, gv1, gv2, gv3, gv4] := by
  cases gs with
  | nil => simp [DataW.TrodVars] at h
  | cons g0 gs =>
  obtain ⟨_, _, _, _, _, _, _, _, _, _, h, _⟩ := h
  cases gs with
  | nil => simp [DataW.TrodVars] at h
  | cons g1 gs =>
  obtain ⟨_, _, _, _, _, _, _, _, _, _, h, _⟩ := h
  cases gs with
  | nil => simp [DataW.TrodVars] at h
  | cons g2 gs =>
  obtain ⟨_, _, _, _, _, _, _, _, _, _, h, _⟩ := h
  cases gs with
  | nil => simp [DataW.TrodVars] at h
  | cons g3 gs =>
  obtain ⟨_, _, _, _, _, _, _, _, _, _, h, _⟩ := h
  cases gs with
  | nil => simp [DataW.TrodVars] at h
  | cons g4 gs =>
  obtain ⟨_, _, _, _, _, _, _, _, _, _, h, _⟩ := h
  obtain ⟨rfl, _⟩ := trodVars_none h
  exact ⟨g0, g1, g2, g3, g4, rfl⟩

theorem own : ownKnob Tryd.prog.godebug = none := by kernel_rfl
theorem laidOut : laidOutB Tryd.prog = true := by kernel_rfl

/-- WHAT THE WALK IS TOLD OF A SLICE OF INTEGERS THAT CAME IN: it is nil; or it leads to a row of 'cap' cells, the numbers 'zs' (the first 'len' are its elements, the rest its spare room), each fitting its kind. -/
def IsRow (k : IntKind) (w : World) (a : Option Addr) (len cap : Nat) (zs : List Int) : Prop :=
  (a = none ∧ len = 0 ∧ cap = 0 ∧ zs = []) ∨
  ∃ x, a = some x ∧ len ≤ cap ∧ cap ≤ maxLen ∧ zs.length = cap ∧ (∀ i, i < zs.length → w.cell? (x.add i) = some (.int k (zs.getD i 0))) ∧ ∀ n ∈ zs, (Lit.int k n).wf = true

/-! ### STEP 1: THE WALK: the Go text returns true, AND WRITES NOTHING THAT WAS THERE: 'Below w.heap.size w w'' (Derived/Below.lean: '.refl', '.alloc', '.drew', '.setCell' at a new block, '.trans'). Open each 'IsRow' by 'rcases' AHEAD of 'go_enter'; part every test ahead of the walk. -/
set_option maxHeartbeats 16000000 in
theorem walk (a0 : Option Addr) (len0 cap0 : Nat) (z0 : List Int) (w : World) (w0 : IsRow .u8 w a0 len0 cap0 z0) (hL : laidMetH Tryd.prog laidL w) :
    Calls Tryd.prog 3 #[.slice a0 len0 cap0] w fun e w' => e = .returned (.bool true) ∧ Below w.heap.size w w' := by
  obtain ⟨hT, hRo⟩ := gtabs5H hL
  have hR : RdB w w.heap.size a0 len0 := by
    rcases w0 with ⟨rfl, rfl, rfl, rfl⟩ | ⟨⟨b, o, spot⟩, rfl, hl, hm, hz, hc, hwf⟩
    · intro h; omega
    · refine rdb_of (fun k hk => hc k (by omega)) (fun k hk => ?_)
      have e2 : z0.getD k 0 = z0[k]'(by omega) := by simp [List.getD, show k < z0.length by omega]
      have h2 := hwf (z0.getD k 0) (by rw [e2]; exact List.getElem_mem _)
      exact (by simpa [Lit.wf] using h2)
  clear w0 hL
  have hB := vBig_any a0 len0 cap0 w
  by_cases hbig : (65536 : Int) < (len0 : Int)
  · have e1 : decide ((65536 : Int) < (len0 : Int)) = true := by simp; omega
    simp only [e1] at hB
    clear hR hT hRo
    go_enter Tryd.func3, Tryd.ntmps3
    go_wp2_with (go_at_call 14; refine hB.mono ?_; rintro e w' ⟨rfl, rfl⟩)
    go_ret
    exact ⟨rfl, Below.refl _ _⟩
  · have e1 : decide ((65536 : Int) < (len0 : Int)) = false := by simp; omega
    simp only [e1] at hB
    have hn : len0 ≤ 65536 := by omega
    have cd := drawGText_any a0 len0 cap0 w hR hn
    have HT := Lib.hid (fun W (h : Below w.heap.size w W) => hT.below h)
    have HR := Lib.hid (fun W (h : Below w.heap.size w W) => hRo.below h)
    have HD := Lib.hid (fun W (h : Below w.heap.size w W) => drawGParse_any a0 len0 cap0 W (hR.on h) hn)
    have HJ := Lib.hid (fun W (h : Below w.heap.size w W) => drawJoin_any a0 len0 cap0 W (hR.on h) hn)
    clear hR hT hRo
    go_enter Tryd.func3, Tryd.ntmps3
    go_wp2_with (go_at_call 14; refine hB.mono ?_; rintro e w' ⟨rfl, rfl⟩)
    refine cd.mono ?_
    rintro e w1 ⟨⟨c, k, a, t, rfl⟩, hb1⟩
    clear hB cd
    obtain ⟨t0, ok, b1, b2, b3, b4, fine, L, known, k1, k2, k3, k4, k5, hL3, hL4, hF⟩ := group_answers c k a t
    obtain ⟨N, hN⟩ : ∃ N, L.length = N := ⟨_, rfl⟩
    unfold Ans at k5
    rw [hN] at k5 hL3
    have C1 := Lib.hid k1
    have C2 := Lib.hid k2
    have C3 := Lib.hid k3
    have C4 := Lib.hid k4
    have C5 := Lib.hid k5
    have HL := Lib.hid (And.intro hN (sum_bound L hL4))
    have HS := Lib.hid (fun q (hq : q < L.length) => sum_snoc L q hq)
    have HTk : Hid ((L.take N).sum = L.sum) := Lib.hid (by rw [List.take_of_length_le (by omega)])
    have B1 := Lib.hid hb1
    clear k1 k2 k3 k4 k5 hb1 hN hL4
    rcases hF with rfl | ⟨rfl, rfl, rfl, rfl, rfl, rfl, rfl, hcc⟩
    · have KF2 := Lib.hid (Box.new w1 [.int .i64 c, .int .i64 k, .int .i64 a, .int .i64 t] 25)
      have B1x := Lib.hid (B1.out.alloc B1.out.size (.cells #[.int .i64 c, .int .i64 k, .int .i64 a, .int .i64 t] 25 (0, 0)))
      clear B1
      go_wp2_with fail
      refine (C1.out _ (HT.out _ B1x.out)).mono ?_
      rintro e w2 ⟨rfl, h2⟩
      have KF3 := Lib.hid (KF2.out.below h2)
      clear KF2
      have B4 := Lib.hid (B1x.out.trans (h2.mono B1x.out.size))
      clear B1x
      clear h2
      go_wp2_with fail
      refine (C2.out _ (HT.out _ B4.out)).mono ?_
      rintro e w3 ⟨rfl, h3⟩
      have KF5 := Lib.hid (KF3.out.below h3)
      clear KF3
      have B6 := Lib.hid (B4.out.trans (h3.mono B4.out.size))
      clear B4
      clear h3
      have x0 := KF5.out.2 0 _ rfl
      have x1 := KF5.out.2 1 _ rfl
      have x2 := KF5.out.2 2 _ rfl
      have x3 := KF5.out.2 3 _ rfl
      have xz := KF5.out.1
      have KF5a := Lib.hid (KF5.out.alloc (.cells #[.int .i64 b1, .int .i64 b2, .int .i64 b3, .int .i64 b4] 25 (0, 0)))
      clear KF5
      have KB7 := Lib.hid (Box.new w3 [.int .i64 b1, .int .i64 b2, .int .i64 b3, .int .i64 b4] 25)
      have B6x := Lib.hid (B6.out.alloc B6.out.size (.cells #[.int .i64 b1, .int .i64 b2, .int .i64 b3, .int .i64 b4] 25 (0, 0)))
      clear B6
      have xq := KF5a.out.1
      go_wp2_with fail
      refine (C3.out _).mono ?_
      rintro e w4 ⟨rfl, h4⟩
      clear x0 x1 x2 x3 xz xq
      have KF8 := Lib.hid (KF5a.out.below h4)
      clear KF5a
      have KB9 := Lib.hid (KB7.out.below h4)
      clear KB7
      have B10 := Lib.hid (B6x.out.trans (h4.mono B6x.out.size))
      clear B6x
      clear h4
      have x0 := KF8.out.2 0 _ rfl
      have x1 := KF8.out.2 1 _ rfl
      have x2 := KF8.out.2 2 _ rfl
      have x3 := KF8.out.2 3 _ rfl
      have xz := KF8.out.1
      go_wp2_with fail
      refine (C4.out _ (HT.out _ B10.out)).mono ?_
      rintro e w5 ⟨rfl, h5⟩
      clear x0 x1 x2 x3 xz
      have KF11 := Lib.hid (KF8.out.below h5)
      clear KF8
      have KB12 := Lib.hid (KB9.out.below h5)
      clear KB9
      have B13 := Lib.hid (B10.out.trans (h5.mono B10.out.size))
      clear B10
      clear h5
      go_wp2_with fail
      refine (HD.out _ B13.out).mono ?_
      rintro e w6 ⟨⟨u, rfl, hu⟩, h6⟩
      clear KB12
      have KF14 := Lib.hid (KF11.out.below h6)
      clear KF11
      have B15 := Lib.hid (B13.out.trans (h6.mono B13.out.size))
      clear B13
      clear h6
      obtain ⟨g1, g2, g3, g4, read, v, told, d1, d2, hG⟩ := read_answers u (by omega)
      have E1 := Lib.hid d1
      have E2 := Lib.hid d2
      clear d1 d2
      go_wp2_with fail
      refine (E1.out _ (HT.out _ B15.out)).mono ?_
      rintro e w7 ⟨rfl, h7⟩
      have KF16 := Lib.hid (KF14.out.below h7)
      clear KF14
      have B17 := Lib.hid (B15.out.trans (h7.mono B15.out.size))
      clear B15
      clear h7
      have KF16a := Lib.hid (KF16.out.alloc (.cells #[.int .i64 g1, .int .i64 g2, .int .i64 g3, .int .i64 g4] 25 (0, 0)))
      clear KF16
      have KG18 := Lib.hid (Box.new w7 [.int .i64 g1, .int .i64 g2, .int .i64 g3, .int .i64 g4] 25)
      have B17x := Lib.hid (B17.out.alloc B17.out.size (.cells #[.int .i64 g1, .int .i64 g2, .int .i64 g3, .int .i64 g4] 25 (0, 0)))
      clear B17
      go_wp2_with fail
      refine (E2.out _ (HT.out _ B17x.out)).mono ?_
      rintro e w8 ⟨rfl, h8⟩
      clear KG18
      have KF19 := Lib.hid (KF16a.out.below h8)
      clear KF16a
      have B20 := Lib.hid (B17x.out.trans (h8.mono B17x.out.size))
      clear B17x
      clear h8
      clear E1 E2
      have x0 := KF19.out.2 0 _ rfl
      have x1 := KF19.out.2 1 _ rfl
      have x2 := KF19.out.2 2 _ rfl
      have x3 := KF19.out.2 3 _ rfl
      have xz := KF19.out.1
      have nu : (u.toList == u.toList) = true := by simp
      have nv : (u.toList != u.toList) = false := by simp
      rcases hG with rfl | ⟨rfl, rfl, rfl⟩
      all_goals
        go_wp2_with fail
        refine (C5.out _ (HR.out _ B20.out)).mono ?_
        rintro e w9 ⟨ra, rc, rfl, ho, h9⟩
        clear x0 x1 x2 x3 xz nu nv
        have KF21 := Lib.hid (KF19.out.below h9)
        clear KF19
        have B22 := Lib.hid (B20.out.trans (h9.mono B20.out.size))
        clear B20
        clear h9
        have RD := Lib.hid ho.rd
        clear ho
        have HN0 : N ≤ 3 := hL3
        obtain ⟨S, hS⟩ : ∃ S, S = L.sum := ⟨_, rfl⟩
        have HSS : Hid ((L.take N).sum = S) := Lib.hid (by rw [HTk.out, hS])
        clear hS
        go_wp2_with fail
        go_loop [15, 16] (fun v i => ∃ q : Nat, q ≤ N ∧ i = .int .i64 q ∧ v = .int .i64 (L.take q).sum) (fun _ i => N - (intOf i).toNat)
        case atStart => exact ⟨0, Nat.zero_le _, rfl, rfl⟩
        case round =>
          obtain ⟨q, hq, rfl, rfl⟩ := hrel
          by_cases hlt : q < N
          · obtain ⟨rb, ro, rfl, _, hcells⟩ := RD.out.2 (by omega)
            have hcell := hcells q hlt
            have s0 := HL.out.2 q
            have s1 := HL.out.2 (q + 1)
            have s2 := HS.out q (by have := HL.out.1; omega)
            obtain ⟨z, hz⟩ : ∃ z, L.getD q 0 = z := ⟨_, rfl⟩
            obtain ⟨y, hy⟩ : ∃ y, (L.take q).sum = y := ⟨_, rfl⟩
            rw [hz] at hcell s2
            rw [hy] at s0 s2
            have hw : IntKind.i64.wrap (y + z) = y + z := IntWalk.i64_in _ (by omega)
            have hl1 : decide ((q : Int) < (N : Int)) = true := by simp; omega
            clear hcells
            rw [hy]
            go_wp2_with fail
            go_round
            case rel => exact ⟨q + 1, by omega, by go_num, by rw [s2]⟩
            case measure => simp [intOf]; omega
          · have hqN : q = N := by omega
            subst hqN
            rw [HSS.out]
            have hl0 : decide ((q : Int) < (q : Int)) = false := by simp
            have x0 := KF21.out.2 0 _ rfl
            have x1 := KF21.out.2 1 _ rfl
            have x2 := KF21.out.2 2 _ rfl
            have x3 := KF21.out.2 3 _ rfl
            have xz := KF21.out.1
            go_wp2_with fail
            refine (HJ.out _ B22.out).mono ?_
            rintro e w10 ⟨⟨p1, p2, p3, p4, q1, q2, q3, q4, rfl⟩, h10⟩
            clear x0 x1 x2 x3 xz
            clear KF21
            have B23 := Lib.hid (B22.out.trans (h10.mono B22.out.size))
            clear B22
            clear h10
            obtain ⟨j1, j2, j3, j4, joined, d1, d2, hJ⟩ := join_answers p1 p2 p3 p4 q1 q2 q3 q4
            have E1 := Lib.hid d1
            have E2 := Lib.hid d2
            clear d1 d2
            have KP24 := Lib.hid (Box.new w10 [.int .i64 p1, .int .i64 p2, .int .i64 p3, .int .i64 p4] 25)
            have B23x := Lib.hid (B23.out.alloc B23.out.size (.cells #[.int .i64 p1, .int .i64 p2, .int .i64 p3, .int .i64 p4] 25 (0, 0)))
            clear B23
            have KP24a := Lib.hid (KP24.out.alloc (.cells #[.int .i64 q1, .int .i64 q2, .int .i64 q3, .int .i64 q4] 25 (0, 0)))
            clear KP24
            have KQ25n := Box.new (w10.alloc (.cells #[.int .i64 p1, .int .i64 p2, .int .i64 p3, .int .i64 p4] 25 (0, 0))) [.int .i64 q1, .int .i64 q2, .int .i64 q3, .int .i64 q4] 25
            rw [World.size_alloc] at KQ25n
            have KQ25 := Lib.hid KQ25n
            clear KQ25n
            have B23xx := Lib.hid (B23x.out.alloc B23x.out.size (.cells #[.int .i64 q1, .int .i64 q2, .int .i64 q3, .int .i64 q4] 25 (0, 0)))
            clear B23x
            go_wp2_with fail
            refine (E1.out _ (HT.out _ B23xx.out)).mono ?_
            rintro e w11 ⟨rfl, h11⟩
            have KP26 := Lib.hid (KP24a.out.below h11)
            clear KP24a
            have KQ27 := Lib.hid (KQ25.out.below h11)
            clear KQ25
            have B28 := Lib.hid (B23xx.out.trans (h11.mono B23xx.out.size))
            clear B23xx
            clear h11
            have x0 := KP26.out.2 0 _ rfl
            have x1 := KP26.out.2 1 _ rfl
            have x2 := KP26.out.2 2 _ rfl
            have x3 := KP26.out.2 3 _ rfl
            have xz := KP26.out.1
            have y0 := KQ27.out.2 0 _ rfl
            have y1 := KQ27.out.2 1 _ rfl
            have y2 := KQ27.out.2 2 _ rfl
            have y3 := KQ27.out.2 3 _ rfl
            have yz := KQ27.out.1
            have KP26a := Lib.hid (KP26.out.alloc (.cells #[.int .i64 j1, .int .i64 j2, .int .i64 j3, .int .i64 j4] 25 (0, 0)))
            clear KP26
            have KQ27a := Lib.hid (KQ27.out.alloc (.cells #[.int .i64 j1, .int .i64 j2, .int .i64 j3, .int .i64 j4] 25 (0, 0)))
            clear KQ27
            have KJ29 := Lib.hid (Box.new w11 [.int .i64 j1, .int .i64 j2, .int .i64 j3, .int .i64 j4] 25)
            have B28x := Lib.hid (B28.out.alloc B28.out.size (.cells #[.int .i64 j1, .int .i64 j2, .int .i64 j3, .int .i64 j4] 25 (0, 0)))
            clear B28
            go_wp2_with fail
            refine (E2.out _).mono ?_
            rintro e w12 ⟨rfl, h12⟩
            clear x0 x1 x2 x3 xz y0 y1 y2 y3 yz
            have KP30 := Lib.hid (KP26a.out.below h12)
            clear KP26a
            have KQ31 := Lib.hid (KQ27a.out.below h12)
            clear KQ27a
            have KJ32 := Lib.hid (KJ29.out.below h12)
            clear KJ29
            have B33 := Lib.hid (B28x.out.trans (h12.mono B28x.out.size))
            clear B28x
            clear h12
            have x0 := KP30.out.2 0 _ rfl
            have x1 := KP30.out.2 1 _ rfl
            have x2 := KP30.out.2 2 _ rfl
            have x3 := KP30.out.2 3 _ rfl
            have xz := KP30.out.1
            have y0 := KQ31.out.2 0 _ rfl
            have y1 := KQ31.out.2 1 _ rfl
            have y2 := KQ31.out.2 2 _ rfl
            have y3 := KQ31.out.2 3 _ rfl
            have yz := KQ31.out.1
            have z0 := KJ32.out.2 0 _ rfl
            have z1 := KJ32.out.2 1 _ rfl
            have z2 := KJ32.out.2 2 _ rfl
            have z3 := KJ32.out.2 3 _ rfl
            have zz := KJ32.out.1
            have nj : ∀ W, (binOp .neq 25 (.agg #[.int .i64 j1, .int .i64 j2, .int .i64 j3, .int .i64 j4]) (.agg #[.int .i64 j1, .int .i64 j2, .int .i64 j3, .int .i64 j4])).run Tryd.prog W = .ok (.bool false) W := fun W => by have := neGroup_run j1 j2 j3 j4 j1 j2 j3 j4 W; simpa using this
            clear E1 E2
            have HBx := Lib.hid (B33.out.alloc B33.out.size (.cells #[.int .i64 j1, .int .i64 j2, .int .i64 j3, .int .i64 j4] 25 (0, 0)))
            rcases hJ with rfl | ⟨rfl, rfl, hw⟩
            · go_wp2_with fail
              go_ret
              exact ⟨rfl, HBx.out⟩
            · have ej : ((p1 + q1 : Int) == p1 + q1) = true := by simp
              go_wp2_with fail
              go_ret
              exact ⟨rfl, HBx.out⟩
    · have HC := Lib.hid hcc
      clear hcc
      have KF2 := Lib.hid (Box.new w1 [.int .i64 b1, .int .i64 b2, .int .i64 b3, .int .i64 b4] 25)
      have B1x := Lib.hid (B1.out.alloc B1.out.size (.cells #[.int .i64 b1, .int .i64 b2, .int .i64 b3, .int .i64 b4] 25 (0, 0)))
      clear B1
      go_wp2_with fail
      refine (C1.out _ (HT.out _ B1x.out)).mono ?_
      rintro e w2 ⟨rfl, h2⟩
      have KF3 := Lib.hid (KF2.out.below h2)
      clear KF2
      have B4 := Lib.hid (B1x.out.trans (h2.mono B1x.out.size))
      clear B1x
      clear h2
      go_wp2_with fail
      refine (C2.out _ (HT.out _ B4.out)).mono ?_
      rintro e w3 ⟨rfl, h3⟩
      have KF5 := Lib.hid (KF3.out.below h3)
      clear KF3
      have B6 := Lib.hid (B4.out.trans (h3.mono B4.out.size))
      clear B4
      clear h3
      have x0 := KF5.out.2 0 _ rfl
      have x1 := KF5.out.2 1 _ rfl
      have x2 := KF5.out.2 2 _ rfl
      have x3 := KF5.out.2 3 _ rfl
      have xz := KF5.out.1
      have KF5a := Lib.hid (KF5.out.alloc (.cells #[.int .i64 b1, .int .i64 b2, .int .i64 b3, .int .i64 b4] 25 (0, 0)))
      clear KF5
      have KB7 := Lib.hid (Box.new w3 [.int .i64 b1, .int .i64 b2, .int .i64 b3, .int .i64 b4] 25)
      have B6x := Lib.hid (B6.out.alloc B6.out.size (.cells #[.int .i64 b1, .int .i64 b2, .int .i64 b3, .int .i64 b4] 25 (0, 0)))
      clear B6
      have xq := KF5a.out.1
      go_wp2_with fail
      refine (C3.out _).mono ?_
      rintro e w4 ⟨rfl, h4⟩
      clear x0 x1 x2 x3 xz xq
      have KF8 := Lib.hid (KF5a.out.below h4)
      clear KF5a
      have KB9 := Lib.hid (KB7.out.below h4)
      clear KB7
      have B10 := Lib.hid (B6x.out.trans (h4.mono B6x.out.size))
      clear B6x
      clear h4
      have x0 := KF8.out.2 0 _ rfl
      have x1 := KF8.out.2 1 _ rfl
      have x2 := KF8.out.2 2 _ rfl
      have x3 := KF8.out.2 3 _ rfl
      have xz := KF8.out.1
      go_wp2_with fail
      refine (C4.out _ (HT.out _ B10.out)).mono ?_
      rintro e w5 ⟨rfl, h5⟩
      clear x0 x1 x2 x3 xz
      have KF11 := Lib.hid (KF8.out.below h5)
      clear KF8
      have KB12 := Lib.hid (KB9.out.below h5)
      clear KB9
      have B13 := Lib.hid (B10.out.trans (h5.mono B10.out.size))
      clear B10
      clear h5
      have x0 := KF11.out.2 0 _ rfl
      have x1 := KF11.out.2 1 _ rfl
      have x2 := KF11.out.2 2 _ rfl
      have x3 := KF11.out.2 3 _ rfl
      have xz := KF11.out.1
      have y0 := KB12.out.2 0 _ rfl
      have y1 := KB12.out.2 1 _ rfl
      have y2 := KB12.out.2 2 _ rfl
      have y3 := KB12.out.2 3 _ rfl
      have yz := KB12.out.1
      have nb : ∀ W, (binOp .neq 25 (.agg #[.int .i64 b1, .int .i64 b2, .int .i64 b3, .int .i64 b4]) (.agg #[.int .i64 b1, .int .i64 b2, .int .i64 b3, .int .i64 b4])).run Tryd.prog W = .ok (.bool false) W := fun W => by have := neGroup_run b1 b2 b3 b4 b1 b2 b3 b4 W; simpa using this
      go_wp2_with fail
      refine (HD.out _ B13.out).mono ?_
      rintro e w6 ⟨⟨u, rfl, hu⟩, h6⟩
      clear x0 x1 x2 x3 xz y0 y1 y2 y3 yz nb
      clear KB12
      have KF14 := Lib.hid (KF11.out.below h6)
      clear KF11
      have B15 := Lib.hid (B13.out.trans (h6.mono B13.out.size))
      clear B13
      clear h6
      obtain ⟨g1, g2, g3, g4, read, v, told, d1, d2, hG⟩ := read_answers u (by omega)
      have E1 := Lib.hid d1
      have E2 := Lib.hid d2
      clear d1 d2
      go_wp2_with fail
      refine (E1.out _ (HT.out _ B15.out)).mono ?_
      rintro e w7 ⟨rfl, h7⟩
      have KF16 := Lib.hid (KF14.out.below h7)
      clear KF14
      have B17 := Lib.hid (B15.out.trans (h7.mono B15.out.size))
      clear B15
      clear h7
      have KF16a := Lib.hid (KF16.out.alloc (.cells #[.int .i64 g1, .int .i64 g2, .int .i64 g3, .int .i64 g4] 25 (0, 0)))
      clear KF16
      have KG18 := Lib.hid (Box.new w7 [.int .i64 g1, .int .i64 g2, .int .i64 g3, .int .i64 g4] 25)
      have B17x := Lib.hid (B17.out.alloc B17.out.size (.cells #[.int .i64 g1, .int .i64 g2, .int .i64 g3, .int .i64 g4] 25 (0, 0)))
      clear B17
      go_wp2_with fail
      refine (E2.out _ (HT.out _ B17x.out)).mono ?_
      rintro e w8 ⟨rfl, h8⟩
      clear KG18
      have KF19 := Lib.hid (KF16a.out.below h8)
      clear KF16a
      have B20 := Lib.hid (B17x.out.trans (h8.mono B17x.out.size))
      clear B17x
      clear h8
      clear E1 E2
      have x0 := KF19.out.2 0 _ rfl
      have x1 := KF19.out.2 1 _ rfl
      have x2 := KF19.out.2 2 _ rfl
      have x3 := KF19.out.2 3 _ rfl
      have xz := KF19.out.1
      have nu : (u.toList == u.toList) = true := by simp
      have nv : (u.toList != u.toList) = false := by simp
      rcases hG with rfl | ⟨rfl, rfl, rfl⟩
      all_goals
        go_wp2_with fail
        refine (C5.out _ (HR.out _ B20.out)).mono ?_
        rintro e w9 ⟨ra, rc, rfl, ho, h9⟩
        clear x0 x1 x2 x3 xz nu nv
        have KF21 := Lib.hid (KF19.out.below h9)
        clear KF19
        have B22 := Lib.hid (B20.out.trans (h9.mono B20.out.size))
        clear B20
        clear h9
        have RD := Lib.hid ho.rd
        clear ho
        have HN0 : N ≤ 3 := hL3
        obtain ⟨S, hS⟩ : ∃ S, S = L.sum := ⟨_, rfl⟩
        have HSS : Hid ((L.take N).sum = S) := Lib.hid (by rw [HTk.out, hS])
        have hSc : S = b1 := by rw [hS]; exact HC.out
        subst hSc
        clear hS
        go_wp2_with fail
        go_loop [15, 16] (fun v i => ∃ q : Nat, q ≤ N ∧ i = .int .i64 q ∧ v = .int .i64 (L.take q).sum) (fun _ i => N - (intOf i).toNat)
        case atStart => exact ⟨0, Nat.zero_le _, rfl, rfl⟩
        case round =>
          obtain ⟨q, hq, rfl, rfl⟩ := hrel
          by_cases hlt : q < N
          · obtain ⟨rb, ro, rfl, _, hcells⟩ := RD.out.2 (by omega)
            have hcell := hcells q hlt
            have s0 := HL.out.2 q
            have s1 := HL.out.2 (q + 1)
            have s2 := HS.out q (by have := HL.out.1; omega)
            obtain ⟨z, hz⟩ : ∃ z, L.getD q 0 = z := ⟨_, rfl⟩
            obtain ⟨y, hy⟩ : ∃ y, (L.take q).sum = y := ⟨_, rfl⟩
            rw [hz] at hcell s2
            rw [hy] at s0 s2
            have hw : IntKind.i64.wrap (y + z) = y + z := IntWalk.i64_in _ (by omega)
            have hl1 : decide ((q : Int) < (N : Int)) = true := by simp; omega
            clear hcells
            rw [hy]
            go_wp2_with fail
            go_round
            case rel => exact ⟨q + 1, by omega, by go_num, by rw [s2]⟩
            case measure => simp [intOf]; omega
          · have hqN : q = N := by omega
            subst hqN
            rw [HSS.out]
            have hl0 : decide ((q : Int) < (q : Int)) = false := by simp
            have x0 := KF21.out.2 0 _ rfl
            have x1 := KF21.out.2 1 _ rfl
            have x2 := KF21.out.2 2 _ rfl
            have x3 := KF21.out.2 3 _ rfl
            have xz := KF21.out.1
            have ns : (S != S) = false := by simp
            go_wp2_with fail
            refine (HJ.out _ B22.out).mono ?_
            rintro e w10 ⟨⟨p1, p2, p3, p4, q1, q2, q3, q4, rfl⟩, h10⟩
            clear x0 x1 x2 x3 xz ns
            clear KF21
            have B23 := Lib.hid (B22.out.trans (h10.mono B22.out.size))
            clear B22
            clear h10
            obtain ⟨j1, j2, j3, j4, joined, d1, d2, hJ⟩ := join_answers p1 p2 p3 p4 q1 q2 q3 q4
            have E1 := Lib.hid d1
            have E2 := Lib.hid d2
            clear d1 d2
            have KP24 := Lib.hid (Box.new w10 [.int .i64 p1, .int .i64 p2, .int .i64 p3, .int .i64 p4] 25)
            have B23x := Lib.hid (B23.out.alloc B23.out.size (.cells #[.int .i64 p1, .int .i64 p2, .int .i64 p3, .int .i64 p4] 25 (0, 0)))
            clear B23
            have KP24a := Lib.hid (KP24.out.alloc (.cells #[.int .i64 q1, .int .i64 q2, .int .i64 q3, .int .i64 q4] 25 (0, 0)))
            clear KP24
            have KQ25n := Box.new (w10.alloc (.cells #[.int .i64 p1, .int .i64 p2, .int .i64 p3, .int .i64 p4] 25 (0, 0))) [.int .i64 q1, .int .i64 q2, .int .i64 q3, .int .i64 q4] 25
            rw [World.size_alloc] at KQ25n
            have KQ25 := Lib.hid KQ25n
            clear KQ25n
            have B23xx := Lib.hid (B23x.out.alloc B23x.out.size (.cells #[.int .i64 q1, .int .i64 q2, .int .i64 q3, .int .i64 q4] 25 (0, 0)))
            clear B23x
            go_wp2_with fail
            refine (E1.out _ (HT.out _ B23xx.out)).mono ?_
            rintro e w11 ⟨rfl, h11⟩
            have KP26 := Lib.hid (KP24a.out.below h11)
            clear KP24a
            have KQ27 := Lib.hid (KQ25.out.below h11)
            clear KQ25
            have B28 := Lib.hid (B23xx.out.trans (h11.mono B23xx.out.size))
            clear B23xx
            clear h11
            have x0 := KP26.out.2 0 _ rfl
            have x1 := KP26.out.2 1 _ rfl
            have x2 := KP26.out.2 2 _ rfl
            have x3 := KP26.out.2 3 _ rfl
            have xz := KP26.out.1
            have y0 := KQ27.out.2 0 _ rfl
            have y1 := KQ27.out.2 1 _ rfl
            have y2 := KQ27.out.2 2 _ rfl
            have y3 := KQ27.out.2 3 _ rfl
            have yz := KQ27.out.1
            have KP26a := Lib.hid (KP26.out.alloc (.cells #[.int .i64 j1, .int .i64 j2, .int .i64 j3, .int .i64 j4] 25 (0, 0)))
            clear KP26
            have KQ27a := Lib.hid (KQ27.out.alloc (.cells #[.int .i64 j1, .int .i64 j2, .int .i64 j3, .int .i64 j4] 25 (0, 0)))
            clear KQ27
            have KJ29 := Lib.hid (Box.new w11 [.int .i64 j1, .int .i64 j2, .int .i64 j3, .int .i64 j4] 25)
            have B28x := Lib.hid (B28.out.alloc B28.out.size (.cells #[.int .i64 j1, .int .i64 j2, .int .i64 j3, .int .i64 j4] 25 (0, 0)))
            clear B28
            go_wp2_with fail
            refine (E2.out _).mono ?_
            rintro e w12 ⟨rfl, h12⟩
            clear x0 x1 x2 x3 xz y0 y1 y2 y3 yz
            have KP30 := Lib.hid (KP26a.out.below h12)
            clear KP26a
            have KQ31 := Lib.hid (KQ27a.out.below h12)
            clear KQ27a
            have KJ32 := Lib.hid (KJ29.out.below h12)
            clear KJ29
            have B33 := Lib.hid (B28x.out.trans (h12.mono B28x.out.size))
            clear B28x
            clear h12
            have x0 := KP30.out.2 0 _ rfl
            have x1 := KP30.out.2 1 _ rfl
            have x2 := KP30.out.2 2 _ rfl
            have x3 := KP30.out.2 3 _ rfl
            have xz := KP30.out.1
            have y0 := KQ31.out.2 0 _ rfl
            have y1 := KQ31.out.2 1 _ rfl
            have y2 := KQ31.out.2 2 _ rfl
            have y3 := KQ31.out.2 3 _ rfl
            have yz := KQ31.out.1
            have z0 := KJ32.out.2 0 _ rfl
            have z1 := KJ32.out.2 1 _ rfl
            have z2 := KJ32.out.2 2 _ rfl
            have z3 := KJ32.out.2 3 _ rfl
            have zz := KJ32.out.1
            have nj : ∀ W, (binOp .neq 25 (.agg #[.int .i64 j1, .int .i64 j2, .int .i64 j3, .int .i64 j4]) (.agg #[.int .i64 j1, .int .i64 j2, .int .i64 j3, .int .i64 j4])).run Tryd.prog W = .ok (.bool false) W := fun W => by have := neGroup_run j1 j2 j3 j4 j1 j2 j3 j4 W; simpa using this
            clear E1 E2
            have HBx := Lib.hid (B33.out.alloc B33.out.size (.cells #[.int .i64 j1, .int .i64 j2, .int .i64 j3, .int .i64 j4] 25 (0, 0)))
            rcases hJ with rfl | ⟨rfl, rfl, hw⟩
            · go_wp2_with fail
              go_ret
              exact ⟨rfl, HBx.out⟩
            · have ej : ((p1 + q1 : Int) == p1 + q1) = true := by simp
              go_wp2_with fail
              go_ret
              exact ⟨rfl, HBx.out⟩

/-! ### THE ROW's STEP: WRITTEN OUT: LEAVE IT -/
set_option maxRecDepth 100000 in
theorem lifted (os : Os) (started : os.Started) (H : Type) (enc : TypeId × Value → H) :
    ReturnsInHanded {} Tryd.checked os 3 .any (fun w args => (Rows.fnGroupsSpec.pre enc Tryd.prog Tryd.f3 Rows.fnGroupsRow.domain false w args ∧ laidMetH Tryd.prog laidL w) ∧ sizedMet enc Tryd.prog Tryd.f3 (OpenSpec.ofChange Rows.fnGroupsSpec) false w args)
      (Rows.fnGroupsSpec.post enc Tryd.prog Tryd.f3 false true false false) := by
  refine returnsInHanded_of_change_and (C := Tryd.checked) (X := fun w _ => laidMetH Tryd.prog laidL w) (fun _ _ _ hh h => h.of_heap hh) own started (by kernel_rfl) Tryd.func3
    (ChangeSpec.witness_shaped (enc := enc) (C := Tryd.checked) (os := os) (X := fun w _ => laidMetH Tryd.prog laidL w) false (World.doorLaid Tryd.prog 400 os) #[.slice none 0 0] 8 rfl (World.shaped_of_RefB (by kernel_rfl) (by kernel_rfl)) (by kernel_rfl) (by kernel_rfl) (by kernel_rfl) (door_met os _)) ?_
  intro W base args ds gs before hval0 hW _ hsz0 hL _
  have hval : ∀ (j : Nat) t v, Tryd.f3.params[j]? = some t → args[j]? = some v → Value.okWide Tryd.prog W .any base t v := hval0
  have hW' := hW
  obtain ⟨p, q, hA0, hV, rfl, hfz, hnd⟩ := hW
  have hA : DataW.TrodAll enc Tryd.prog W 0 (fun _ => true) true Tryd.f3.params.toList args.toList ds p := hA0
  rw [Tryd.params3] at hA hval
  obtain ⟨v0, vs0, d0, ds0, p0, q0, hargs, rfl, rfl, h0, r0⟩ := trodAll_cons hA
  obtain ⟨rfl, rfl, rfl⟩ := trodAll_nil r0
  obtain rfl : args = #[v0] := by cases args; simp_all
  obtain ⟨gv0, gv1, gv2, gv3, gv4, hgs⟩ := readings hV
  subst hgs
  obtain ⟨a0, len0, cap0, rfl⟩ := okWide_slice Tryd.underlying22 (hval 0 22 v0 rfl rfl)
  have k0 := h0
  have lt0 : ∀ x ∈ p0, x.block < W.heap.size := by obtain ⟨m, hm⟩ := k0; exact DataW.trod_lt m _ _ _ hm
  obtain ⟨z0, w0⟩ : ∃ zs, IsRow .u8 W a0 len0 cap0 zs := by
    obtain ⟨fuel, hf⟩ := h0
    rcases open_ints Tryd.underlying22 Tryd.underlying5 (by kernel_rfl) hf with ⟨hcs, _⟩ | ⟨x, l, c, zs, hcs, _, hl, hm, hz, _, hcell, hwz⟩
    · simp [Value.cells] at hcs
      obtain ⟨rfl, rfl, rfl⟩ := hcs
      exact ⟨[], .inl ⟨rfl, rfl, rfl, rfl⟩⟩
    · simp [Value.cells] at hcs
      obtain ⟨rfl, rfl, rfl⟩ := hcs
      exact ⟨zs, .inr ⟨_, rfl, hl, hm, by simpa using hz, hcell, hwz⟩⟩
  clear hA0 hval0
  refine (walk a0 len0 cap0 z0 W w0 hL).mono fun e W' ⟨he, bel⟩ => ?_
  subst he
  exact ⟨_, rfl, _, _, _, [], _, q, hW', trodAll_mk1 (shut_bool Tryd.underlying4 _), (trodAll_cons_mk (Below.trod laidOut (by kernel_rfl) (of_decide_eq_true (by kernel_rfl)) k0 bel lt0) trodAll_mk0), Below.trodVars (by kernel_rfl) bel (by kernel_rfl) hV, bel.frame _, fun h => by cases h⟩

theorem over : Rows.fnGroupsRow.holds Tryd.pinned (OpenSpec.ofChange Rows.fnGroupsSpec) :=
  OpenClaim.holds_of_wide 3 Tryd.f3 rfl rfl rfl rfl rfl rfl rfl ⟨rfl, rfl, rfl, rfl, rfl⟩ rfl rfl rfl rfl rfl (by kernel_rfl) Tryd.func3 (by kernel_rfl)
    (of_decide_eq_true (by kernel_rfl)) (by unfold Func.isWrapper; first | (rw [if_pos (by decide +kernel)]; kernel_rfl) | (rw [if_neg (by decide +kernel)]; exact ⟨rfl, rfl⟩))
    (fun os started H enc _ => lifted os started H enc)

/-- The row's statement. -/
theorem proved : Rows.FnGroupsSaid :=
  over

/-- THE TIED CARD: the listed variables are those that the program's own text lays. -/
theorem card : Rows.FnGroupsCardSaid :=
  Claim7.holds_tied_plain_at .later [] [.data, .widerDeep, .widerDeep, .widerDeep, .widerDeep] true (true, "5345184ecfd63a51511ccb799623285e2c420bb998cecc5c2c6c155aed650024") false
    proved (fun _ h => by cases h) (by kernel_rfl) (fun _ h => by cases h) fnGroups_row_tie rfl ⟨rfl, rfl⟩ (by kernel_rfl) rfl
    (fun f fn hf hfn => by
      obtain rfl : f = 3 := Option.some.inj ((show Tryd.prog.funcNamed "loop.example/g00884/laws.FnGroups" = some 3 by kernel_rfl).symm.trans hf) |>.symm
      obtain rfl : fn = Tryd.f3 := (Option.some.inj (Tryd.func3.symm.trans hfn)).symm
      exact ⟨by kernel_rfl, fun j t ht => by
        rw [Tryd.params3] at ht
        have hm : t ∈ [22] := by
          have := Array.mem_of_getElem? ht
          simpa using this
        have hall : ([22].all fun u => !Tryd.prog.wantsStandIn u) = true := by kernel_rfl
        exact (show Tryd.prog.wantsStandIn t = false by simpa using List.all_eq_true.1 hall t hm)⟩)
    (by kernel_rfl)
#print axioms card
end Go.Proofs.YtklfkdmmclomoaaDoor.fnGroups
