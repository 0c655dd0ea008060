/- FnOrder: at every slice of bytes the law returns true: arms are sorted by their texts, and ordinaries are recovered from theirs. The card ties the tables of words to the program's text. No condition. -/
import Derived.Test.YtgoelkgdjnhklaaDoorRows
import Derived.Test.YtgoelkgdjnhklaaDoorCards
import Derived.Test.YtgoelkgdjnhklaaDoorTie
import Derived.WalkKit
import Derived.ProofKit
import Derived.OpenShut
import Derived.ShutString
import Derived.Test.YtgoelkgdjnhklaaDoorOrderB
import Derived.Test.YtgoelkgdjnhklaaDoorOrderS
import Derived.Test.YtgoelkgdjnhklaaDoorKS
import Derived.Deep.DeepCutAuto
import Derived.Deep.RegionHeld3
import Derived.LaidMore
import Derived.Stop.Joined
import Derived.SevenTiedAt
import Derived.OpenVars
import Derived.ChangeVars
import Derived.ChangeOld
import Derived.Below
namespace Go.Proofs.YtgoelkgdjnhklaaDoor.fnOrder
open Go.ChangeShapes Go.WideShapes Go.ChangeAt Go.RowKit
open Go.ChangeMaps (open_string shut_string)
set_option linter.unusedVariables false

def laidL : List (String × DataW Unit) := [("loop.example/g00884/impl.tinctureWords", Rows.laid_loop_example_g00884_impl_tinctureWords), ("loop.example/g00884/impl.divisionWords", Rows.laid_loop_example_g00884_impl_divisionWords), ("loop.example/g00884/impl.lineWords", Rows.laid_loop_example_g00884_impl_lineWords), ("loop.example/g00884/impl.countWords", Rows.laid_loop_example_g00884_impl_countWords), ("loop.example/g00884/impl.kindWords", Rows.laid_loop_example_g00884_impl_kindWords), ("loop.example/g00884/impl.attitudeWords", Rows.laid_loop_example_g00884_impl_attitudeWords), ("loop.example/g00884/impl.ordinaryWords", Rows.laid_loop_example_g00884_impl_ordinaryWords)]

/-- The door's own heap meets the condition. -/
theorem door_met (os : Os) (args : Array Value) : laidMetH Tryd.prog laidL ((World.doorLaid Tryd.prog 400 os).forCall (fun _ _ => 0) ⟨#[], args, []⟩).memory :=
  laidMetH_of_parts3 (fuel := 8) (laidMet_of_run' 8 (by kernel_rfl) (by kernel_rfl)) (by kernel_rfl) (by kernel_rfl)

theorem readings {H : Type} {enc : TypeId × Value → H} {P : Program} {w : World} {spare : Nat → Bool} {n0 n1 n2 n3 n4 n5 n6 : String} {gs : List (DataW H)} {ps : List MemPlace} (h : DataW.TrodVars enc P w spare [n0, n1, n2, n3, n4, n5, n6] gs ps) : ∃ gv0 gv1 gv2 gv3 gv4 gv5 gv6 : DataW H, gs = [gv0, gv1, gv2, gv3, gv4, gv5, gv6] := by
  cases gs with
  | nil => simp [DataW.TrodVars] at h
  | cons g0 gs =>
  obtain ⟨_, _, _, _, _, _, _, _, _, _, h, _⟩ := h
  cases gs with
  | nil => simp [DataW.TrodVars] at h
  | cons g1 gs =>
  obtain ⟨_, _, _, _, _, _, _, _, _, _, h, _⟩ := h
  cases gs with
  | nil => simp [DataW.TrodVars] at h
  | cons g2 gs =>
  obtain ⟨_, _, _, _, _, _, _, _, _, _, h, _⟩ := h
  cases gs with
  | nil => simp [DataW.TrodVars] at h
  | cons g3 gs =>
  obtain ⟨_, _, _, _, _, _, _, _, _, _, h, _⟩ := h
  cases gs with
  | nil => simp [DataW.TrodVars] at h
  | cons g4 gs =>
  obtain ⟨_, _, _, _, _, _, _, _, _, _, h, _⟩ := h
  cases gs with
  | nil => simp [DataW.TrodVars] at h
  | cons g5 gs =>
  obtain ⟨_, _, _, _, _, _, _, _, _, _, h, _⟩ := h
  cases gs with
  | nil => simp [DataW.TrodVars] at h
  | cons g6 gs =>
  obtain ⟨_, _, _, _, _, _, _, _, _, _, h, _⟩ := h
  obtain ⟨rfl, _⟩ := trodVars_none h
  exact ⟨g0, g1, g2, g3, g4, g5, g6, rfl⟩

theorem own : ownKnob Tryd.prog.godebug = none := by kernel_rfl
theorem laidOut : laidOutB Tryd.prog = true := by kernel_rfl

/-- WHAT THE WALK IS TOLD OF A SLICE OF INTEGERS THAT CAME IN: it is nil; or it leads to a row of 'cap' cells, the numbers 'zs' (the first 'len' are its elements, the rest its spare room), each fitting its kind. -/
def IsRow (k : IntKind) (w : World) (a : Option Addr) (len cap : Nat) (zs : List Int) : Prop :=
  (a = none ∧ len = 0 ∧ cap = 0 ∧ zs = []) ∨
  ∃ x, a = some x ∧ len ≤ cap ∧ cap ≤ maxLen ∧ zs.length = cap ∧ (∀ i, i < zs.length → w.cell? (x.add i) = some (.int k (zs.getD i 0))) ∧ ∀ n ∈ zs, (Lit.int k n).wf = true

/-! ### STEP 1: THE WALK: the Go text returns true, AND WRITES NOTHING THAT WAS THERE: 'Below w.heap.size w w'' (Derived/Below.lean: '.refl', '.alloc', '.drew', '.setCell' at a new block, '.trans'). Open each 'IsRow' by 'rcases' AHEAD of 'go_enter'; part every test ahead of the walk. -/
set_option maxHeartbeats 16000000 in
theorem walk (a0 : Option Addr) (len0 cap0 : Nat) (z0 : List Int) (w : World) (w0 : IsRow .u8 w a0 len0 cap0 z0) (hL : laidMetH Tryd.prog laidL w) :
    Calls Tryd.prog 3 #[.slice a0 len0 cap0] w fun e w' => e = .returned (.bool true) ∧ Below w.heap.size w w' := by
  have hT : STabs w := stabsH hL
  have hR : RdB w w.heap.size a0 len0 := by
    rcases w0 with ⟨rfl, rfl, rfl, rfl⟩ | ⟨⟨b, o, spot⟩, rfl, hl, hm, hz, hc, hwf⟩
    · intro h; omega
    · refine rdb_of (fun k hk => hc k (by omega)) (fun k hk => ?_)
      have e2 : z0.getD k 0 = z0[k]'(by omega) := by simp [List.getD, show k < z0.length by omega]
      have h2 := hwf (z0.getD k 0) (by rw [e2]; exact List.getElem_mem _)
      exact (by simpa [Lit.wf] using h2)
  clear w0 hL
  have hB := vBig_any a0 len0 cap0 w
  by_cases hbig : (65536 : Int) < (len0 : Int)
  · have e1 : decide ((65536 : Int) < (len0 : Int)) = true := by simp; omega
    simp only [e1] at hB
    clear hR hT
    go_enter Tryd.func3, Tryd.ntmps3
    go_wp2_with (go_at_call 14; refine hB.mono ?_; rintro e w' ⟨rfl, rfl⟩)
    go_ret
    exact ⟨rfl, Below.refl _ _⟩
  · have e1 : decide ((65536 : Int) < (len0 : Int)) = false := by simp; omega
    simp only [e1] at hB
    have hn : len0 ≤ 65536 := by omega
    have cd := drawSort_any a0 len0 cap0 w hR hn
    have HT := Lib.hid (fun W (h : Below w.heap.size w W) => hT.below h)
    have HD := Lib.hid (fun W (h : Below w.heap.size w W) => drawOrd_any a0 len0 cap0 W (hR.on h) hn)
    clear hR hT
    go_enter Tryd.func3, Tryd.ntmps3
    go_wp2_with (go_at_call 14; refine hB.mono ?_; rintro e w' ⟨rfl, rfl⟩)
    refine cd.mono ?_
    rintro e w1 ⟨X, la, capX, rfl, hX7, hRA, hb1⟩
    clear hB cd
    obtain ⟨lenX, hlX⟩ : ∃ m, X.length = m := ⟨_, rfl⟩
    rw [hlX] at hRA ⊢
    have CS := Lib.hid (fun W (h : RdA W la lenX X) => sort_spec X lenX la capX W h)
    have CI := Lib.hid (fun W (h : RdA W la lenX X) (hT : STabs W) => sort_impl X lenX la capX W h hT)
    have STEP := Lib.hid (fun (i : Nat) (h0 : 1 ≤ i) (hi : i < (sortAns X).length) => order_step (X := X) h0 hi)
    have hN20 := sortAns_len X
    generalize sortOk X = ok at *
    generalize sortAns X = Y at *
    obtain ⟨N, hN⟩ : ∃ N, Y.length = N := ⟨_, rfl⟩
    unfold Ans at CS CI
    rw [hN] at CS CI STEP hN20
    have HN := Lib.hid (And.intro hN hlX)
    have RA1 := Lib.hid hRA
    have B1 := Lib.hid hb1
    clear hN hRA hb1
    cases ok
    all_goals
      go_wp2_with fail
      refine (CI.out _ RA1.out (HT.out _ B1.out)).mono ?_
      rintro e w2 ⟨p0, k0, rfl, o2, h2⟩
      have P2 := Lib.hid o2.rd
      have RA2 := Lib.hid (RA1.out.below h2)
      have B2 := Lib.hid (B1.out.trans (h2.mono B1.out.size))
      clear o2 h2 RA1 B1
      go_wp2_with fail
      refine (CS.out _ RA2.out).mono ?_
      rintro e w3 ⟨p1, k1, rfl, o3, h3⟩
      have Q3 := Lib.hid o3.rd
      have P3 := Lib.hid (P2.out.below h3)
      have RA3 := Lib.hid (RA2.out.below h3)
      have B3 := Lib.hid (B2.out.trans (h3.mono B2.out.size))
      clear o3 h3 RA2 B2 P2
      go_wp2_with fail
      refine (vInts_true Y N _ _ _ _ _ P3.out Q3.out (by omega)).mono ?_
      rintro e w4 ⟨rfl, m4, rfl⟩
      have O4 := Lib.hid (show OS w p0 N Y la lenX X (w3.drewN m4) from ⟨P3.out.drewN m4, RA3.out.drewN m4, below_drewN' B3.out m4⟩)
      clear P3 Q3 RA3 B3 CI CS
      generalize w3.drewN m4 = W4 at *
      go_wp2_with fail
      go_loopw [8] (fun x wr => ∃ k : Nat, 1 ≤ k ∧ (k ≤ N ∨ k = 1) ∧ x = .int .i64 (k : Int) ∧ Hid (OS w p0 N Y la lenX X wr)) (fun x _ => 30 - (intOf x).toNat)
      case atStart => exact ⟨1, by omega, by omega, rfl, O4⟩
      case round =>
        obtain ⟨k, hk1, hkN, rfl, HO⟩ := hrel
        clear O4
        by_cases hlt : k < N
        · obtain ⟨q1, q0, A, B, s1, s0, a1, a0_, l1, l0, st⟩ := STEP.out k hk1 hlt
          rw [HN.out.2] at l1 l0
          obtain ⟨gq, oq, rfl, _, hcq⟩ := HO.out.1.2 (by omega)
          obtain ⟨lb, lo, rfl, hlb, hca⟩ := HO.out.2.1.2 (by omega)
          have ST := Lib.hid st
          have hS0 := OSt.below (show OSt w (some ⟨gq, oq, none⟩) N Y (some ⟨lb, lo, none⟩) lenX X lb (lo + q1 * 15) (lo + q0 * 15) [.int .i64 A.d, .int .i64 A.l, .int .i64 A.f, .int .i64 A.s, .int .i64 A.o, .int .i64 A.n, .int .i64 A.x, .int .i64 A.c, .int .i64 A.k, .int .i64 A.a, .int .i64 A.t, .int .i64 A.c', .int .i64 A.k', .int .i64 A.a', .int .i64 A.t'] [.int .i64 B.d, .int .i64 B.l, .int .i64 B.f, .int .i64 B.s, .int .i64 B.o, .int .i64 B.n, .int .i64 B.x, .int .i64 B.c, .int .i64 B.k, .int .i64 B.a, .int .i64 B.t, .int .i64 B.c', .int .i64 B.k', .int .i64 B.a', .int .i64 B.t'] gq (oq + k) (oq + (k - 1)) (.int .i64 (q1 : Int)) (.int .i64 (q0 : Int)) wr from ⟨row_range (hca q1 A a1), row_range (hca q0 B a0_), rdI_at hcq hlt s1, rdI_at hcq (by omega) s0, HO.out⟩) (Below.refl _ wr).drew
          have b0 : (0 : Int) ≤ (k : Int) := by omega
          have b1 : (k : Int) < (N : Int) := by omega
          have b2 : (0 : Int) ≤ (k : Int) - 1 := by omega
          have b3 : (k : Int) - 1 < (N : Int) := by omega
          have b4 : ((k : Int) - 1).toNat = k - 1 := by omega
          have b9 : IntKind.i64.wrap ((k : Int) - 1) = (k : Int) - 1 := IntWalk.i64_in _ (by omega)
          have b5 : (0 : Int) ≤ (q1 : Int) := by omega
          have b6 : (q1 : Int) < (lenX : Int) := by omega
          have b7 : (0 : Int) ≤ (q0 : Int) := by omega
          have b8 : (q0 : Int) < (lenX : Int) := by omega
          clear st hcq hca s1 s0 a1 a0_ HO
          go_upto_region 11 with fail
          refine wp_region_noPanic ?_
          refine wp_region_held_drew (S := OSt w (some ⟨gq, oq, none⟩) N Y (some ⟨lb, lo, none⟩) lenX X lb (lo + q1 * 15) (lo + q0 * 15) [.int .i64 A.d, .int .i64 A.l, .int .i64 A.f, .int .i64 A.s, .int .i64 A.o, .int .i64 A.n, .int .i64 A.x, .int .i64 A.c, .int .i64 A.k, .int .i64 A.a, .int .i64 A.t, .int .i64 A.c', .int .i64 A.k', .int .i64 A.a', .int .i64 A.t'] [.int .i64 B.d, .int .i64 B.l, .int .i64 B.f, .int .i64 B.s, .int .i64 B.o, .int .i64 B.n, .int .i64 B.x, .int .i64 B.c, .int .i64 B.k, .int .i64 B.a, .int .i64 B.t, .int .i64 B.c', .int .i64 B.k', .int .i64 B.a', .int .i64 B.t'] gq (oq + k) (oq + (k - 1)) (.int .i64 (q1 : Int)) (.int .i64 (q0 : Int))) (by kernel_rfl) hS0 (fun hHeld => ?_)
          clear hS0
          generalize wr.drew = Wd at *
          refine wpAnyH_take (i := 0) (oi := { dst := some 52, op := _, type := _, pos := _, after := _, guard := _ }) (v := .slice (some ⟨lb, lo, none⟩) lenX capX) rfl (by kernel_rfl) (by kernel_rfl) (by kernel_rfl) (fun _ _ _ h => h) (Or.inl ⟨by rfl, ?_⟩) hHeld ?_
          · (intro w_ hSw; clear hSw; go_simp; first | done | with_reducible rfl | (rw [b9]; done) | (intro h_; exact absurd h_ (by omega)) | rfl)
          set_option linter.unusedSimpArgs false in try simp only [Act.put, List.setIfInBounds_toArray, List.set_cons_zero, List.set_cons_succ]
          refine wpAnyH_take (i := 1) (oi := { dst := some 53, op := _, type := _, pos := _, after := _, guard := _ }) (v := .slice (some ⟨gq, oq, none⟩) N k0) rfl (by kernel_rfl) (by kernel_rfl) (by kernel_rfl) (fun _ _ _ h => h) (Or.inl ⟨by rfl, ?_⟩) hHeld ?_
          · (intro w_ hSw; clear hSw; go_simp; first | done | with_reducible rfl | (rw [b9]; done) | (intro h_; exact absurd h_ (by omega)) | rfl)
          set_option linter.unusedSimpArgs false in try simp only [Act.put, List.setIfInBounds_toArray, List.set_cons_zero, List.set_cons_succ]
          refine wpAnyH_take (i := 2) (oi := { dst := some 54, op := _, type := _, pos := _, after := _, guard := _ }) (v := .int .i64 (k : Int)) rfl (by kernel_rfl) (by kernel_rfl) (by kernel_rfl) (fun _ _ _ h => h) (Or.inl ⟨by rfl, ?_⟩) hHeld ?_
          · (intro w_ hSw; clear hSw; go_simp; first | done | with_reducible rfl | (rw [b9]; done) | (intro h_; exact absurd h_ (by omega)) | rfl)
          set_option linter.unusedSimpArgs false in try simp only [Act.put, List.setIfInBounds_toArray, List.set_cons_zero, List.set_cons_succ]
          refine wpAnyH_take (i := 3) (oi := { dst := some 55, op := _, type := _, pos := _, after := _, guard := _ }) (v := .pointer (some ⟨gq, oq + k, none⟩)) rfl (by kernel_rfl) (by kernel_rfl) (by kernel_rfl) (fun _ _ _ h => h) (Or.inl ⟨by rfl, ?_⟩) hHeld ?_
          · (intro w_ hSw; clear hSw; go_simp; first | done | with_reducible rfl | (rw [b9]; done) | (intro h_; exact absurd h_ (by omega)) | rfl)
          set_option linter.unusedSimpArgs false in try simp only [Act.put, List.setIfInBounds_toArray, List.set_cons_zero, List.set_cons_succ]
          refine wpAnyH_take (i := 4) (oi := { dst := some 56, op := _, type := _, pos := _, after := _, guard := _ }) (v := .int .i64 (q1 : Int)) rfl (by kernel_rfl) (by kernel_rfl) (by kernel_rfl) (fun _ _ _ h => h) (Or.inl ⟨by rfl, ?_⟩) hHeld ?_
          · (intro w_ hSw; have c_ := hSw.2.2.1; clear hSw; go_simp; first | done | with_reducible rfl | (rw [b9]; done) | (intro h_; exact absurd h_ (by omega)) | rfl)
          set_option linter.unusedSimpArgs false in try simp only [Act.put, List.setIfInBounds_toArray, List.set_cons_zero, List.set_cons_succ]
          refine wpAnyH_take (i := 5) (oi := { dst := some 57, op := _, type := _, pos := _, after := _, guard := _ }) (v := .pointer (some ⟨lb, lo + q1 * 15, none⟩)) rfl (by kernel_rfl) (by kernel_rfl) (by kernel_rfl) (fun _ _ _ h => h) (Or.inl ⟨by rfl, ?_⟩) hHeld ?_
          · (intro w_ hSw; clear hSw; go_simp; first | done | with_reducible rfl | (rw [b9]; done) | (intro h_; exact absurd h_ (by omega)) | rfl)
          set_option linter.unusedSimpArgs false in try simp only [Act.put, List.setIfInBounds_toArray, List.set_cons_zero, List.set_cons_succ]
          refine wpAnyH_take (i := 6) rfl (by kernel_rfl) (by kernel_rfl) (by kernel_rfl) (fun _ _ _ h => h) (yieldsIf_load_mid (by rfl) 37 _ rfl lb (lo + q1 * 15) rfl [.int .i64 A.d, .int .i64 A.l, .int .i64 A.f, .int .i64 A.s, .int .i64 A.o, .int .i64 A.n, .int .i64 A.x, .int .i64 A.c, .int .i64 A.k, .int .i64 A.a, .int .i64 A.t, .int .i64 A.c', .int .i64 A.k', .int .i64 A.a', .int .i64 A.t'] _ (fun w h => h.1) Tryd.underlying37 rfl (by kernel_rfl)) hHeld ?_
          set_option linter.unusedSimpArgs false in try simp only [Act.put, List.setIfInBounds_toArray, List.set_cons_zero, List.set_cons_succ]
          refine wpAnyH_take (i := 7) (oi := { dst := some 59, op := _, type := _, pos := _, after := _, guard := _ }) (v := .slice (some ⟨lb, lo, none⟩) lenX capX) rfl (by kernel_rfl) (by kernel_rfl) (by kernel_rfl) (fun _ _ _ h => h) (Or.inl ⟨by rfl, ?_⟩) hHeld ?_
          · (intro w_ hSw; clear hSw; go_simp; first | done | with_reducible rfl | (rw [b9]; done) | (intro h_; exact absurd h_ (by omega)) | rfl)
          set_option linter.unusedSimpArgs false in try simp only [Act.put, List.setIfInBounds_toArray, List.set_cons_zero, List.set_cons_succ]
          refine wpAnyH_take (i := 8) (oi := { dst := some 60, op := _, type := _, pos := _, after := _, guard := _ }) (v := .slice (some ⟨gq, oq, none⟩) N k0) rfl (by kernel_rfl) (by kernel_rfl) (by kernel_rfl) (fun _ _ _ h => h) (Or.inl ⟨by rfl, ?_⟩) hHeld ?_
          · (intro w_ hSw; clear hSw; go_simp; first | done | with_reducible rfl | (rw [b9]; done) | (intro h_; exact absurd h_ (by omega)) | rfl)
          set_option linter.unusedSimpArgs false in try simp only [Act.put, List.setIfInBounds_toArray, List.set_cons_zero, List.set_cons_succ]
          refine wpAnyH_take (i := 9) (oi := { dst := some 61, op := _, type := _, pos := _, after := _, guard := _ }) (v := .int .i64 (k : Int)) rfl (by kernel_rfl) (by kernel_rfl) (by kernel_rfl) (fun _ _ _ h => h) (Or.inl ⟨by rfl, ?_⟩) hHeld ?_
          · (intro w_ hSw; clear hSw; go_simp; first | done | with_reducible rfl | (rw [b9]; done) | (intro h_; exact absurd h_ (by omega)) | rfl)
          set_option linter.unusedSimpArgs false in try simp only [Act.put, List.setIfInBounds_toArray, List.set_cons_zero, List.set_cons_succ]
          refine wpAnyH_take (i := 10) (oi := { dst := some 62, op := _, type := _, pos := _, after := _, guard := _ }) (v := .int .i64 ((k : Int) - 1)) rfl (by kernel_rfl) (by kernel_rfl) (by kernel_rfl) (fun _ _ _ h => h) (Or.inl ⟨by rfl, ?_⟩) hHeld ?_
          · (intro w_ hSw; clear hSw; go_simp; first | done | with_reducible rfl | (rw [b9]; done) | (intro h_; exact absurd h_ (by omega)) | rfl)
          set_option linter.unusedSimpArgs false in try simp only [Act.put, List.setIfInBounds_toArray, List.set_cons_zero, List.set_cons_succ]
          refine wpAnyH_take (i := 11) (oi := { dst := some 63, op := _, type := _, pos := _, after := _, guard := _ }) (v := .pointer (some ⟨gq, oq + (k - 1), none⟩)) rfl (by kernel_rfl) (by kernel_rfl) (by kernel_rfl) (fun _ _ _ h => h) (Or.inl ⟨by rfl, ?_⟩) hHeld ?_
          · (intro w_ hSw; clear hSw; go_simp; first | done | with_reducible rfl | (rw [b9]; done) | (intro h_; exact absurd h_ (by omega)) | rfl)
          set_option linter.unusedSimpArgs false in try simp only [Act.put, List.setIfInBounds_toArray, List.set_cons_zero, List.set_cons_succ]
          refine wpAnyH_take (i := 12) (oi := { dst := some 64, op := _, type := _, pos := _, after := _, guard := _ }) (v := .int .i64 (q0 : Int)) rfl (by kernel_rfl) (by kernel_rfl) (by kernel_rfl) (fun _ _ _ h => h) (Or.inl ⟨by rfl, ?_⟩) hHeld ?_
          · (intro w_ hSw; have c_ := hSw.2.2.2.1; clear hSw; go_simp; first | done | with_reducible rfl | (rw [b9]; done) | (intro h_; exact absurd h_ (by omega)) | rfl)
          set_option linter.unusedSimpArgs false in try simp only [Act.put, List.setIfInBounds_toArray, List.set_cons_zero, List.set_cons_succ]
          refine wpAnyH_take (i := 13) (oi := { dst := some 65, op := _, type := _, pos := _, after := _, guard := _ }) (v := .pointer (some ⟨lb, lo + q0 * 15, none⟩)) rfl (by kernel_rfl) (by kernel_rfl) (by kernel_rfl) (fun _ _ _ h => h) (Or.inl ⟨by rfl, ?_⟩) hHeld ?_
          · (intro w_ hSw; clear hSw; go_simp; first | done | with_reducible rfl | (rw [b9]; done) | (intro h_; exact absurd h_ (by omega)) | rfl)
          set_option linter.unusedSimpArgs false in try simp only [Act.put, List.setIfInBounds_toArray, List.set_cons_zero, List.set_cons_succ]
          refine wpAnyH_take (i := 14) rfl (by kernel_rfl) (by kernel_rfl) (by kernel_rfl) (fun _ _ _ h => h) (yieldsIf_load_mid (by rfl) 37 _ rfl lb (lo + q0 * 15) rfl [.int .i64 B.d, .int .i64 B.l, .int .i64 B.f, .int .i64 B.s, .int .i64 B.o, .int .i64 B.n, .int .i64 B.x, .int .i64 B.c, .int .i64 B.k, .int .i64 B.a, .int .i64 B.t, .int .i64 B.c', .int .i64 B.k', .int .i64 B.a', .int .i64 B.t'] _ (fun w h => h.2.1) Tryd.underlying37 rfl (by kernel_rfl)) hHeld ?_
          set_option linter.unusedSimpArgs false in try simp only [Act.put, List.setIfInBounds_toArray, List.set_cons_zero, List.set_cons_succ]
          refine wpAnyH_ready (rs := [15]) (by kernel_rfl) (by simp) ?_
          refine AllReadyH.cons rfl (fun K hK => ?_) ?_
          rotate_left
          · exact AllReadyH.nil
          try rw [if_pos (by rfl)]
          go_simp
          refine (ST.out _ (HT.out _ hHeld.2.2.2.2.2.2)).mono ?_
          rintro e V1 ⟨rfl, g1⟩
          have hS := hHeld.below g1
          clear g1 hHeld
          go_wp2_with fail
          refine hK.out _ _ hS (fun hHeld => ?_)
          clear hK K hS
          set_option linter.unusedSimpArgs false in try simp only [Act.put, List.setIfInBounds_toArray, List.set_cons_zero, List.set_cons_succ]
          refine wpAnyH_take (i := 16) (oi := { dst := some 51, op := _, type := _, pos := _, after := _, guard := _ }) (v := .tuple #[.bool false, .bool true]) rfl (by kernel_rfl) (by kernel_rfl) (by kernel_rfl) (fun _ _ _ h => h) (Or.inl ⟨by rfl, ?_⟩) hHeld ?_
          · (intro w_ hSw; clear hSw; go_simp; first | done | with_reducible rfl | (rw [b9]; done) | (intro h_; exact absurd h_ (by omega)) | rfl)
          set_option linter.unusedSimpArgs false in try simp only [Act.put, List.setIfInBounds_toArray, List.set_cons_zero, List.set_cons_succ]
          refine wpAnyH_take (i := 17) (oi := { dst := some 68, op := _, type := _, pos := _, after := _, guard := _ }) (v := .bool false) rfl (by kernel_rfl) (by kernel_rfl) (by kernel_rfl) (fun _ _ _ h => h) (Or.inl ⟨by rfl, ?_⟩) hHeld ?_
          · (intro w_ hSw; clear hSw; go_simp; first | done | with_reducible rfl | (rw [b9]; done) | (intro h_; exact absurd h_ (by omega)) | rfl)
          set_option linter.unusedSimpArgs false in try simp only [Act.put, List.setIfInBounds_toArray, List.set_cons_zero, List.set_cons_succ]
          refine wpAnyH_take (i := 18) (oi := { dst := some 69, op := _, type := _, pos := _, after := _, guard := _ }) (v := .bool true) rfl (by kernel_rfl) (by kernel_rfl) (by kernel_rfl) (fun _ _ _ h => h) (Or.inl ⟨by rfl, ?_⟩) hHeld ?_
          · (intro w_ hSw; clear hSw; go_simp; first | done | with_reducible rfl | (rw [b9]; done) | (intro h_; exact absurd h_ (by omega)) | rfl)
          set_option linter.unusedSimpArgs false in try simp only [Act.put, List.setIfInBounds_toArray, List.set_cons_zero, List.set_cons_succ]
          refine wpAnyH_take (i := 19) (oi := { dst := some 9, op := _, type := _, pos := _, after := _, guard := _ }) (v := .bool false) rfl (by kernel_rfl) (by kernel_rfl) (by kernel_rfl) (fun _ _ _ h => h) (Or.inl ⟨by rfl, ?_⟩) hHeld ?_
          · (intro w_ hSw; clear hSw; go_simp; first | done | with_reducible rfl | (rw [b9]; done) | (intro h_; exact absurd h_ (by omega)) | rfl)
          set_option linter.unusedSimpArgs false in try simp only [Act.put, List.setIfInBounds_toArray, List.set_cons_zero, List.set_cons_succ]
          refine wpAnyH_take (i := 20) (oi := { dst := some 10, op := _, type := _, pos := _, after := _, guard := _ }) (v := .bool true) rfl (by kernel_rfl) (by kernel_rfl) (by kernel_rfl) (fun _ _ _ h => h) (Or.inl ⟨by rfl, ?_⟩) hHeld ?_
          · (intro w_ hSw; clear hSw; go_simp; first | done | with_reducible rfl | (rw [b9]; done) | (intro h_; exact absurd h_ (by omega)) | rfl)
          set_option linter.unusedSimpArgs false in try simp only [Act.put, List.setIfInBounds_toArray, List.set_cons_zero, List.set_cons_succ]
          refine wpAnyH_done (by kernel_rfl) ?_ _
          refine NoPanic.normal ?_
          have HB5 := Lib.hid hHeld.2.2.2.2
          clear hHeld
          go_wp2_with fail
          go_roundw
          case rel => exact ⟨k + 1, by omega, by omega, by go_num, HB5⟩
          case measure => simp [intOf]; omega
        · obtain ⟨pa, pc, hp⟩ : ∃ a c, (Value.slice p0 N k0) = .slice a N c := ⟨_, _, rfl⟩
          have HO2 := Lib.hid HO.out.2.2
          clear HO
          go_wp2_with fail
          refine (HD.out _ HO2.out).mono ?_
          rintro e w5 ⟨⟨o, m, t, rfl⟩, h5⟩
          have B5 := Lib.hid (HO2.out.trans (h5.mono HO2.out.size))
          clear h5 HO2
          obtain ⟨s, one, x', y', z', two, c1, c2, c3, hF⟩ := ord_answers o m t
          have C1 := Lib.hid c1
          have C2 := Lib.hid c2
          have C3 := Lib.hid c3
          clear c1 c2 c3
          have es : (s.toList == s.toList) = true := by simp
          rcases hF with rfl | ⟨rfl, rfl, rfl, rfl, rfl⟩
          all_goals
            go_wp2_with fail
            refine (C1.out _ (HT.out _ B5.out)).mono ?_
            rintro e w6 ⟨rfl, h6⟩
            have B6 := Lib.hid (B5.out.trans (h6.mono B5.out.size))
            clear h6 B5
            go_wp2_with fail
            refine (C3.out _ (HT.out _ B6.out)).mono ?_
            rintro e w7 ⟨rfl, h7⟩
            have B7 := Lib.hid (B6.out.trans (h7.mono B6.out.size))
            clear h7 B6
            go_wp2_with fail
            refine (C2.out _).mono ?_
            rintro e w8 ⟨rfl, h8⟩
            have B8 := Lib.hid (B7.out.trans (h8.mono B7.out.size))
            clear h8 B7
            go_wp2_with fail
            go_ret
            exact ⟨by first | rfl | simp, B8.out⟩

/-! ### THE ROW's STEP: WRITTEN OUT: LEAVE IT -/
set_option maxRecDepth 100000 in
theorem lifted (os : Os) (started : os.Started) (H : Type) (enc : TypeId × Value → H) :
    ReturnsInHanded {} Tryd.checked os 3 .any (fun w args => (Rows.fnOrderSpec.pre enc Tryd.prog Tryd.f3 Rows.fnOrderRow.domain false w args ∧ laidMetH Tryd.prog laidL w) ∧ sizedMet enc Tryd.prog Tryd.f3 (OpenSpec.ofChange Rows.fnOrderSpec) false w args)
      (Rows.fnOrderSpec.post enc Tryd.prog Tryd.f3 false true false false) := by
  refine returnsInHanded_of_change_and (C := Tryd.checked) (X := fun w _ => laidMetH Tryd.prog laidL w) (fun _ _ _ hh h => h.of_heap hh) own started (by kernel_rfl) Tryd.func3
    (ChangeSpec.witness_shaped (enc := enc) (C := Tryd.checked) (os := os) (X := fun w _ => laidMetH Tryd.prog laidL w) false (World.doorLaid Tryd.prog 400 os) #[.slice none 0 0] 8 rfl (World.shaped_of_RefB (by kernel_rfl) (by kernel_rfl)) (by kernel_rfl) (by kernel_rfl) (by kernel_rfl) (door_met os _)) ?_
  intro W base args ds gs before hval0 hW _ hsz0 hL _
  have hval : ∀ (j : Nat) t v, Tryd.f3.params[j]? = some t → args[j]? = some v → Value.okWide Tryd.prog W .any base t v := hval0
  have hW' := hW
  obtain ⟨p, q, hA0, hV, rfl, hfz, hnd⟩ := hW
  have hA : DataW.TrodAll enc Tryd.prog W 0 (fun _ => true) true Tryd.f3.params.toList args.toList ds p := hA0
  rw [Tryd.params3] at hA hval
  obtain ⟨v0, vs0, d0, ds0, p0, q0, hargs, rfl, rfl, h0, r0⟩ := trodAll_cons hA
  obtain ⟨rfl, rfl, rfl⟩ := trodAll_nil r0
  obtain rfl : args = #[v0] := by cases args; simp_all
  obtain ⟨gv0, gv1, gv2, gv3, gv4, gv5, gv6, hgs⟩ := readings hV
  subst hgs
  obtain ⟨a0, len0, cap0, rfl⟩ := okWide_slice Tryd.underlying22 (hval 0 22 v0 rfl rfl)
  have k0 := h0
  have lt0 : ∀ x ∈ p0, x.block < W.heap.size := by obtain ⟨m, hm⟩ := k0; exact DataW.trod_lt m _ _ _ hm
  obtain ⟨z0, w0⟩ : ∃ zs, IsRow .u8 W a0 len0 cap0 zs := by
    obtain ⟨fuel, hf⟩ := h0
    rcases open_ints Tryd.underlying22 Tryd.underlying5 (by kernel_rfl) hf with ⟨hcs, _⟩ | ⟨x, l, c, zs, hcs, _, hl, hm, hz, _, hcell, hwz⟩
    · simp [Value.cells] at hcs
      obtain ⟨rfl, rfl, rfl⟩ := hcs
      exact ⟨[], .inl ⟨rfl, rfl, rfl, rfl⟩⟩
    · simp [Value.cells] at hcs
      obtain ⟨rfl, rfl, rfl⟩ := hcs
      exact ⟨zs, .inr ⟨_, rfl, hl, hm, by simpa using hz, hcell, hwz⟩⟩
  clear hA0 hval0
  refine (walk a0 len0 cap0 z0 W w0 hL).mono fun e W' ⟨he, bel⟩ => ?_
  subst he
  exact ⟨_, rfl, _, _, _, [], _, q, hW', trodAll_mk1 (shut_bool Tryd.underlying4 _), (trodAll_cons_mk (Below.trod laidOut (by kernel_rfl) (of_decide_eq_true (by kernel_rfl)) k0 bel lt0) trodAll_mk0), Below.trodVars (by kernel_rfl) bel (by kernel_rfl) hV, bel.frame _, fun h => by cases h⟩

theorem over : Rows.fnOrderRow.holds Tryd.pinned (OpenSpec.ofChange Rows.fnOrderSpec) :=
  OpenClaim.holds_of_wide 3 Tryd.f3 rfl rfl rfl rfl rfl rfl rfl ⟨rfl, rfl, rfl, rfl, rfl⟩ rfl rfl rfl rfl rfl (by kernel_rfl) Tryd.func3 (by kernel_rfl)
    (of_decide_eq_true (by kernel_rfl)) (by unfold Func.isWrapper; first | (rw [if_pos (by decide +kernel)]; kernel_rfl) | (rw [if_neg (by decide +kernel)]; exact ⟨rfl, rfl⟩))
    (fun os started H enc _ => lifted os started H enc)

/-- The row's statement. -/
theorem proved : Rows.FnOrderSaid :=
  over

/-- THE TIED CARD: the listed variables are those that the program's own text lays. -/
theorem card : Rows.FnOrderCardSaid :=
  Claim7.holds_tied_plain_at .later [] [.data, .widerDeep, .widerDeep, .widerDeep, .widerDeep, .widerDeep, .widerDeep] true (true, "e4408f4ede5ec6f8c1c13af787bb5d3b18a6a4432b9bbd0dbd0e59aeefa9dca4") true
    proved (fun _ h => by cases h) (by kernel_rfl) (fun _ h => by cases h) fnOrder_row_tie rfl ⟨rfl, rfl⟩ (by kernel_rfl) rfl
    (fun f fn hf hfn => by
      obtain rfl : f = 3 := Option.some.inj ((show Tryd.prog.funcNamed "loop.example/g00884/laws.FnOrder" = some 3 by kernel_rfl).symm.trans hf) |>.symm
      obtain rfl : fn = Tryd.f3 := (Option.some.inj (Tryd.func3.symm.trans hfn)).symm
      exact ⟨by kernel_rfl, fun j t ht => by
        rw [Tryd.params3] at ht
        have hm : t ∈ [22] := by
          have := Array.mem_of_getElem? ht
          first | simpa using this | (simp at this ⊢; omega) | (simp at this ⊢; rcases this with h | h <;> simp [h])
        have hall : ([22].all fun u => !Tryd.prog.wantsStandIn u) = true := by kernel_rfl
        exact (show Tryd.prog.wantsStandIn t = false by simpa using List.all_eq_true.1 hall t hm)⟩)
    (by kernel_rfl)
#print axioms card
end Go.Proofs.YtgoelkgdjnhklaaDoor.fnOrder
