/- Contract: LargestBoxes of both sides. -/
import Derived.Test.YthapidnjioindaaDoorC11J
namespace Go.Proofs.YthapidnjioindaaDoor
open Go.RowKit

def largR (X : List Int) (c : Int) : Option (List Bx) := if (goodR X && decide (1 ≤ c ∧ c ≤ 6)) = true then largeS (nxF X) c.toNat 8 else none
theorem largeS_len (V : Nat → Nat) (c : Nat) : ∀ s L, largeS V c s = some L → L.length = c
  | 0, L, h => by cases h
  | s + 1, L, h => by
    unfold largeS at h
    split at h
    · rename_i he
      cases h; exact he
    · exact largeS_len V c s L h
theorem largR_len {X : List Int} {c : Int} {L : List Bx} (h : largR X c = some L) : (L.length : Int) = c := by
  unfold largR at h
  split at h
  · rename_i hc
    simp only [Bool.and_eq_true, decide_eq_true_eq] at hc
    have := largeS_len _ _ _ _ h
    omega
  · cases h
theorem largR_le (X : List Int) (c : Int) : ((largR X c).getD []).length ≤ 40 := by
  unfold largR
  split
  · rename_i h
    simp only [Bool.and_eq_true, decide_eq_true_eq] at h
    cases hL : largeS (nxF X) c.toNat 8 with
    | none => simp
    | some L => have := largeS_len _ _ _ _ hL; simp; omega
  · simp
theorem fillR_at {X : List Int} (hg : goodR X = true) {k c : Nat} (hk1 : 1 ≤ k) (hk8 : k ≤ 8) (hc : c ≤ 40) : fillR X (k : Int) (c : Int) = fillL (nxF X) k c ∧ okF X (k : Int) (c : Int) = true := by
  have h1 : okF X (k : Int) (c : Int) = true := by
    unfold okF
    rw [hg, decide_eq_true (by omega), decide_eq_true (by omega)]; rfl
  refine ⟨?_, h1⟩
  unfold fillR
  rw [if_pos h1]
  simp
theorem fillR_bad {X : List Int} (hg : goodR X = false) (k c : Int) : fillR X k c = [] ∧ okF X k c = false := by
  have h1 : okF X k c = false := by unfold okF; rw [hg]; rfl
  exact ⟨by unfold fillR; rw [if_neg (by rw [h1]; decide)], h1⟩
theorem ansBx_none {W w' : World} {e : Ending} {ok : Bool} (hok : ok = false) (h : ∃ a cap, e = .returned (.tuple #[.slice a 0 cap, .bool ok]) ∧ OwnBx w' W.heap.size (.slice a 0 cap) [] ∧ Below W.heap.size W w') : AnsBx W [] false e w' := by
  subst hok; exact h
theorem isCnt6_any (x : Int) (w : World) (p : Bool) (hp : decide (1 ≤ x ∧ x ≤ 6) = p) :
    Calls Tryd.prog 62 #[.int .i64 x] w fun e w' => e = .returned (.bool p) ∧ w = w' := by
  obtain ⟨p1, e1⟩ : ∃ p, decide (1 ≤ x) = p := ⟨_, rfl⟩
  obtain ⟨p2, e2⟩ : ∃ p, decide (x ≤ 6) = p := ⟨_, rfl⟩
  have hR : (p1 && p2) = p := by rw [← hp, ← e1, ← e2]; by_cases h : 1 ≤ x <;> by_cases h' : x ≤ 6 <;> simp [h, h']
  clear hp
  subst hR
  cases p1
  all_goals
    go_enter Tryd.func62, Tryd.ntmps62
    go_wp2_with fail
    go_ret
    exact ⟨by first | rfl | simp, rfl⟩
set_option maxRecDepth 100000 in
set_option maxHeartbeats 4000000 in
theorem large_impl (X : List Int) (n : Nat) (a : Option Addr) (c : Nat) (k : Int) (w : World) (h : RdI w a n X) (hwf : WfI X) (hn : n ≤ 1048577) (hT : TzT w) :
    Calls Tryd.prog 18 #[.agg #[.slice a n c], .int .i64 k] w (AnsBx w ((largR X k).getD []) (largR X k).isSome) := by
  have XA := BoxF.new w [.slice a n c] 26
  have hb := (Below.refl _ w).alloc (Nat.le_refl _) (.cells #[.slice a n c] 26 (0, 0))
  obtain ⟨p, hp⟩ : ∃ p, decide (1 ≤ k ∧ k ≤ 6) = p := ⟨_, rfl⟩
  have CK := Lib.hid (fun W => isCnt6_any k W p hp)
  have HX := Lib.hid XA
  have HB := Lib.hid hb
  have HR := Lib.hid h
  have HT := Lib.hid hT
  cases p
  · have hl : largR X k = none := by unfold largR; rw [hp, Bool.and_false]; rfl
    rw [hl]
    clear h hwf XA hb hT hp
    go_enter Tryd.func18, Tryd.ntmps18
    go_wp2_with fail
    refine (CK.out _).mono ?_
    rintro e w1 ⟨rfl, rfl⟩
    go_wp2_with fail
    go_ret2
    exact ⟨none, 0, rfl, ownBx_nil _ _, HB.out⟩
  have hk := of_decide_eq_true hp
  obtain ⟨k, rfl⟩ : ∃ j : Nat, k = j := ⟨k.toNat, by omega⟩
  have CF := Lib.hid (fun (s : Nat) W (h : RdI W a n X) (hT : TzT W) => fillR_impl X n a c (s : Int) (k : Int) W h hwf hn hT)
  cases hg : goodR X
  · have hl : largR X k = none := by unfold largR; rw [hg]; rfl
    rw [hl]
    have HBad := Lib.hid (fun (s : Nat) => fillR_bad hg (s : Int) (k : Int))
    clear h hwf XA hb hT hp hl hg
    go_enter Tryd.func18, Tryd.ntmps18
    go_wp2_with fail
    refine (CK.out _).mono ?_
    rintro e w1 ⟨rfl, rfl⟩
    go_wp2_with fail
    go_loopw [6] (fun i wr => ∃ s : Nat, s ≤ 8 ∧ i = .int .i64 (s : Int) ∧ Hid (BoxF wr w.heap.size [.slice a n c] 26) ∧ Hid (Below w.heap.size w wr)) (fun i _ => (intOf i).toNat)
    case atStart => exact ⟨8, by omega, rfl, HX, HB⟩
    case round =>
      clear HX HB
      obtain ⟨s, hs, rfl, HX, HB⟩ := hrel
      by_cases h0 : 0 < s
      · have e0 : decide ((0 : Int) < (s : Int)) = true := decide_eq_true (by omega)
        have CFs := CF.out s wr (HR.out.below HB.out) (HT.out.below HB.out)
        rw [(HBad.out s).1, (HBad.out s).2] at CFs
        have CFs := Lib.hid CFs
        have c1 := HX.out.one.1
        go_wp2_with fail
        refine CFs.out.mono ?_
        rintro e w2 ⟨av, cv, rfl, _, hb2⟩
        have HX2 := Lib.hid (HX.out.below hb2)
        have HB2 := Lib.hid (HB.out.trans (hb2.mono HB.out.size))
        clear hb2 CFs c1
        go_wp2_with fail
        go_roundw
        case rel => exact ⟨s - 1, by omega, by congr 1; omega, HX2, HB2⟩
        case measure => simp [intOf]; omega
      · obtain rfl : s = 0 := by omega
        go_wp2_with fail
        go_ret2
        exact ⟨none, 0, rfl, ownBx_nil _ _, HB.out⟩
  · have hl : largR X k = largeS (nxF X) k 8 := by unfold largR; rw [hg, hp]; simp
    rw [hl]
    have HGo := Lib.hid (fun (s : Nat) (h1 : 1 ≤ s) (h8 : s ≤ 8) => fillR_at (X := X) hg h1 h8 (show k ≤ 40 by omega))
    clear h hwf XA hb hT hp hl hg
    go_enter Tryd.func18, Tryd.ntmps18
    go_wp2_with fail
    refine (CK.out _).mono ?_
    rintro e w1 ⟨rfl, rfl⟩
    go_wp2_with fail
    go_loopw [6] (fun i wr => ∃ s : Nat, s ≤ 8 ∧ i = .int .i64 (s : Int) ∧ Hid (BoxF wr w.heap.size [.slice a n c] 26) ∧ Hid (Below w.heap.size w wr) ∧ Hid (largeS (nxF X) k 8 = largeS (nxF X) k s)) (fun i _ => (intOf i).toNat)
    case atStart => exact ⟨8, by omega, rfl, HX, HB, Lib.hid rfl⟩
    case round =>
      clear HX HB
      obtain ⟨s, hs, rfl, HX, HB, HE⟩ := hrel
      by_cases h0 : 0 < s
      · have e0 : decide ((0 : Int) < (s : Int)) = true := decide_eq_true (by omega)
        have CFs := CF.out s wr (HR.out.below HB.out) (HT.out.below HB.out)
        rw [(HGo.out s h0 hs).1, (HGo.out s h0 hs).2] at CFs
        have CFs := Lib.hid CFs
        have HS := Lib.hid (show largeS (nxF X) k s = if (fillL (nxF X) s k).length = k then some (fillL (nxF X) s k) else largeS (nxF X) k (s - 1) by
          obtain ⟨j, rfl⟩ : ∃ j, s = j + 1 := ⟨s - 1, by omega⟩
          rfl)
        obtain ⟨L, hL⟩ : ∃ L, fillL (nxF X) s k = L := ⟨_, rfl⟩
        rw [hL] at CFs HS
        clear hL
        have c1 := HX.out.one.1
        by_cases hk2 : L.length = k
        · have HLS := Lib.hid (show largeS (nxF X) k 8 = some L by rw [HE.out, HS.out, if_pos hk2])
          have ek : ((L.length : Int) == (k : Int)) = true := by simp [hk2]
          clear HS HE hk2
          go_wp2_with fail
          refine CFs.out.mono ?_
          rintro e w2 ⟨av, cv, rfl, ho2, hb2⟩
          have HV2 := Lib.hid (ho2.low HB.out.size)
          have HB2 := Lib.hid (HB.out.trans (hb2.mono HB.out.size))
          clear hb2 ho2 CFs c1
          go_wp2_with fail
          go_ret2
          rw [HLS.out]
          exact ⟨av, cv, rfl, HV2.out, HB2.out⟩
        · have HLS := Lib.hid (show largeS (nxF X) k 8 = largeS (nxF X) k (s - 1) by rw [HE.out, HS.out, if_neg hk2])
          have ek : ((L.length : Int) == (k : Int)) = false := by rw [beq_eq_false_iff_ne]; omega
          clear HS HE hk2
          go_wp2_with fail
          refine CFs.out.mono ?_
          rintro e w2 ⟨av, cv, rfl, _, hb2⟩
          have HX2 := Lib.hid (HX.out.below hb2)
          have HB2 := Lib.hid (HB.out.trans (hb2.mono HB.out.size))
          clear hb2 CFs c1
          go_wp2_with fail
          go_roundw
          case rel => exact ⟨s - 1, by omega, by congr 1; omega, HX2, HB2, HLS⟩
          case measure => simp [intOf]; omega
      · obtain rfl : s = 0 := by omega
        have HN := Lib.hid (show largeS (nxF X) k 8 = none from HE.out)
        go_wp2_with fail
        go_ret2
        rw [HN.out]
        exact ⟨none, 0, rfl, ownBx_nil _ _, HB.out⟩
set_option maxRecDepth 100000 in
set_option maxHeartbeats 4000000 in
theorem l11Largest_any (X : List Int) (a : Option Addr) (c : Nat) (k : Nat) (w : World) (h : RdI w a 24 X) (hg : goodR X = true) (hk : k ≤ 40) :
    Calls Tryd.prog 63 #[.agg #[.slice a 24 c], .int .i64 (k : Int)] w (AnsBx w ((largeS (nxF X) k 8).getD []) (largeS (nxF X) k 8).isSome) := by
  have XA := BoxF.new w [.slice a 24 c] 26
  have hb := (Below.refl _ w).alloc (Nat.le_refl _) (.cells #[.slice a 24 c] 26 (0, 0))
  obtain ⟨e1, e2⟩ := good_nx hg
  have CF := Lib.hid (fun (s : Nat) W (h : RdI W a 24 X) (h1 : 1 ≤ s) (h8 : s ≤ 8) => l11Fill_any (nxF X) s k a c W (by rw [e1] at h; exact h) e2 h1 h8 hk)
  have HX := Lib.hid XA
  have HB := Lib.hid hb
  have HR := Lib.hid h
  clear h XA hb e1 e2 hg
  go_enter Tryd.func63, Tryd.ntmps63
  go_wp2_with fail
  go_loopw [6] (fun i wr => ∃ s : Nat, s ≤ 8 ∧ i = .int .i64 (s : Int) ∧ Hid (BoxF wr w.heap.size [.slice a 24 c] 26) ∧ Hid (Below w.heap.size w wr) ∧ Hid (largeS (nxF X) k 8 = largeS (nxF X) k s)) (fun i _ => (intOf i).toNat)
  case atStart => exact ⟨8, by omega, rfl, HX, HB, Lib.hid rfl⟩
  case round =>
    clear HX HB
    obtain ⟨s, hs, rfl, HX, HB, HE⟩ := hrel
    by_cases h0 : 0 < s
    · have e0 : decide ((0 : Int) < (s : Int)) = true := decide_eq_true (by omega)
      have CFs := Lib.hid (CF.out s wr (HR.out.below HB.out) h0 hs)
      have HS := Lib.hid (show largeS (nxF X) k s = if (fillL (nxF X) s k).length = k then some (fillL (nxF X) s k) else largeS (nxF X) k (s - 1) by
        obtain ⟨j, rfl⟩ : ∃ j, s = j + 1 := ⟨s - 1, by omega⟩
        rfl)
      obtain ⟨L, hL⟩ : ∃ L, fillL (nxF X) s k = L := ⟨_, rfl⟩
      rw [hL] at CFs HS
      clear hL
      have c1 := HX.out.one.1
      by_cases hk2 : L.length = k
      · have HLS := Lib.hid (show largeS (nxF X) k 8 = some L by rw [HE.out, HS.out, if_pos hk2])
        have ek : ((L.length : Int) == (k : Int)) = true := by simp [hk2]
        clear HS HE hk2
        go_wp2_with fail
        refine CFs.out.mono ?_
        rintro e w2 ⟨av, cv, rfl, ho2, hb2⟩
        have HV2 := Lib.hid (ho2.low HB.out.size)
        have HB2 := Lib.hid (HB.out.trans (hb2.mono HB.out.size))
        clear hb2 ho2 CFs c1
        go_wp2_with fail
        go_ret2
        rw [HLS.out]
        exact ⟨av, cv, rfl, HV2.out, HB2.out⟩
      · have HLS := Lib.hid (show largeS (nxF X) k 8 = largeS (nxF X) k (s - 1) by rw [HE.out, HS.out, if_neg hk2])
        have ek : ((L.length : Int) == (k : Int)) = false := by rw [beq_eq_false_iff_ne]; omega
        clear HS HE hk2
        go_wp2_with fail
        refine CFs.out.mono ?_
        rintro e w2 ⟨av, cv, rfl, _, hb2⟩
        have HX2 := Lib.hid (HX.out.below hb2)
        have HB2 := Lib.hid (HB.out.trans (hb2.mono HB.out.size))
        clear hb2 CFs c1
        go_wp2_with fail
        go_roundw
        case rel => exact ⟨s - 1, by omega, by congr 1; omega, HX2, HB2, HLS⟩
        case measure => simp [intOf]; omega
    · obtain rfl : s = 0 := by omega
      have HN := Lib.hid (show largeS (nxF X) k 8 = none from HE.out)
      go_wp2_with fail
      go_ret2
      rw [HN.out]
      exact ⟨_, 0, rfl, litBx _ _ HB.out.size, HB.out.alloc HB.out.size _⟩
set_option maxRecDepth 100000 in
set_option maxHeartbeats 4000000 in
theorem large_spec (X : List Int) (n : Nat) (a : Option Addr) (c : Nat) (k : Int) (w : World) (h : RdI w a n X) (hn : n ≤ 1048577) :
    Calls Tryd.prog 19 #[.agg #[.slice a n c], .int .i64 k] w (AnsBx w ((largR X k).getD []) (largR X k).isSome) := by
  have XA := BoxF.new w [.slice a n c] 26
  have hb := (Below.refl _ w).alloc (Nat.le_refl _) (.cells #[.slice a n c] 26 (0, 0))
  have c1 := XA.one.1
  obtain ⟨g, hg⟩ : ∃ g, goodR X = g := ⟨_, rfl⟩
  obtain ⟨p, hp⟩ : ∃ p, decide (1 ≤ k ∧ k ≤ 6) = p := ⟨_, rfl⟩
  have CV0 := good_spec X n a c _ (h.below hb) hn
  rw [hg] at CV0
  have CV := Lib.hid CV0
  have CK := Lib.hid (fun W => in_any k 1 6 W p hp)
  have HX := Lib.hid XA
  have HB := Lib.hid hb
  have HR := Lib.hid h
  clear h XA hb CV0
  cases g
  · have hl : largR X k = none := by unfold largR; rw [hg]; rfl
    rw [hl]
    clear hg hp hl
    go_enter Tryd.func19, Tryd.ntmps19
    go_wp2_with fail
    refine CV.out.mono ?_
    rintro e w1 ⟨rfl, hb1⟩
    have HB1 := Lib.hid (HB.out.trans (hb1.mono HB.out.size))
    clear hb1 c1
    go_wp2_with fail
    go_ret2
    exact ⟨_, 0, rfl, litBx _ _ HB1.out.size, HB1.out.alloc HB1.out.size _⟩
  cases p
  · have hl : largR X k = none := by unfold largR; rw [hp, Bool.and_false]; rfl
    rw [hl]
    clear hg hp hl
    go_enter Tryd.func19, Tryd.ntmps19
    go_wp2_with fail
    refine CV.out.mono ?_
    rintro e w1 ⟨rfl, hb1⟩
    have HB1 := Lib.hid (HB.out.trans (hb1.mono HB.out.size))
    clear hb1 c1
    go_wp2_with fail
    refine (CK.out _).mono ?_
    rintro e w2 ⟨rfl, rfl⟩
    go_wp2_with fail
    go_ret2
    exact ⟨_, 0, rfl, litBx _ _ HB1.out.size, HB1.out.alloc HB1.out.size _⟩
  have hk := of_decide_eq_true hp
  obtain ⟨k, rfl⟩ : ∃ j : Nat, k = j := ⟨k.toNat, by omega⟩
  have hl : largR X k = largeS (nxF X) k 8 := by unfold largR; rw [hg, hp]; simp
  have h24 : n = 24 := by rw [← HR.out.1]; exact goodR_len hg
  subst h24
  rw [hl]
  have CL := Lib.hid (fun W (h : RdI W a 24 X) => l11Largest_any X a c k W h hg (by omega))
  clear hg hp hl
  generalize largeS (nxF X) k 8 = Z at *
  go_enter Tryd.func19, Tryd.ntmps19
  go_wp2_with fail
  refine CV.out.mono ?_
  rintro e w1 ⟨rfl, hb1⟩
  have HB1 := Lib.hid (HB.out.trans (hb1.mono HB.out.size))
  have HX1 := Lib.hid (HX.out.below hb1)
  clear hb1 c1
  go_wp2_with fail
  refine (CK.out _).mono ?_
  rintro e w2 ⟨rfl, rfl⟩
  have c1 := HX1.out.one.1
  go_wp2_with fail
  refine (CL.out _ (HR.out.below HB1.out)).mono ?_
  rintro e w3 ⟨av, cv, rfl, ho, hb3⟩
  have HL := Lib.hid (ho.low HB1.out.size)
  have HB3 := Lib.hid (HB1.out.trans (hb3.mono HB1.out.size))
  clear hb3 ho c1
  go_wp2_with fail
  go_ret2
  exact ⟨av, cv, rfl, HL.out, HB3.out⟩
end Go.Proofs.YthapidnjioindaaDoor
