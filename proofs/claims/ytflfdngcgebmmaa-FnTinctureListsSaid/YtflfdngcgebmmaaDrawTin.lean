/- Contracts: the draws of tinctures and of lists of tinctures. -/
import Derived.Test.YtflfdngcgebmmaaDraw
import Derived.Test.YtflfdngcgebmmaaAgainst
namespace Go.Proofs.Ytflfdngcgebmmaa
open Go.RowKit

theorem grownBy_own {w w2 w3 : World} {o row : Option Nat} (h : w.grownBy w2 o) (h' : w2.grownBy w3 row) (hr : ∀ q, row = some q → w.heap.size ≤ q) : w.grownBy w3 o :=
  ⟨h'.os.trans h.os, h'.tape.trans h.tape, h'.output.trans h.output, Nat.le_trans h.size h'.size, fun k hk hne => (h'.block k (Nat.lt_of_lt_of_le hk h.size) (fun e => by have := hr k e.symm; omega)).trans (h.block k hk hne)⟩

theorem tincture_any (B p : Nat) (a : Option Addr) (n cap M : Nat) (w : World) (h : IsCur w B p a n cap M) (hM : M ≤ 999990) (hn : n ≤ 65536) :
    Calls Try.prog 46 #[.pointer (some ⟨p, 0, none⟩)] w fun e w' => (∃ x : Int, e = .returned (.int .i64 x) ∧ 1 ≤ x ∧ x ≤ 9) ∧ IsCur w' B p a n cap (M + 2) ∧ w.grownBy w' (some p) := by
  have c1 := pick_any B p a n cap M w h hM hn 9 (by omega) (by omega)
  clear h
  go_enter Try.func46, Try.ntmps46
  go_wp2_with fail
  refine c1.mono ?_
  rintro e w1 ⟨⟨x, rfl, hx0, hx1⟩, hc1, hg1⟩
  have HC := Lib.hid hc1
  clear hc1 c1
  go_wp2_with fail
  go_ret
  exact ⟨⟨_, rfl, by omega, by omega⟩, HC.out, hg1⟩
theorem anyTincture_any (B p : Nat) (a : Option Addr) (n cap M : Nat) (w : World) (h : IsCur w B p a n cap M) (hM : M ≤ 999980) (hn : n ≤ 65536) :
    Calls Try.prog 48 #[.pointer (some ⟨p, 0, none⟩)] w fun e w' => (∃ x : Int, e = .returned (.int .i64 x) ∧ -10 ≤ x ∧ x ≤ 10) ∧ IsCur w' B p a n cap (M + 4) ∧ w.grownBy w' (some p) := by
  have c1 := one_any B p a n cap M w h (by omega) hn 16 (by omega) (by omega)
  clear h
  go_enter Try.func48, Try.ntmps48
  go_wp2_with fail
  refine c1.mono ?_
  rintro e w1 ⟨⟨b, rfl⟩, hc1, hg1⟩
  have HC := Lib.hid hc1
  have hlt := hc1.lt
  clear hc1 c1
  cases b
  · go_wp2_with fail
    refine (tincture_any B p a n cap _ _ HC.out (by omega) hn).mono ?_
    rintro e w2 ⟨⟨x, rfl, hx0, hx1⟩, hc2, hg2⟩
    have HC2 := Lib.hid hc2
    clear hc2
    go_wp2_with fail
    go_ret
    exact ⟨⟨_, rfl, by omega, by omega⟩, HC2.out, hg1.trans hg2⟩
  · go_wp2_with fail
    refine (among_any B p a n cap _ _ (HC.out.alloc _) (by omega) hn w1.heap.size 5 5 10 (by omega) (by omega) (numRow_alloc _ _ _ _ 5 rfl (by intro v hv; simp at hv; rcases hv with rfl | rfl | rfl | rfl | rfl <;> simp [isNum])) (by omega) (by rw [alloc_size]; omega)).mono ?_
    rintro e w2 ⟨⟨x, rfl, hx0, hx1⟩, hc2, hg2⟩
    have HC2 := Lib.hid hc2
    clear hc2
    go_wp2_with fail
    go_ret
    exact ⟨⟨_, rfl, by omega, by omega⟩, HC2.out, hg1.trans ((World.grownBy_alloc _ _ _).trans hg2)⟩

/-- A list of the call's own was drawn. -/
def DrewList (w : World) (B p : Nat) (a : Option Addr) (n cap M : Nat) (e : Ending) (w' : World) : Prop :=
  ∃ (v : Value) (X : List Int), e = .returned v ∧ X.length ≤ 60 ∧ w'.ownsRow w.heap.size 3 1 v X.length (X.map (Value.int .i64)) ∧ IsCur w' B p a n cap M ∧ w.grownBy w' (some p)
set_option maxHeartbeats 4000000 in
theorem tinctures_any (B p : Nat) (a : Option Addr) (n cap M : Nat) (w : World) (h : IsCur w B p a n cap M) (hM : M ≤ 900000) (hn : n ≤ 65536) :
    Calls Try.prog 35 #[.pointer (some ⟨p, 0, none⟩)] w (DrewList w B p a n cap (M + 200)) := by
  have hpw := h.lt
  have HC0 := Lib.hid h
  obtain ⟨i0, hi, hz0, hz1, hz2⟩ := info_parts infoI
  have hown0 := World.ownsRow_lit (e := 3) (size := 1) w #[] 0 (Nat.le_refl _) (by unfold maxLen; omega) rfl
  have HNE := Lib.hid (fun (v : Value) (W : World) (m : Nat) (xs : List Value) (h : W.ownsRow w.heap.size 3 1 v m xs) => (show v.ownBlock = none ∨ v.ownBlock ≠ some p by
    cases hq : v.ownBlock with
    | none => exact .inl rfl
    | some q => exact .inr (by intro e; have h1 := (h.lt q hq).1; have e2 : q = p := (by simpa using e); omega)))
  clear h
  go_enter Try.func35, Try.ntmps35
  go_wp2_with fail
  refine (pick_any B p a n cap M _ (HC0.out.alloc _) (by omega) hn 8 (by omega) (by omega)).mono ?_
  rintro e w1 ⟨⟨r, rfl, hr0, hr1⟩, hc1, hg1⟩
  obtain ⟨j0, rfl⟩ : ∃ j : Nat, r = j := ⟨r.toNat, by omega⟩
  have hown1 := hown0.kept hg1 (HNE.out _ _ _ _ hown0)
  have hG1 : w.grownBy w1 (some p) := (World.grownBy_alloc w _ _).trans hg1
  clear HC0 hown0 hg1
  go_wp2_with fail
  go_loopw [3, 4] (fun v i wr => ∃ (j : Nat) (X : List Int), X.length + j ≤ 7 ∧ i = .int .i64 j ∧ Hid (IsCur wr B p a n cap (M + 2 + 2 * X.length)) ∧ wr.ownsRow w.heap.size 3 1 v X.length (X.map (Value.int .i64)) ∧ w.grownBy wr (some p)) (fun _ i _ => (intOf i).toNat)
  case atStart => exact ⟨j0, [], by simp; omega, rfl, hc1, hown1, hG1⟩
  case round =>
    obtain ⟨j, X, hj, rfl, HC, ho, hg⟩ := hrel
    clear hc1 hown1 hG1 hr0 hr1
    by_cases hlt : 0 < j
    · go_wp2_with fail
      refine (tincture_any B p a n cap _ wr HC.out (by omega) hn).mono ?_
      rintro e w2 ⟨⟨x, rfl, hx0, hx1⟩, hc2, hg2⟩
      have ho2 := ho.kept hg2 (HNE.out _ _ _ _ ho)
      have HC2 := Lib.hid hc2
      have hgg2 := hg.trans hg2
      have hsz2 := hgg2.size
      clear hc2 hg2 ho HC hg
      go_wp2_with (at_builtin; refine wpList_append_own _ rfl _ _ 24 rfl w.heap.size 3 i0 (.int .i64 0) 1 8 Try.underlying24 hi hz0 hz1 hz2 rfl (by decide) _ _ _ rfl (ho2.alloc _) ⟨w2.heap.size, 0, none⟩ 1 1 [.int .i64 (x)] rfl rfl (cell_one_new _ _ _) (fun x hx => by simp at hx; subst hx; rfl) (by unfold maxLen; omega) (by omega) (by simp; omega) ?_; intro v' w9 hown' hgrow hnil)
      go_roundw
      case rel => exact ⟨j - 1, X ++ [x], by simp; omega, by go_num, ((HC2.out.mono (M' := M + 2 + 2 * (X ++ [x]).length) (by simp; omega)).alloc _).kept hgrow (fun q hq => by have := (ho2.lt q hq).1; omega), sliceR (app_one hown') rfl,
        grownBy_own (hgg2.trans (World.grownBy_alloc _ _ _)) hgrow (fun q hq => (ho2.lt q hq).1)⟩
      case measure => simp [intOf]; omega
    · go_wp2_with fail
      refine (one_any B p a n cap _ wr HC.out (by omega) hn 16 (by omega) (by omega)).mono ?_
      rintro e w2 ⟨⟨b, rfl⟩, hc2, hg2⟩
      have ho2 := ho.kept hg2 (HNE.out _ _ _ _ ho)
      have HC2 := Lib.hid (hc2.mono (M' := M + 18) (by omega))
      have hgg2 := hg.trans hg2
      have hsz2 := hgg2.size
      clear hc2 hg2 ho HC hg
      cases b
      · go_wp2_with fail
        refine (one_any B p a n cap _ w2 HC2.out (by omega) hn 24 (by omega) (by omega)).mono ?_
        rintro e w5 ⟨⟨b2, rfl⟩, hc5, hg5⟩
        have ho5 := ho2.kept hg5 (HNE.out _ _ _ _ ho2)
        have HC5 := Lib.hid (hc5.mono (M' := M + 30) (by omega))
        have hgg5 := hgg2.trans hg5
        have hsz5 := hgg5.size
        clear hc5 hg5 ho2 HC2 hgg2
        cases b2
        · go_wp2_with fail
          go_ret
          exact ⟨_, X, rfl, by omega, ho5, HC5.out.mono (by omega), hgg5⟩
        · go_wp2_with fail
          go_loopw [3, 5] (fun v i wr => ∃ (k : Nat) (X : List Int), k ≤ 42 ∧ X.length ≤ 8 + k ∧ i = .int .i64 k ∧ Hid (IsCur wr B p a n cap (M + 30 + 2 * k)) ∧ wr.ownsRow w.heap.size 3 1 v X.length (X.map (Value.int .i64)) ∧ w.grownBy wr (some p)) (fun _ i _ => 42 - (intOf i).toNat)
          case atStart => exact ⟨0, X, by omega, by omega, rfl, HC5, ho5, hgg5⟩
          case round =>
            obtain ⟨k, X2, hk, hX2, rfl, HC, ho, hg⟩ := hrel
            obtain ⟨a', c', rfl, hO'⟩ := ownI_append ho
            clear hO'
            clear ho5 HC5 hgg5 hsz5
            go_wp2_with fail
            refine (pick_any B p a n cap _ _ HC.out (by omega) hn 2 (by omega) (by omega)).mono ?_
            rintro e w6 ⟨⟨r, rfl, hr0, hr1⟩, hc6, hg6⟩
            obtain ⟨q, rfl⟩ : ∃ q : Nat, r = q := ⟨r.toNat, by omega⟩
            have ho6 := ho.kept hg6 (HNE.out _ _ _ _ ho)
            have HC6 := Lib.hid (hc6.mono (M' := M + 30 + 2 * (k + 1)) (by omega))
            have hgg6 := hg.trans hg6
            have hsz6 := hgg6.size
            clear hc6 hg6 ho HC hg
            by_cases h1 : X2.length < 40 + q
            · have e1 : decide ((X2.length : Int) < 40 + (q : Int)) = true := by simp; omega
              by_cases h2 : k < 42
              · go_wp2_with (at_builtin; refine wpList_append_own _ rfl _ _ 24 rfl w.heap.size 3 i0 (.int .i64 0) 1 8 Try.underlying24 hi hz0 hz1 hz2 rfl (by decide) _ _ _ rfl (ho6.alloc _) ⟨w6.heap.size, 0, none⟩ 1 1 [.int .i64 (1 + (k : Int) % 9)] rfl rfl (cell_one_new _ _ _) (fun x hx => by simp at hx; subst hx; rfl) (by unfold maxLen; omega) (by omega) (by simp; omega) ?_; intro v' w9 hown' hgrow hnil)
                go_roundw
                case rel => exact ⟨k + 1, X2 ++ [1 + (k : Int) % 9], by omega, by simp; omega, by go_num, (HC6.out.alloc _).kept hgrow (fun q hq => by have := (ho6.lt q hq).1; omega), sliceR (app_one hown') rfl,
                  grownBy_own (hgg6.trans (World.grownBy_alloc _ _ _)) hgrow (fun q hq => (ho6.lt q hq).1)⟩
                case measure => simp [intOf]; omega
              · go_wp2_with fail
                go_ret
                exact ⟨_, X2, rfl, by omega, ho6, HC6.out.mono (by omega), hgg6⟩
            · have e1 : decide ((X2.length : Int) < 40 + (q : Int)) = false := by simp; omega
              go_wp2_with fail
              go_ret
              exact ⟨_, X2, rfl, by omega, ho6, HC6.out.mono (by omega), hgg6⟩
      · go_wp2_with fail
        refine (anyTincture_any B p a n cap _ w2 HC2.out (by omega) hn).mono ?_
        rintro e w3 ⟨⟨x, rfl, hx0, hx1⟩, hc3, hg3⟩
        have ho3 := ho2.kept hg3 (HNE.out _ _ _ _ ho2)
        have HC3 := Lib.hid hc3
        have hgg3 := hgg2.trans hg3
        have hsz3 := hgg3.size
        clear hc3 hg3 ho2 HC2 hgg2
        go_wp2_with (at_builtin; refine wpList_append_own _ rfl _ _ 24 rfl w.heap.size 3 i0 (.int .i64 0) 1 8 Try.underlying24 hi hz0 hz1 hz2 rfl (by decide) _ _ _ rfl (ho3.alloc _) ⟨w3.heap.size, 0, none⟩ 1 1 [.int .i64 (x)] rfl rfl (cell_one_new _ _ _) (fun x hx => by simp at hx; subst hx; rfl) (by unfold maxLen; omega) (by omega) (by simp; omega) ?_; intro v' w9 hown' hgrow hnil)
        have ho4 := sliceR (app_one hown') rfl
        have HC4 := Lib.hid ((HC3.out.alloc _).kept hgrow (fun q hq => by have := (ho3.lt q hq).1; omega))
        have hgg4 := grownBy_own (hgg3.trans (World.grownBy_alloc _ _ _)) hgrow (fun q hq => (ho3.lt q hq).1)
        have hlx : (X ++ [x]).length = X.length + 1 := by simp
        have HLX := Lib.hid hlx
        have hsz4 := hgg4.size
        clear hlx hown' hgrow hnil HC3 ho3 hgg3 hsz3
        refine (one_any B p a n cap _ w9 HC4.out (by omega) hn 24 (by omega) (by omega)).mono ?_
        rintro e w5 ⟨⟨b2, rfl⟩, hc5, hg5⟩
        have ho5 := ho4.kept hg5 (HNE.out _ _ _ _ ho4)
        have HC5 := Lib.hid (hc5.mono (M' := M + 30) (by have := HLX.out; omega))
        have hgg5 := hgg4.trans hg5
        have hsz5 := hgg5.size
        clear hc5 hg5 ho4 HC4 hgg4
        cases b2
        · go_wp2_with fail
          go_ret
          exact ⟨_, (X ++ [x]), rfl, by have := HLX.out; omega, ho5, HC5.out.mono (by omega), hgg5⟩
        · go_wp2_with fail
          go_loopw [3, 5] (fun v i wr => ∃ (k : Nat) (X : List Int), k ≤ 42 ∧ X.length ≤ 8 + k ∧ i = .int .i64 k ∧ Hid (IsCur wr B p a n cap (M + 30 + 2 * k)) ∧ wr.ownsRow w.heap.size 3 1 v X.length (X.map (Value.int .i64)) ∧ w.grownBy wr (some p)) (fun _ i _ => 42 - (intOf i).toNat)
          case atStart => exact ⟨0, (X ++ [x]), by omega, by have := HLX.out; omega, rfl, HC5, ho5, hgg5⟩
          case round =>
            obtain ⟨k, X2, hk, hX2, rfl, HC, ho, hg⟩ := hrel
            obtain ⟨a', c', rfl, hO'⟩ := ownI_append ho
            clear hO'
            clear ho5 HC5 hgg5 hsz5
            go_wp2_with fail
            refine (pick_any B p a n cap _ _ HC.out (by omega) hn 2 (by omega) (by omega)).mono ?_
            rintro e w6 ⟨⟨r, rfl, hr0, hr1⟩, hc6, hg6⟩
            obtain ⟨q, rfl⟩ : ∃ q : Nat, r = q := ⟨r.toNat, by omega⟩
            have ho6 := ho.kept hg6 (HNE.out _ _ _ _ ho)
            have HC6 := Lib.hid (hc6.mono (M' := M + 30 + 2 * (k + 1)) (by omega))
            have hgg6 := hg.trans hg6
            have hsz6 := hgg6.size
            clear hc6 hg6 ho HC hg
            by_cases h1 : X2.length < 40 + q
            · have e1 : decide ((X2.length : Int) < 40 + (q : Int)) = true := by simp; omega
              by_cases h2 : k < 42
              · go_wp2_with (at_builtin; refine wpList_append_own _ rfl _ _ 24 rfl w.heap.size 3 i0 (.int .i64 0) 1 8 Try.underlying24 hi hz0 hz1 hz2 rfl (by decide) _ _ _ rfl (ho6.alloc _) ⟨w6.heap.size, 0, none⟩ 1 1 [.int .i64 (1 + (k : Int) % 9)] rfl rfl (cell_one_new _ _ _) (fun x hx => by simp at hx; subst hx; rfl) (by unfold maxLen; omega) (by omega) (by simp; omega) ?_; intro v' w9 hown' hgrow hnil)
                go_roundw
                case rel => exact ⟨k + 1, X2 ++ [1 + (k : Int) % 9], by omega, by simp; omega, by go_num, (HC6.out.alloc _).kept hgrow (fun q hq => by have := (ho6.lt q hq).1; omega), sliceR (app_one hown') rfl,
                  grownBy_own (hgg6.trans (World.grownBy_alloc _ _ _)) hgrow (fun q hq => (ho6.lt q hq).1)⟩
                case measure => simp [intOf]; omega
              · go_wp2_with fail
                go_ret
                exact ⟨_, X2, rfl, by omega, ho6, HC6.out.mono (by omega), hgg6⟩
            · have e1 : decide ((X2.length : Int) < 40 + (q : Int)) = false := by simp; omega
              go_wp2_with fail
              go_ret
              exact ⟨_, X2, rfl, by omega, ho6, HC6.out.mono (by omega), hgg6⟩

/-- The list that the law draws. -/
theorem drawCount_any (a : Option Addr) (n cap : Nat) (w : World) (h : RdB w w.heap.size a n) (hn : n ≤ 65536) :
    Calls Try.prog 13 #[.slice a n cap] w fun e w' => (∃ (a' : Option Addr) (N c' : Nat) (X : List Int), e = .returned (.slice a' N c') ∧ N ≤ 60 ∧ OwnI w' w.heap.size a' N c' X) ∧ Below w.heap.size w w' := by
  have hc0 := Lib.hid (isCur_new cap h)
  clear h
  go_enter Try.func13, Try.ntmps13
  go_wp2_with fail
  refine (tinctures_any w.heap.size w.heap.size a n cap 0 _ hc0.out (by omega) hn).mono ?_
  rintro e w1 ⟨v, X, rfl, hX, ho, hc, hg⟩
  obtain ⟨a', c', rfl, hO⟩ := ownI_append ho
  rw [alloc_size] at hO
  have HO := Lib.hid (OwnI.low (B' := w.heap.size) hO (by omega))
  have HB := Lib.hid (((Below.refl w.heap.size w).alloc (Nat.le_refl _) (.cells #[.slice a n cap, .int .i64 0, .int .u64 0] 43 (0, 0))).grown hg (by rw [alloc_size]; omega) (fun q hq => by cases hq; exact Nat.le_refl _))
  clear ho hc hg hO
  go_wp2_with fail
  go_ret
  exact ⟨⟨a', X.length, c', X, rfl, hX, HO.out⟩, HB.out⟩
end Go.Proofs.Ytflfdngcgebmmaa
