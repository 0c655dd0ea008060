/- Contract: the draw of JoinStrings: a slice of the call's own and a separator. -/
import Derived.Test.YtacpacllpjddlaaDraw
import Derived.Test.YtacpacllpjddlaaZeros
import Derived.Test.YtacpacllpjddlaaSplit
import Derived.Test.YtacpacllpjddlaaSplitGo
namespace Go.Proofs.Ytacpacllpjddlaa
open Go.RowKit

set_option maxHeartbeats 1000000 in
theorem drawJoin_any (a : Option Addr) (n cap : Nat) (w : World) (h : RdB w w.heap.size a n) (hn : n ≤ 65536) :
    Calls Try.prog 11 #[.slice a n cap] w fun e w' => (∃ (v : Value) (t : ByteArray) (X : List ByteArray), e = .returned (.tuple #[v, .string t]) ∧ t.size ≤ 2 ∧ X.length ≤ 5 ∧ (∀ x ∈ X, x.size ≤ 4010) ∧ w'.ownsRow w.heap.size 9 1 v X.length (X.map Value.string)) ∧ Below w.heap.size w w' := by
  have hc0 := Lib.hid (isCur_new cap h)
  clear h
  obtain ⟨i0, hi, hz0, hz1, hz2⟩ := info_parts infoS
  go_enter Try.func11, Try.ntmps11
  go_wp2_with fail
  refine (pick_any w.heap.size w.heap.size a n cap 0 _ (hc0.out.alloc _) (by omega) hn 4 (by omega) (by omega)).mono ?_
  rintro e w1 ⟨⟨r, rfl, hr0, hr1⟩, hc1, hg1⟩
  have hb1 := (((Below.refl w.heap.size w).alloc (Nat.le_refl _) (.cells #[.slice a n cap, .int .i64 0, .int .u64 0] 44 (0, 0))).alloc (by rw [alloc_size]; omega) (.cells #[] 9 (0, 0))).grown hg1 (by rw [alloc_size, alloc_size]; omega) (by simp)
  have h0 : ((w.alloc (.cells #[.slice a n cap, .int .i64 0, .int .u64 0] 44 (0, 0))).alloc (.cells #[] 9 (0, 0))).ownsRow (w.heap.size + 1) 9 1 (.slice (some ⟨(w.alloc (.cells #[.slice a n cap, .int .i64 0, .int .u64 0] 44 (0, 0))).heap.size, 0, none⟩) 0 0) 0 [] :=
    World.ownsRow_lit _ #[] 0 (by rw [alloc_size]; omega) (by unfold maxLen; omega) rfl
  rw [alloc_size] at h0
  have hown1 := h0.kept hg1 (.inr (by simp [Value.ownBlock]))
  clear h0
  clear hc0 hg1
  go_wp2_with fail
  go_loopw [5, 7] (fun v i wr => ∃ (k : Nat) (X : List ByteArray), (k : Int) ≤ r ∧ i = .int .i64 k ∧ X.length = k ∧ Hid (∀ x ∈ X, x.size ≤ 10) ∧ Hid (IsCur wr w.heap.size w.heap.size a n cap (2 + 2 * k)) ∧
      wr.ownsRow (w.heap.size + 1) 9 1 v k (X.map Value.string) ∧ Below w.heap.size w wr) (fun _ i _ => r.toNat - (intOf i).toNat)
  case atStart => exact ⟨0, [], by omega, rfl, rfl, by show ∀ _, _; simp, hc1, hown1, hb1⟩
  case round =>
    obtain ⟨k, X, hk, rfl, hX, HX, HC, hown, hbel⟩ := hrel
    have hne : ∀ {v : Value} {W : World} {m : Nat} {xs : List Value}, W.ownsRow (w.heap.size + 1) 9 1 v m xs → v.ownBlock = none ∨ v.ownBlock ≠ some w.heap.size := fun {v W m xs} h => by
      cases hq : v.ownBlock with
      | none => exact .inl rfl
      | some q => exact .inr (by intro e; have := (h.lt q hq).1; simp at e; omega)
    by_cases hlt : (k : Int) < r
    · go_wp2_with fail
      refine (any1_any w.heap.size w.heap.size a n cap _ wr HC.out (by omega) hn).mono ?_
      rintro e w2 ⟨⟨s, rfl, hs⟩, hc2, hg2⟩
      have HC2 := Lib.hid hc2
      have hown2 := hown.kept hg2 (hne hown)
      have hb2 := hbel.grown hg2 hbel.size (by simp)
      have hsz2 := HC2.out.lt
      clear hc2 hg2 hown hbel HC hne
      go_wp2_with (at_builtin; refine wpList_append_own _ rfl _ _ 26 rfl (w.heap.size + 1) 9 i0 (.string ByteArray.empty) 1 16 Try.underlying26 hi hz0 hz1 hz2 rfl (by decide) _ _ _ rfl (hown2.alloc _) ⟨w2.heap.size, 0, none⟩ 1 1 [.string s] rfl rfl (cell_one_new _ _ _) (fun x hx => by simp at hx; subst hx; rfl) (by unfold maxLen; omega) (by omega) (by simp; omega) ?_; intro v' w3 hown' hgrow hnil)
      go_roundw
      case rel => exact ⟨k + 1, X ++ [s], by omega, by go_num, by simp; omega, by show ∀ _, _; intro x hx; rcases List.mem_append.1 hx with hx | hx; · exact HX.out x hx
                                                                                  · simp at hx; rw [hx]; omega, (HC2.out.alloc _).kept hgrow (fun q hq => by have := (hown2.lt q hq).1; omega), by simpa using hown', (hb2.alloc hb2.size _).grown hgrow (by rw [alloc_size]; have := hb2.size; omega) (fun q hq => by have := (hown2.lt q hq).1; omega)⟩
      case measure => simp [intOf]; omega
    · go_wp2_with fail
      refine (one_any w.heap.size w.heap.size a n cap _ wr HC.out (by omega) hn 20 (by omega) (by omega)).mono ?_
      rintro e w2 ⟨⟨b, rfl⟩, hc2, hg2⟩
      have HC2 := Lib.hid hc2
      have hown2 := hown.kept hg2 (hne hown)
      have hb2 := hbel.grown hg2 hbel.size (by simp)
      clear hc2 hg2 hown hbel HC hc1 hown1 hb1
      cases b
      · go_wp2_with fail
        refine (of_any w.heap.size w.heap.size a n cap _ _ (HC2.out.alloc _) (by omega) hn w2.heap.size 5 5 2 (by omega) (by omega) (shortRow_alloc _ _ _ _ 5 rfl (by decide)) (by have := HC2.out.lt; omega) (by rw [alloc_size]; omega)).mono ?_
        rintro e w4 ⟨⟨t, rfl, ht⟩, hc, hg⟩
        have hb4 := (hb2.alloc hb2.size _).grown hg (by rw [alloc_size]; have := hb2.size; omega) (by simp)
        have hown4 := (hown2.alloc _).kept hg (hne hown2)
        clear hc hg hne hown2
        go_wp2_with fail
        go_ret2
        subst hX
        exact ⟨⟨_, t, X, rfl, ht, by omega, fun x hx => by have := HX.out x hx; omega, ownsRow_low hown4 (by omega)⟩, hb4⟩
      · go_wp2_with fail
        refine (pick_any w.heap.size w.heap.size a n cap _ w2 HC2.out (by omega) hn 20 (by omega) (by omega)).mono ?_
        rintro e w4 ⟨⟨q, rfl, hq0, hq1⟩, hc4, hg4⟩
        obtain ⟨q, rfl⟩ : ∃ j : Nat, q = j := ⟨q.toNat, by omega⟩
        have HC4 := Lib.hid hc4
        have hown4 := hown2.kept hg4 (hne hown2)
        have hb4 := hb2.grown hg4 hb2.size (by simp)
        obtain ⟨i1, ki, kz0, kz1, kz2⟩ := info_parts infoU
        clear hc4 hg4 hown2 HC2 hb2
        go_wp2_with (at_make; refine wpList_make_full _ rfl _ _ 22 rfl w4.heap.size 5 i1 (.int .u8 0) 1 Try.underlying22 ki kz0 kz1 .i64 .i64 (3990 + (q : Int)) (3990 + (q : Int)) (3990 + q) rfl rfl (by omega) (by omega) (by rw [kz2]; omega) (by unfold maxLen; omega) (Nat.le_refl _) ?_; intro w5 hown5 hgr5)
        obtain ⟨s, hsz, hcv⟩ := conv_zeros hown5
        simp only [hcv]
        have hownz := hown4.kept hgr5 (by cases hv : u5.ownBlock <;> simp)
        have HC5 := Lib.hid (HC4.out.kept hgr5 (by simp))
        have hb5 := hb4.grown hgr5 hb4.size (by simp)
        have hsz5 := HC5.out.lt
        have HNE := Lib.hid (fun (v : Value) (W : World) (m : Nat) (xs : List Value) (h : W.ownsRow (w.heap.size + 1) 9 1 v m xs) => hne h)
        clear hown5 hcv ki kz0 kz1 kz2 hgr5 hown4 HC4 hb4 hne
        go_wp2_with (at_builtin; refine wpList_append_own _ rfl _ _ 26 rfl (w.heap.size + 1) 9 i0 (.string ByteArray.empty) 1 16 Try.underlying26 hi hz0 hz1 hz2 rfl (by decide) _ _ _ rfl (hownz.alloc _) ⟨w5.heap.size, 0, none⟩ 1 1 [.string s] rfl rfl (cell_one_new _ _ _) (fun x hx => by simp at hx; subst hx; rfl) (by unfold maxLen; omega) (by omega) (by simp; omega) ?_; intro v' w6 hown' hgrow hnil)
        have HC6 := Lib.hid ((HC5.out.alloc _).kept hgrow (fun q hq => by have := (hownz.lt q hq).1; omega))
        have hb6 := (hb5.alloc hb5.size _).grown hgrow (by rw [alloc_size]; have := hb5.size; omega) (fun q hq => by have := (hownz.lt q hq).1; omega)
        clear hgrow HC5 hb5 hownz
        refine (of_any w.heap.size w.heap.size a n cap _ _ (HC6.out.alloc _) (by omega) hn w6.heap.size 5 5 2 (by omega) (by omega) (shortRow_alloc _ _ _ _ 5 rfl (by decide)) (by have := HC6.out.lt; omega) (by rw [alloc_size]; omega)).mono ?_
        rintro e w7 ⟨⟨t, rfl, ht⟩, hc, hg⟩
        have hb7 := (hb6.alloc hb6.size _).grown hg (by rw [alloc_size]; have := hb6.size; omega) (by simp)
        have hown7 := (hown'.alloc _).kept hg (HNE.out _ _ _ _ hown')
        clear hc hg
        go_wp2_with fail
        go_ret2
        subst hX
        exact ⟨⟨_, t, X ++ [s], rfl, ht, by simp; omega, fun x hx => by
          rcases List.mem_append.1 hx with hx | hx
          · have := HX.out x hx; omega
          · simp at hx; rw [hx]; omega, by simpa using ownsRow_low hown7 (by omega)⟩, hb7⟩
end Go.Proofs.Ytacpacllpjddlaa
