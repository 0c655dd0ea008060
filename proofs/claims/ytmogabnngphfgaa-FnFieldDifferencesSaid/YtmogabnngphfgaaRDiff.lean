/- Contracts: the program's number of differences between two fields. -/
import Derived.Test.YtmogabnngphfgaaREq
import Derived.Test.YtmogabnngphfgaaFDMath
namespace Go.Proofs.Ytmogabnngphfgaa
open Go.RowKit

set_option maxHeartbeats 4000000 in
theorem fieldDiff_same (d l f s : Int) (w : World) (h : FOk d l f s) :
    Calls Try.prog 13 #[.agg #[.int .i64 d, .int .i64 l, .int .i64 f, .int .i64 s], .agg #[.int .i64 d, .int .i64 l, .int .i64 f, .int .i64 s]] w fun e w' => e = .returned (.tuple #[.int .i64 0, .bool true]) ∧ Below w.heap.size w w' := by
  have ca := fun W => fieldTinctures_impl d l f s W h
  clear h
  have CA := Lib.hid ca
  clear ca
  go_enter Try.func13, Try.ntmps13
  go_wp2_with fail
  refine (CA.out _).mono ?_
  rintro e w1 ⟨xa, ka, rfl, hoa, hba⟩
  have Y1 := (Box.new (w.alloc (.cells #[.int .i64 d, .int .i64 l, .int .i64 f, .int .i64 s] 25 (0, 0))) [.int .i64 d, .int .i64 l, .int .i64 f, .int .i64 s] 25).below hba
  have X1 := ((Box.new w [.int .i64 d, .int .i64 l, .int .i64 f, .int .i64 s] 25).alloc _).below hba
  simp only [World.size_alloc] at Y1
  have y0 := Y1.2 0 _ rfl
  have y1 := Y1.2 1 _ rfl
  have y2 := Y1.2 2 _ rfl
  have y3 := Y1.2 3 _ rfl
  have B1 := Lib.hid (box2 hba)
  have HX := Lib.hid X1
  have HY := Lib.hid Y1
  clear hoa hba X1 Y1
  go_wp2_with fail
  refine (CA.out _).mono ?_
  rintro e w2 ⟨xb, kb, rfl, hob, hbb⟩
  have X2 := HX.out.below hbb
  have Y2 := HY.out.below hbb
  have B2 := Lib.hid (B1.out.trans (hbb.mono B1.out.size))
  clear y0 y1 y2 y3 HX HY B1 hob hbb
  have x0 := X2.2 0 _ rfl
  have x1 := X2.2 1 _ rfl
  have x2 := X2.2 2 _ rfl
  have x3 := X2.2 3 _ rfl
  have y0 := Y2.2 0 _ rfl
  have y1 := Y2.2 1 _ rfl
  have y2 := Y2.2 2 _ rfl
  have y3 := Y2.2 3 _ rfl
  clear X2 Y2
  go_wp2_with fail
  go_ret2
  exact ⟨rfl, B2.out⟩
set_option maxHeartbeats 8000000 in
theorem fieldDiff_other (d l f s d' l' f' s' : Int) (w : World) (h : FOk d l f s) (h' : FOk d' l' f' s') (hne : ¬ (d = d' ∧ l = l' ∧ f = f' ∧ s = s')) :
    Calls Try.prog 13 #[.agg #[.int .i64 d, .int .i64 l, .int .i64 f, .int .i64 s], .agg #[.int .i64 d', .int .i64 l', .int .i64 f', .int .i64 s']] w fun e w' => e = .returned (.tuple #[.int .i64 (fdif d l f s d' l' f' s'), .bool true]) ∧ Below w.heap.size w w' := by
  have ca := fun W => fieldTinctures_impl d l f s W h
  have cb := fun W => fieldTinctures_impl d' l' f' s' W h'
  obtain ⟨r, hr⟩ : ∃ r, decide (tincL d f s = tincL d' f' s') = r := ⟨_, rfl⟩
  rw [fdif_eq hr]
  have hX := tincL_len d f s
  have hY := tincL_len d' f' s'
  have hX0 := tincL_pos d f s
  have hY0 := tincL_pos d' f' s'
  unfold Ans at ca cb
  clear h h'
  generalize tincL d f s = X at *
  generalize tincL d' f' s' = Y at *
  obtain ⟨n, hn⟩ : ∃ n, X.length = n := ⟨_, rfl⟩
  obtain ⟨m, hm⟩ : ∃ m, Y.length = m := ⟨_, rfl⟩
  rw [hn] at ca hX hX0
  rw [hm] at cb hY hY0
  have CA := Lib.hid ca
  have CB := Lib.hid cb
  have HR := Lib.hid hr
  clear ca cb hn hm hr
  obtain ⟨p1, e1⟩ : ∃ p, (d != d') = p := ⟨_, rfl⟩
  obtain ⟨p2, e2⟩ : ∃ p, (l != l') = p := ⟨_, rfl⟩
  have hfd : (if d = d' then (0 : Int) else 1) = if p1 = true then 1 else 0 := by rw [← e1]; by_cases h : d = d' <;> simp [h]
  have hfl : (if l = l' then (0 : Int) else 1) = if p2 = true then 1 else 0 := by rw [← e2]; by_cases h : l = l' <;> simp [h]
  rw [hfd, hfl]
  clear hfd hfl
  have NE := Lib.hid hne
  clear hne
  go_enter Try.func13, Try.ntmps13
  go_wp2_with fail
  refine (CA.out _).mono ?_
  rintro e w1 ⟨xa, ka, rfl, hoa, hba⟩
  have Y1 := (Box.new (w.alloc (.cells #[.int .i64 d, .int .i64 l, .int .i64 f, .int .i64 s] 25 (0, 0))) [.int .i64 d', .int .i64 l', .int .i64 f', .int .i64 s'] 25).below hba
  have X1 := ((Box.new w [.int .i64 d, .int .i64 l, .int .i64 f, .int .i64 s] 25).alloc (.cells #[.int .i64 d', .int .i64 l', .int .i64 f', .int .i64 s'] 25 (0, 0))).below hba
  simp only [World.size_alloc] at Y1
  have y0 := Y1.2 0 _ rfl
  have y1 := Y1.2 1 _ rfl
  have y2 := Y1.2 2 _ rfl
  have y3 := Y1.2 3 _ rfl
  have B1 := Lib.hid (box2 hba)
  have RA := Lib.hid hoa.rd
  have HX := Lib.hid X1
  have HY := Lib.hid Y1
  clear hoa hba X1 Y1
  go_wp2_with fail
  refine (CB.out _).mono ?_
  rintro e w2 ⟨xb, kb, rfl, hob, hbb⟩
  have X2 := HX.out.below hbb
  have Y2 := HY.out.below hbb
  have RA2 := Lib.hid (RA.out.below hbb)
  have RB2 := Lib.hid hob.rd
  have B2 := Lib.hid (B1.out.trans (hbb.mono B1.out.size))
  clear y0 y1 y2 y3 HX HY B1 hob hbb RA
  have x0 := X2.2 0 _ rfl
  have x1 := X2.2 1 _ rfl
  have x2 := X2.2 2 _ rfl
  have x3 := X2.2 3 _ rfl
  have y0 := Y2.2 0 _ rfl
  have y1 := Y2.2 1 _ rfl
  have y2 := Y2.2 2 _ rfl
  have y3 := Y2.2 3 _ rfl
  clear X2 Y2
  go_wp2_with (go_at_call 35; refine (sEqual_any X Y n m _ _ _ _ _ RA2.out RB2.out hX0 hY0 (by omega) (by omega) r HR.out).mono ?_; rintro e w3 ⟨rfl, q, rfl⟩)
  all_goals first
    | (exfalso; exact NE.out ⟨by assumption, by assumption, by assumption, by assumption⟩)
    | (go_ret2
       refine ⟨?_, below_drewN' B2.out q⟩
       clear CA CB HR NE RA2 RB2 B2 x0 x1 x2 x3 y0 y1 y2 y3
       cases r <;> cases p1 <;> cases p2 <;> first
         | rfl
         | contradiction
         | (exfalso; have u := ‹d = d'›; rw [u] at e1; simp at e1; done)
         | (exfalso; have u := ‹l = l'›; rw [u] at e2; simp at e2; done)
         | (rename_i u1 u2 u3 u4; first | exact absurd u1 (by decide) | exact absurd u2 (by decide) | exact absurd u3 (by decide) | exact absurd u4 (by decide)))
set_option maxHeartbeats 4000000 in
theorem fieldDiff_impl (d l f s d' l' f' s' : Int) (w : World) (h : FOk d l f s) (h' : FOk d' l' f' s') :
    Calls Try.prog 13 #[.agg #[.int .i64 d, .int .i64 l, .int .i64 f, .int .i64 s], .agg #[.int .i64 d', .int .i64 l', .int .i64 f', .int .i64 s']] w fun e w' => e = .returned (.tuple #[.int .i64 (fdif d l f s d' l' f' s'), .bool true]) ∧ Below w.heap.size w w' := by
  by_cases hq : d = d' ∧ l = l' ∧ f = f' ∧ s = s'
  · rw [(fdif_zero h h').2 hq]
    obtain ⟨rfl, rfl, rfl, rfl⟩ := hq
    exact fieldDiff_same d l f s w h
  · exact fieldDiff_other d l f s d' l' f' s' w h h' hq
theorem fieldDiff_impl_no (d l f s d' l' f' s' : Int) (w : World) (h : ¬ (FOk d l f s ∧ FOk d' l' f' s')) :
    Calls Try.prog 13 #[.agg #[.int .i64 d, .int .i64 l, .int .i64 f, .int .i64 s], .agg #[.int .i64 d', .int .i64 l', .int .i64 f', .int .i64 s']] w fun e w' => e = .returned (.tuple #[.int .i64 0, .bool false]) ∧ Below w.heap.size w w' := by
  obtain ⟨n, m, X, Y, p, q, ca, cb, hpq⟩ : ∃ (n m : Nat) (X Y : List Int) (p q : Bool), (∀ W, Calls Try.prog 19 #[.agg #[.int .i64 d, .int .i64 l, .int .i64 f, .int .i64 s]] W fun e w' => ∃ a cap, e = .returned (.tuple #[.slice a n cap, .bool p]) ∧ OwnI w' W.heap.size a n cap X ∧ Below W.heap.size W w') ∧ (∀ W, Calls Try.prog 19 #[.agg #[.int .i64 d', .int .i64 l', .int .i64 f', .int .i64 s']] W fun e w' => ∃ a cap, e = .returned (.tuple #[.slice a m cap, .bool q]) ∧ OwnI w' W.heap.size a m cap Y ∧ Below W.heap.size W w') ∧ (p && q) = false := by
    by_cases h1 : FOk d l f s
    · by_cases h2 : FOk d' l' f' s'
      · exact absurd ⟨h1, h2⟩ h
      · exact ⟨_, _, _, _, true, false, fun W => fieldTinctures_impl d l f s W h1, fun W => fieldTinctures_impl_no d' l' f' s' W h2, rfl⟩
    · by_cases h2 : FOk d' l' f' s'
      · exact ⟨_, _, _, _, false, true, fun W => fieldTinctures_impl_no d l f s W h1, fun W => fieldTinctures_impl d' l' f' s' W h2, rfl⟩
      · exact ⟨_, _, _, _, false, false, fun W => fieldTinctures_impl_no d l f s W h1, fun W => fieldTinctures_impl_no d' l' f' s' W h2, rfl⟩
  clear h
  have CA := Lib.hid ca
  have CB := Lib.hid cb
  clear ca cb
  rcases p with _ | _ <;> rcases q with _ | _
  case true.true => cases hpq
  all_goals
    clear hpq
    go_enter Try.func13, Try.ntmps13
    go_wp2_with fail
    refine (CA.out _).mono ?_
    rintro e w1 ⟨xa, ka, rfl, hoa, hba⟩
    have Y1 := (Box.new (w.alloc (.cells #[.int .i64 d, .int .i64 l, .int .i64 f, .int .i64 s] 25 (0, 0))) [.int .i64 d', .int .i64 l', .int .i64 f', .int .i64 s'] 25).below hba
    simp only [World.size_alloc] at Y1
    have y0 := Y1.2 0 _ rfl
    have y1 := Y1.2 1 _ rfl
    have y2 := Y1.2 2 _ rfl
    have y3 := Y1.2 3 _ rfl
    have B1 := Lib.hid (box2 hba)
    clear hoa hba Y1
    go_wp2_with fail
    refine (CB.out _).mono ?_
    rintro e w2 ⟨xb, kb, rfl, hob, hbb⟩
    have B2 := Lib.hid (B1.out.trans (hbb.mono B1.out.size))
    clear y0 y1 y2 y3 B1 hob hbb
    go_wp2_with fail
    go_ret2
    exact ⟨rfl, B2.out⟩
end Go.Proofs.Ytmogabnngphfgaa
