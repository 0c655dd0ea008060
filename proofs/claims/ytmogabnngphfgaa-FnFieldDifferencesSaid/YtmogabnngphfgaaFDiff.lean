/- Contracts: the model's number of differences between fields, and same parts. -/
import Derived.Test.YtmogabnngphfgaaFields2
namespace Go.Proofs.Ytmogabnngphfgaa
open Go.RowKit

def fdif (d l f s d' l' f' s' : Int) : Int := (if d = d' then 0 else 1) + (if l = l' then 0 else 1) + (if tincL d f s = tincL d' f' s' then 0 else 1)
theorem fdif_eq {d l f s d' l' f' s' : Int} {r : Bool} (h : decide (tincL d f s = tincL d' f' s') = r) : fdif d l f s d' l' f' s' = (if d = d' then 0 else 1) + (if l = l' then 0 else 1) + (if r = true then 0 else 1) := by
  subst h; unfold fdif; simp
theorem box2d {w w1 : World} {o o' : Obj} {q : Nat} (hb : Below (((w.alloc o).alloc o').drewN q).heap.size (((w.alloc o).alloc o').drewN q) w1) : Below w.heap.size w w1 :=
  box2 (w := w) (o := o) (o' := o') (w1 := w1) ⟨hb.os, hb.tape, hb.output, hb.size, hb.block⟩
set_option maxHeartbeats 4000000 in
theorem l3Differences_any (d l f s d' l' f' s' : Int) (w : World) :
    Calls Try.prog 37 #[.agg #[.int .i64 d, .int .i64 l, .int .i64 f, .int .i64 s], .agg #[.int .i64 d', .int .i64 l', .int .i64 f', .int .i64 s']] w fun e w' => e = .returned (.int .i64 (fdif d l f s d' l' f' s')) ∧ Below w.heap.size w w' := by
  have ca := fun W => l3Tinctures_any d l f s W
  have cb := fun W => l3Tinctures_any d' l' f' s' W
  obtain ⟨r, hr⟩ : ∃ r, decide (tincL d f s = tincL d' f' s') = r := ⟨_, rfl⟩
  rw [fdif_eq hr]
  have hX := tincL_len d f s
  have hY := tincL_len d' f' s'
  unfold AnsL at ca cb
  generalize tincL d f s = X at *
  generalize tincL d' f' s' = Y at *
  obtain ⟨n, hn⟩ : ∃ n, X.length = n := ⟨_, rfl⟩
  obtain ⟨m, hm⟩ : ∃ m, Y.length = m := ⟨_, rfl⟩
  rw [hn] at ca hX
  rw [hm] at cb hY
  have CA := Lib.hid ca
  have CB := Lib.hid cb
  have HR := Lib.hid hr
  clear ca cb hn hm hr
  by_cases h1 : d = d'
  · have e1 : (d != d') = false := by rw [h1]; simp
    by_cases h2 : l = l'
    · have e2 : (l != l') = false := by rw [h2]; simp
      rw [if_pos h1, if_pos h2]
      clear h1 h2
      go_enter Try.func37, Try.ntmps37
      go_wp2_with fail
      go_region_with (first
        | (go_at_call 39; (with_reducible refine (CA.out _).mono ?_); rintro e w1 ⟨xa, ka, rfl, hoa, hba⟩; obtain ⟨hc, hf⟩ := bcell hba)
        | (go_at_call 39; (with_reducible refine (CB.out _).mono ?_); rintro e w2 ⟨xb, kb, rfl, hob, hbb⟩)
        | (go_at_call 50; refine (l1Same_any X Y n m _ _ _ _ _ (hoa.rd.below hbb) hob.rd (by omega) (by omega) r HR.out).mono ?_; rintro e w3 ⟨rfl, q, rfl⟩))
      all_goals
        have hA : Below w.heap.size w w1 := by first | exact box2 hba | exact box2d hba
        have hB : Below w1.heap.size w1 w2 := ⟨hbb.os, hbb.tape, hbb.output, hbb.size, hbb.block⟩
        have B := Lib.hid (below_drewN' (hA.trans (hB.mono hA.size)) q)
        clear hA hB
        clear hc hf hba hbb hoa hob
        cases r
        all_goals
          go_wp2_with fail
          go_ret
          exact ⟨by simp, B.out⟩
    · have e2 : (l != l') = true := by rw [bne_iff_ne]; exact h2
      rw [if_pos h1, if_neg h2]
      clear h1 h2
      go_enter Try.func37, Try.ntmps37
      go_wp2_with fail
      go_region_with (first
        | (go_at_call 39; (with_reducible refine (CA.out _).mono ?_); rintro e w1 ⟨xa, ka, rfl, hoa, hba⟩; obtain ⟨hc, hf⟩ := bcell hba)
        | (go_at_call 39; (with_reducible refine (CB.out _).mono ?_); rintro e w2 ⟨xb, kb, rfl, hob, hbb⟩)
        | (go_at_call 50; refine (l1Same_any X Y n m _ _ _ _ _ (hoa.rd.below hbb) hob.rd (by omega) (by omega) r HR.out).mono ?_; rintro e w3 ⟨rfl, q, rfl⟩))
      all_goals
        have hA : Below w.heap.size w w1 := by first | exact box2 hba | exact box2d hba
        have hB : Below w1.heap.size w1 w2 := ⟨hbb.os, hbb.tape, hbb.output, hbb.size, hbb.block⟩
        have B := Lib.hid (below_drewN' (hA.trans (hB.mono hA.size)) q)
        clear hA hB
        clear hc hf hba hbb hoa hob
        cases r
        all_goals
          go_wp2_with fail
          go_ret
          exact ⟨by simp, B.out⟩
  · have e1 : (d != d') = true := by rw [bne_iff_ne]; exact h1
    by_cases h2 : l = l'
    · have e2 : (l != l') = false := by rw [h2]; simp
      rw [if_neg h1, if_pos h2]
      clear h1 h2
      go_enter Try.func37, Try.ntmps37
      go_wp2_with fail
      go_region_with (first
        | (go_at_call 39; (with_reducible refine (CA.out _).mono ?_); rintro e w1 ⟨xa, ka, rfl, hoa, hba⟩; obtain ⟨hc, hf⟩ := bcell hba)
        | (go_at_call 39; (with_reducible refine (CB.out _).mono ?_); rintro e w2 ⟨xb, kb, rfl, hob, hbb⟩)
        | (go_at_call 50; refine (l1Same_any X Y n m _ _ _ _ _ (hoa.rd.below hbb) hob.rd (by omega) (by omega) r HR.out).mono ?_; rintro e w3 ⟨rfl, q, rfl⟩))
      all_goals
        have hA : Below w.heap.size w w1 := by first | exact box2 hba | exact box2d hba
        have hB : Below w1.heap.size w1 w2 := ⟨hbb.os, hbb.tape, hbb.output, hbb.size, hbb.block⟩
        have B := Lib.hid (below_drewN' (hA.trans (hB.mono hA.size)) q)
        clear hA hB
        clear hc hf hba hbb hoa hob
        cases r
        all_goals
          go_wp2_with fail
          go_ret
          exact ⟨by simp, B.out⟩
    · have e2 : (l != l') = true := by rw [bne_iff_ne]; exact h2
      rw [if_neg h1, if_neg h2]
      clear h1 h2
      go_enter Try.func37, Try.ntmps37
      go_wp2_with fail
      go_region_with (first
        | (go_at_call 39; (with_reducible refine (CA.out _).mono ?_); rintro e w1 ⟨xa, ka, rfl, hoa, hba⟩; obtain ⟨hc, hf⟩ := bcell hba)
        | (go_at_call 39; (with_reducible refine (CB.out _).mono ?_); rintro e w2 ⟨xb, kb, rfl, hob, hbb⟩)
        | (go_at_call 50; refine (l1Same_any X Y n m _ _ _ _ _ (hoa.rd.below hbb) hob.rd (by omega) (by omega) r HR.out).mono ?_; rintro e w3 ⟨rfl, q, rfl⟩))
      all_goals
        have hA : Below w.heap.size w w1 := by first | exact box2 hba | exact box2d hba
        have hB : Below w1.heap.size w1 w2 := ⟨hbb.os, hbb.tape, hbb.output, hbb.size, hbb.block⟩
        have B := Lib.hid (below_drewN' (hA.trans (hB.mono hA.size)) q)
        clear hA hB
        clear hc hf hba hbb hoa hob
        cases r
        all_goals
          go_wp2_with fail
          go_ret
          exact ⟨by simp, B.out⟩
end Go.Proofs.Ytmogabnngphfgaa
