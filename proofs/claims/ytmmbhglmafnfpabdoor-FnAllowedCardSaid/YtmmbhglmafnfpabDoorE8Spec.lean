/- Contracts: the model's findings, RuleFindings and KeepsRules. -/
import Derived.Test.YtmmbhglmafnfpabDoorE8Find
import Derived.Test.YtmmbhglmafnfpabDoorKE
import Derived.Deep.RegionWith
import Derived.Deep.DeepCutAuto
namespace Go.Proofs.YtmmbhglmafnfpabDoor
open Go.RowKit

/-- The box of arms, a row of findings of the call's own, and all that was there. -/
def KF (w : World) (L : List Value) (v : Value) (X : List Fnd) (W : World) : Prop := BoxF W w.heap.size L 29 ∧ OwnFn W w.heap.size v X ∧ Below w.heap.size w W ∧ v.ownBlock ≠ some w.heap.size
theorem KF.below {w W W' : World} {L : List Value} {v : Value} {X : List Fnd} (h : KF w L v X W) (hb : Below W.heap.size W W') : KF w L v X W' := ⟨h.1.below hb, h.2.1.below hb, h.2.2.1.trans (hb.mono h.2.2.1.size), h.2.2.2⟩
theorem KF.app {w W W' : World} {L : List Value} {v v' : Value} {X Y : List Fnd} {F : Fnd} {n : Nat} {o : Obj} (h : KF w L v X W) (hg : (W.alloc o).grownBy W' v.ownBlock) (ho : W'.ownsRow w.heap.size 40 3 v' n (fcells X ++ [.int .i64 F.p, .int .i64 F.u, .int .i64 F.l])) (e : Y = X ++ [F]) (hn : n = X.length + 1) (hat : v'.ownBlock = v.ownBlock ∨ v'.ownBlock = some (W.alloc o).heap.size) : KF w L v' Y W' := by
  have hs := h.2.2.1.size
  have hl := h.1.lt
  refine ⟨(h.1.alloc o).kept hg (fun e => h.2.2.2 e.symm), app_fnd ho e hn, (h.2.2.1.alloc hs _).grown hg (by simp; omega) (fun q hq => (World.ownsRow.lt h.2.1 q hq).1), ?_⟩
  rcases hat with e1 | e1
  · rw [e1]; exact h.2.2.2
  · rw [e1]; simp; omega
set_option linter.unusedSimpArgs false in
set_option maxRecDepth 100000 in
set_option maxHeartbeats 8000000 in
theorem l8Findings_walk (d l f s o n x c k a t c' k' a' t' : Int) (w : World) (b : Nat → Bool) (T lo : Nat → Int) (h0 : T 0 = x ∧ T 1 = t ∧ T 2 = t' ∧ lo 0 = f ∧ lo 1 = x ∧ lo 2 = f)
    (q0 g1 g2 : Bool) (e0 : (o != 0) = q0) (e1 : gNoB c k a t = g1) (e2 : gNoB c' k' a' t' = g2) (hb : b 0 = (q0 && onL x (tincL d f s)) ∧ b 1 = (!g1 && clashB t x) ∧ b 2 = (!g2 && onL t' (tincL d f s))) :
    Calls Tryd.prog 48 #[.agg #[.int .i64 d, .int .i64 l, .int .i64 f, .int .i64 s, .int .i64 o, .int .i64 n, .int .i64 x, .int .i64 c, .int .i64 k, .int .i64 a, .int .i64 t, .int .i64 c', .int .i64 k', .int .i64 a', .int .i64 t']] w fun e w' => ∃ v, e = .returned v ∧ OwnFn w' w.heap.size v (FL b T lo 3) ∧ Below w.heap.size w w' := by
  obtain ⟨i0, hi, hz0, hz1, hz2⟩ := info_parts infoFn
  obtain ⟨p0, f0⟩ : ∃ p, onL x (tincL d f s) = p := ⟨_, rfl⟩
  obtain ⟨p1, f1⟩ : ∃ p, clashB t x = p := ⟨_, rfl⟩
  obtain ⟨p2, f2⟩ : ∃ p, onL t' (tincL d f s) = p := ⟨_, rfl⟩
  have C0 := Lib.hid (fun W => l8OnField_any d l f s x W)
  have C2 := Lib.hid (fun W => l8OnField_any d l f s t' W)
  have C1 := Lib.hid (fun W => l2Clash_any t x W)
  have N1 := Lib.hid (fun W => l4None_any c k a t W g1 e1)
  have N2 := Lib.hid (fun W => l4None_any c' k' a' t' W g2 e2)
  rw [f0] at C0 hb
  rw [f1] at C1 hb
  rw [f2] at C2 hb
  obtain ⟨t0, t1, t2, l0, l1, l2⟩ := h0
  obtain ⟨X1, hX1⟩ : ∃ X, FL b T lo 1 = X := ⟨_, rfl⟩
  obtain ⟨X2, hX2⟩ : ∃ X, FL b T lo 2 = X := ⟨_, rfl⟩
  obtain ⟨X3, hX3⟩ : ∃ X, FL b T lo 3 = X := ⟨_, rfl⟩
  rw [hX3]
  have H1 := Lib.hid (show X1 = if (q0 && p0) = true then [] ++ [⟨1, x, f⟩] else [] by rw [← hX1, FL, hb.1, t0, l0]; rfl)
  have H2 := Lib.hid (show X2 = if (!g1 && p1) = true then X1 ++ [⟨2, t, x⟩] else X1 by rw [← hX2, FL, hb.2.1, t1, l1, hX1]; rfl)
  have H3 := Lib.hid (show X3 = if (!g2 && p2) = true then X2 ++ [⟨3, t', f⟩] else X2 by rw [← hX3, FL, hb.2.2, t2, l2, hX2]; rfl)
  have len1 : X1.length ≤ 1 := by rw [← hX1]; exact FL_len b T lo 1
  have len2 : X2.length ≤ 2 := by rw [← hX2]; exact FL_len b T lo 2
  have K0 := Lib.hid (show KF w [.int .i64 d, .int .i64 l, .int .i64 f, .int .i64 s, .int .i64 o, .int .i64 n, .int .i64 x, .int .i64 c, .int .i64 k, .int .i64 a, .int .i64 t, .int .i64 c', .int .i64 k', .int .i64 a', .int .i64 t'] (.slice (some ⟨w.heap.size + 1, 0, none⟩) 0 0) [] ((w.alloc (.cells #[.int .i64 d, .int .i64 l, .int .i64 f, .int .i64 s, .int .i64 o, .int .i64 n, .int .i64 x, .int .i64 c, .int .i64 k, .int .i64 a, .int .i64 t, .int .i64 c', .int .i64 k', .int .i64 a', .int .i64 t'] 29 (0, 0))).alloc (.cells #[] 40 (0, 0))) from
    ⟨(BoxF.new w [.int .i64 d, .int .i64 l, .int .i64 f, .int .i64 s, .int .i64 o, .int .i64 n, .int .i64 x, .int .i64 c, .int .i64 k, .int .i64 a, .int .i64 t, .int .i64 c', .int .i64 k', .int .i64 a', .int .i64 t'] 29).alloc _, by
      have h_ := World.ownsRow_lit (e := 40) (size := 3) (base := w.heap.size) (w.alloc (.cells #[.int .i64 d, .int .i64 l, .int .i64 f, .int .i64 s, .int .i64 o, .int .i64 n, .int .i64 x, .int .i64 c, .int .i64 k, .int .i64 a, .int .i64 t, .int .i64 c', .int .i64 k', .int .i64 a', .int .i64 t'] 29 (0, 0))) #[] 0 (by simp) (by unfold maxLen; omega) rfl
      rw [World.size_alloc] at h_
      exact h_, ((Below.refl _ w).alloc (Nat.le_refl _) _).alloc (by simp) _, by simp [Value.ownBlock]⟩)
  obtain ⟨r0, hr0⟩ : ∃ r, (q0 && p0) = r := ⟨_, rfl⟩
  obtain ⟨r1, hr1⟩ : ∃ r, (!g1 && p1) = r := ⟨_, rfl⟩
  obtain ⟨r2, hr2⟩ : ∃ r, (!g2 && p2) = r := ⟨_, rfl⟩
  have HR0 := Lib.hid hr0
  have HR1 := Lib.hid hr1
  have HR2 := Lib.hid hr2
  clear hr0 hr1 hr2 t0 t1 t2 l0 l1 l2 hX1 hX2 hX3 e1 e2 f0 f1 f2 hb T lo b
  go_enter Tryd.func48, Tryd.ntmps48
  go_upto_region 2 with fail
  go_cut [14] (fun sl wx => sl = .bool r0 ∧ KF w [.int .i64 d, .int .i64 l, .int .i64 f, .int .i64 s, .int .i64 o, .int .i64 n, .int .i64 x, .int .i64 c, .int .i64 k, .int .i64 a, .int .i64 t, .int .i64 c', .int .i64 k', .int .i64 a', .int .i64 t'] (.slice (some ⟨w.heap.size + 1, 0, none⟩) 0 0) [] wx)
  case first =>
    have bx := K0.out.1
    obtain ⟨x0, x1, x2, x3, x4, x5, x6, x7, x8, x9, x10, x11, x12, x13, x14, xf⟩ := bx.fifteen
    clear bx
    cases q0
    · go_wp2_with fail
      go_meet
      case rel => exact ⟨congrArg Value.bool (by have h_ := HR0.out; simpa using h_), K0.out⟩
    · go_wp2_with fail
      refine (C0.out _).mono ?_
      rintro e y1 ⟨rfl, g1⟩
      clear x0 x1 x2 x3 x4 x5 x6 x7 x8 x9 x10 x11 x12 x13 x14 xf
      have KK := K0.out.below g1
      clear g1
      go_wp2_with fail
      go_meet
      case rel => exact ⟨congrArg Value.bool (by have h_ := HR0.out; simpa using h_), KK⟩
  case rest =>
    obtain ⟨rfl, hk_⟩ := hcut
    have KB := Lib.hid hk_
    clear hk_ K0
    have HQ : Hid (X1 = if r0 = true then [] ++ [⟨1, x, f⟩] else []) := Lib.hid (by have h_ := H1.out; rw [HR0.out] at h_; exact h_)
    generalize wc = wd0 at *
    go_upto_if 14 with fail
    go_cut [3] (fun sv wx => KF w [.int .i64 d, .int .i64 l, .int .i64 f, .int .i64 s, .int .i64 o, .int .i64 n, .int .i64 x, .int .i64 c, .int .i64 k, .int .i64 a, .int .i64 t, .int .i64 c', .int .i64 k', .int .i64 a', .int .i64 t'] sv X1 wx)
    case first =>
      cases r0
      · go_wp2_with fail
        go_meet
        case rel => exact (show X1 = [] by have h_ := HQ.out; simpa using h_) ▸ KB.out
      · have bx := KB.out.1
        obtain ⟨x0, x1, x2, x3, x4, x5, x6, x7, x8, x9, x10, x11, x12, x13, x14, xf⟩ := bx.fifteen
        have bs := KB.out.2.2.1.size
        clear bx
        go_wp2_with (at_builtin; refine wpList_append_own_at _ rfl _ _ 36 rfl w.heap.size 40 i0 _ 3 24 Tryd.underlying36 hi hz0 hz1 hz2 rfl (by decide) _ _ _ rfl (World.ownsRow.alloc KB.out.2.1 _) ⟨wd0.heap.size, 0, none⟩ 1 1 [.int .i64 1, .int .i64 x, .int .i64 f] rfl rfl (cell_newF wd0 [.int .i64 1, .int .i64 x, .int .i64 f] 40) (by simp [Value.oneCell']) (by unfold maxLen; first | omega | (simp; done)) (by first | omega | (simp; done)) (by simp; omega) ?_; intro v5 w5 hown5 hgrow5 hnil5 hat5)
        go_meet
        case rel => exact KF.app (F := ⟨1, x, f⟩) KB.out hgrow5 hown5 (by have h_ := HQ.out; simpa using h_) rfl hat5
    case rest =>
      have K1 := Lib.hid hcut
      clear hcut KB
      generalize u3 = v1 at *
      generalize wc = we0 at *
      go_upto_region 4 with fail
      go_cut [35] (fun sl wx => sl = .bool r1 ∧ KF w [.int .i64 d, .int .i64 l, .int .i64 f, .int .i64 s, .int .i64 o, .int .i64 n, .int .i64 x, .int .i64 c, .int .i64 k, .int .i64 a, .int .i64 t, .int .i64 c', .int .i64 k', .int .i64 a', .int .i64 t'] v1 X1 wx)
      case first =>
        have bx := K1.out.1
        obtain ⟨x0, x1, x2, x3, x4, x5, x6, x7, x8, x9, x10, x11, x12, x13, x14, xf⟩ := bx.fifteen
        clear bx
        cases g1
        · go_wp2_with fail
          refine (N1.out _).mono ?_
          rintro e y1 ⟨rfl, ga⟩
          clear x0 x1 x2 x3 x4 x5 x6 x7 x8 x9 x10 x11 x12 x13 x14 xf
          have KK := Lib.hid (K1.out.below ga)
          clear ga
          have bx := KK.out.1
          obtain ⟨x0, x1, x2, x3, x4, x5, x6, x7, x8, x9, x10, x11, x12, x13, x14, xf⟩ := bx.fifteen
          clear bx
          go_wp2_with fail
          refine (C1.out _).mono ?_
          rintro e y2 ⟨rfl, rfl⟩
          have KL := KK.out
          clear x0 x1 x2 x3 x4 x5 x6 x7 x8 x9 x10 x11 x12 x13 x14 xf
          go_wp2_with fail
          go_meet
          case rel => exact ⟨congrArg Value.bool (by have h_ := HR1.out; simpa using h_), KL⟩
        · go_wp2_with fail
          refine (N1.out _).mono ?_
          rintro e y1 ⟨rfl, ga⟩
          clear x0 x1 x2 x3 x4 x5 x6 x7 x8 x9 x10 x11 x12 x13 x14 xf
          have KK := Lib.hid (K1.out.below ga)
          clear ga
          go_wp2_with fail
          go_meet
          case rel => exact ⟨congrArg Value.bool (by have h_ := HR1.out; simpa using h_), KK.out⟩
      case rest =>
        obtain ⟨rfl, hk_⟩ := hcut
        have KB := Lib.hid hk_
        clear hk_ K1
        have HQ : Hid (X2 = if r1 = true then X1 ++ [⟨2, t, x⟩] else X1) := Lib.hid (by have h_ := H2.out; rw [HR1.out] at h_; exact h_)
        generalize wc = wd1 at *
        go_upto_if 35 with fail
        go_cut [3] (fun sv wx => KF w [.int .i64 d, .int .i64 l, .int .i64 f, .int .i64 s, .int .i64 o, .int .i64 n, .int .i64 x, .int .i64 c, .int .i64 k, .int .i64 a, .int .i64 t, .int .i64 c', .int .i64 k', .int .i64 a', .int .i64 t'] sv X2 wx)
        case first =>
          cases r1
          · go_wp2_with fail
            go_meet
            case rel => exact (show X2 = X1 by have h_ := HQ.out; simpa using h_) ▸ KB.out
          · have bx := KB.out.1
            obtain ⟨x0, x1, x2, x3, x4, x5, x6, x7, x8, x9, x10, x11, x12, x13, x14, xf⟩ := bx.fifteen
            have bs := KB.out.2.2.1.size
            clear bx
            go_wp2_with (at_builtin; refine wpList_append_own_at _ rfl _ _ 36 rfl w.heap.size 40 i0 _ 3 24 Tryd.underlying36 hi hz0 hz1 hz2 rfl (by decide) _ _ _ rfl (World.ownsRow.alloc KB.out.2.1 _) ⟨wd1.heap.size, 0, none⟩ 1 1 [.int .i64 2, .int .i64 t, .int .i64 x] rfl rfl (cell_newF wd1 [.int .i64 2, .int .i64 t, .int .i64 x] 40) (by simp [Value.oneCell']) (by unfold maxLen; first | omega | (simp; done)) (by first | omega | (simp; done)) (by simp; omega) ?_; intro v5 w5 hown5 hgrow5 hnil5 hat5)
            go_meet
            case rel => exact KF.app (F := ⟨2, t, x⟩) KB.out hgrow5 hown5 (by have h_ := HQ.out; simpa using h_) rfl hat5
        case rest =>
          have K2 := Lib.hid hcut
          clear hcut KB
          generalize u3 = v2 at *
          generalize wc = we1 at *
          go_upto_region 6 with fail
          go_cut [56] (fun sl wx => sl = .bool r2 ∧ KF w [.int .i64 d, .int .i64 l, .int .i64 f, .int .i64 s, .int .i64 o, .int .i64 n, .int .i64 x, .int .i64 c, .int .i64 k, .int .i64 a, .int .i64 t, .int .i64 c', .int .i64 k', .int .i64 a', .int .i64 t'] v2 X2 wx)
          case first =>
            have bx := K2.out.1
            obtain ⟨x0, x1, x2, x3, x4, x5, x6, x7, x8, x9, x10, x11, x12, x13, x14, xf⟩ := bx.fifteen
            clear bx
            cases g2
            · go_wp2_with fail
              refine (N2.out _).mono ?_
              rintro e y1 ⟨rfl, ga⟩
              clear x0 x1 x2 x3 x4 x5 x6 x7 x8 x9 x10 x11 x12 x13 x14 xf
              have KK := Lib.hid (K2.out.below ga)
              clear ga
              have bx := KK.out.1
              obtain ⟨x0, x1, x2, x3, x4, x5, x6, x7, x8, x9, x10, x11, x12, x13, x14, xf⟩ := bx.fifteen
              clear bx
              go_wp2_with fail
              refine (C2.out _).mono ?_
              rintro e y2 ⟨rfl, gb⟩
              have KL := KK.out.below gb
              clear gb
              clear x0 x1 x2 x3 x4 x5 x6 x7 x8 x9 x10 x11 x12 x13 x14 xf
              go_wp2_with fail
              go_meet
              case rel => exact ⟨congrArg Value.bool (by have h_ := HR2.out; simpa using h_), KL⟩
            · go_wp2_with fail
              refine (N2.out _).mono ?_
              rintro e y1 ⟨rfl, ga⟩
              clear x0 x1 x2 x3 x4 x5 x6 x7 x8 x9 x10 x11 x12 x13 x14 xf
              have KK := Lib.hid (K2.out.below ga)
              clear ga
              go_wp2_with fail
              go_meet
              case rel => exact ⟨congrArg Value.bool (by have h_ := HR2.out; simpa using h_), KK.out⟩
          case rest =>
            obtain ⟨rfl, hk_⟩ := hcut
            have KB := Lib.hid hk_
            clear hk_ K2
            have HQ : Hid (X3 = if r2 = true then X2 ++ [⟨3, t', f⟩] else X2) := Lib.hid (by have h_ := H3.out; rw [HR2.out] at h_; exact h_)
            generalize wc = wd2 at *
            go_upto_if 56 with fail
            go_cut [3] (fun sv wx => KF w [.int .i64 d, .int .i64 l, .int .i64 f, .int .i64 s, .int .i64 o, .int .i64 n, .int .i64 x, .int .i64 c, .int .i64 k, .int .i64 a, .int .i64 t, .int .i64 c', .int .i64 k', .int .i64 a', .int .i64 t'] sv X3 wx)
            case first =>
              cases r2
              · go_wp2_with fail
                go_meet
                case rel => exact (show X3 = X2 by have h_ := HQ.out; simpa using h_) ▸ KB.out
              · have bx := KB.out.1
                obtain ⟨x0, x1, x2, x3, x4, x5, x6, x7, x8, x9, x10, x11, x12, x13, x14, xf⟩ := bx.fifteen
                have bs := KB.out.2.2.1.size
                clear bx
                go_wp2_with (at_builtin; refine wpList_append_own_at _ rfl _ _ 36 rfl w.heap.size 40 i0 _ 3 24 Tryd.underlying36 hi hz0 hz1 hz2 rfl (by decide) _ _ _ rfl (World.ownsRow.alloc KB.out.2.1 _) ⟨wd2.heap.size, 0, none⟩ 1 1 [.int .i64 3, .int .i64 t', .int .i64 f] rfl rfl (cell_newF wd2 [.int .i64 3, .int .i64 t', .int .i64 f] 40) (by simp [Value.oneCell']) (by unfold maxLen; first | omega | (simp; done)) (by first | omega | (simp; done)) (by simp; omega) ?_; intro v5 w5 hown5 hgrow5 hnil5 hat5)
                go_meet
                case rel => exact KF.app (F := ⟨3, t', f⟩) KB.out hgrow5 hown5 (by have h_ := HQ.out; simpa using h_) rfl hat5
            case rest =>
              have K3 := Lib.hid hcut
              clear hcut KB
              generalize u3 = v3 at *
              generalize wc = we2 at *
              go_wp2_with fail
              go_ret
              exact ⟨v3, rfl, K3.out.2.1, K3.out.2.2.1⟩
theorem brk_on {t d l f s : Int} (h : FOk d l f s) (ht : 1 ≤ t ∧ t ≤ 9) : brkL t (tincL d f s) = onL t (tincL d f s) := by
  unfold brkL onL tincL
  split
  · simp [clA_in ht h.2.2.1]
  · next h0 =>
    have h2 : 1 ≤ s ∧ s ≤ 9 := by rcases h.2.2.2 with q | q; exact absurd q.1 h0; exact q.2.1
    simp [clA_in ht h.2.2.1, clA_in ht h2]
theorem brk_zero (d f s : Int) : brkL 0 (tincL d f s) = false := by
  obtain ⟨L, hL⟩ := tincL_head d f s
  simp [brkL, hL, clA_zero]
theorem bks {d l f s o n x c k a t c' k' a' t' : Int} (h : aOkB d l f s o n x c k a t c' k' a' t' = true) : bk8 d f s x t t' 0 = ((o != 0) && onL x (tincL d f s)) ∧ bk8 d f s x t t' 1 = (!gNoB c k a t && clashB t x) ∧ bk8 d f s x t t' 2 = (!gNoB c' k' a' t' && onL t' (tincL d f s)) := by
  obtain ⟨hF, hA, hO⟩ := aOk_out h
  refine ⟨?_, ?_, ?_⟩
  · show brkL x (tincL d f s) = _
    rcases hO with ⟨rfl, _, rfl, _⟩ | ⟨ho, _, hx, _⟩
    · rw [brk_zero]; rfl
    · have e : (o != 0) = true := by rw [bne_iff_ne]; omega
      rw [brk_on hF hx, e]; rfl
  · show brkL t [x] = _
    have e : brkL t [x] = clA t x := by simp [brkL]
    rw [e]
    rcases hO with ⟨_, _, _, hg⟩ | ⟨_, _, hx, hg | ⟨hg, hk⟩⟩
    · obtain ⟨_, _, _, rfl⟩ := gNo_zero4 hg
      rw [clA_zero, hg]; rfl
    · obtain ⟨_, _, _, rfl⟩ := gNo_zero4 hg
      rw [clA_zero, hg]; rfl
    · rw [clA_in (gOk_out hk).2.2.1 hx, hg]; rfl
  · show brkL t' (tincL d f s) = _
    rcases hA with hg | ⟨hg, hk⟩
    · obtain ⟨_, _, _, rfl⟩ := gNo_zero4 hg
      rw [brk_zero, hg]; rfl
    · rw [brk_on hF (gOk_out hk).2.2.1, hg]; rfl
theorem l8Findings_any (d l f s o n x c k a t c' k' a' t' : Int) (w : World) (h : aOkB d l f s o n x c k a t c' k' a' t' = true) :
    Calls Tryd.prog 48 #[.agg #[.int .i64 d, .int .i64 l, .int .i64 f, .int .i64 s, .int .i64 o, .int .i64 n, .int .i64 x, .int .i64 c, .int .i64 k, .int .i64 a, .int .i64 t, .int .i64 c', .int .i64 k', .int .i64 a', .int .i64 t']] w fun e w' => ∃ v, e = .returned v ∧ OwnFn w' w.heap.size v (FA d f s x t t') ∧ Below w.heap.size w w' :=
  l8Findings_walk d l f s o n x c k a t c' k' a' t' w (bk8 d f s x t t') (tk8 x t t') (lo8 f x) ⟨rfl, rfl, rfl, rfl, rfl, rfl⟩ _ _ _ rfl rfl rfl (bks h)
set_option linter.unusedSimpArgs false in
set_option maxRecDepth 100000 in
set_option maxHeartbeats 8000000 in
theorem find_spec (d l f s o n x c k a t c' k' a' t' : Int) (w : World) (r : Bool) (hr : aOkB d l f s o n x c k a t c' k' a' t' = r) :
    Calls Tryd.prog 25 #[.agg #[.int .i64 d, .int .i64 l, .int .i64 f, .int .i64 s, .int .i64 o, .int .i64 n, .int .i64 x, .int .i64 c, .int .i64 k, .int .i64 a, .int .i64 t, .int .i64 c', .int .i64 k', .int .i64 a', .int .i64 t']] w (AnsFn w (if r = true then FA d f s x t t' else []) r) := by
  have CG := Lib.hid (fun W => l5Good_any d l f s o n x c k a t c' k' a' t' W r hr)
  have B0 := Lib.hid ((Below.refl _ w).alloc (Nat.le_refl _) (.cells #[.int .i64 d, .int .i64 l, .int .i64 f, .int .i64 s, .int .i64 o, .int .i64 n, .int .i64 x, .int .i64 c, .int .i64 k, .int .i64 a, .int .i64 t, .int .i64 c', .int .i64 k', .int .i64 a', .int .i64 t'] 29 (0, 0)))
  have X0 := Lib.hid (BoxF.new w [.int .i64 d, .int .i64 l, .int .i64 f, .int .i64 s, .int .i64 o, .int .i64 n, .int .i64 x, .int .i64 c, .int .i64 k, .int .i64 a, .int .i64 t, .int .i64 c', .int .i64 k', .int .i64 a', .int .i64 t'] 29)
  have r0 := X0.out.range
  cases r
  · clear hr
    go_enter Tryd.func25, Tryd.ntmps25
    go_wp2_with (with_reducible refine isList ?_; refine ld15 1 w.heap.size [.int .i64 d, .int .i64 l, .int .i64 f, .int .i64 s, .int .i64 o, .int .i64 n, .int .i64 x, .int .i64 c, .int .i64 k, .int .i64 a, .int .i64 t, .int .i64 c', .int .i64 k', .int .i64 a', .int .i64 t'] rfl rfl rfl rfl ?_ ?_; exact r0)
    refine (CG.out _).mono ?_
    rintro e w1 ⟨rfl, h1⟩
    have B1 := Lib.hid (B0.out.trans (h1.mono B0.out.size))
    clear h1 r0 B0 X0
    go_wp2_with fail
    go_ret2
    exact ⟨_, _, rfl, World.ownsRow_lit (e := 40) (size := 3) w1 #[] 0 B1.out.size (by unfold maxLen; omega) rfl, B1.out.alloc B1.out.size _⟩
  · have CF := Lib.hid (fun W => l8Findings_any d l f s o n x c k a t c' k' a' t' W hr)
    clear hr
    go_enter Tryd.func25, Tryd.ntmps25
    go_wp2_with (with_reducible refine isList ?_; refine ld15 1 w.heap.size [.int .i64 d, .int .i64 l, .int .i64 f, .int .i64 s, .int .i64 o, .int .i64 n, .int .i64 x, .int .i64 c, .int .i64 k, .int .i64 a, .int .i64 t, .int .i64 c', .int .i64 k', .int .i64 a', .int .i64 t'] rfl rfl rfl rfl ?_ ?_; exact r0)
    refine (CG.out _).mono ?_
    rintro e w1 ⟨rfl, h1⟩
    have B1 := Lib.hid (B0.out.trans (h1.mono B0.out.size))
    have r1 := (X0.out.below h1).range
    clear h1 r0 B0 X0
    go_wp2_with (with_reducible refine isList ?_; refine ld15 1 w.heap.size [.int .i64 d, .int .i64 l, .int .i64 f, .int .i64 s, .int .i64 o, .int .i64 n, .int .i64 x, .int .i64 c, .int .i64 k, .int .i64 a, .int .i64 t, .int .i64 c', .int .i64 k', .int .i64 a', .int .i64 t'] rfl rfl rfl rfl ?_ ?_; exact r1)
    refine (CF.out _).mono ?_
    rintro e w2 ⟨v, rfl, ho, h2⟩
    obtain ⟨a0, cap0, rfl⟩ := ho.slice
    have HO := Lib.hid (ho.low B1.out.size)
    have B2 := Lib.hid (B1.out.trans (h2.mono B1.out.size))
    clear ho h2 r1
    go_wp2_with fail
    go_ret2
    exact ⟨a0, cap0, rfl, HO.out, B2.out⟩
end Go.Proofs.YtmmbhglmafnfpabDoor
