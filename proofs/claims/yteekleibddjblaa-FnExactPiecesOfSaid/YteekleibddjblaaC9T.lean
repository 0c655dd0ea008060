/- Contracts: the program's regions of parts and of ordinaries. -/
import Derived.Test.YteekleibddjblaaC9R
import Derived.Test.YteekleibddjblaaDivT
import Derived.Deep.RegionHeld3
namespace Go.Proofs.Yteekleibddjblaa
open Go.RowKit

theorem isPart_any (x : Int) (w : World) (p : Bool) (hp : decide (0 ≤ x ∧ x ≤ 1) = p) :
    Calls Try.prog 30 #[.int .i64 x] w fun e w' => e = .returned (.bool p) ∧ w = w' := by
  obtain ⟨p1, e1⟩ : ∃ p, (x == 0) = p := ⟨_, rfl⟩
  obtain ⟨p2, e2⟩ : ∃ p, (x == 1) = p := ⟨_, rfl⟩
  have hR : (p1 || p2) = p := by
    rw [← hp, ← e1, ← e2]
    by_cases h : x = 0
    · simp [h]
    · by_cases h' : x = 1
      · simp [h']
      · rw [beq_eq_false_iff_ne.2 h, beq_eq_false_iff_ne.2 h', decide_eq_false (by omega)]; rfl
  clear hp
  subst hR
  cases p1
  all_goals
    go_enter Try.func30, Try.ntmps30
    go_wp2_with fail
    go_ret
    exact ⟨by first | rfl | simp, rfl⟩
theorem isOrd_any (x : Int) (w : World) (p : Bool) (hp : decide (1 ≤ x ∧ x ≤ 7) = p) :
    Calls Try.prog 41 #[.int .i64 x] w fun e w' => e = .returned (.bool p) ∧ w = w' := by
  obtain ⟨p1, e1⟩ : ∃ p, decide (1 ≤ x) = p := ⟨_, rfl⟩
  obtain ⟨p2, e2⟩ : ∃ p, decide (x ≤ 7) = p := ⟨_, rfl⟩
  have hR : (p1 && p2) = p := by rw [← hp, ← e1, ← e2]; by_cases h : 1 ≤ x <;> by_cases h' : x ≤ 7 <;> simp [h, h']
  clear hp
  subst hR
  cases p1
  all_goals
    go_enter Try.func41, Try.ntmps41
    go_wp2_with fail
    go_ret
    exact ⟨by first | rfl | simp, rfl⟩
/-- The test of a part, as the program's closure. -/
theorem partTest (d p : Int) (bd bp x y : Nat) (w : World) (cd : w.cell? ⟨bd, 0, none⟩ = some (.int .i64 d)) (cp : w.cell? ⟨bp, 0, none⟩ = some (.int .i64 p)) (hb : bd < w.heap.size) (hb2 : bp < w.heap.size) (hx : x < 20) (hy : y < 24) (hd0 : 0 ≤ d) (hd1 : d ≤ 7) :
    Calls Try.prog 32 #[.int .i64 (x : Int), .int .i64 (y : Int), .pointer (some ⟨bd, 0, none⟩), .pointer (some ⟨bp, 0, none⟩)] w fun e w' => e = .returned (.bool (firstB d x y == (p == 0))) ∧ Below w.heap.size w w' := by
  have q_ : ∀ W W', (W.cell? ⟨bd, 0, none⟩ = some (.int .i64 d) ∧ W.cell? ⟨bp, 0, none⟩ = some (.int .i64 p) ∧ Below w.heap.size w W) → Below W.heap.size W W' → (W'.cell? ⟨bd, 0, none⟩ = some (.int .i64 d) ∧ W'.cell? ⟨bp, 0, none⟩ = some (.int .i64 p) ∧ Below w.heap.size w W') := fun W W' h hbb => by
    have hs := h.2.2.size
    exact ⟨(hbb.cell (p := ⟨bd, 0, none⟩) (Nat.lt_of_lt_of_le hb hs)).trans h.1, (hbb.cell (p := ⟨bp, 0, none⟩) (Nat.lt_of_lt_of_le hb2 hs)).trans h.2.1, h.2.2.trans (hbb.mono hs)⟩
  have CS := Lib.hid (fun W (h : W.cell? ⟨bd, 0, none⟩ = some (.int .i64 d) ∧ W.cell? ⟨bp, 0, none⟩ = some (.int .i64 p) ∧ Below w.heap.size w W) => (spotOf_any x y W hx hy).mono (fun e w' hh => And.intro hh.1 (q_ _ _ h hh.2)))
  have CF := Lib.hid (fun W (h : W.cell? ⟨bd, 0, none⟩ = some (.int .i64 d) ∧ W.cell? ⟨bp, 0, none⟩ = some (.int .i64 p) ∧ Below w.heap.size w W) => (first_impl d x y (gableZ x y) W hx hy hd0 hd1).mono (fun e w' hh => And.intro hh.1 (q_ _ _ h hh.2)))
  clear q_ hd0 hd1
  generalize firstB d x y = b at *
  generalize fallZ x y = f at *
  generalize riseZ x y = r at *
  generalize gableZ x y = g at *
  have HS0 : w.drew.cell? ⟨bd, 0, none⟩ = some (.int .i64 d) ∧ w.drew.cell? ⟨bp, 0, none⟩ = some (.int .i64 p) ∧ Below w.heap.size w w.drew := ⟨cd, cp, below_drewN' (Below.refl _ w) 1⟩
  go_enter Try.func32, Try.ntmps32
  go_wp2_with fail
  go_region_held3 (fun w' => w'.cell? ⟨bd, 0, none⟩ = some (.int .i64 d) ∧ w'.cell? ⟨bp, 0, none⟩ = some (.int .i64 p) ∧ Below w.heap.size w w')
    (first | go_keep | exact HS0 | exact ⟨h0, h1, hh⟩ | exact ⟨k0, k1, kk⟩)
    (first
      | (go_at_call 33; (with_reducible refine (CS.out _ ?_).mono ?_); (first | assumption | simp [*]); rintro e whh ⟨rfl, h0, h1, hh⟩)
      | (go_at_call 34; (with_reducible refine (CF.out _ ?_).mono ?_); (first | assumption | simp [*]); rintro e wkk ⟨rfl, k0, k1, kk⟩))
  all_goals
    rename_i hlast
    have K := Lib.hid hlast.2.2
    go_wp2_with fail
    go_ret
    exact ⟨by first | rfl | simp, K.out⟩
theorem ordTest (o : Int) (bo x y : Nat) (w : World) (cd : w.cell? ⟨bo, 0, none⟩ = some (.int .i64 o)) (hb : bo < w.heap.size) (hx : x < 20) (hy : y < 24) (ho0 : 0 ≤ o) (ho1 : o ≤ 7) :
    Calls Try.prog 42 #[.int .i64 (x : Int), .int .i64 (y : Int), .pointer (some ⟨bo, 0, none⟩)] w fun e w' => e = .returned (.bool (ordB o x y)) ∧ Below w.heap.size w w' := by
  have q_ : ∀ W W', (W.cell? ⟨bo, 0, none⟩ = some (.int .i64 o) ∧ Below w.heap.size w W) → Below W.heap.size W W' → (W'.cell? ⟨bo, 0, none⟩ = some (.int .i64 o) ∧ Below w.heap.size w W') := fun W W' h hbb => by
    have hs := h.2.size
    exact ⟨(hbb.cell (p := ⟨bo, 0, none⟩) (Nat.lt_of_lt_of_le hb hs)).trans h.1, h.2.trans (hbb.mono hs)⟩
  have CS := Lib.hid (fun W (h : W.cell? ⟨bo, 0, none⟩ = some (.int .i64 o) ∧ Below w.heap.size w W) => (spotOf_any x y W hx hy).mono (fun e w' hh => And.intro hh.1 (q_ _ _ h hh.2)))
  have CF := Lib.hid (fun W (h : W.cell? ⟨bo, 0, none⟩ = some (.int .i64 o) ∧ Below w.heap.size w W) => (ord_impl o x y W hx hy ho0 ho1).mono (fun e w' hh => And.intro hh.1 (q_ _ _ h hh.2)))
  clear q_ ho0 ho1
  generalize ordB o x y = b at *
  generalize fallZ x y = f at *
  generalize riseZ x y = r at *
  generalize gableZ x y = g at *
  have HS0 : w.drew.cell? ⟨bo, 0, none⟩ = some (.int .i64 o) ∧ Below w.heap.size w w.drew := ⟨cd, below_drewN' (Below.refl _ w) 1⟩
  go_enter Try.func42, Try.ntmps42
  go_wp2_with fail
  go_region_held3 (fun w' => w'.cell? ⟨bo, 0, none⟩ = some (.int .i64 o) ∧ Below w.heap.size w w')
    (first | go_keep | exact HS0 | exact ⟨h0, hh⟩ | exact ⟨k0, kk⟩)
    (first
      | (go_at_call 33; (with_reducible refine (CS.out _ ?_).mono ?_); (first | assumption | simp [*]); rintro e whh ⟨rfl, h0, hh⟩)
      | (go_at_call 43; (with_reducible refine (CF.out _ ?_).mono ?_); (first | assumption | simp [*]); rintro e wkk ⟨rfl, k0, kk⟩))
  all_goals
    rename_i hlast
    have K := Lib.hid hlast.2
    go_wp2_with fail
    go_ret
    exact ⟨by first | rfl | simp, K.out⟩

set_option maxRecDepth 100000 in
set_option maxHeartbeats 4000000 in
theorem part_impl (d p : Int) (w : World) (hd0 : 0 ≤ d) (hd1 : d ≤ 7) (hp0 : 0 ≤ p) (hp1 : p ≤ 1) : Calls Try.prog 8 #[.int .i64 d, .int .i64 p] w (AnsRB w (rowsOfR (regN (fun i j => (firstB d i j == (p == 0))))) 24 true) := by
  have CD := Lib.hid (fun W => isDivision_any d W true (decide_eq_true ⟨hd0, hd1⟩))
  have CP := Lib.hid (fun W => isPart_any p W true (decide_eq_true ⟨hp0, hp1⟩))
  have XD := (BoxF.new w [.int .i64 d] 3).alloc (.cells #[.int .i64 p] 3 (0, 0)) |>.alloc (.cells #[.slice none 0 0] 28 (0, 0))
  have XP := (BoxF.new (w.alloc (.cells #[.int .i64 d] 3 (0, 0))) [.int .i64 p] 3).alloc (.cells #[.slice none 0 0] 28 (0, 0))
  have X0 := Lib.hid (BoxF.new ((w.alloc (.cells #[.int .i64 d] 3 (0, 0))).alloc (.cells #[.int .i64 p] 3 (0, 0))) [.slice none 0 0] 28)
  have HB0 : Below w.heap.size w (((w.alloc (.cells #[.int .i64 d] 3 (0, 0))).alloc (.cells #[.int .i64 p] 3 (0, 0))).alloc (.cells #[.slice none 0 0] 28 (0, 0))) := (((Below.refl _ w).alloc (Nat.le_refl _) _).alloc (by simp) _).alloc (by simp; omega) _
  have HB0 := Lib.hid HB0
  simp only [World.size_alloc] at XP X0
  have c1 := XD.one.1
  have c2 := XP.one.1
  have HF : ∀ W, Below (w.heap.size + 1 + 1 + 1) (((w.alloc (.cells #[.int .i64 d] 3 (0, 0))).alloc (.cells #[.int .i64 p] 3 (0, 0))).alloc (.cells #[.slice none 0 0] 28 (0, 0))) W → ∀ x y : Nat, x < 20 → y < 24 → Calls Try.prog 32 #[.int .i64 (x : Int), .int .i64 (y : Int), .pointer (some ⟨w.heap.size, 0, none⟩), .pointer (some ⟨w.heap.size + 1, 0, none⟩)] W fun e w' => e = .returned (.bool (firstB d x y == (p == 0))) ∧ Below W.heap.size W w' := fun W hb x y hx hy => by
    have hs := hb.size
    simp only [World.size_alloc] at hs
    have hbb : Below (((w.alloc (.cells #[.int .i64 d] 3 (0, 0))).alloc (.cells #[.int .i64 p] 3 (0, 0))).alloc (.cells #[.slice none 0 0] 28 (0, 0))).heap.size (((w.alloc (.cells #[.int .i64 d] 3 (0, 0))).alloc (.cells #[.int .i64 p] 3 (0, 0))).alloc (.cells #[.slice none 0 0] 28 (0, 0))) W := by simpa only [World.size_alloc] using hb
    have y1 := (XD.below hbb)
    have y2 := (XP.below hbb)
    exact partTest d p w.heap.size (w.heap.size + 1) x y W y1.one.1 y2.one.1 y1.lt y2.lt hx hy hd0 hd1
  have HF := Lib.hid HF
  clear XD XP
  go_enter Try.func8, Try.ntmps8
  go_wp2_with fail
  refine (CD.out _).mono ?_
  rintro e w' ⟨rfl, rfl⟩
  go_wp2_with fail
  refine (CP.out _).mono ?_
  rintro e w' ⟨rfl, rfl⟩
  go_wp2_with fail
  refine (wherePart (fun i j => (firstB d i j == (p == 0))) w.heap.size (w.heap.size + 1) _ (by simpa only [World.size_alloc] using HF.out)).mono ?_
  rintro e w1 ⟨g, rfl, ho, hb1⟩
  have X1 := X0.out.below hb1
  have HB1 := HB0.out.trans (hb1.mono HB0.out.size)
  obtain ⟨c0, f0⟩ := X1.one
  have hf0 := f0 0
  have X9 := X1.set 0 (.slice (some ⟨g, 0, none⟩) 24 24)
  obtain ⟨z0, _⟩ := X9.one
  have HG := grownBy_set w1 (w.heap.size + 1 + 1) 0 (.slice (some ⟨g, 0, none⟩) 24 24)
  have hgg := (World.ownsRow.lt ho g rfl).1
  simp only [World.size_alloc] at hgg
  have HO9 := Lib.hid (OwnI.kept (OwnI.low ho (B' := w.heap.size) (by simp; omega)) HG (by right; simp [Value.ownBlock]; omega))
  have HB9 := Lib.hid (HB1.grown HG HB1.size (fun q hq => by cases hq; omega))
  clear X9 HG ho hb1 f0 X1 HB1 X0 HB0
  go_wp2_with fail
  exact bodyPost_ret (v := .tuple #[.agg #[.slice (some ⟨g, 0, none⟩) 24 24], .bool true]) (by simp [results, Try.results8, go_sem, z0]) rfl ⟨_, _, rfl, HO9.out, HB9.out⟩
theorem part_impl_no (d p : Int) (w : World) (h : ¬ ((0 ≤ d ∧ d ≤ 7) ∧ (0 ≤ p ∧ p ≤ 1))) : Calls Try.prog 8 #[.int .i64 d, .int .i64 p] w (AnsRB w [] 0 false) := by
  have c1 := ((BoxF.new w [.int .i64 d] 3).alloc (.cells #[.int .i64 p] 3 (0, 0)) |>.alloc (.cells #[.slice none 0 0] 28 (0, 0))).one.1
  have c2 := ((BoxF.new (w.alloc (.cells #[.int .i64 d] 3 (0, 0))) [.int .i64 p] 3).alloc (.cells #[.slice none 0 0] 28 (0, 0))).one.1
  have b0 := BoxF.new ((w.alloc (.cells #[.int .i64 d] 3 (0, 0))).alloc (.cells #[.int .i64 p] 3 (0, 0))) [.slice none 0 0] 28
  simp only [World.size_alloc] at c2 b0
  obtain ⟨c0, f0⟩ := b0.one
  have hf0 := f0 0
  clear b0
  by_cases hd : 0 ≤ d ∧ d ≤ 7
  · have CD := Lib.hid (fun W => isDivision_any d W true (decide_eq_true hd))
    have CQ := Lib.hid (fun W => isPart_any p W false (decide_eq_false fun q => h ⟨hd, q⟩))
    clear h hd
    go_enter Try.func8, Try.ntmps8
    go_wp2_with fail
    refine (CD.out _).mono ?_
    rintro e w' ⟨rfl, rfl⟩
    go_wp2_with fail
    refine (CQ.out _).mono ?_
    rintro e w' ⟨rfl, rfl⟩
    go_wp2_with fail
    exact bodyPost_ret (v := .tuple #[.agg #[.slice none 0 0], .bool false]) (by simp [results, Try.results8, go_sem]) rfl ⟨_, _, rfl, ownI_nil _ _, (((Below.refl _ w).alloc (Nat.le_refl _) _).alloc (by simp) _).alloc (by simp; omega) _⟩
  · have CD := Lib.hid (fun W => isDivision_any d W false (decide_eq_false hd))
    clear h hd
    go_enter Try.func8, Try.ntmps8
    go_wp2_with fail
    refine (CD.out _).mono ?_
    rintro e w' ⟨rfl, rfl⟩
    go_wp2_with fail
    exact bodyPost_ret (v := .tuple #[.agg #[.slice none 0 0], .bool false]) (by simp [results, Try.results8, go_sem]) rfl ⟨_, _, rfl, ownI_nil _ _, (((Below.refl _ w).alloc (Nat.le_refl _) _).alloc (by simp) _).alloc (by simp; omega) _⟩

set_option maxRecDepth 100000 in
set_option maxHeartbeats 4000000 in
theorem ordc_impl (o : Int) (w : World) (ho0 : 0 ≤ o) (ho1 : o ≤ 7) : Calls Try.prog 15 #[.int .i64 o] w (AnsRB w (rowsOfR (regN (fun i j => ordB o i j))) 24 true) := by
  have XD := (BoxF.new w [.int .i64 o] 3).alloc (.cells #[.slice none 0 0] 28 (0, 0))
  have X0 := Lib.hid (BoxF.new (w.alloc (.cells #[.int .i64 o] 3 (0, 0))) [.slice none 0 0] 28)
  have HB0 : Below w.heap.size w ((w.alloc (.cells #[.int .i64 o] 3 (0, 0))).alloc (.cells #[.slice none 0 0] 28 (0, 0))) := ((Below.refl _ w).alloc (Nat.le_refl _) _).alloc (by simp) _
  have HB0 := Lib.hid HB0
  simp only [World.size_alloc] at X0
  have c1 := XD.one.1
  have HF : ∀ W, Below (w.heap.size + 1 + 1) ((w.alloc (.cells #[.int .i64 o] 3 (0, 0))).alloc (.cells #[.slice none 0 0] 28 (0, 0))) W → ∀ x y : Nat, x < 20 → y < 24 → Calls Try.prog 42 #[.int .i64 (x : Int), .int .i64 (y : Int), .pointer (some ⟨w.heap.size, 0, none⟩)] W fun e w' => e = .returned (.bool (ordB o x y)) ∧ Below W.heap.size W w' := fun W hb x y hx hy => by
    have hbb : Below ((w.alloc (.cells #[.int .i64 o] 3 (0, 0))).alloc (.cells #[.slice none 0 0] 28 (0, 0))).heap.size ((w.alloc (.cells #[.int .i64 o] 3 (0, 0))).alloc (.cells #[.slice none 0 0] 28 (0, 0))) W := by simpa only [World.size_alloc] using hb
    have y1 := (XD.below hbb)
    exact ordTest o w.heap.size x y W y1.one.1 y1.lt hx hy ho0 ho1
  have HF := Lib.hid HF
  clear XD
  by_cases h0 : o = 0
  · subst h0
    go_enter Try.func15, Try.ntmps15
    go_wp2_with fail
    refine (whereOrd (fun i j => ordB 0 i j) w.heap.size _ (by simpa only [World.size_alloc] using HF.out)).mono ?_
    rintro e w1 ⟨g, rfl, ho, hb1⟩
    have X1 := X0.out.below hb1
    have HB1 := HB0.out.trans (hb1.mono HB0.out.size)
    obtain ⟨c0, f0⟩ := X1.one
    have hf0 := f0 0
    have X9 := X1.set 0 (.slice (some ⟨g, 0, none⟩) 24 24)
    obtain ⟨z0, _⟩ := X9.one
    have HG := grownBy_set w1 (w.heap.size + 1) 0 (.slice (some ⟨g, 0, none⟩) 24 24)
    have hgg := (World.ownsRow.lt ho g rfl).1
    simp only [World.size_alloc] at hgg
    have HO9 := Lib.hid (OwnI.kept (OwnI.low ho (B' := w.heap.size) (by simp; omega)) HG (by right; simp [Value.ownBlock]; omega))
    have HB9 := Lib.hid (HB1.grown HG HB1.size (fun q hq => by cases hq; omega))
    clear X9 HG ho hb1 f0 X1 HB1 X0 HB0
    go_wp2_with fail
    exact bodyPost_ret (v := .tuple #[.agg #[.slice (some ⟨g, 0, none⟩) 24 24], .bool true]) (by simp [results, Try.results15, go_sem, z0]) rfl ⟨_, _, rfl, HO9.out, HB9.out⟩
  · have e0 : (o != 0) = true := by simp [h0]
    have CD := Lib.hid (fun W => isOrd_any o W true (decide_eq_true (by omega)))
    clear h0
    go_enter Try.func15, Try.ntmps15
    go_wp2_with fail
    refine (CD.out _).mono ?_
    rintro e w' ⟨rfl, rfl⟩
    go_wp2_with fail
    refine (whereOrd (fun i j => ordB o i j) w.heap.size _ (by simpa only [World.size_alloc] using HF.out)).mono ?_
    rintro e w1 ⟨g, rfl, ho, hb1⟩
    have X1 := X0.out.below hb1
    have HB1 := HB0.out.trans (hb1.mono HB0.out.size)
    obtain ⟨c0, f0⟩ := X1.one
    have hf0 := f0 0
    have X9 := X1.set 0 (.slice (some ⟨g, 0, none⟩) 24 24)
    obtain ⟨z0, _⟩ := X9.one
    have HG := grownBy_set w1 (w.heap.size + 1) 0 (.slice (some ⟨g, 0, none⟩) 24 24)
    have hgg := (World.ownsRow.lt ho g rfl).1
    simp only [World.size_alloc] at hgg
    have HO9 := Lib.hid (OwnI.kept (OwnI.low ho (B' := w.heap.size) (by simp; omega)) HG (by right; simp [Value.ownBlock]; omega))
    have HB9 := Lib.hid (HB1.grown HG HB1.size (fun q hq => by cases hq; omega))
    clear X9 HG ho hb1 f0 X1 HB1 X0 HB0
    go_wp2_with fail
    exact bodyPost_ret (v := .tuple #[.agg #[.slice (some ⟨g, 0, none⟩) 24 24], .bool true]) (by simp [results, Try.results15, go_sem, z0]) rfl ⟨_, _, rfl, HO9.out, HB9.out⟩
theorem ordc_impl_no (o : Int) (w : World) (h : ¬ (0 ≤ o ∧ o ≤ 7)) : Calls Try.prog 15 #[.int .i64 o] w (AnsRB w [] 0 false) := by
  have c1 := ((BoxF.new w [.int .i64 o] 3).alloc (.cells #[.slice none 0 0] 28 (0, 0))).one.1
  have b0 := BoxF.new (w.alloc (.cells #[.int .i64 o] 3 (0, 0))) [.slice none 0 0] 28
  simp only [World.size_alloc] at b0
  obtain ⟨c0, f0⟩ := b0.one
  have hf0 := f0 0
  have e0 : (o != 0) = true := by simp; omega
  have CD := Lib.hid (fun W => isOrd_any o W false (decide_eq_false (by omega)))
  clear b0 h
  go_enter Try.func15, Try.ntmps15
  go_wp2_with fail
  refine (CD.out _).mono ?_
  rintro e w' ⟨rfl, rfl⟩
  go_wp2_with fail
  exact bodyPost_ret (v := .tuple #[.agg #[.slice none 0 0], .bool false]) (by simp [results, Try.results15, go_sem]) rfl ⟨_, _, rfl, ownI_nil _ _, ((Below.refl _ w).alloc (Nat.le_refl _) _).alloc (by simp) _⟩
end Go.Proofs.Yteekleibddjblaa
