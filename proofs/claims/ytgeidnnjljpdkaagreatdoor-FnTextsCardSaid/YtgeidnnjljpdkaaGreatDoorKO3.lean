/- Several small texts in one: TextsMath, DrawTexts. -/
import Derived.Test.YtgeidnnjljpdkaaGreatDoorKO2
import Derived.Test.YtgeidnnjljpdkaaGreatDoorKO1
import Derived.Test.YtgeidnnjljpdkaaGreatDoorK5
import Derived.Test.YtgeidnnjljpdkaaGreatDoorKX
import Derived.Test.YtgeidnnjljpdkaaGreatDoorK9
import Derived.Test.YtgeidnnjljpdkaaGreatDoorKY
namespace Go.Proofs.YtgeidnnjljpdkaaGreatDoor
open Go.RowKit

theorem RdB.keptT {w w' : World} {a : Option Addr} {n : Nat} (h : RdB w w.heap.size a n) (hb : Below w.heap.size w w') : RdB w' w.heap.size a n := by
  intro hn
  obtain ⟨b, o, e, hlt, hc⟩ := h hn
  refine ⟨b, o, e, hlt, fun k hk => ?_⟩
  obtain ⟨x, hx, h0, h1⟩ := hc k hk
  exact ⟨x, (hb.cell (p := ⟨b, o + k, none⟩) hlt).trans hx, h0, h1⟩
set_option maxRecDepth 100000 in
set_option maxHeartbeats 8000000 in
theorem drawWrap_any (x : Option Addr) (n cap : Nat) (w : World) (h : RdB w w.heap.size x n) (hn : n ≤ 65536) :
    Calls Tryz.prog 5 #[.slice x n cap] w fun e w' => (∃ d l f s o ln tn c k a t c' k' a' t' y : Int, e = .returned (.tuple #[.agg #[.int .i64 d, .int .i64 l, .int .i64 f, .int .i64 s, .int .i64 o, .int .i64 ln, .int .i64 tn, .int .i64 c, .int .i64 k, .int .i64 a, .int .i64 t, .int .i64 c', .int .i64 k', .int .i64 a', .int .i64 t'], .int .i64 y])) ∧ Below w.heap.size w w' := by
  have b0 := BoxF.new w [.int .i64 0, .int .i64 0, .int .i64 0, .int .i64 0, .int .i64 0, .int .i64 0, .int .i64 0, .int .i64 0, .int .i64 0, .int .i64 0, .int .i64 0, .int .i64 0, .int .i64 0, .int .i64 0, .int .i64 0] 29
  have hB0 : Below w.heap.size w (w.alloc (.cells #[.int .i64 0, .int .i64 0, .int .i64 0, .int .i64 0, .int .i64 0, .int .i64 0, .int .i64 0, .int .i64 0, .int .i64 0, .int .i64 0, .int .i64 0, .int .i64 0, .int .i64 0, .int .i64 0, .int .i64 0] 29 (0, 0))) := (Below.refl _ w).alloc (Nat.le_refl _) _
  have hc := isCur_new cap (h.on hB0)
  simp only [World.size_alloc] at hc
  have hB1 := hB0.alloc (by simp) (.cells #[.slice x n cap, .int .i64 0, .int .u64 0] 45 (0, 0))
  have hc : IsCur _ w.heap.size (w.heap.size + 1) x n cap 0 := ⟨by omega, h.keptT hB1, hc.2.2⟩
  have HC0 := Lib.hid hc
  have XR0 := Lib.hid (b0.alloc (.cells #[.slice x n cap, .int .i64 0, .int .u64 0] 45 (0, 0)))
  have HB0 := Lib.hid hB1
  clear h hc b0 hB0 hB1
  go_enter Tryz.func5, Tryz.ntmps5
  go_wp2_with fail
  refine (anyArms_any w.heap.size (w.heap.size + 1) x n cap 0 _ HC0.out (by omega) hn).mono ?_
  rintro e w1 ⟨⟨d, l, f, s, o, ln, tn, c, k, a, t, c', k', a', t', rfl⟩, hc1, hg1⟩
  have HC1 := Lib.hid hc1
  have XR1 := Lib.hid (XR0.out.kept hg1 (by first | (simp; done) | (simp; omega)))
  have HB1 := Lib.hid (HB0.out.grown hg1 (by simp; omega) (fun q hq => by cases hq; omega))
  clear hc1 hg1 HC0 XR0 HB0
  go_wp2_with fail
  refine (among_p w.heap.size (w.heap.size + 1) x n cap _ _ (HC1.out.alloc _) (by omega) hn w1.heap.size 7 7 (fun _ => True) (by omega) (by omega) (numRowP_alloc w1 #[.int .i64 12, .int .i64 20, .int .i64 30, .int .i64 80, .int .i64 11, .int .i64 81, .int .i64 16] 3 (fun _ => True) 7 rfl (by simp [isNumP])) (by have := HC1.out.lt; omega) (by rw [alloc_size]; omega)).mono ?_
  rintro e w2 ⟨⟨y, rfl, _⟩, hc2, hg2⟩
  have XR2 := (XR1.out.alloc (.cells #[.int .i64 12, .int .i64 20, .int .i64 30, .int .i64 80, .int .i64 11, .int .i64 81, .int .i64 16] 3)).kept hg2 (by first | (simp; done) | (simp; omega))
  have HB2 := Lib.hid ((HB1.out.alloc HB1.out.size _).grown hg2 (HB1.out.alloc HB1.out.size _).size (fun q hq => by cases hq; omega))
  clear hc2 hg2 HC1 XR1 HB1
  have t_ := XR2.ther (n := 15) rfl
  go_wp2_with (with_reducible refine isList ?_; (set_option maxRecDepth 100000 in refine st15 2 9 w.heap.size [.int .i64 d, .int .i64 l, .int .i64 f, .int .i64 s, .int .i64 o, .int .i64 ln, .int .i64 tn, .int .i64 c, .int .i64 k, .int .i64 a, .int .i64 t, .int .i64 c', .int .i64 k', .int .i64 a', .int .i64 t'] rfl rfl rfl rfl rfl ?_ ?_ ?_); exact t_; simp [Value.oneCell'])
  clear t_
  have g3 := setc_grown w2 w.heap.size [.int .i64 d, .int .i64 l, .int .i64 f, .int .i64 s, .int .i64 o, .int .i64 ln, .int .i64 tn, .int .i64 c, .int .i64 k, .int .i64 a, .int .i64 t, .int .i64 c', .int .i64 k', .int .i64 a', .int .i64 t']
  have BR : BoxF (w2.setCells w.heap.size 0 [.int .i64 d, .int .i64 l, .int .i64 f, .int .i64 s, .int .i64 o, .int .i64 ln, .int .i64 tn, .int .i64 c, .int .i64 k, .int .i64 a, .int .i64 t, .int .i64 c', .int .i64 k', .int .i64 a', .int .i64 t']) w.heap.size [.int .i64 d, .int .i64 l, .int .i64 f, .int .i64 s, .int .i64 o, .int .i64 ln, .int .i64 tn, .int .i64 c, .int .i64 k, .int .i64 a, .int .i64 t, .int .i64 c', .int .i64 k', .int .i64 a', .int .i64 t'] 29 := BoxF.setAll (vs := [.int .i64 d, .int .i64 l, .int .i64 f, .int .i64 s, .int .i64 o, .int .i64 ln, .int .i64 tn, .int .i64 c, .int .i64 k, .int .i64 a, .int .i64 t, .int .i64 c', .int .i64 k', .int .i64 a', .int .i64 t']) XR2
  have HB3 := HB2.out.grown g3 HB2.out.size (fun q hq => by cases hq; exact Nat.le_refl _)
  generalize w2.setCells w.heap.size 0 [.int .i64 d, .int .i64 l, .int .i64 f, .int .i64 s, .int .i64 o, .int .i64 ln, .int .i64 tn, .int .i64 c, .int .i64 k, .int .i64 a, .int .i64 t, .int .i64 c', .int .i64 k', .int .i64 a', .int .i64 t'] = WE at *
  obtain ⟨z0, z1, z2, z3, z4, z5, z6, z7, z8, z9, z10, z11, z12, z13, z14, zf⟩ := BR.fifteen
  exact bodyPost_ret (v := .tuple #[.agg #[.int .i64 d, .int .i64 l, .int .i64 f, .int .i64 s, .int .i64 o, .int .i64 ln, .int .i64 tn, .int .i64 c, .int .i64 k, .int .i64 a, .int .i64 t, .int .i64 c', .int .i64 k', .int .i64 a', .int .i64 t'], .int .i64 y]) (by simp [results, Tryz.results5, go_sem, z0, z1, z2, z3, z4, z5, z6, z7, z8, z9, z10, z11, z12, z13, z14]) rfl ⟨⟨_, _, _, _, _, _, _, _, _, _, _, _, _, _, _, _, rfl⟩, HB3⟩
theorem arms_max {d l f s o ln tn c k a t c' k' a' t' : Int} (h : aOkB d l f s o ln tn c k a t c' k' a' t' = true) : (armsN d l f s o ln tn c k a t c' k' a' t').size ≤ 240 := arms_size h
set_option maxHeartbeats 8000000 in
theorem drawParseA_any (x : Option Addr) (n cap : Nat) (w : World) (h : RdB w w.heap.size x n) (hn : n ≤ 65536) :
    Calls Tryz.prog 9 #[.slice x n cap] w fun e w' => (∃ s : ByteArray, e = .returned (.string s) ∧ s.size ≤ 300) ∧ Below w.heap.size w w' := by
  have HC0 := Lib.hid (isCur_new cap h)
  have HB0 := Lib.hid ((Below.refl w.heap.size w).alloc (Nat.le_refl _) (.cells #[.slice x n cap, .int .i64 0, .int .u64 0] 45 (0, 0)))
  clear h
  go_enter Tryz.func9, Tryz.ntmps9
  go_wp2_with fail
  refine (arms_ok w.heap.size w.heap.size x n cap 0 _ HC0.out (by omega) hn).mono ?_
  rintro e w1 ⟨⟨d, l, f, s, o, ln, tn, c, k, a, t, c', k', a', t', rfl, hV⟩, hc1, hg1⟩
  have HC1 := Lib.hid hc1
  have HB1 := Lib.hid (HB0.out.grown hg1 (by simp) (fun q hq => by cases hq; exact Nat.le_refl _))
  have hm := arms_max hV
  have ct := fun W => l6Text_any d l f s o ln tn c k a t c' k' a' t' W hV
  generalize armsN d l f s o ln tn c k a t c' k' a' t' = T at *
  have CT := Lib.hid ct
  clear hc1 hg1 HC0 HB0 hV ct
  go_wp2_with fail
  refine (CT.out _).mono ?_
  rintro e w2 ⟨rfl, h2⟩
  have hg2 : w1.grownBy w2 none := ⟨h2.os, h2.tape, h2.output, h2.size, fun i hi _ => h2.block i hi⟩
  have HC2 := Lib.hid (HC1.out.kept hg2 (fun q hq => by cases hq))
  have HB2 := Lib.hid (HB1.out.trans (h2.mono HB1.out.size))
  clear h2 hg2 HC1 HB1 CT
  go_wp2_with fail
  refine (one_any w.heap.size w.heap.size x n cap _ _ HC2.out (by omega) hn 4 (by omega) (by omega)).mono ?_
  rintro e w3 ⟨⟨b, rfl⟩, hc3, hg3⟩
  have HC3 := Lib.hid hc3
  have HB3 := Lib.hid (HB2.out.grown hg3 HB2.out.size (fun q hq => by cases hq; exact Nat.le_refl _))
  clear hc3 hg3 HC2 HB2
  cases b
  · go_wp2_with fail
    go_ret
    exact ⟨⟨_, rfl, by omega⟩, HB3.out⟩
  · go_wp2_with fail
    refine (spoilt_any w.heap.size w.heap.size x n cap _ _ HC3.out (by omega) hn T ⟨#[97, 44, 32, 115]⟩ (by omega) (by decide) (by decide)).mono ?_
    rintro e w4 ⟨⟨u, rfl, hu⟩, hc4, hg4⟩
    have HB4 := Lib.hid (HB3.out.grown hg4 HB3.out.size (fun q hq => by cases hq; exact Nat.le_refl _))
    clear hc4 hg4 HC3 HB3
    go_wp2_with fail
    go_ret
    exact ⟨⟨_, rfl, by omega⟩, HB4.out⟩
end Go.Proofs.YtgeidnnjljpdkaaGreatDoor
namespace Go.Proofs.YtgeidnnjljpdkaaGreatDoor
open Go.RowKit

/-- The lines, with spaces between them. -/
def jw (x : ByteArray) (r : List ByteArray) : ByteArray := r.foldl (fun a y => a ++ ⟨#[32]⟩ ++ y) x
def joinW : List ByteArray → ByteArray
  | [] => ⟨#[]⟩
  | x :: r => jw x r
theorem jw_app (p x : ByteArray) : ∀ (r : List ByteArray), jw (p ++ x) r = p ++ jw x r := by
  intro r
  induction r generalizing x with
  | nil => rfl
  | cons y r ih =>
    show jw (p ++ x ++ ⟨#[32]⟩ ++ y) r = p ++ jw (x ++ ⟨#[32]⟩ ++ y) r
    rw [ByteArray.append_assoc, ByteArray.append_assoc, ← ByteArray.append_assoc (a := x)]
    exact ih _
theorem jw_more (x : ByteArray) (a b : List ByteArray) : jw x (a ++ b) = jw (jw x a) b := by unfold jw; rw [List.foldl_append]
theorem joinW_snoc {l : List ByteArray} (h : l ≠ []) (x : ByteArray) : joinW (l ++ [x]) = joinW l ++ ⟨#[32]⟩ ++ x := by
  cases l with
  | nil => exact absurd rfl h
  | cons a r => show jw a (r ++ [x]) = _; rw [jw_more]; rfl
theorem joinW_merge (cur y : ByteArray) (r : List ByteArray) : ∀ done : List ByteArray, joinW (done ++ (cur ++ ⟨#[32]⟩ ++ y) :: r) = joinW (done ++ cur :: y :: r) := by
  intro done
  cases done with
  | nil => rfl
  | cons a ds =>
    show jw a (ds ++ (cur ++ ⟨#[32]⟩ ++ y) :: r) = jw a (ds ++ cur :: y :: r)
    rw [jw_more, jw_more]
    generalize jw a ds = z
    show jw (z ++ ⟨#[32]⟩ ++ (cur ++ ⟨#[32]⟩ ++ y)) r = jw (z ++ ⟨#[32]⟩ ++ cur ++ ⟨#[32]⟩ ++ y) r
    simp only [ByteArray.append_assoc]
theorem joinW_fill (wd : Int) : ∀ (r done : List ByteArray) (cur : ByteArray), joinW (fillL wd done cur r) = joinW (done ++ cur :: r)
  | [], done, cur => rfl
  | y :: r, done, cur => by
    rw [fillL]
    split
    · rw [joinW_fill wd r done _, joinW_merge]
    · rw [joinW_fill wd r _ y]; simp
theorem joinW_wrap (wd : Int) (ws : List ByteArray) : joinW (wrapL wd ws) = joinW ws := by
  cases ws with
  | nil => rfl
  | cons x r => show joinW (fillL wd [] x r) = _; rw [joinW_fill]; rfl
theorem joinW_split : ∀ (l cur : List UInt8), joinW ((splitAcc 32 cur l).map strOf) = strOf (cur ++ l) := by
  intro l
  induction l with
  | nil => intro cur; simp [splitAcc, joinW, jw]
  | cons b r ih =>
    intro cur
    rw [splitAcc]
    split
    · rename_i hb
      subst hb
      have h1 := ih []
      cases hx : splitAcc 32 [] r with
      | nil => exact absurd hx (splitAcc_ne 32 r [])
      | cons h t =>
        rw [hx] at h1
        show jw (strOf cur ++ ⟨#[32]⟩ ++ strOf h) (t.map strOf) = _
        rw [jw_app]
        have h2 : jw (strOf h) (t.map strOf) = strOf r := h1
        rw [h2, show (⟨#[32]⟩ : ByteArray) = strOf [32] by rfl, strOf_append, strOf_append]
        simp
    · rw [ih]; simp
theorem joinW_words (T : ByteArray) : joinW (wordsL T) = T := by
  unfold wordsL splitL
  rw [joinW_split]
  simp [strOf]
theorem jw_size (x : ByteArray) (r : List ByteArray) : x.size ≤ (jw x r).size ∧ ∀ y ∈ r, y.size ≤ (jw x r).size := by
  induction r generalizing x with
  | nil => exact ⟨Nat.le_refl _, fun y h => by cases h⟩
  | cons z r ih =>
    have h1 := ih (x ++ ⟨#[32]⟩ ++ z)
    have e : jw x (z :: r) = jw (x ++ ⟨#[32]⟩ ++ z) r := rfl
    rw [e]
    simp only [ByteArray.size_append] at h1
    refine ⟨by omega, fun y hy => ?_⟩
    rcases List.mem_cons.1 hy with rfl | hy
    · omega
    · exact h1.2 y hy
theorem joinW_take (X : List ByteArray) (k : Nat) : (joinW (X.take k)).size ≤ (joinW X).size := by
  cases X with
  | nil => simp
  | cons x r =>
    cases k with
    | zero => simp [joinW]; exact Nat.zero_le _
    | succ k =>
      show (jw x (r.take k)).size ≤ (jw x r).size
      have e : jw x r = jw (jw x (r.take k)) (r.drop k) := by rw [← jw_more, List.take_append_drop]
      rw [e]
      exact (jw_size _ _).1
theorem joinW_elem (X : List ByteArray) (y : ByteArray) (h : y ∈ X) : y.size ≤ (joinW X).size := by
  cases X with
  | nil => cases h
  | cons x r =>
    rcases List.mem_cons.1 h with rfl | h
    · exact (jw_size _ r).1
    · exact (jw_size x r).2 y h
theorem joinW_step (X : List ByteArray) {k : Nat} (h : k < X.length) : joinW (X.take (k + 1)) = if k = 0 then X[k] else joinW (X.take k) ++ ⟨#[32]⟩ ++ X[k] := by
  rw [List.take_succ_eq_append_getElem h]
  split
  · rename_i h0; subst h0; rfl
  · rename_i h0
    exact joinW_snoc (fun e => by have h1 : (X.take k).length = k := by { rw [List.length_take]; omega }; rw [e] at h1; simp at h1; omega) _
theorem text_answers (d l f s o ln tn c k a t c' k' a' t' wd : Int) : ∃ (s0 : ByteArray) (ok : Bool) (b0 b1 b2 b3 b4 b5 b6 b7 b8 b9 b10 b11 b12 b13 b14 : Int) (fine : Bool) (X : List ByteArray) (known : Bool),
    (∀ W, STabs W → Calls Tryz.prog 6 #[.agg #[.int .i64 d, .int .i64 l, .int .i64 f, .int .i64 s, .int .i64 o, .int .i64 ln, .int .i64 tn, .int .i64 c, .int .i64 k, .int .i64 a, .int .i64 t, .int .i64 c', .int .i64 k', .int .i64 a', .int .i64 t']] W fun e w' => e = .returned (.tuple #[.string s0, .bool ok]) ∧ Below W.heap.size W w') ∧
    (∀ W, STabs W → MaxLenAt W → Calls Tryz.prog 7 #[.string s0] W (AnsA W b0 b1 b2 b3 b4 b5 b6 b7 b8 b9 b10 b11 b12 b13 b14 fine)) ∧
    (∀ W, Calls Tryz.prog 8 #[.agg #[.int .i64 d, .int .i64 l, .int .i64 f, .int .i64 s, .int .i64 o, .int .i64 ln, .int .i64 tn, .int .i64 c, .int .i64 k, .int .i64 a, .int .i64 t, .int .i64 c', .int .i64 k', .int .i64 a', .int .i64 t']] W fun e w' => e = .returned (.bool ok) ∧ Below W.heap.size W w') ∧
    (∀ W, STabs W → MaxLenAt W → Calls Tryz.prog 10 #[.agg #[.int .i64 d, .int .i64 l, .int .i64 f, .int .i64 s, .int .i64 o, .int .i64 ln, .int .i64 tn, .int .i64 c, .int .i64 k, .int .i64 a, .int .i64 t, .int .i64 c', .int .i64 k', .int .i64 a', .int .i64 t'], .int .i64 wd] W (AnsT W X known)) ∧
    (∀ W, Calls Tryz.prog 11 #[.agg #[.int .i64 d, .int .i64 l, .int .i64 f, .int .i64 s, .int .i64 o, .int .i64 ln, .int .i64 tn, .int .i64 c, .int .i64 k, .int .i64 a, .int .i64 t, .int .i64 c', .int .i64 k', .int .i64 a', .int .i64 t'], .int .i64 wd] W (AnsT W X known)) ∧ X.length ≤ 1000 ∧ (joinW X).size ≤ 1000 ∧
    ((ok = false ∧ known = false ∧ X = []) ∨ (ok = true ∧ fine = true ∧ (d = b0 ∧ l = b1 ∧ f = b2 ∧ s = b3 ∧ o = b4 ∧ ln = b5 ∧ tn = b6 ∧ c = b7 ∧ k = b8 ∧ a = b9 ∧ t = b10 ∧ c' = b11 ∧ k' = b12 ∧ a' = b13 ∧ t' = b14) ∧ ((known = false ∧ X = []) ∨ (known = true ∧ joinW X = s0)))) := by
  obtain ⟨r, hr⟩ : ∃ r, aOkB d l f s o ln tn c k a t c' k' a' t' = r := ⟨_, rfl⟩
  obtain ⟨p, hp⟩ : ∃ p, decide (12 ≤ wd ∧ wd ≤ 80) = p := ⟨_, rfl⟩
  have k1 := fun W (hT : STabs W) => armsText_impl d l f s o ln tn c k a t c' k' a' t' W r hr hT
  have k3 := fun W => validArms_spec d l f s o ln tn c k a t c' k' a' t' W r hr
  have k4 := fun W (hT : STabs W) (hM : MaxLenAt W) => wrap_impl d l f s o ln tn c k a t c' k' a' t' wd W r p hr hp hT hM
  have k5 := fun W => wrap_spec d l f s o ln tn c k a t c' k' a' t' wd W r p hr hp
  have hl := wrapN_len (wd := wd) (p := p) hr
  cases r
  · obtain ⟨b0, b1, b2, b3, b4, b5, b6, b7, b8, b9, b10, b11, b12, b13, b14, fine, _, hp2⟩ := parseArms_impl ByteArray.empty (by decide)
    exact ⟨_, false, b0, b1, b2, b3, b4, b5, b6, b7, b8, b9, b10, b11, b12, b13, b14, fine, _, _, k1, hp2, k3, k4, k5, hl, (by show (joinW []).size ≤ 1000; exact Nat.zero_le _), .inl ⟨rfl, rfl, rfl⟩⟩
  · have hsz := arms_size hr
    obtain ⟨b0, b1, b2, b3, b4, b5, b6, b7, b8, b9, b10, b11, b12, b13, b14, fine, hA, hp2⟩ := parseArms_impl (armsN d l f s o ln tn c k a t c' k' a' t') (by omega)
    have hq := aAns_true hA hr rfl
    obtain ⟨rfl, hq⟩ := hq
    refine ⟨_, true, b0, b1, b2, b3, b4, b5, b6, b7, b8, b9, b10, b11, b12, b13, b14, true, _, _, k1, hp2, k3, k4, k5, hl, ?_, .inr ⟨rfl, rfl, ⟨hq.1, hq.2.1, hq.2.2.1, hq.2.2.2.1, hq.2.2.2.2.1, hq.2.2.2.2.2.1, hq.2.2.2.2.2.2.1, hq.2.2.2.2.2.2.2.1, hq.2.2.2.2.2.2.2.2.1, hq.2.2.2.2.2.2.2.2.2.1, hq.2.2.2.2.2.2.2.2.2.2.1, hq.2.2.2.2.2.2.2.2.2.2.2.1, hq.2.2.2.2.2.2.2.2.2.2.2.2.1, hq.2.2.2.2.2.2.2.2.2.2.2.2.2.1, hq.2.2.2.2.2.2.2.2.2.2.2.2.2.2⟩, ?_⟩⟩
    · cases p
      · show (joinW []).size ≤ 1000; exact Nat.zero_le _
      · show (joinW (wrapL wd (wordsL (armsN d l f s o ln tn c k a t c' k' a' t')))).size ≤ 1000
        rw [joinW_wrap, joinW_words]; omega
    · cases p
      · exact .inl ⟨rfl, rfl⟩
      · refine .inr ⟨rfl, ?_⟩
        show joinW (wrapL wd (wordsL (armsN d l f s o ln tn c k a t c' k' a' t'))) = _
        rw [joinW_wrap, joinW_words]; rfl
theorem readA_answers (t : ByteArray) (ht : t.size ≤ 1048576) : ∃ (b0 b1 b2 b3 b4 b5 b6 b7 b8 b9 b10 b11 b12 b13 b14 : Int) (read : Bool) (u : ByteArray) (told : Bool),
    (∀ W, STabs W → MaxLenAt W → Calls Tryz.prog 7 #[.string t] W (AnsA W b0 b1 b2 b3 b4 b5 b6 b7 b8 b9 b10 b11 b12 b13 b14 read)) ∧
    (∀ W, STabs W → Calls Tryz.prog 6 #[.agg #[.int .i64 b0, .int .i64 b1, .int .i64 b2, .int .i64 b3, .int .i64 b4, .int .i64 b5, .int .i64 b6, .int .i64 b7, .int .i64 b8, .int .i64 b9, .int .i64 b10, .int .i64 b11, .int .i64 b12, .int .i64 b13, .int .i64 b14]] W fun e w' => e = .returned (.tuple #[.string u, .bool told]) ∧ Below W.heap.size W w') ∧
    (read = false ∨ (read = true ∧ told = true ∧ u = t)) := by
  obtain ⟨b0, b1, b2, b3, b4, b5, b6, b7, b8, b9, b10, b11, b12, b13, b14, read, hA, hp⟩ := parseArms_impl t ht
  obtain ⟨r, hr⟩ : ∃ r, aOkB b0 b1 b2 b3 b4 b5 b6 b7 b8 b9 b10 b11 b12 b13 b14 = r := ⟨_, rfl⟩
  refine ⟨b0, b1, b2, b3, b4, b5, b6, b7, b8, b9, b10, b11, b12, b13, b14, read, _, r, hp, fun W hT => armsText_impl b0 b1 b2 b3 b4 b5 b6 b7 b8 b9 b10 b11 b12 b13 b14 W r hr hT, ?_⟩
  rcases hA with ⟨h0, h1, h2⟩ | ⟨h0, _, _⟩
  · refine .inr ⟨h0, hr.symm.trans h1, ?_⟩
    rw [if_pos (hr.symm.trans h1)]
    exact h2
  · exact .inl h0
set_option maxHeartbeats 1000000 in
theorem vTexts_true (xs : List ByteArray) (n : Nat) (a1 a2 : Option Addr) (c1 c2 : Nat) (w : World) (h1 : RdS w a1 n xs) (h2 : RdS w a2 n xs) (hn : n ≤ 1048577) :
    Calls Tryz.prog 12 #[.slice a1 n c1, .slice a2 n c2] w fun e w' => e = .returned (.bool true) ∧ ∃ m, w' = w.drewN m := by
  rcases Nat.eq_zero_or_pos n with h0 | h0
  · subst h0
    clear h1 h2
    go_enter Tryz.func12, Tryz.ntmps12
    go_wp2
    refine wp_loop_rounds 1 ?_
    rw [rounds_succ]
    go_wp2
    go_ret
    exact ⟨rfl, 0, rfl⟩
  · obtain ⟨b1, o1, rfl, _, hc1⟩ := h1.2 h0
    obtain ⟨b2, o2, rfl, _, hc2⟩ := h2.2 h0
    clear h1 h2
    have H1 := Lib.hid hc1
    have H2 := Lib.hid hc2
    clear hc1 hc2
    go_enter Tryz.func12, Tryz.ntmps12
    go_wp2
    go_loopw [5] (fun i wr => ∃ k q : Nat, k ≤ n ∧ i = .int .i64 k ∧ wr = w.drewN q) (fun i _ => n - (intOf i).toNat)
    case atStart => exact ⟨0, 0, Nat.zero_le _, rfl, rfl⟩
    case round =>
      obtain ⟨k, q, hk, rfl, rfl⟩ := hrel
      by_cases hlt : k < n
      · have g1 := H1.out k hlt
        have g2 := H2.out k hlt
        go_wp2
        go_quiet (fail)
        go_wp2
        go_roundw
        case rel => exact ⟨k + 1, _, by omega, by go_num, rfl⟩
        case measure => simp [intOf]; omega
      · go_wp2
        go_ret
        exact ⟨rfl, q, rfl⟩

end Go.Proofs.YtgeidnnjljpdkaaGreatDoor
