/- Contracts: fields by value: the laws' toField and eqField; the model's validity, tinctures, parts. -/
import Derived.Test.YtkhpgggaaldhhaaDoorBases
namespace Go.Proofs.YtkhpgggaaldhhaaDoor
open Go.RowKit

/-- Old cells and old marks read as before. -/
theorem bcell {W w1 : World} (hb : Below W.heap.size W w1) : (∀ b o, b < W.heap.size → w1.cell? ⟨b, o, none⟩ = W.cell? ⟨b, o, none⟩) ∧ (∀ b o, b < W.heap.size → w1.frozen? ⟨b, o, none⟩ = W.frozen? ⟨b, o, none⟩) :=
  ⟨fun b o h => hb.cell (p := ⟨b, o, none⟩) h, fun b o h => hb.frozen (p := ⟨b, o, none⟩) h⟩

set_option maxHeartbeats 1000000 in
theorem toField_any (d l f s : Int) (w : World) :
    Calls Tryd.prog 41 #[.agg #[.int .i64 d, .int .i64 l, .int .i64 f, .int .i64 s]] w fun e w' => e = .returned (.agg #[.int .i64 d, .int .i64 l, .int .i64 f, .int .i64 s]) ∧ Below w.heap.size w w' := by
  go_enter Tryd.func41, Tryd.ntmps41
  go_wp2_with fail
  exact bodyPost_ret (v := .agg #[.int .i64 d, .int .i64 l, .int .i64 f, .int .i64 s]) (by simp [results, Tryd.results41, go_sem]) rfl ⟨rfl, (((Below.refl _ _).alloc (Nat.le_refl _) _).alloc (by simp) _).alloc (by simp; omega) _⟩

/-- A field's numbers are valid. -/
def FOk (d l f s : Int) : Prop := (0 ≤ d ∧ d ≤ 7) ∧ (0 ≤ l ∧ l ≤ 4) ∧ (1 ≤ f ∧ f ≤ 9) ∧ ((d = 0 ∧ l = 0 ∧ s = 0) ∨ (d ≠ 0 ∧ (1 ≤ s ∧ s ≤ 9) ∧ s ≠ f))
instance (d l f s : Int) : Decidable (FOk d l f s) := by unfold FOk; infer_instance
theorem l3Line_yes (x : Int) (w : World) (h0 : 0 ≤ x) (h1 : x ≤ 4) :
    Calls Tryd.prog 86 #[.int .i64 x] w fun e w' => e = .returned (.bool true) ∧ w = w' := by
  have c := l1In_yes x 0 4 w h0 h1
  go_enter Tryd.func86, Tryd.ntmps86
  go_wp2_with fail
  refine c.mono ?_
  rintro e w' ⟨rfl, rfl⟩
  go_wp2_with fail
  go_ret
  exact ⟨rfl, rfl⟩
theorem l3Line_no (x : Int) (w : World) (h : x < 0 ∨ 4 < x) :
    Calls Tryd.prog 86 #[.int .i64 x] w fun e w' => e = .returned (.bool false) ∧ w = w' := by
  have c := l1In_no x 0 4 w h
  clear h
  go_enter Tryd.func86, Tryd.ntmps86
  go_wp2_with fail
  refine c.mono ?_
  rintro e w' ⟨rfl, rfl⟩
  go_wp2_with fail
  go_ret
  exact ⟨rfl, rfl⟩
set_option maxHeartbeats 2000000 in
theorem l3Good_yes (d l f s : Int) (w : World) (h : FOk d l f s) :
    Calls Tryd.prog 59 #[.agg #[.int .i64 d, .int .i64 l, .int .i64 f, .int .i64 s]] w fun e w' => e = .returned (.bool true) ∧ Below w.heap.size w w' := by
  obtain ⟨hd, hl, hf, hs⟩ := h
  have c1 := fun W => l1In_yes d 0 7 W hd.1 hd.2
  have c2 := fun W => l3Line_yes l W hl.1 hl.2
  have c3 := fun W => l2Good_yes f W hf.1 hf.2
  rcases hs with ⟨rfl, rfl, rfl⟩ | ⟨h0, hs, hne⟩
  · clear hd hl hf
    go_enter Tryd.func59, Tryd.ntmps59
    go_wp2_with (first | (go_at_call 51; refine (c1 _).mono ?_; rintro e w' ⟨rfl, rfl⟩) | (go_at_call 86; refine (c2 _).mono ?_; rintro e w' ⟨rfl, rfl⟩) | (go_at_call 87; refine (c3 _).mono ?_; rintro e w' ⟨rfl, rfl⟩))
    go_ret
    exact ⟨rfl, (Below.refl _ _).alloc (Nat.le_refl _) _⟩
  · have c4 := fun W => l2Good_yes s W hs.1 hs.2
    have e0 : (d == 0) = false := by rw [beq_eq_false_iff_ne]; exact h0
    have e1 : (s != f) = true := by rw [bne_iff_ne]; exact hne
    clear hd hl hf hs h0 hne
    go_enter Tryd.func59, Tryd.ntmps59
    go_wp2_with (first | (go_at_call 51; refine (c1 _).mono ?_; rintro e w' ⟨rfl, rfl⟩) | (go_at_call 86; refine (c2 _).mono ?_; rintro e w' ⟨rfl, rfl⟩) | (go_at_call 87; (with_reducible refine (c3 _).mono ?_); rintro e w' ⟨rfl, rfl⟩) | (go_at_call 87; (with_reducible refine (c4 _).mono ?_); rintro e w' ⟨rfl, rfl⟩))
    go_ret
    exact ⟨rfl, (Below.refl _ _).alloc (Nat.le_refl _) _⟩
set_option maxHeartbeats 4000000 in
theorem l3Good_no (d l f s : Int) (w : World) (h : ¬ FOk d l f s) :
    Calls Tryd.prog 59 #[.agg #[.int .i64 d, .int .i64 l, .int .i64 f, .int .i64 s]] w fun e w' => e = .returned (.bool false) ∧ Below w.heap.size w w' := by
  by_cases hd : 0 ≤ d ∧ d ≤ 7
  · have c1 := fun W => l1In_yes d 0 7 W hd.1 hd.2
    by_cases hl : 0 ≤ l ∧ l ≤ 4
    · have c2 := fun W => l3Line_yes l W hl.1 hl.2
      by_cases hf : 1 ≤ f ∧ f ≤ 9
      · have c3 := fun W => l2Good_yes f W hf.1 hf.2
        by_cases h0 : d = 0
        · have e0 : (d == 0) = true := by rw [beq_iff_eq]; exact h0
          by_cases hl0 : l = 0
          · have e1 : (l == 0) = true := by rw [beq_iff_eq]; exact hl0
            have e2 : (s == 0) = false := by rw [beq_eq_false_iff_ne]; intro e; exact h ⟨hd, hl, hf, .inl ⟨h0, hl0, e⟩⟩
            clear hd hl hf h h0 hl0
            go_enter Tryd.func59, Tryd.ntmps59
            go_wp2_with (first | (go_at_call 51; refine (c1 _).mono ?_; rintro e w' ⟨rfl, rfl⟩) | (go_at_call 86; refine (c2 _).mono ?_; rintro e w' ⟨rfl, rfl⟩) | (go_at_call 87; refine (c3 _).mono ?_; rintro e w' ⟨rfl, rfl⟩))
            go_ret
            exact ⟨rfl, (Below.refl _ _).alloc (Nat.le_refl _) _⟩
          · have e1 : (l == 0) = false := by rw [beq_eq_false_iff_ne]; exact hl0
            clear hd hl hf h h0 hl0
            go_enter Tryd.func59, Tryd.ntmps59
            go_wp2_with (first | (go_at_call 51; refine (c1 _).mono ?_; rintro e w' ⟨rfl, rfl⟩) | (go_at_call 86; refine (c2 _).mono ?_; rintro e w' ⟨rfl, rfl⟩) | (go_at_call 87; refine (c3 _).mono ?_; rintro e w' ⟨rfl, rfl⟩))
            go_ret
            exact ⟨rfl, (Below.refl _ _).alloc (Nat.le_refl _) _⟩
        · have e0 : (d == 0) = false := by rw [beq_eq_false_iff_ne]; exact h0
          by_cases hs : 1 ≤ s ∧ s ≤ 9
          · have c4 := fun W => l2Good_yes s W hs.1 hs.2
            have hsf : s = f := by
              rcases Decidable.em (s = f) with e | e
              · exact e
              · exact absurd ⟨hd, hl, hf, .inr ⟨h0, hs, e⟩⟩ h
            have e1 : (s != f) = false := by rw [hsf]; simp
            clear hd hl hf h h0 hs hsf
            go_enter Tryd.func59, Tryd.ntmps59
            go_wp2_with (first | (go_at_call 51; refine (c1 _).mono ?_; rintro e w' ⟨rfl, rfl⟩) | (go_at_call 86; refine (c2 _).mono ?_; rintro e w' ⟨rfl, rfl⟩) | (go_at_call 87; (with_reducible refine (c3 _).mono ?_); rintro e w' ⟨rfl, rfl⟩) | (go_at_call 87; (with_reducible refine (c4 _).mono ?_); rintro e w' ⟨rfl, rfl⟩))
            go_ret
            exact ⟨rfl, (Below.refl _ _).alloc (Nat.le_refl _) _⟩
          · have c4 := fun W => l2Good_no s W (by omega)
            clear hd hl hf h h0 hs
            go_enter Tryd.func59, Tryd.ntmps59
            go_wp2_with (first | (go_at_call 51; refine (c1 _).mono ?_; rintro e w' ⟨rfl, rfl⟩) | (go_at_call 86; refine (c2 _).mono ?_; rintro e w' ⟨rfl, rfl⟩) | (go_at_call 87; (with_reducible refine (c3 _).mono ?_); rintro e w' ⟨rfl, rfl⟩) | (go_at_call 87; (with_reducible refine (c4 _).mono ?_); rintro e w' ⟨rfl, rfl⟩))
            go_ret
            exact ⟨rfl, (Below.refl _ _).alloc (Nat.le_refl _) _⟩
      · have c3 := fun W => l2Good_no f W (by omega)
        clear hd hl hf h
        go_enter Tryd.func59, Tryd.ntmps59
        go_wp2_with (first | (go_at_call 51; refine (c1 _).mono ?_; rintro e w' ⟨rfl, rfl⟩) | (go_at_call 86; refine (c2 _).mono ?_; rintro e w' ⟨rfl, rfl⟩) | (go_at_call 87; refine (c3 _).mono ?_; rintro e w' ⟨rfl, rfl⟩))
        go_ret
        exact ⟨rfl, (Below.refl _ _).alloc (Nat.le_refl _) _⟩
    · have c2 := fun W => l3Line_no l W (by omega)
      clear hd hl h
      go_enter Tryd.func59, Tryd.ntmps59
      go_wp2_with (first | (go_at_call 51; refine (c1 _).mono ?_; rintro e w' ⟨rfl, rfl⟩) | (go_at_call 86; refine (c2 _).mono ?_; rintro e w' ⟨rfl, rfl⟩))
      go_ret
      exact ⟨rfl, (Below.refl _ _).alloc (Nat.le_refl _) _⟩
  · have c1 := fun W => l1In_no d 0 7 W (by omega)
    clear hd h
    go_enter Tryd.func59, Tryd.ntmps59
    go_wp2_with (go_at_call 51; refine (c1 _).mono ?_; rintro e w' ⟨rfl, rfl⟩)
    go_ret
    exact ⟨rfl, (Below.refl _ _).alloc (Nat.le_refl _) _⟩
/-- Valid or not: one contract. -/
theorem l3Good_any (d l f s : Int) (w : World) (r : Bool) (hr : decide (FOk d l f s) = r) :
    Calls Tryd.prog 59 #[.agg #[.int .i64 d, .int .i64 l, .int .i64 f, .int .i64 s]] w fun e w' => e = .returned (.bool r) ∧ Below w.heap.size w w' := by
  cases r
  · exact l3Good_no d l f s w (of_decide_eq_false hr)
  · exact l3Good_yes d l f s w (of_decide_eq_true hr)
def tincL (d f s : Int) : List Int := if d = 0 then [f] else [f, s]
theorem tincL_0 {d f s : Int} (h : d = 0) : tincL d f s = [f] := if_pos h
theorem tincL_1 {d f s : Int} (h : d ≠ 0) : tincL d f s = [f, s] := if_neg h
theorem tincL_len (d f s : Int) : (tincL d f s).length ≤ 2 := by unfold tincL; split <;> simp
theorem ansL_below {w w0 w' : World} {X : List Int} {e : Ending} (h : AnsL w0 X e w') (hb : Below w.heap.size w w0) : AnsL w X e w' := by
  obtain ⟨a, cap, he, ho, hb'⟩ := h
  exact ⟨a, cap, he, ho.low hb.size, hb.trans (hb'.mono hb.size)⟩
theorem ans_below {w w0 w' : World} {X : List Int} {ok : Bool} {e : Ending} (h : Ans w0 X ok e w') (hb : Below w.heap.size w w0) : Ans w X ok e w' := by
  obtain ⟨a, cap, he, ho, hb'⟩ := h
  exact ⟨a, cap, he, ho.low hb.size, hb.trans (hb'.mono hb.size)⟩
/-- A list laid behind a box. -/
theorem ansL_lit1 (w : World) (o : Obj) (X : List Int) (hX : X.length ≤ 1000) : AnsL w X (.returned (.slice (some ⟨w.heap.size + 1, 0, none⟩) X.length X.length)) ((w.alloc o).alloc (.cells (X.map (Value.int .i64)).toArray 3 (0, 0))) := by
  have h := ansL_below (ansL_lit (w.alloc o) X hX) ((Below.refl _ w).alloc (Nat.le_refl _) o)
  rw [World.size_alloc] at h
  exact h
theorem ans_lit1 (w : World) (o : Obj) (ok : Bool) (X : List Int) (hX : X.length ≤ 1000) : Ans w X ok (.returned (.tuple #[.slice (some ⟨w.heap.size + 1, 0, none⟩) X.length X.length, .bool ok])) ((w.alloc o).alloc (.cells (X.map (Value.int .i64)).toArray 3 (0, 0))) := by
  have h := ans_below (ans_lit (w.alloc o) ok X hX) ((Below.refl _ w).alloc (Nat.le_refl _) o)
  rw [World.size_alloc] at h
  exact h
end Go.Proofs.YtkhpgggaaldhhaaDoor
