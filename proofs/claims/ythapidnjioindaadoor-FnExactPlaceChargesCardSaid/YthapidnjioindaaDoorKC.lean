/- Several small texts in one: Fields, Fields2, Groups, DivT. -/
import Derived.Test.YthapidnjioindaaDoorKA
namespace Go.Proofs.YthapidnjioindaaDoor
open Go.RowKit

/-- Old cells and old marks read as before. -/
theorem bcell {W w1 : World} (hb : Below W.heap.size W w1) : (∀ b o, b < W.heap.size → w1.cell? ⟨b, o, none⟩ = W.cell? ⟨b, o, none⟩) ∧ (∀ b o, b < W.heap.size → w1.frozen? ⟨b, o, none⟩ = W.frozen? ⟨b, o, none⟩) :=
  ⟨fun b o h => hb.cell (p := ⟨b, o, none⟩) h, fun b o h => hb.frozen (p := ⟨b, o, none⟩) h⟩

set_option maxHeartbeats 1000000 in
theorem toField_any (d l f s : Int) (w : World) :
    Calls Tryd.prog 71 #[.agg #[.int .i64 d, .int .i64 l, .int .i64 f, .int .i64 s]] w fun e w' => e = .returned (.agg #[.int .i64 d, .int .i64 l, .int .i64 f, .int .i64 s]) ∧ Below w.heap.size w w' := by
  go_enter Tryd.func71, Tryd.ntmps71
  go_wp2_with fail
  exact bodyPost_ret (v := .agg #[.int .i64 d, .int .i64 l, .int .i64 f, .int .i64 s]) (by simp [results, Tryd.results71, go_sem]) rfl ⟨rfl, (((Below.refl _ _).alloc (Nat.le_refl _) _).alloc (by simp) _).alloc (by simp; omega) _⟩

/-- A field's numbers are valid. -/
def FOk (d l f s : Int) : Prop := (0 ≤ d ∧ d ≤ 7) ∧ (0 ≤ l ∧ l ≤ 4) ∧ (1 ≤ f ∧ f ≤ 9) ∧ ((d = 0 ∧ l = 0 ∧ s = 0) ∨ (d ≠ 0 ∧ (1 ≤ s ∧ s ≤ 9) ∧ s ≠ f))
instance (d l f s : Int) : Decidable (FOk d l f s) := by unfold FOk; infer_instance
theorem l3Line_yes (x : Int) (w : World) (h0 : 0 ≤ x) (h1 : x ≤ 4) :
    Calls Tryd.prog 103 #[.int .i64 x] w fun e w' => e = .returned (.bool true) ∧ w = w' := by
  have c := l1In_yes x 0 4 w h0 h1
  go_enter Tryd.func103, Tryd.ntmps103
  go_wp2_with fail
  refine c.mono ?_
  rintro e w' ⟨rfl, rfl⟩
  go_wp2_with fail
  go_ret
  exact ⟨rfl, rfl⟩
theorem l3Line_no (x : Int) (w : World) (h : x < 0 ∨ 4 < x) :
    Calls Tryd.prog 103 #[.int .i64 x] w fun e w' => e = .returned (.bool false) ∧ w = w' := by
  have c := l1In_no x 0 4 w h
  clear h
  go_enter Tryd.func103, Tryd.ntmps103
  go_wp2_with fail
  refine c.mono ?_
  rintro e w' ⟨rfl, rfl⟩
  go_wp2_with fail
  go_ret
  exact ⟨rfl, rfl⟩
set_option maxHeartbeats 2000000 in
theorem l3Good_yes (d l f s : Int) (w : World) (h : FOk d l f s) :
    Calls Tryd.prog 100 #[.agg #[.int .i64 d, .int .i64 l, .int .i64 f, .int .i64 s]] w fun e w' => e = .returned (.bool true) ∧ Below w.heap.size w w' := by
  obtain ⟨hd, hl, hf, hs⟩ := h
  have c1 := fun W => l1In_yes d 0 7 W hd.1 hd.2
  have c2 := fun W => l3Line_yes l W hl.1 hl.2
  have c3 := fun W => l2Good_yes f W hf.1 hf.2
  rcases hs with ⟨rfl, rfl, rfl⟩ | ⟨h0, hs, hne⟩
  · clear hd hl hf
    go_enter Tryd.func100, Tryd.ntmps100
    go_wp2_with (first | (go_at_call 57; refine (c1 _).mono ?_; rintro e w' ⟨rfl, rfl⟩) | (go_at_call 103; refine (c2 _).mono ?_; rintro e w' ⟨rfl, rfl⟩) | (go_at_call 104; refine (c3 _).mono ?_; rintro e w' ⟨rfl, rfl⟩))
    go_ret
    exact ⟨rfl, (Below.refl _ _).alloc (Nat.le_refl _) _⟩
  · have c4 := fun W => l2Good_yes s W hs.1 hs.2
    have e0 : (d == 0) = false := by rw [beq_eq_false_iff_ne]; exact h0
    have e1 : (s != f) = true := by rw [bne_iff_ne]; exact hne
    clear hd hl hf hs h0 hne
    go_enter Tryd.func100, Tryd.ntmps100
    go_wp2_with (first | (go_at_call 57; refine (c1 _).mono ?_; rintro e w' ⟨rfl, rfl⟩) | (go_at_call 103; refine (c2 _).mono ?_; rintro e w' ⟨rfl, rfl⟩) | (go_at_call 104; (with_reducible refine (c3 _).mono ?_); rintro e w' ⟨rfl, rfl⟩) | (go_at_call 104; (with_reducible refine (c4 _).mono ?_); rintro e w' ⟨rfl, rfl⟩))
    go_ret
    exact ⟨rfl, (Below.refl _ _).alloc (Nat.le_refl _) _⟩
set_option maxHeartbeats 4000000 in
theorem l3Good_no (d l f s : Int) (w : World) (h : ¬ FOk d l f s) :
    Calls Tryd.prog 100 #[.agg #[.int .i64 d, .int .i64 l, .int .i64 f, .int .i64 s]] w fun e w' => e = .returned (.bool false) ∧ Below w.heap.size w w' := by
  by_cases hd : 0 ≤ d ∧ d ≤ 7
  · have c1 := fun W => l1In_yes d 0 7 W hd.1 hd.2
    by_cases hl : 0 ≤ l ∧ l ≤ 4
    · have c2 := fun W => l3Line_yes l W hl.1 hl.2
      by_cases hf : 1 ≤ f ∧ f ≤ 9
      · have c3 := fun W => l2Good_yes f W hf.1 hf.2
        by_cases h0 : d = 0
        · have e0 : (d == 0) = true := by rw [beq_iff_eq]; exact h0
          by_cases hl0 : l = 0
          · have e1 : (l == 0) = true := by rw [beq_iff_eq]; exact hl0
            have e2 : (s == 0) = false := by rw [beq_eq_false_iff_ne]; intro e; exact h ⟨hd, hl, hf, .inl ⟨h0, hl0, e⟩⟩
            clear hd hl hf h h0 hl0
            go_enter Tryd.func100, Tryd.ntmps100
            go_wp2_with (first | (go_at_call 57; refine (c1 _).mono ?_; rintro e w' ⟨rfl, rfl⟩) | (go_at_call 103; refine (c2 _).mono ?_; rintro e w' ⟨rfl, rfl⟩) | (go_at_call 104; refine (c3 _).mono ?_; rintro e w' ⟨rfl, rfl⟩))
            go_ret
            exact ⟨rfl, (Below.refl _ _).alloc (Nat.le_refl _) _⟩
          · have e1 : (l == 0) = false := by rw [beq_eq_false_iff_ne]; exact hl0
            clear hd hl hf h h0 hl0
            go_enter Tryd.func100, Tryd.ntmps100
            go_wp2_with (first | (go_at_call 57; refine (c1 _).mono ?_; rintro e w' ⟨rfl, rfl⟩) | (go_at_call 103; refine (c2 _).mono ?_; rintro e w' ⟨rfl, rfl⟩) | (go_at_call 104; refine (c3 _).mono ?_; rintro e w' ⟨rfl, rfl⟩))
            go_ret
            exact ⟨rfl, (Below.refl _ _).alloc (Nat.le_refl _) _⟩
        · have e0 : (d == 0) = false := by rw [beq_eq_false_iff_ne]; exact h0
          by_cases hs : 1 ≤ s ∧ s ≤ 9
          · have c4 := fun W => l2Good_yes s W hs.1 hs.2
            have hsf : s = f := by
              rcases Decidable.em (s = f) with e | e
              · exact e
              · exact absurd ⟨hd, hl, hf, .inr ⟨h0, hs, e⟩⟩ h
            have e1 : (s != f) = false := by rw [hsf]; simp
            clear hd hl hf h h0 hs hsf
            go_enter Tryd.func100, Tryd.ntmps100
            go_wp2_with (first | (go_at_call 57; refine (c1 _).mono ?_; rintro e w' ⟨rfl, rfl⟩) | (go_at_call 103; refine (c2 _).mono ?_; rintro e w' ⟨rfl, rfl⟩) | (go_at_call 104; (with_reducible refine (c3 _).mono ?_); rintro e w' ⟨rfl, rfl⟩) | (go_at_call 104; (with_reducible refine (c4 _).mono ?_); rintro e w' ⟨rfl, rfl⟩))
            go_ret
            exact ⟨rfl, (Below.refl _ _).alloc (Nat.le_refl _) _⟩
          · have c4 := fun W => l2Good_no s W (by omega)
            clear hd hl hf h h0 hs
            go_enter Tryd.func100, Tryd.ntmps100
            go_wp2_with (first | (go_at_call 57; refine (c1 _).mono ?_; rintro e w' ⟨rfl, rfl⟩) | (go_at_call 103; refine (c2 _).mono ?_; rintro e w' ⟨rfl, rfl⟩) | (go_at_call 104; (with_reducible refine (c3 _).mono ?_); rintro e w' ⟨rfl, rfl⟩) | (go_at_call 104; (with_reducible refine (c4 _).mono ?_); rintro e w' ⟨rfl, rfl⟩))
            go_ret
            exact ⟨rfl, (Below.refl _ _).alloc (Nat.le_refl _) _⟩
      · have c3 := fun W => l2Good_no f W (by omega)
        clear hd hl hf h
        go_enter Tryd.func100, Tryd.ntmps100
        go_wp2_with (first | (go_at_call 57; refine (c1 _).mono ?_; rintro e w' ⟨rfl, rfl⟩) | (go_at_call 103; refine (c2 _).mono ?_; rintro e w' ⟨rfl, rfl⟩) | (go_at_call 104; refine (c3 _).mono ?_; rintro e w' ⟨rfl, rfl⟩))
        go_ret
        exact ⟨rfl, (Below.refl _ _).alloc (Nat.le_refl _) _⟩
    · have c2 := fun W => l3Line_no l W (by omega)
      clear hd hl h
      go_enter Tryd.func100, Tryd.ntmps100
      go_wp2_with (first | (go_at_call 57; refine (c1 _).mono ?_; rintro e w' ⟨rfl, rfl⟩) | (go_at_call 103; refine (c2 _).mono ?_; rintro e w' ⟨rfl, rfl⟩))
      go_ret
      exact ⟨rfl, (Below.refl _ _).alloc (Nat.le_refl _) _⟩
  · have c1 := fun W => l1In_no d 0 7 W (by omega)
    clear hd h
    go_enter Tryd.func100, Tryd.ntmps100
    go_wp2_with (go_at_call 57; refine (c1 _).mono ?_; rintro e w' ⟨rfl, rfl⟩)
    go_ret
    exact ⟨rfl, (Below.refl _ _).alloc (Nat.le_refl _) _⟩
/-- Valid or not: one contract. -/
theorem l3Good_any (d l f s : Int) (w : World) (r : Bool) (hr : decide (FOk d l f s) = r) :
    Calls Tryd.prog 100 #[.agg #[.int .i64 d, .int .i64 l, .int .i64 f, .int .i64 s]] w fun e w' => e = .returned (.bool r) ∧ Below w.heap.size w w' := by
  cases r
  · exact l3Good_no d l f s w (of_decide_eq_false hr)
  · exact l3Good_yes d l f s w (of_decide_eq_true hr)
def tincL (d f s : Int) : List Int := if d = 0 then [f] else [f, s]
theorem tincL_0 {d f s : Int} (h : d = 0) : tincL d f s = [f] := if_pos h
theorem tincL_1 {d f s : Int} (h : d ≠ 0) : tincL d f s = [f, s] := if_neg h
theorem tincL_len (d f s : Int) : (tincL d f s).length ≤ 2 := by unfold tincL; split <;> simp
theorem ansL_below {w w0 w' : World} {X : List Int} {e : Ending} (h : AnsL w0 X e w') (hb : Below w.heap.size w w0) : AnsL w X e w' := by
  obtain ⟨a, cap, he, ho, hb'⟩ := h
  exact ⟨a, cap, he, ho.low hb.size, hb.trans (hb'.mono hb.size)⟩
theorem ans_below {w w0 w' : World} {X : List Int} {ok : Bool} {e : Ending} (h : Ans w0 X ok e w') (hb : Below w.heap.size w w0) : Ans w X ok e w' := by
  obtain ⟨a, cap, he, ho, hb'⟩ := h
  exact ⟨a, cap, he, ho.low hb.size, hb.trans (hb'.mono hb.size)⟩
/-- A list laid behind a box. -/
theorem ansL_lit1 (w : World) (o : Obj) (X : List Int) (hX : X.length ≤ 1000) : AnsL w X (.returned (.slice (some ⟨w.heap.size + 1, 0, none⟩) X.length X.length)) ((w.alloc o).alloc (.cells (X.map (Value.int .i64)).toArray 3 (0, 0))) := by
  have h := ansL_below (ansL_lit (w.alloc o) X hX) ((Below.refl _ w).alloc (Nat.le_refl _) o)
  rw [World.size_alloc] at h
  exact h
theorem ans_lit1 (w : World) (o : Obj) (ok : Bool) (X : List Int) (hX : X.length ≤ 1000) : Ans w X ok (.returned (.tuple #[.slice (some ⟨w.heap.size + 1, 0, none⟩) X.length X.length, .bool ok])) ((w.alloc o).alloc (.cells (X.map (Value.int .i64)).toArray 3 (0, 0))) := by
  have h := ans_below (ans_lit (w.alloc o) ok X hX) ((Below.refl _ w).alloc (Nat.le_refl _) o)
  rw [World.size_alloc] at h
  exact h
end Go.Proofs.YthapidnjioindaaDoor
namespace Go.Proofs.YthapidnjioindaaDoor
open Go.RowKit

def partL (d f s : Int) : List Int := if d = 0 then [f] else if d ≤ 3 then [f, s] else if d ≤ 5 then [f, s, s, f] else [f, s, f, s, f, s]
theorem partL_len (d f s : Int) : (partL d f s).length ≤ 6 := by unfold partL; split; simp; split; simp; split <;> simp
theorem ansL_at {w W : World} {n : Nat} (X : List Int) (hX : X.length ≤ 1000) (hb : Below w.heap.size w W) (hn : n = W.heap.size) : AnsL w X (.returned (.slice (some ⟨n, 0, none⟩) X.length X.length)) (W.alloc (.cells (X.map (Value.int .i64)).toArray 3 (0, 0))) := by
  subst hn; exact ansL_below (ansL_lit W X hX) hb
theorem ans_at {w W : World} {n : Nat} (ok : Bool) (X : List Int) (hX : X.length ≤ 1000) (hb : Below w.heap.size w W) (hn : n = W.heap.size) : Ans w X ok (.returned (.tuple #[.slice (some ⟨n, 0, none⟩) X.length X.length, .bool ok])) (W.alloc (.cells (X.map (Value.int .i64)).toArray 3 (0, 0))) := by
  subst hn; exact ans_below (ans_lit W ok X hX) hb
/-- The answer: this field and this boolean. -/
def AnsF (w : World) (d l f s : Int) (ok : Bool) (e : Ending) (w' : World) : Prop := e = .returned (.tuple #[.agg #[.int .i64 d, .int .i64 l, .int .i64 f, .int .i64 s], .bool ok]) ∧ Below w.heap.size w w'
theorem box2 {w w1 : World} {o o' : Obj} (hb : Below ((w.alloc o).alloc o').heap.size ((w.alloc o).alloc o') w1) : Below w.heap.size w w1 :=
  (((Below.refl w.heap.size w).alloc (Nat.le_refl _) o).alloc (by simp) o').trans (hb.mono (by simp; omega))
/-- Block b holds these cells. -/
def Box (w : World) (b : Nat) (L : List Value) : Prop := b < w.heap.size ∧ ∀ i v, L[i]? = some v → w.cell? ⟨b, i, none⟩ = some v
theorem Box.below {w w' : World} {b : Nat} {L : List Value} (h : Box w b L) (hb : Below w.heap.size w w') : Box w' b L :=
  ⟨Nat.lt_of_lt_of_le h.1 hb.size, fun i v hv => (hb.cell (p := ⟨b, i, none⟩) h.1).trans (h.2 i v hv)⟩
theorem Box.alloc {w : World} {b : Nat} {L : List Value} (h : Box w b L) (o : Obj) : Box (w.alloc o) b L := h.below ((Below.refl _ w).alloc (Nat.le_refl _) o)
theorem Box.new (w : World) (L : List Value) (t : TypeId) : Box (w.alloc (.cells L.toArray t (0, 0))) w.heap.size L := by
  refine ⟨by simp, fun i v hv => ?_⟩
  have e : (w.alloc (.cells L.toArray t (0, 0))).heap[w.heap.size]? = some (.cells L.toArray t (0, 0)) := by show (w.heap.push _)[w.heap.size]? = _; exact Array.getElem?_push_size
  simp only [World.cell?, e]
  simpa using hv
end Go.Proofs.YthapidnjioindaaDoor
namespace Go.Proofs.YthapidnjioindaaDoor
open Go.RowKit

theorem isDivision_any (x : Int) (w : World) (p : Bool) (hp : decide (0 ≤ x ∧ x ≤ 7) = p) :
    Calls Tryd.prog 128 #[.int .i64 x] w fun e w' => e = .returned (.bool p) ∧ w = w' := by
  obtain ⟨p1, e1⟩ : ∃ p, decide (0 ≤ x) = p := ⟨_, rfl⟩
  obtain ⟨p2, e2⟩ : ∃ p, decide (x ≤ 7) = p := ⟨_, rfl⟩
  have hR : (p1 && p2) = p := by rw [← hp, ← e1, ← e2]; by_cases h : 0 ≤ x <;> by_cases h' : x ≤ 7 <;> simp [h, h']
  clear hp
  subst hR
  cases p1
  all_goals
    go_enter Tryd.func128, Tryd.ntmps128
    go_wp2_with fail
    go_ret
    exact ⟨by first | rfl | simp, rfl⟩
end Go.Proofs.YthapidnjioindaaDoor
namespace Go.Proofs.YthapidnjioindaaDoor
open Go.RowKit

set_option maxHeartbeats 1000000 in
theorem toGroup_any (c k a t : Int) (w : World) :
    Calls Tryd.prog 72 #[.agg #[.int .i64 c, .int .i64 k, .int .i64 a, .int .i64 t]] w fun e w' => e = .returned (.agg #[.int .i64 c, .int .i64 k, .int .i64 a, .int .i64 t]) ∧ Below w.heap.size w w' := by
  go_enter Tryd.func72, Tryd.ntmps72
  go_wp2_with fail
  exact bodyPost_ret (v := .agg #[.int .i64 c, .int .i64 k, .int .i64 a, .int .i64 t]) (by simp [results, Tryd.results72, go_sem]) rfl ⟨rfl, (((Below.refl _ _).alloc (Nat.le_refl _) _).alloc (by simp) _).alloc (by simp; omega) _⟩
/-- A group's numbers are valid; is it the zero group? -/
def gOkB (c k a t : Int) : Bool := decide (1 ≤ c ∧ c ≤ 6) && (decide (1 ≤ k ∧ k ≤ 8) && (decide (1 ≤ t ∧ t ≤ 9) && (if k ≤ 3 then decide (1 ≤ a ∧ a ≤ 2) else a == 0)))
def gNoB (c k a t : Int) : Bool := decide (c = 0 ∧ k = 0 ∧ a = 0 ∧ t = 0)
theorem gOk_out {c k a t : Int} (h : gOkB c k a t = true) : (1 ≤ c ∧ c ≤ 6) ∧ (1 ≤ k ∧ k ≤ 8) ∧ (1 ≤ t ∧ t ≤ 9) ∧ ((k ≤ 3 ∧ 1 ≤ a ∧ a ≤ 2) ∨ (3 < k ∧ a = 0)) := by
  unfold gOkB at h
  simp only [Bool.and_eq_true, decide_eq_true_eq] at h
  refine ⟨h.1, h.2.1, h.2.2.1, ?_⟩
  have h4 := h.2.2.2
  split at h4
  · exact .inl ⟨by omega, by simpa using h4⟩
  · exact .inr ⟨by omega, by simpa using h4⟩
theorem gOk_in {c k a t : Int} (h : (1 ≤ c ∧ c ≤ 6) ∧ (1 ≤ k ∧ k ≤ 8) ∧ (1 ≤ t ∧ t ≤ 9) ∧ ((k ≤ 3 ∧ 1 ≤ a ∧ a ≤ 2) ∨ (3 < k ∧ a = 0))) : gOkB c k a t = true := by
  unfold gOkB
  simp only [Bool.and_eq_true, decide_eq_true_eq]
  refine ⟨h.1, h.2.1, h.2.2.1, ?_⟩
  rcases h.2.2.2 with ⟨h0, h1⟩ | ⟨h0, h1⟩
  · rw [if_pos h0]; simpa using h1
  · rw [if_neg (by omega)]; simpa using h1
theorem gOk_none (c k a t : Int) (h : gNoB c k a t = true) : gOkB c k a t = false := by
  unfold gNoB at h
  simp only [decide_eq_true_eq] at h
  obtain ⟨rfl, rfl, rfl, rfl⟩ := h
  rfl
theorem l1In_any (x a b : Int) (w : World) (p : Bool) (hp : decide (a ≤ x ∧ x ≤ b) = p) :
    Calls Tryd.prog 57 #[.int .i64 x, .int .i64 a, .int .i64 b] w fun e w' => e = .returned (.bool p) ∧ w = w' := by
  cases p
  · have := of_decide_eq_false hp
    exact l1In_no x a b w (by omega)
  · have := of_decide_eq_true hp
    exact l1In_yes x a b w this.1 this.2
theorem l2Good_any (x : Int) (w : World) (p : Bool) (hp : decide (1 ≤ x ∧ x ≤ 9) = p) :
    Calls Tryd.prog 104 #[.int .i64 x] w fun e w' => e = .returned (.bool p) ∧ w = w' := by
  cases p
  · have := of_decide_eq_false hp
    exact l2Good_no x w (by omega)
  · have := of_decide_eq_true hp
    exact l2Good_yes x w this.1 this.2
theorem l4Kind_any (x : Int) (w : World) (p : Bool) (hp : decide (1 ≤ x ∧ x ≤ 8) = p) :
    Calls Tryd.prog 122 #[.int .i64 x] w fun e w' => e = .returned (.bool p) ∧ w = w' := by
  have c := fun W => l1In_any x 1 8 W p hp
  clear hp
  go_enter Tryd.func122, Tryd.ntmps122
  go_wp2_with fail
  refine (c _).mono ?_
  rintro e w' ⟨rfl, rfl⟩
  go_wp2_with fail
  go_ret
  exact ⟨rfl, rfl⟩
theorem l4Beast_any (x : Int) (w : World) (p : Bool) (hp : decide (x ≤ 3) = p) :
    Calls Tryd.prog 123 #[.int .i64 x] w fun e w' => e = .returned (.bool p) ∧ w = w' := by
  go_enter Tryd.func123, Tryd.ntmps123
  go_wp2_with fail
  go_ret
  exact ⟨by first | rfl | (rw [hp]) | simp [hp], rfl⟩
set_option maxHeartbeats 2000000 in
theorem l4Group_any (c k a t : Int) (w : World) (r : Bool) (hr : gOkB c k a t = r) :
    Calls Tryd.prog 102 #[.agg #[.int .i64 c, .int .i64 k, .int .i64 a, .int .i64 t]] w fun e w' => e = .returned (.bool r) ∧ Below w.heap.size w w' := by
  obtain ⟨p1, h1⟩ : ∃ p, decide (1 ≤ c ∧ c ≤ 6) = p := ⟨_, rfl⟩
  obtain ⟨p2, h2⟩ : ∃ p, decide (1 ≤ k ∧ k ≤ 8) = p := ⟨_, rfl⟩
  obtain ⟨p3, h3⟩ : ∃ p, decide (1 ≤ t ∧ t ≤ 9) = p := ⟨_, rfl⟩
  obtain ⟨p4, h4⟩ : ∃ p, decide (k ≤ 3) = p := ⟨_, rfl⟩
  obtain ⟨p5, h5⟩ : ∃ p, decide (1 ≤ a ∧ a ≤ 2) = p := ⟨_, rfl⟩
  obtain ⟨p6, h6⟩ : ∃ p, (a == 0) = p := ⟨_, rfl⟩
  have c1 := fun W => l1In_any c 1 6 W p1 h1
  have c2 := fun W => l4Kind_any k W p2 h2
  have c3 := fun W => l2Good_any t W p3 h3
  have c4 := fun W => l4Beast_any k W p4 h4
  have c5 := fun W => l1In_any a 1 2 W p5 h5
  have hR : (p1 && (p2 && (p3 && (if p4 = true then p5 else p6)))) = r := by
    rw [← hr, ← h1, ← h2, ← h3, ← h4, ← h5, ← h6]
    unfold gOkB
    by_cases h : k ≤ 3 <;> simp [h]
  clear hr h1 h2 h3 h4 h5
  go_enter Tryd.func102, Tryd.ntmps102
  go_wp2_with (first | (go_at_call 57; (with_reducible refine (c1 _).mono ?_); rintro e w' ⟨rfl, rfl⟩) | (go_at_call 57; (with_reducible refine (c5 _).mono ?_); rintro e w' ⟨rfl, rfl⟩) | (go_at_call 122; refine (c2 _).mono ?_; rintro e w' ⟨rfl, rfl⟩) | (go_at_call 104; refine (c3 _).mono ?_; rintro e w' ⟨rfl, rfl⟩) | (go_at_call 123; refine (c4 _).mono ?_; rintro e w' ⟨rfl, rfl⟩))
  all_goals
    go_ret
    refine ⟨?_, (Below.refl _ _).alloc (Nat.le_refl _) _⟩
    clear c1 c2 c3 c4 c5 h6
    subst hR
    cases p1 <;> cases p2 <;> cases p3 <;> cases p4 <;> cases p5 <;> cases p6 <;> first | rfl | contradiction | simp_all
set_option maxHeartbeats 1000000 in
theorem l4None_any (c k a t : Int) (w : World) (r : Bool) (hr : gNoB c k a t = r) :
    Calls Tryd.prog 101 #[.agg #[.int .i64 c, .int .i64 k, .int .i64 a, .int .i64 t]] w fun e w' => e = .returned (.bool r) ∧ Below w.heap.size w w' := by
  have HR := Lib.hid hr
  clear hr
  go_enter Tryd.func101, Tryd.ntmps101
  go_wp2_with fail
  all_goals
    go_ret
    refine ⟨?_, (Below.refl _ _).alloc (Nat.le_refl _) _⟩
    rw [← HR.out]
    unfold gNoB
    first
      | rfl
      | (simp only [*]; done)
      | (refine congrArg Ending.returned (congrArg Value.bool (Eq.symm ?_)); rw [decide_eq_true_iff]; exact ⟨by assumption, by assumption, by assumption, by assumption⟩)
      | (refine congrArg Ending.returned (congrArg Value.bool (Eq.symm ?_)); rw [decide_eq_false_iff_not]; rintro ⟨e1, e2, e3, e4⟩; contradiction)
def rowL (n : Int) : List Int := if n = 1 then [1] else if n = 2 then [1, 1] else if n = 3 then [2, 1] else if n = 4 then [2, 2] else if n = 5 then [2, 1, 2] else [3, 2, 1]
theorem rowL_len (n : Int) : (rowL n).length ≤ 1000 := by
  unfold rowL
  repeat' split
  all_goals simp
end Go.Proofs.YthapidnjioindaaDoor
