/- Plain facts of the model's search for pieces: the cells in their order, cells beside, what stands while a queue is worked off. -/
import Derived.Test.YteekleibddjblaaC9U
import Derived.ArgAppend
namespace Go.Proofs.Yteekleibddjblaa
open Go.RowKit

theorem cellsK_next (X : List Int) (k : Nat) : cellsK X (k + 1) = cellsK X k ++ (if hasB X (k % 20) (k / 20) = true then [(k : Int)] else []) := by
  unfold cellsK
  rw [List.range_succ, List.filter_append, List.map_append]
  congr 1
  by_cases h : hasB X (k % 20) (k / 20) = true
  · rw [if_pos h]; simp [h]
  · rw [if_neg h]; simp [h]
theorem cellR_has {X : List Int} {c : Nat} (hc : c < 480) : cellR X c ↔ hasB X (c % 20) (c / 20) = true := ⟨fun h => h.2, fun h => ⟨hc, h⟩⟩
theorem cellsK_pre (X : List Int) (q : Nat) : ∀ j, ∃ L, cellsK X (q + j) = cellsK X q ++ L
  | 0 => ⟨[], by simp⟩
  | j + 1 => by
    obtain ⟨L, hL⟩ := cellsK_pre X q j
    refine ⟨L ++ (if hasB X ((q + j) % 20) ((q + j) / 20) = true then [((q + j : Nat) : Int)] else []), ?_⟩
    rw [← Nat.add_assoc, cellsK_next, hL, List.append_assoc]
/-- The next cell of the list. -/
theorem next_cell (X : List Int) : ∀ (f q : Nat), q + f = 480 → (cellsK X q).length < (cellsK X 480).length → ∃ p, q ≤ p ∧ p < 480 ∧ cellR X p ∧ (∀ d, q ≤ d → d < p → ¬ cellR X d) ∧ (cellsK X (p + 1)).length = (cellsK X q).length + 1 ∧ (cellsK X 480).getD (cellsK X q).length 0 = (p : Int)
  | 0, q, hq, hl => by
    have : q = 480 := by omega
    subst this
    exact absurd hl (Nat.lt_irrefl _)
  | f + 1, q, hq, hl => by
    by_cases h : hasB X (q % 20) (q / 20) = true
    · refine ⟨q, Nat.le_refl _, by omega, (cellR_has (by omega)).2 h, fun d h1 h2 => by omega, by rw [cellsK_next, if_pos h]; simp, ?_⟩
      obtain ⟨L, hL⟩ := cellsK_pre X (q + 1) f
      rw [show q + 1 + f = 480 by omega] at hL
      rw [hL, cellsK_next, if_pos h]
      simp [List.getD]
    · have e : cellsK X (q + 1) = cellsK X q := by rw [cellsK_next, if_neg h, List.append_nil]
      obtain ⟨p, h1, h2, h3, h4, h5, h6⟩ := next_cell X f (q + 1) (by omega) (by rw [e]; exact hl)
      rw [e] at h5 h6
      refine ⟨p, by omega, h2, h3, fun d hd1 hd2 hc => ?_, h5, h6⟩
      rcases Nat.eq_or_lt_of_le hd1 with h7 | h7
      · subst h7; exact h hc.2
      · exact h4 d h7 hd2 hc
theorem nb_to {X : List Int} {d j : Nat} (h : hasZ X (bxZ ((d : Int) % 20) j) (byZ ((d : Int) / 20) j) = true) (hj : j < 4) : ∃ b : Nat, 20 * byZ ((d : Int) / 20) j + bxZ ((d : Int) % 20) j = (b : Int) ∧ cellR X b ∧ nextTo d b := by
  unfold hasZ at h
  simp only [Bool.and_eq_true, decide_eq_true_eq] at h
  obtain ⟨hx, hy, hb⟩ := h
  obtain ⟨x, hxe⟩ : ∃ x : Nat, bxZ ((d : Int) % 20) j = x := ⟨_, (Int.toNat_of_nonneg hx.1).symm⟩
  obtain ⟨y, hye⟩ : ∃ y : Nat, byZ ((d : Int) / 20) j = y := ⟨_, (Int.toNat_of_nonneg hy.1).symm⟩
  rw [hxe] at hx hb
  rw [hye] at hy hb
  refine ⟨20 * y + x, by rw [hxe, hye]; omega, ?_, ?_⟩
  · exact (cellR_at X (by omega) (by omega)).2 (show hasB X x y = true by simpa using hb)
  · unfold bxZ at hxe
    unfold byZ at hye
    unfold nextTo
    have hj4 : j = 0 ∨ j = 1 ∨ j = 2 ∨ j = 3 := by omega
    rcases hj4 with rfl | rfl | rfl | rfl <;> simp at hxe hye <;> omega
theorem nb_of {X : List Int} {d b : Nat} (hd : d < 480) (hb : cellR X b) (h : nextTo d b) : ∃ j, j < 4 ∧ hasZ X (bxZ ((d : Int) % 20) j) (byZ ((d : Int) / 20) j) = true ∧ 20 * byZ ((d : Int) / 20) j + bxZ ((d : Int) % 20) j = (b : Int) := by
  have hz : ∀ u v : Nat, u < 20 → v < 24 → b = 20 * v + u → hasZ X (u : Int) (v : Int) = true := fun u v hu hv e => by
    unfold hasZ
    rw [decide_eq_true (by omega), decide_eq_true (by omega)]
    have := hb.2
    rw [show b / 20 = v by omega, show b % 20 = u by omega] at this
    simp only [Int.toNat_natCast, Bool.true_and]
    exact this
  have hb4 := hb.1
  unfold nextTo at h
  rcases h with ⟨e, e2⟩ | ⟨e, e2⟩ | e | e
  · refine ⟨1, by omega, ?_, ?_⟩
    · show hasZ X ((d : Int) % 20 + 1) ((d : Int) / 20) = true
      rw [show (d : Int) % 20 + 1 = ((d % 20 + 1 : Nat) : Int) by omega, show (d : Int) / 20 = ((d / 20 : Nat) : Int) by omega]
      exact hz _ _ (by omega) (by omega) (by omega)
    · show 20 * ((d : Int) / 20) + ((d : Int) % 20 + 1) = b; omega
  · refine ⟨0, by omega, ?_, ?_⟩
    · show hasZ X ((d : Int) % 20 - 1) ((d : Int) / 20) = true
      rw [show (d : Int) % 20 - 1 = ((d % 20 - 1 : Nat) : Int) by omega, show (d : Int) / 20 = ((d / 20 : Nat) : Int) by omega]
      exact hz _ _ (by omega) (by omega) (by omega)
    · show 20 * ((d : Int) / 20) + ((d : Int) % 20 - 1) = b; omega
  · refine ⟨3, by omega, ?_, ?_⟩
    · show hasZ X ((d : Int) % 20) ((d : Int) / 20 + 1) = true
      rw [show (d : Int) % 20 = ((d % 20 : Nat) : Int) by omega, show (d : Int) / 20 + 1 = ((d / 20 + 1 : Nat) : Int) by omega]
      exact hz _ _ (by omega) (by omega) (by omega)
    · show 20 * ((d : Int) / 20 + 1) + ((d : Int) % 20) = b; omega
  · refine ⟨2, by omega, ?_, ?_⟩
    · show hasZ X ((d : Int) % 20) ((d : Int) / 20 - 1) = true
      rw [show (d : Int) % 20 = ((d % 20 : Nat) : Int) by omega, show (d : Int) / 20 - 1 = ((d / 20 - 1 : Nat) : Int) by omega]
      exact hz _ _ (by omega) (by omega) (by omega)
    · show 20 * ((d : Int) / 20 - 1) + ((d : Int) % 20) = b; omega
/-- The cell is seen. -/
def seenB (L : List Bool) (x : Nat) : Prop := L[x]? = some true
theorem seen_set {L : List Bool} {x : Nat} (hx : x < L.length) (y : Nat) : seenB (L.set x true) y ↔ y = x ∨ seenB L y := by
  unfold seenB
  rw [List.getElem?_set]
  by_cases e : x = y
  · subst e; simp [hx]
  · rw [if_neg e]
    exact ⟨.inr, fun h => h.elim (fun h => absurd h.symm e) id⟩
/-- How many cells are not seen. -/
def blindN (L : List Bool) : Nat := L.countP (fun b => !b)
theorem blind_set {L : List Bool} {x : Nat} (h : L[x]? = some false) : blindN (L.set x true) + 1 = blindN L := by
  unfold blindN
  induction L generalizing x with
  | nil => simp at h
  | cons b L ih =>
    cases x with
    | zero =>
      simp at h
      subst h
      simp
    | succ x =>
      simp only [List.getElem?_cons_succ] at h
      have := ih h
      simp only [List.set_cons_succ, List.countP_cons]
      omega
/-- While the queue is worked off: d is being worked, its first j sides are done. -/
def Bfs (X : List Int) (T : Nat → Prop) (c0 : Nat) (L : List Bool) (Q : List Nat) (w : Option (Nat × Nat)) : Prop :=
  (∀ x, T x → seenB L x) ∧ (∀ x, seenB L x → T x ∨ ReachN (cellR X) c0 x) ∧ seenB L c0 ∧ (∀ x ∈ Q, ReachN (cellR X) c0 x) ∧
  (∀ x, seenB L x → ¬ T x → x ∉ Q → (∀ p, w = some p → x ≠ p.1) → ∀ b, nextTo x b → cellR X b → seenB L b) ∧
  (∀ d j, w = some (d, j) → ReachN (cellR X) c0 d ∧ ∀ i, i < j → ∀ b : Nat, hasZ X (bxZ ((d : Int) % 20) i) (byZ ((d : Int) / 20) i) = true → 20 * byZ ((d : Int) / 20) i + bxZ ((d : Int) % 20) i = (b : Int) → seenB L b)
theorem Bfs.start {X : List Int} {T : Nat → Prop} {c0 : Nat} {L : List Bool} (hT : ∀ x, seenB L x ↔ T x) (hc : cellR X c0) (hl : c0 < L.length) : Bfs X T c0 (L.set c0 true) [c0] none := by
  refine ⟨fun x hx => (seen_set hl x).2 (.inr ((hT x).2 hx)), fun x hx => ?_, (seen_set hl c0).2 (.inl rfl), fun x hx => ?_, fun x hx hn hq _ b hnx hb => ?_, fun d j h => by cases h⟩
  · rcases (seen_set hl x).1 hx with rfl | h
    · exact .inr (.here hc)
    · exact .inl ((hT x).1 h)
  · have : x = c0 := by simpa using hx
    rw [this]; exact .here hc
  · rcases (seen_set hl x).1 hx with rfl | h
    · simp at hq
    · exact absurd ((hT x).1 h) hn
theorem Bfs.pop {X : List Int} {T : Nat → Prop} {c0 d : Nat} {L : List Bool} {Q : List Nat} (h : Bfs X T c0 L (d :: Q) none) : Bfs X T c0 L Q (some (d, 0)) := by
  obtain ⟨h1, h2, h3, h4, h5, _⟩ := h
  refine ⟨h1, h2, h3, fun x hx => h4 x (List.mem_cons_of_mem _ hx), fun x hx hn hq hw b hnx hb => ?_, fun d' j e => ?_⟩
  · exact h5 x hx hn (fun hm => by
      rcases List.mem_cons.1 hm with e | e
      · exact hw (d, 0) rfl e
      · exact hq e) (fun p e => by cases e) b hnx hb
  · cases e
    exact ⟨h4 d (List.mem_cons_self ..), fun i hi => absurd hi (Nat.not_lt_zero _)⟩
theorem Bfs.skip {X : List Int} {T : Nat → Prop} {c0 d j : Nat} {L : List Bool} {Q : List Nat} (h : Bfs X T c0 L Q (some (d, j))) (hno : ∀ b : Nat, hasZ X (bxZ ((d : Int) % 20) j) (byZ ((d : Int) / 20) j) = true → 20 * byZ ((d : Int) / 20) j + bxZ ((d : Int) % 20) j = (b : Int) → seenB L b) : Bfs X T c0 L Q (some (d, j + 1)) := by
  obtain ⟨h1, h2, h3, h4, h5, h6⟩ := h
  refine ⟨h1, h2, h3, h4, fun x hx hn hq hw b hnx hb => h5 x hx hn hq (fun p e => by cases e; exact hw (d, j + 1) rfl) b hnx hb, fun d' j' e => ?_⟩
  cases e
  obtain ⟨h7, h8⟩ := h6 d j rfl
  refine ⟨h7, fun i hi b hz hb => ?_⟩
  rcases Nat.lt_succ_iff_lt_or_eq.1 hi with hi | rfl
  · exact h8 i hi b hz hb
  · exact hno b hz hb
theorem Bfs.push {X : List Int} {T : Nat → Prop} {c0 d j b : Nat} {L : List Bool} {Q : List Nat} (h : Bfs X T c0 L Q (some (d, j))) (hL : L.length = 480) (hc : cellR X b) (hn : nextTo d b) (he : 20 * byZ ((d : Int) / 20) j + bxZ ((d : Int) % 20) j = (b : Int)) : Bfs X T c0 (L.set b true) (Q ++ [b]) (some (d, j + 1)) := by
  obtain ⟨h1, h2, h3, h4, h5, h6⟩ := h
  have hl : b < L.length := by have := hc.1; omega
  obtain ⟨h7, h8⟩ := h6 d j rfl
  refine ⟨fun x hx => (seen_set hl x).2 (.inr (h1 x hx)), fun x hx => ?_, (seen_set hl c0).2 (.inr h3), fun x hx => ?_, fun x hx hnt hq hw y hnx hy => ?_, fun d' j' e => ?_⟩
  · rcases (seen_set hl x).1 hx with rfl | hx
    · exact .inr (.step h7 hn hc)
    · exact h2 x hx
  · rcases List.mem_append.1 hx with hx | hx
    · exact h4 x hx
    · have : x = b := by simpa using hx
      rw [this]; exact .step h7 hn hc
  · rcases (seen_set hl x).1 hx with rfl | hx
    · exact absurd (List.mem_append.2 (.inr (by simp))) hq
    · exact (seen_set hl y).2 (.inr (h5 x hx hnt (fun hm => hq (List.mem_append.2 (.inl hm))) (fun p e => by cases e; exact hw (d, j + 1) rfl) y hnx hy))
  · cases e
    refine ⟨h7, fun i hi y hz hy => ?_⟩
    rcases Nat.lt_succ_iff_lt_or_eq.1 hi with hi | rfl
    · exact (seen_set hl y).2 (.inr (h8 i hi y hz hy))
    · exact (seen_set hl y).2 (.inl (by omega))
theorem Bfs.worked {X : List Int} {T : Nat → Prop} {c0 d : Nat} {L : List Bool} {Q : List Nat} (hd : d < 480) (h : Bfs X T c0 L Q (some (d, 4))) : Bfs X T c0 L Q none := by
  obtain ⟨h1, h2, h3, h4, h5, h6⟩ := h
  obtain ⟨h7, h8⟩ := h6 d 4 rfl
  refine ⟨h1, h2, h3, h4, fun x hx hn hq _ b hnx hb => ?_, fun d' j e => by cases e⟩
  by_cases e : x = d
  · subst e
    obtain ⟨i, hi, hz, hbi⟩ := nb_of hd hb hnx
    exact h8 i hi b hz hbi
  · exact h5 x hx hn hq (fun p e' => by cases e'; exact e) b hnx hb
theorem Bfs.done {X : List Int} {T : Nat → Prop} {c0 : Nat} {L : List Bool} (hcl : ∀ a b, T a → nextTo a b → cellR X b → T b) (h : Bfs X T c0 L [] none) (x : Nat) : seenB L x ↔ T x ∨ ReachN (cellR X) c0 x := by
  obtain ⟨h1, h2, h3, _, h5, _⟩ := h
  refine ⟨h2 x, fun hx => hx.elim (h1 x) (fun hr => hr.closed (fun a b ha hn hb => ?_) h3)⟩
  rcases Classical.em (T a) with ht | ht
  · exact h1 b (hcl a b ht hn hb)
  · exact h5 a ha ht (by simp) (fun p e => by cases e) b hn hb
/-- A queue: numbers in a block from Bq on, whose spare cells can be written. -/
def QV (w : World) (Bq : Nat) (v : Value) (Q : List Int) : Prop := ∃ b o cap : Nat, v = .slice (some ⟨b, o, none⟩) Q.length cap ∧ Bq ≤ b ∧ b < w.heap.size ∧ Q.length ≤ cap ∧ (∀ j, j < cap → (w.cell? ⟨b, o + j, none⟩).isSome = true ∧ w.frozen? ⟨b, o + j, none⟩ = false) ∧ (∀ j u, (Q.map (Value.int .i64))[j]? = some u → w.cell? ⟨b, o + j, none⟩ = some u)
theorem QV.moved {w w' : World} {Bq : Nat} {v : Value} {Q : List Int} (h : QV w Bq v Q) (hs : w.heap.size ≤ w'.heap.size) (hk : ∀ b, Bq ≤ b → b < w.heap.size → w'.heap[b]? = w.heap[b]?) : QV w' Bq v Q := by
  obtain ⟨b, o, cap, e, h1, h2, h3, h4, h5⟩ := h
  have hb := hk b h1 h2
  have hc : ∀ i, w'.cell? ⟨b, i, none⟩ = w.cell? ⟨b, i, none⟩ := fun i => World.cell?_of_block hb
  have hf : ∀ i, w'.frozen? ⟨b, i, none⟩ = w.frozen? ⟨b, i, none⟩ := fun i => by simp only [World.frozen?, hb]
  exact ⟨b, o, cap, e, h1, Nat.lt_of_lt_of_le h2 hs, h3, fun j hj => by rw [hc, hf]; exact h4 j hj, fun j u hu => by rw [hc]; exact h5 j u hu⟩
theorem QV.below {w w' : World} {Bq : Nat} {v : Value} {Q : List Int} (h : QV w Bq v Q) (hb : Below w.heap.size w w') : QV w' Bq v Q := h.moved hb.size (fun b _ hl => hb.block b hl)
theorem QV.kept {w w' : World} {Bq g : Nat} {v : Value} {Q : List Int} (h : QV w Bq v Q) (hg : w.grownBy w' (some g)) (hlt : g < Bq) : QV w' Bq v Q := h.moved hg.size (fun b h1 h2 => hg.block b h2 (fun e => by cases e; omega))
theorem QV.one {w : World} {Bq : Nat} (x : Int) (h : Bq ≤ w.heap.size) : QV (w.alloc (.cells #[.int .i64 x] 3 (0, 0))) Bq (.slice (some ⟨w.heap.size, 0, none⟩) 1 1) [x] := by
  have X := (BoxF.new w [.int .i64 x] 3).one
  refine ⟨w.heap.size, 0, 1, rfl, h, by simp, by simp, fun j hj => ?_, fun j u hu => ?_⟩
  · obtain rfl : j = 0 := by omega
    exact ⟨by have := X.1; change (World.cell? _ ⟨w.heap.size, 0, none⟩).isSome = true; rw [show (World.cell? (w.alloc (.cells #[.int .i64 x] 3 (0, 0))) ⟨w.heap.size, 0, none⟩) = _ from this]; rfl, X.2 0⟩
  · cases j with
    | zero => simp at hu; subst hu; exact X.1
    | succ j => simp at hu
theorem QV.head {w : World} {Bq : Nat} {v : Value} {x : Int} {Q : List Int} (h : QV w Bq v (x :: Q)) : ∃ b o cap : Nat, v = .slice (some ⟨b, o, none⟩) (Q.length + 1) cap ∧ w.cell? ⟨b, o, none⟩ = some (.int .i64 x) ∧ Q.length + 1 ≤ cap ∧ (cap = 1 → QV w Bq (.slice (some ⟨b, o, none⟩) Q.length (cap - 1)) Q) ∧ QV w Bq (.slice (some ⟨b, o + 1, none⟩) Q.length (cap - 1)) Q := by
  obtain ⟨b, o, cap, e, h1, h2, h3, h4, h5⟩ := h
  simp only [List.length_cons] at e h3
  refine ⟨b, o, cap, e, by simpa using h5 0 _ rfl, h3, fun hc => ?_, ?_⟩
  · subst hc
    have hq : Q = [] := List.eq_nil_of_length_eq_zero (by omega)
    subst hq
    exact ⟨b, o, 0, rfl, h1, h2, by simp, fun j hj => absurd hj (Nat.not_lt_zero _), fun j u hu => by simp at hu⟩
  · refine ⟨b, o + 1, cap - 1, rfl, h1, h2, by omega, fun j hj => ?_, fun j u hu => ?_⟩
    · have := h4 (j + 1) (by omega)
      rwa [show o + (j + 1) = o + 1 + j by omega] at this
    · have := h5 (j + 1) u (by simpa using hu)
      rwa [show o + (j + 1) = o + 1 + j by omega] at this
end Go.Proofs.Yteekleibddjblaa
