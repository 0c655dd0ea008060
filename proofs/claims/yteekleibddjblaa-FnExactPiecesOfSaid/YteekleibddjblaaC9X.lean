/- Plain facts of pieces: cells as numbers, cells that are reached within a region, pieces counted cell by cell in their order. -/
import Derived.Test.YteekleibddjblaaC9M
namespace Go.Proofs.Yteekleibddjblaa

/-- Two cells of the grid with a side in common. -/
def nextTo (a b : Nat) : Prop := (b = a + 1 ∧ a % 20 ≠ 19) ∨ (a = b + 1 ∧ b % 20 ≠ 19) ∨ b = a + 20 ∨ a = b + 20
theorem nextTo_symm {a b : Nat} (h : nextTo a b) : nextTo b a := by
  unfold nextTo at *
  omega
/-- The cells that are reached from a within R. -/
inductive ReachN (R : Nat → Prop) (a : Nat) : Nat → Prop where
  | here : R a → ReachN R a a
  | step {b c : Nat} : ReachN R a b → nextTo b c → R c → ReachN R a c
theorem ReachN.mem {R : Nat → Prop} {a b : Nat} (h : ReachN R a b) : R b := by
  cases h with
  | here h => exact h
  | step _ _ h => exact h
theorem ReachN.start {R : Nat → Prop} {a b : Nat} (h : ReachN R a b) : R a := by
  induction h with
  | here h => exact h
  | step _ _ _ ih => exact ih
theorem ReachN.trans {R : Nat → Prop} {a b c : Nat} (h : ReachN R a b) (h' : ReachN R b c) : ReachN R a c := by
  induction h' with
  | here _ => exact h
  | step _ hb hc ih => exact .step ih hb hc
theorem ReachN.symm {R : Nat → Prop} {a b : Nat} (h : ReachN R a b) : ReachN R b a := by
  induction h with
  | here h => exact .here h
  | step h1 hb hc ih => exact (ReachN.step (.here hc) (nextTo_symm hb) h1.mem).trans ih
/-- Within a set that has no neighbour in R outside, nothing else is reached. -/
theorem ReachN.closed {R S : Nat → Prop} (hcl : ∀ a b, S a → nextTo a b → R b → S b) {a b : Nat} (h : ReachN R a b) (ha : S a) : S b := by
  induction h with
  | here _ => exact ha
  | step _ hb hc ih => exact hcl _ _ ih hb hc
theorem ReachN.mono {R S : Nat → Prop} (hRS : ∀ a, R a → S a) {a b : Nat} (h : ReachN R a b) : ReachN S a b := by
  induction h with
  | here h => exact .here (hRS _ h)
  | step _ hb hc ih => exact .step ih hb (hRS _ hc)
/-- Without whole pieces the others are what they were. -/
theorem ReachN.without {R T : Nat → Prop} (hcl : ∀ a b, T a → nextTo a b → R b → T b) {a b : Nat} (h : ReachN R a b) (ha : ¬ T a) : ReachN (fun x => R x ∧ ¬ T x) a b ∧ ¬ T b := by
  induction h with
  | here h => exact ⟨.here ⟨h, ha⟩, ha⟩
  | step h1 hb hc ih =>
    have hnt : ¬ T _ := fun ht => ih.2 (hcl _ _ ht (nextTo_symm hb) h1.mem)
    exact ⟨.step ih.1 hb ⟨hc, hnt⟩, hnt⟩
/-- Pieces counted cell by cell: after the first k cells T holds the whole pieces that are taken, n of them. -/
inductive PieceP (R : Nat → Prop) : Nat → (Nat → Prop) → Nat → Prop where
  | start : PieceP R 0 (fun _ => False) 0
  | skip {k n : Nat} {T : Nat → Prop} : PieceP R k T n → (R k → T k) → PieceP R (k + 1) T n
  | take {k n : Nat} {T : Nat → Prop} : PieceP R k T n → R k → ¬ T k → PieceP R (k + 1) (fun x => T x ∨ ReachN R k x) (n + 1)
theorem PieceP.det {R : Nat → Prop} {k : Nat} : ∀ {T T' : Nat → Prop} {n n' : Nat}, PieceP R k T n → PieceP R k T' n' → (∀ x, T x ↔ T' x) ∧ n = n' := by
  induction k with
  | zero =>
    intro T T' n n' h h'
    cases h with
    | start => cases h' with | start => exact ⟨fun _ => Iff.rfl, rfl⟩
  | succ k ih =>
    intro T T' n n' h h'
    cases h with
    | skip h1 hk =>
      cases h' with
      | skip h2 _ => exact ih h1 h2
      | take h2 hr ht =>
        obtain ⟨e, _⟩ := ih h1 h2
        exact absurd ((e _).1 (hk hr)) ht
    | take h1 hr ht =>
      cases h' with
      | skip h2 hk =>
        obtain ⟨e, _⟩ := ih h1 h2
        exact absurd ((e _).2 (hk hr)) ht
      | take h2 _ _ =>
        obtain ⟨e, en⟩ := ih h1 h2
        exact ⟨fun x => or_congr (e x) Iff.rfl, by rw [en]⟩
theorem PieceP.sub {R : Nat → Prop} {k n : Nat} {T : Nat → Prop} (h : PieceP R k T n) : ∀ x, T x → R x := by
  induction h with
  | start => exact fun _ h => h.elim
  | skip _ _ ih => exact ih
  | take _ _ _ ih => exact fun x hx => hx.elim (ih x) ReachN.mem
theorem PieceP.closed {R : Nat → Prop} {k n : Nat} {T : Nat → Prop} (h : PieceP R k T n) : ∀ a b, T a → nextTo a b → R b → T b := by
  induction h with
  | start => exact fun _ _ h _ _ => h.elim
  | skip _ _ ih => exact ih
  | take _ _ _ ih => exact fun a b ha hb hr => ha.elim (fun h => .inl (ih a b h hb hr)) (fun h => .inr (.step h hb hr))
theorem PieceP.all {R : Nat → Prop} {k n : Nat} {T : Nat → Prop} (h : PieceP R k T n) : ∀ x, x < k → R x → T x := by
  induction h with
  | start => exact fun _ h _ => absurd h (Nat.not_lt_zero _)
  | skip h1 hk ih =>
    intro x hx hr
    rcases Nat.lt_succ_iff_lt_or_eq.1 hx with h | rfl
    · exact ih x h hr
    · exact hk hr
  | take h1 hr ht ih =>
    intro x hx hrx
    rcases Nat.lt_succ_iff_lt_or_eq.1 hx with h | rfl
    · exact .inl (ih x h hrx)
    · exact .inr (.here hrx)
/-- Over cells that are not in the region or taken the count stands still. -/
theorem PieceP.run {R : Nat → Prop} {k n : Nat} {T : Nat → Prop} (h : PieceP R k T n) : ∀ j, (∀ x, k ≤ x → x < k + j → R x → T x) → PieceP R (k + j) T n
  | 0, _ => h
  | j + 1, hx => .skip (h.run j (fun x h1 h2 => hx x h1 (by omega))) (hx (k + j) (by omega) (by omega))
end Go.Proofs.Yteekleibddjblaa
