/- Several small texts in one: Arms3, Arms4, Arms5. -/
import Derived.Test.YthapidnjioindaaDoorK2
import Derived.Deep.AppendLies
import Derived.Maps.AppendAt
import Derived.IntWalk
namespace Go.Proofs.YthapidnjioindaaDoor
open Go.RowKit

theorem row_low {w : World} {b b' : Nat} {e : TypeId} {size : Nat} {v : Value} {n : Nat} {xs : List Value} (h : w.ownsRow b e size v n xs) (hb : b' ≤ b) : w.ownsRow b' e size v n xs := by
  obtain ⟨h1, h2⟩ := h
  refine ⟨h1, ?_⟩
  rcases h2 with h2 | ⟨g, cap, cur, hv, hg, r⟩
  · exact .inl h2
  · exact .inr ⟨g, cap, cur, hv, by omega, r⟩
def layN (o : Int) (z1 z2 : Bool) : Int := 1 + (if 0 < o then 1 else 0) + (if z1 = true then 0 else 1) + (if z2 = true then 0 else 1)
theorem aOk_counts {d l f s o n x c k a t c' k' a' t' : Int} (h : aOkB d l f s o n x c k a t c' k' a' t' = true) : (0 ≤ c ∧ c ≤ 6) ∧ 0 ≤ c' ∧ c' ≤ 6 := by
  have g : ∀ {c k a t : Int}, (gNoB c k a t || gOkB c k a t) = true → 0 ≤ c ∧ c ≤ 6 := fun {c k a t} h => by
    rcases Bool.or_eq_true_iff.1 h with h | h
    · have : c = 0 ∧ k = 0 ∧ a = 0 ∧ t = 0 := by simpa [gNoB] using h
      omega
    · have := (gOk_out h).1
      omega
  unfold aOkB at h
  simp only [Bool.and_eq_true] at h
  refine ⟨?_, g h.2.2.1⟩
  have h4 := h.2.2.2
  split at h4
  · simp only [Bool.and_eq_true] at h4
    exact g (by rw [h4.2.2]; rfl)
  · simp only [Bool.and_eq_true] at h4
    exact g h4.2.2
end Go.Proofs.YthapidnjioindaaDoor
namespace Go.Proofs.YthapidnjioindaaDoor
open Go.RowKit

/-- The tinctures of the layers. -/
def armTL (d f s o x : Int) (z1 z2 : Bool) (t t' : Int) : List Int := tincL d f s ++ (if 0 < o then [x] else []) ++ (if z1 = true then [] else [t]) ++ (if z2 = true then [] else [t'])
theorem infoI5 : (Tryd.prog.info? 3).map (fun i => (i.zero, i.size, i.bytes)) = some (some (.int .i64 0), 1, 8) := by kernel_rfl
end Go.Proofs.YthapidnjioindaaDoor
namespace Go.Proofs.YthapidnjioindaaDoor
open Go.RowKit

/-- The answer: these arms and this boolean. -/
def AnsA (w : World) (d l f s o n x c k a t c' k' a' t' : Int) (ok : Bool) (e : Ending) (w' : World) : Prop := e = .returned (.tuple #[.agg #[.int .i64 d, .int .i64 l, .int .i64 f, .int .i64 s, .int .i64 o, .int .i64 n, .int .i64 x, .int .i64 c, .int .i64 k, .int .i64 a, .int .i64 t, .int .i64 c', .int .i64 k', .int .i64 a', .int .i64 t'], .bool ok]) ∧ Below w.heap.size w w'
end Go.Proofs.YthapidnjioindaaDoor
