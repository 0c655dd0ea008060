/- The program's table of words, read out of the row's condition; the words of tinctures, of the program and of the model. -/
import Derived.Test.YtklfkdmmclomoaaDoorRows
import Derived.Test.YtklfkdmmclomoaaDoorTin
import Derived.LaidMore
import Derived.Stop.LaidErr
import Derived.MakeChecks
import Derived.Lib.LaidTab
import Derived.Below
namespace Go.Proofs.YtklfkdmmclomoaaDoor
open Go.RowKit

def wordL : List ByteArray := [⟨#[103, 111, 108, 100]⟩, ⟨#[115, 105, 108, 118, 101, 114]⟩, ⟨#[114, 101, 100]⟩, ⟨#[98, 108, 117, 101]⟩, ⟨#[98, 108, 97, 99, 107]⟩, ⟨#[103, 114, 101, 101, 110]⟩, ⟨#[112, 117, 114, 112, 108, 101]⟩, ⟨#[101, 114, 109, 105, 110, 101]⟩, ⟨#[118, 97, 105, 114]⟩]
/-- The word of the tincture i + 1. -/
def wordN (i : Nat) : ByteArray := wordL.getD i ByteArray.empty
theorem wordN_size {i : Nat} (h : i < 9) : (wordN i).size ≤ 6 := by
  rcases (show i = 0 ∨ i = 1 ∨ i = 2 ∨ i = 3 ∨ i = 4 ∨ i = 5 ∨ i = 6 ∨ i = 7 ∨ i = 8 by omega) with rfl | rfl | rfl | rfl | rfl | rfl | rfl | rfl | rfl <;> decide
theorem wordN_ne {i : Nat} (h : i < 9) : (wordN i).size ≠ 0 := by
  rcases (show i = 0 ∨ i = 1 ∨ i = 2 ∨ i = 3 ∨ i = 4 ∨ i = 5 ∨ i = 6 ∨ i = 7 ∨ i = 8 by omega) with rfl | rfl | rfl | rfl | rfl | rfl | rfl | rfl | rfl <;> decide
theorem wordN_inj {i j : Nat} (hi : i < 9) (hj : j < 9) (h : wordN i = wordN j) : i = j := by
  have H : ∀ i, i < 9 → ∀ j, j < 9 → (wordN i).data.toList = (wordN j).data.toList → i = j := by decide
  exact H i hi j hj (by rw [h])

theorem cells_of_words {H : Type} {enc : TypeId × Value → H} {P : Program} {w : World} {base : Nat} {sp : Nat → Bool} {held : Bool} {fuel : Nat} {t e : TypeId} {n : Nat} {cs : List Value} {ss : List ByteArray} {p : List MemPlace}
    (ht : P.underlying t = some (.array n e)) (he : P.underlying e = some .string) (hce : P.cellsOf e = 1) (hct : P.cellsOf t = n)
    (h : DataW.trod enc P w base sp held fuel t cs = some (.agg (ss.map fun s => .lit (.string s.data.toList)), p)) : cs = ss.map Value.string := by
  cases fuel with
  | zero => simp [DataW.trod] at h
  | succ fuel =>
    simp only [DataW.trod, ht, hce, hct, Nat.mul_one] at h
    split at h
    · rename_i hl
      obtain ⟨xs, hm, hx⟩ := Option.map_eq_some_iff.1 h
      have hxs : xs.map (·.1) = ss.map fun s => (DataW.lit (.string s.data.toList) : DataW H) := by
        have := congrArg Prod.fst hx
        simpa using this
      have hxl : xs.length = n := by simpa using Lib.mapM_length hm
      have hzl : ss.length = n := by
        have := congrArg List.length hxs
        simp at this
        omega
      apply List.ext_getElem?
      intro i
      by_cases hi : i < n
      · obtain ⟨b, hb, hf⟩ := Lib.mapM_at hm i i (by simp [hi])
        obtain ⟨z, hc, rfl, _⟩ := DataW.trod_string he hf
        have h1 : cs[i]? = some (.string z) := by
          have := congrArg (·[0]?) hc
          simpa [List.getElem?_take, List.getElem?_drop] using this
        have h2 : (xs.map (·.1))[i]? = some (DataW.lit (.string z.data.toList) : DataW H) := by simp [hb]
        rw [hxs] at h2
        simp only [List.getElem?_map, Option.map_eq_some_iff, DataW.lit.injEq, Lit.string.injEq] at h2
        obtain ⟨z', hz', e2⟩ := h2
        have e3 : z' = z := ByteArray.ext (Array.toList_inj.1 e2)
        subst e3
        simp [h1, hz']
      · rw [List.getElem?_eq_none (by omega), List.getElem?_eq_none (by simp; omega)]
    · cases h

/-- The variable holds the nine words. -/
def WordsLie (w : World) : Prop := ∀ i, i < 9 → w.cell? ⟨1, i, none⟩ = some (.string (wordN i))
theorem WordsLie.below {w w' : World} (h : WordsLie w) (hb : Below w.heap.size w w') : WordsLie w' := fun i hi => (hb.cell (p := ⟨1, i, none⟩) (by
  have h0 := h 0 (by omega)
  show 1 < w.heap.size
  rcases Nat.lt_or_ge 1 w.heap.size with h1 | h1
  · exact h1
  · unfold World.cell? at h0
    rw [Array.getElem?_eq_none h1] at h0
    simp at h0)).trans (h i hi)
theorem words_of {rest : List (String × DataW Unit)} {w : World} (h : laidMet Tryd.prog (("loop.example/g00884/impl.tinctureWords", Rows.laid_loop_example_g00884_impl_tinctureWords) :: rest) w) : WordsLie w := by
  obtain ⟨ps, ⟨g', t', cs, fuel, p, q, hg', ht', hvar, hd, _, _⟩, _⟩ := h
  have hg : Tryd.prog.globalNamed "loop.example/g00884/impl.tinctureWords" = some 1 := by kernel_rfl
  have ht : (Tryd.prog.globals[1]?).map (·.type) = some 61 := by kernel_rfl
  obtain rfl := Option.some.inj (hg.symm.trans hg')
  obtain rfl := Option.some.inj (ht.symm.trans ht')
  have hcs : cs.toList = wordL.map Value.string := cells_of_words (n := 9) (e := 9) (ss := wordL) Tryd.underlying61 Tryd.underlying9 (by kernel_rfl) (by kernel_rfl) hd
  intro i hi
  have h1 := World.var?_cell hg hvar i
  rw [h1, ← Array.getElem?_toList, hcs]
  have hl : i < wordL.length := hi
  simp [wordN, List.getD, hl]

set_option maxHeartbeats 1000000 in
theorem l2Word_any (j : Nat) (w : World) (hj : j < 9) :
    Calls Tryd.prog 85 #[.int .i64 ((j : Int) + 1)] w fun e w' => e = .returned (.string (wordN j)) ∧ Below w.heap.size w w' := by
  obtain ⟨x, hx⟩ : ∃ x : Int, x = (j : Int) + 1 := ⟨_, rfl⟩
  rw [← hx]
  have hw : wordN j = wordN (x - 1).toNat := by rw [show (x - 1).toNat = j by omega]
  rw [hw]
  rcases nine (x := x) (by omega) (by omega) with rfl | rfl | rfl | rfl | rfl | rfl | rfl | rfl | rfl
  all_goals
    clear hx hw
    go_enter Tryd.func85, Tryd.ntmps85
    go_wp2_with fail
    go_ret
    exact ⟨rfl, (Below.refl _ _).alloc (Nat.le_refl _) _⟩
end Go.Proofs.YtklfkdmmclomoaaDoor
