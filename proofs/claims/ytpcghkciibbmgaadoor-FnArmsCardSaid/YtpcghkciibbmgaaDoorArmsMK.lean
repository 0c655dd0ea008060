/- Several small texts in one: LawIn, ArmsMath, ArmsK. -/
import Derived.Test.YtpcghkciibbmgaaDoorDraw
import Derived.Test.YtpcghkciibbmgaaDoorIntRows
import Derived.Test.YtpcghkciibbmgaaDoorLists
import Derived.Test.YtpcghkciibbmgaaDoorRRepl
import Derived.Test.YtpcghkciibbmgaaDoorArmsR
import Derived.Test.YtpcghkciibbmgaaDoorArmsH
import Derived.Test.YtpcghkciibbmgaaDoorMid15
namespace Go.Proofs.YtpcghkciibbmgaaDoor
open Go.RowKit

theorem rdb_of {w : World} {b o n : Nat} {spot : Option Nat} {f : Nat → Int} (hc : ∀ k, k < n → w.cell? ((⟨b, o, spot⟩ : Addr).add k) = some (.int .u8 (f k))) (hf : ∀ k, k < n → IntKind.u8.min ≤ f k ∧ f k ≤ IntKind.u8.max) : RdB w w.heap.size (some ⟨b, o, spot⟩) n := by
  intro hn
  have h0 := hc 0 hn
  have hspot : spot = none := by simpa [Addr.add] using World.cell?_spot h0
  subst hspot
  have h1 : ∀ k, k < n → w.cell? ⟨b, o + k, none⟩ = some (.int .u8 (f k)) := fun k hk => by
    have h1 := hc k hk
    have e : (⟨b, o, none⟩ : Addr).add k = ⟨b, o + k, none⟩ := by unfold Addr.add; split <;> simp_all
    rw [e] at h1
    exact h1
  exact ⟨b, o, rfl, cellI_lt (h1 0 hn), fun k hk => ⟨f k, h1 k hk, (hf k hk).1, (hf k hk).2⟩⟩

theorem vBig_any (a : Option Addr) (n cap : Nat) (w : World) :
    Calls Tryd.prog 5 #[.slice a n cap] w fun e w' => e = .returned (.bool (decide ((65536 : Int) < (n : Int)))) ∧ w = w' := by
  go_enter Tryd.func5, Tryd.ntmps5
  go_wp2_with fail
  go_ret
  exact ⟨rfl, rfl⟩

end Go.Proofs.YtpcghkciibbmgaaDoor
namespace Go.Proofs.YtpcghkciibbmgaaDoor
open Go.RowKit

/-- Both sides fail, or the arms are valid before and after, and both sides have them replaced. -/
theorem replace_two (d l f s o n x c k a t c' k' a' t' old y : Int) (w : World) (hA : AttsLie w) :
    ((∀ W, Calls Tryd.prog 8 #[.agg #[.int .i64 d, .int .i64 l, .int .i64 f, .int .i64 s, .int .i64 o, .int .i64 n, .int .i64 x, .int .i64 c, .int .i64 k, .int .i64 a, .int .i64 t, .int .i64 c', .int .i64 k', .int .i64 a', .int .i64 t'], .int .i64 old, .int .i64 y] W (AnsA W 0 0 0 0 0 0 0 0 0 0 0 0 0 0 0 false)) ∧ (∀ W, Below w.heap.size w W → Calls Tryd.prog 7 #[.agg #[.int .i64 d, .int .i64 l, .int .i64 f, .int .i64 s, .int .i64 o, .int .i64 n, .int .i64 x, .int .i64 c, .int .i64 k, .int .i64 a, .int .i64 t, .int .i64 c', .int .i64 k', .int .i64 a', .int .i64 t'], .int .i64 old, .int .i64 y] W (AnsA W 0 0 0 0 0 0 0 0 0 0 0 0 0 0 0 false))) ∨
    ((1 ≤ old ∧ old ≤ 9 ∧ 1 ≤ y ∧ y ≤ 9) ∧ aOkB d l f s o n x c k a t c' k' a' t' = true ∧ aOkB d l (turn1 old y f) (turn1 old y s) o n (turn1 old y x) c k a (turn1 old y t) c' k' a' (turn1 old y t') = true ∧ (∀ W, Calls Tryd.prog 8 #[.agg #[.int .i64 d, .int .i64 l, .int .i64 f, .int .i64 s, .int .i64 o, .int .i64 n, .int .i64 x, .int .i64 c, .int .i64 k, .int .i64 a, .int .i64 t, .int .i64 c', .int .i64 k', .int .i64 a', .int .i64 t'], .int .i64 old, .int .i64 y] W (AnsA W d l (turn1 old y f) (turn1 old y s) o n (turn1 old y x) c k a (turn1 old y t) c' k' a' (turn1 old y t') true)) ∧ (∀ W, Below w.heap.size w W → Calls Tryd.prog 7 #[.agg #[.int .i64 d, .int .i64 l, .int .i64 f, .int .i64 s, .int .i64 o, .int .i64 n, .int .i64 x, .int .i64 c, .int .i64 k, .int .i64 a, .int .i64 t, .int .i64 c', .int .i64 k', .int .i64 a', .int .i64 t'], .int .i64 old, .int .i64 y] W (AnsA W d l (turn1 old y f) (turn1 old y s) o n (turn1 old y x) c k a (turn1 old y t) c' k' a' (turn1 old y t') true))) := by
  by_cases h2 : 1 ≤ old ∧ old ≤ 9
  · by_cases h4 : 1 ≤ y ∧ y ≤ 9
    · rcases Bool.eq_false_or_eq_true (aOkB d l f s o n x c k a t c' k' a' t') with h1 | h1
      · rcases Bool.eq_false_or_eq_true (aOkB d l (turn1 old y f) (turn1 old y s) o n (turn1 old y x) c k a (turn1 old y t) c' k' a' (turn1 old y t')) with hg | hg
        · exact .inr ⟨⟨h2.1, h2.2, h4.1, h4.2⟩, h1, hg, fun W => replace_3 d l f s o n x c k a t c' k' a' t' old y W h2.1 h2.2 h4.1 h4.2 _ _ _ _ _ rfl rfl rfl rfl rfl (by show (aOkB d l f s o n x c k a t c' k' a' t' && aOkB d l (turn1 old y f) (turn1 old y s) o n (turn1 old y x) c k a (turn1 old y t) c' k' a' (turn1 old y t')) = true; rw [h1, hg]; rfl), fun W hb => replaceI_5 d l f s o n x c k a t c' k' a' t' old y W h1 h2.1 h2.2 h4.1 h4.2 _ _ _ _ _ rfl rfl rfl rfl rfl hg (hA.below hb)⟩
        · exact .inl ⟨fun W => replace_4 d l f s o n x c k a t c' k' a' t' old y W h2.1 h2.2 h4.1 h4.2 _ _ _ _ _ rfl rfl rfl rfl rfl (by show (aOkB d l f s o n x c k a t c' k' a' t' && aOkB d l (turn1 old y f) (turn1 old y s) o n (turn1 old y x) c k a (turn1 old y t) c' k' a' (turn1 old y t')) = false; rw [h1, hg]; rfl), fun W hb => replaceI_4 d l f s o n x c k a t c' k' a' t' old y W h1 h2.1 h2.2 h4.1 h4.2 _ _ _ _ _ rfl rfl rfl rfl rfl hg (hA.below hb)⟩
      · exact .inl ⟨fun W => replace_4 d l f s o n x c k a t c' k' a' t' old y W h2.1 h2.2 h4.1 h4.2 _ _ _ _ _ rfl rfl rfl rfl rfl (by show (aOkB d l f s o n x c k a t c' k' a' t' && aOkB d l (turn1 old y f) (turn1 old y s) o n (turn1 old y x) c k a (turn1 old y t) c' k' a' (turn1 old y t')) = false; rw [h1]; rfl), fun W hb => replaceI_1 d l f s o n x c k a t c' k' a' t' old y W h1 (hA.below hb)⟩
    · have h4' : y < 1 ∨ 9 < y := by omega
      rcases Bool.eq_false_or_eq_true (aOkB d l f s o n x c k a t c' k' a' t') with h1 | h1
      · exact .inl ⟨fun W => replace_2 d l f s o n x c k a t c' k' a' t' old y W h2.1 h2.2 h4', fun W hb => replaceI_3 d l f s o n x c k a t c' k' a' t' old y W h1 h2.1 h2.2 h4' (hA.below hb)⟩
      · exact .inl ⟨fun W => replace_2 d l f s o n x c k a t c' k' a' t' old y W h2.1 h2.2 h4', fun W hb => replaceI_1 d l f s o n x c k a t c' k' a' t' old y W h1 (hA.below hb)⟩
  · have h2' : old < 1 ∨ 9 < old := by omega
    rcases Bool.eq_false_or_eq_true (aOkB d l f s o n x c k a t c' k' a' t') with h1 | h1
    · exact .inl ⟨fun W => replace_1 d l f s o n x c k a t c' k' a' t' old y W h2', fun W hb => replaceI_2 d l f s o n x c k a t c' k' a' t' old y W h1 h2' (hA.below hb)⟩
    · exact .inl ⟨fun W => replace_1 d l f s o n x c k a t c' k' a' t' old y W h2', fun W hb => replaceI_1 d l f s o n x c k a t c' k' a' t' old y W h1 (hA.below hb)⟩
theorem shape_repl (d l f s o n x c k a t c' k' a' t' old y : Int) : shapeB d l f s o n x c k a t c' k' a' t' d l (turn1 old y f) (turn1 old y s) o n (turn1 old y x) c k a (turn1 old y t) c' k' a' (turn1 old y t') = true := by unfold shapeB; simp
theorem turn_zero {old y : Int} (h : 1 ≤ old) : turn1 old y 0 = 0 := by unfold turn1; rw [if_neg (by omega)]
theorem turn_ne {old y z : Int} (h : 1 ≤ y) (hz : z ≠ 0) : turn1 old y z ≠ 0 := by unfold turn1; split <;> omega
theorem gNo_turn {c k a t old y : Int} (h1 : 1 ≤ old) (h2 : 1 ≤ y) : gNoB c k a (turn1 old y t) = gNoB c k a t := by
  unfold gNoB
  by_cases e : t = 0
  · rw [e, turn_zero h1]
  · have := turn_ne (old := old) h2 e
    simp [e, this]
/-- The tinctures of the replaced arms are the replaced tinctures. -/
theorem armTL_turn {d f s o x t t' old y : Int} {z1 z2 : Bool} : armTL d (turn1 old y f) (turn1 old y s) o (turn1 old y x) z1 z2 (turn1 old y t) (turn1 old y t') = (armTL d f s o x z1 z2 t t').map (turn1 old y) := by
  unfold armTL tincL
  by_cases q0 : d = 0 <;> by_cases q1 : 0 < o <;> cases z1 <;> cases z2 <;> simp [q0, q1]
/-- There are as many tinctures as layers at least. -/
theorem layN_le {d f s o x t t' : Int} {z1 z2 : Bool} : layN o z1 z2 ≤ ((armTL d f s o x z1 z2 t t').length : Int) := by
  unfold armTL tincL layN
  by_cases q0 : d = 0 <;> by_cases q1 : 0 < o <;> cases z1 <;> cases z2 <;> simp [q0, q1]
theorem layN_pos {o : Int} {z1 z2 : Bool} : 1 ≤ layN o z1 z2 ∧ layN o z1 z2 ≤ 4 := by
  unfold layN
  by_cases q1 : 0 < o <;> cases z1 <;> cases z2 <;> simp [q1]
end Go.Proofs.YtpcghkciibbmgaaDoor
namespace Go.Proofs.YtpcghkciibbmgaaDoor
open Go.RowKit

def JK3 (w : World) (DA DB DW : Nat) (A B : List Value) (t : TypeId) (W : World) : Prop := BoxF W DA A t ∧ BoxF W DB B t ∧ BoxF W DW B t ∧ Below w.heap.size w W
theorem JK3.below {w W W' : World} {DA DB DW : Nat} {A B : List Value} {t : TypeId} (h : JK3 w DA DB DW A B t W) (hb : Below W.heap.size W W') : JK3 w DA DB DW A B t W' := ⟨h.1.below hb, h.2.1.below hb, h.2.2.1.below hb, h.2.2.2.trans (hb.mono h.2.2.2.size)⟩
theorem jk_of {w W : World} {DA DB DW : Nat} {A B : List Value} {t : TypeId} (h : JK3 w DA DB DW A B t W) : W.rangeAt DA 0 A ∧ W.rangeAt DB 0 B ∧ W.rangeAt DW 0 B ∧ JK3 w DA DB DW A B t W := ⟨h.1.range, h.2.1.range, h.2.2.1.range, h⟩
theorem jk_jk {w W : World} {DA DB DW : Nat} {A B : List Value} {t : TypeId} (h : W.rangeAt DA 0 A ∧ W.rangeAt DB 0 B ∧ W.rangeAt DW 0 B ∧ JK3 w DA DB DW A B t W) : JK3 w DA DB DW A B t W := h.2.2.2
theorem jk_below {w W W' : World} {DA DB DW : Nat} {A B : List Value} {t : TypeId} (h : W.rangeAt DA 0 A ∧ W.rangeAt DB 0 B ∧ W.rangeAt DW 0 B ∧ JK3 w DA DB DW A B t W) (hb : Below W.heap.size W W') : W'.rangeAt DA 0 A ∧ W'.rangeAt DB 0 B ∧ W'.rangeAt DW 0 B ∧ JK3 w DA DB DW A B t W' := jk_of ((jk_jk h).below hb)
theorem jk_drew {w W : World} {DA DB DW : Nat} {A B : List Value} {t : TypeId} (h : W.rangeAt DA 0 A ∧ W.rangeAt DB 0 B ∧ W.rangeAt DW 0 B ∧ JK3 w DA DB DW A B t W) : W.drew.rangeAt DA 0 A ∧ W.drew.rangeAt DB 0 B ∧ W.drew.rangeAt DW 0 B ∧ JK3 w DA DB DW A B t W.drew := jk_below h (Below.refl _ W).drew
end Go.Proofs.YtpcghkciibbmgaaDoor
