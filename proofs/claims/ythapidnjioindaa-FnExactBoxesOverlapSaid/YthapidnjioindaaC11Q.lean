/- Contracts: rows of boxes; the laws' eqBoxS, markBoxS and heldBoxS. -/
import Derived.Test.YthapidnjioindaaC11M
import Derived.Test.YthapidnjioindaaIntRows
import Derived.Deep.RegionWith
import Derived.Deep.LoopGhost
import Derived.OwnWalk
import Derived.Laws.OwnMore
import Derived.Maps.AppendAt
namespace Go.Proofs.Ythapidnjioindaa
open Go.RowKit

theorem ownsRow_lowB {w : World} {b b2 : Nat} {e : TypeId} {size : Nat} {v : Value} {n : Nat} {xs : List Value} (h : w.ownsRow b e size v n xs) (hb : b2 ≤ b) : w.ownsRow b2 e size v n xs := by
  obtain ⟨h1, h2⟩ := h
  refine ⟨h1, ?_⟩
  rcases h2 with h2 | ⟨g, cap, cur, hv, hg, r⟩
  · exact .inl h2
  · exact .inr ⟨g, cap, cur, hv, by omega, r⟩
def bxcell (F : Bx) : List Value := [.int .i64 F.x, .int .i64 F.y, .int .i64 F.n]
def bcells (X : List Bx) : List Value := X.flatMap bxcell
theorem bcells_len : ∀ X : List Bx, (bcells X).length = X.length * 3
  | [] => rfl
  | F :: X => by
    show (bxcell F ++ bcells X).length = (X.length + 1) * 3
    rw [List.length_append, bcells_len X]; simp [bxcell]; omega
theorem bcells_app (X : List Bx) (F : Bx) : bcells (X ++ [F]) = bcells X ++ bxcell F := by simp [bcells]
theorem infoBx : (Try.prog.info? 25).map (fun i => (i.zero, i.size, i.bytes)) = some (some (.agg #[.int .i64 0, .int .i64 0, .int .i64 0]), 3, 24) := by kernel_rfl
/-- The slice owns a row from block B on that holds these boxes (or is nil and holds none). -/
def OwnBx (w : World) (B : Nat) (v : Value) (X : List Bx) : Prop := w.ownsRow B 25 3 v X.length (bcells X)
theorem OwnBx.below {w w' : World} {B : Nat} {v : Value} {X : List Bx} (h : OwnBx w B v X) (hb : Below w.heap.size w w') : OwnBx w' B v X :=
  World.ownsRow.kept (row := none) h ⟨hb.os, hb.tape, hb.output, hb.size, fun i hi _ => hb.block i hi⟩ (by cases h : v.ownBlock <;> simp)
theorem OwnBx.low {w : World} {B B2 : Nat} {v : Value} {X : List Bx} (h : OwnBx w B v X) (hb : B2 ≤ B) : OwnBx w B2 v X := ownsRow_lowB h hb
theorem OwnBx.slice {w : World} {B : Nat} {v : Value} {X : List Bx} (h : OwnBx w B v X) : ∃ a cap, v = .slice a X.length cap := by
  rcases h.2 with ⟨h0, h1⟩ | ⟨g, cap, cur, hv, hg, r⟩
  · have h2 := h.1
    rw [h1] at h2
    have h3 : X.length = 0 := by simp at h2; omega
    exact ⟨none, 0, by rw [h3]; exact h0⟩
  · exact ⟨_, cap, hv⟩
theorem ownBx_nil (w : World) (B : Nat) : OwnBx w B (.slice none 0 0) [] := World.ownsRow_nil _ _ _ _
def AnsBx (w : World) (X : List Bx) (ok : Bool) (e : Ending) (w' : World) : Prop :=
  ∃ a cap, e = .returned (.tuple #[.slice a X.length cap, .bool ok]) ∧ OwnBx w' w.heap.size (.slice a X.length cap) X ∧ Below w.heap.size w w'
theorem app_bx {w : World} {B : Nat} {v : Value} {n : Nat} {X Y : List Bx} {F : Bx} (h : w.ownsRow B 25 3 v n (bcells X ++ [.int .i64 F.x, .int .i64 F.y, .int .i64 F.n])) (e : Y = X ++ [F]) (hn : n = X.length + 1) : OwnBx w B v Y := by
  subst e
  unfold OwnBx
  rw [bcells_app, List.length_append, List.length_singleton, ← hn]
  exact h
theorem cell_newB (W : World) (L : List Value) (t : TypeId) : ∀ j u, L[j]? = some u → (W.alloc (.cells L.toArray t (0, 0))).cell? ((⟨W.heap.size, 0, none⟩ : Addr).add j) = some u := fun j u hj => by
  have e : (⟨W.heap.size, 0, none⟩ : Addr).add j = ⟨W.heap.size, j, none⟩ := by unfold Addr.add; split <;> simp_all
  rw [e]
  exact ((BoxF.new W L t).at j).trans hj
theorem bcells_at : ∀ {X : List Bx} {k : Nat} {F : Bx}, X[k]? = some F → (bcells X)[k * 3]? = some (.int .i64 F.x) ∧ (bcells X)[k * 3 + 1]? = some (.int .i64 F.y) ∧ (bcells X)[k * 3 + 2]? = some (.int .i64 F.n)
  | [], _, _, h => by simp at h
  | G :: X, 0, F, h => by
    simp at h
    subst h
    exact ⟨rfl, rfl, rfl⟩
  | G :: X, k + 1, F, h => by
    have ih := bcells_at (X := X) (k := k) (F := F) (by simpa using h)
    have e : bcells (G :: X) = bxcell G ++ bcells X := rfl
    have q : ∀ j, (bcells (G :: X))[j + 3]? = (bcells X)[j]? := fun j => by
      rw [e, List.getElem?_append_right (by simp [bxcell])]; simp [bxcell]
    have e0 : (k + 1) * 3 = k * 3 + 3 := by omega
    have e1 : (k + 1) * 3 + 1 = (k * 3 + 1) + 3 := by omega
    have e2 : (k + 1) * 3 + 2 = (k * 3 + 2) + 3 := by omega
    rw [e0, q, show k * 3 + 3 + 1 = (k * 3 + 1) + 3 by omega, q, show k * 3 + 3 + 2 = (k * 3 + 2) + 3 by omega, q]
    exact ih
/-- The slice of address a reads as these boxes; its cells are old ones. -/
def RdBx (w : World) (a : Option Addr) (n : Nat) (X : List Bx) : Prop :=
  X.length = n ∧ (0 < n → ∃ b o, a = some ⟨b, o, none⟩ ∧ b < w.heap.size ∧ ∀ k F, X[k]? = some F → w.cell? ⟨b, o + k * 3, none⟩ = some (.int .i64 F.x) ∧ w.cell? ⟨b, o + k * 3 + 1, none⟩ = some (.int .i64 F.y) ∧ w.cell? ⟨b, o + k * 3 + 2, none⟩ = some (.int .i64 F.n))
theorem RdBx.below {w w' : World} {a : Option Addr} {n : Nat} {X : List Bx} (h : RdBx w a n X) (hb : Below w.heap.size w w') : RdBx w' a n X :=
  ⟨h.1, fun hn => by
    obtain ⟨b, o, e, hlt, hc⟩ := h.2 hn
    exact ⟨b, o, e, Nat.lt_of_lt_of_le hlt hb.size, fun k F hk => ⟨(hb.cell (p := ⟨b, o + k * 3, none⟩) hlt).trans (hc k F hk).1, (hb.cell (p := ⟨b, o + k * 3 + 1, none⟩) hlt).trans (hc k F hk).2.1, (hb.cell (p := ⟨b, o + k * 3 + 2, none⟩) hlt).trans (hc k F hk).2.2⟩⟩⟩
theorem OwnBx.shape {w : World} {B cap : Nat} {a : Option Addr} {X : List Bx} (h : OwnBx w B (.slice a X.length cap) X) : (a = none ∧ cap = 0 ∧ X = []) ∨ ∃ g, a = some ⟨g, 0, none⟩ ∧ B ≤ g ∧ g < w.heap.size := by
  have hlt := World.ownsRow.lt h
  rcases h.2 with ⟨h1, h2⟩ | ⟨g, cp, cur, h1, h2, h3, _⟩
  · simp only [Value.slice.injEq] at h1
    exact .inl ⟨h1.1, h1.2.2, List.eq_nil_of_length_eq_zero h1.2.1⟩
  · simp only [Value.slice.injEq] at h1
    obtain ⟨rfl, _, _⟩ := h1
    exact .inr ⟨g, rfl, h2, (hlt g rfl).2⟩
theorem OwnBx.rd {w : World} {B cap : Nat} {a : Option Addr} {X : List Bx} (h : OwnBx w B (.slice a X.length cap) X) : RdBx w a X.length X := by
  refine ⟨rfl, fun hn => ?_⟩
  rcases h.shape with ⟨_, _, rfl⟩ | ⟨g, rfl, _, hg⟩
  · simp at hn
  · refine ⟨g, 0, rfl, hg, fun k F hk => ?_⟩
    have hkl : k < X.length := (List.getElem?_eq_some_iff.1 hk).1
    obtain ⟨c0, c1, c2⟩ := bcells_at hk
    refine ⟨?_, ?_, ?_⟩
    · rw [Nat.zero_add]; exact (World.ownsRow.cellAt h (k * 3) (by omega)).trans c0
    · rw [Nat.zero_add]; exact (World.ownsRow.cellAt h (k * 3 + 1) (by omega)).trans c1
    · rw [Nat.zero_add]; exact (World.ownsRow.cellAt h (k * 3 + 2) (by omega)).trans c2
theorem atB_of_lt {X : List Bx} {k n : Nat} (hX : X.length = n) (hk : k < n) : ∃ F, X[k]? = some F := ⟨X[k]'(by omega), List.getElem?_eq_getElem (by omega)⟩

theorem rdBx_of {w : World} {B n cap : Nat} {a : Option Addr} {X : List Bx} (hX : X.length = n) (h : OwnBx w B (.slice a n cap) X) : RdBx w a n X := by
  subst hX; exact h.rd
theorem rdBx_grown {w0 w w' : World} {a : Option Addr} {n : Nat} {X : List Bx} {row : Option Nat} (h0 : RdBx w0 a n X) (h : RdBx w a n X) (hg : w.grownBy w' row) (hne : ∀ q, row = some q → w0.heap.size ≤ q) : RdBx w' a n X :=
  ⟨h.1, fun hn => by
    obtain ⟨b0, o0, e0, hlt0, _⟩ := h0.2 hn
    obtain ⟨b, o, e, hlt, hc⟩ := h.2 hn
    rw [e0] at e
    cases e
    have q : some b0 ≠ row := fun e => by have := hne b0 e.symm; omega
    exact ⟨b0, o0, e0, Nat.lt_of_lt_of_le hlt hg.size, fun k F hk => ⟨hg.cell (hc k F hk).1 q, hg.cell (hc k F hk).2.1 q, hg.cell (hc k F hk).2.2 q⟩⟩⟩
theorem eqBox_same (F : Bx) (w : World) :
    Calls Try.prog 34 #[.agg #[.int .i64 F.x, .int .i64 F.y, .int .i64 F.n], .agg #[.int .i64 F.x, .int .i64 F.y, .int .i64 F.n]] w fun e w' => e = .returned (.bool true) ∧ Below w.heap.size w w' := by
  obtain ⟨p, u, l⟩ := F
  have e1 : (p != p) = false := by simp
  have e2 : (u != u) = false := by simp
  have e3 : (l != l) = false := by simp
  go_enter Try.func34, Try.ntmps34
  go_wp2_with fail
  go_ret
  exact ⟨rfl, ((Below.refl _ _).alloc (Nat.le_refl _) _).alloc (by simp) _⟩
set_option maxRecDepth 100000 in
set_option maxHeartbeats 8000000 in
theorem eqBoxS_true (X : List Bx) (n : Nat) (a1 a2 : Option Addr) (c1 c2 : Nat) (w : World) (h1 : RdBx w a1 n X) (h2 : RdBx w a2 n X) (hn : n ≤ 1048577) :
    Calls Try.prog 18 #[.slice a1 n c1, .slice a2 n c2] w fun e w' => e = .returned (.bool true) ∧ Below w.heap.size w w' := by
  have en : ((n : Int) != (n : Int)) = false := by simp
  rcases Nat.eq_zero_or_pos n with h0 | h0
  · subst h0
    clear h1 h2
    go_enter Try.func18, Try.ntmps18
    go_wp2_with fail
    refine wp_loop_rounds 1 ?_
    rw [rounds_succ]
    go_wp2_with fail
    go_ret
    exact ⟨rfl, Below.refl _ _⟩
  · obtain ⟨b1, o1, rfl, hb1, hc1⟩ := h1.2 h0
    obtain ⟨b2, o2, rfl, hb2, hc2⟩ := h2.2 h0
    have HL := Lib.hid h1.1
    have H1 := Lib.hid hc1
    have H2 := Lib.hid hc2
    have CQ := Lib.hid (fun (F : Bx) W => eqBox_same F W)
    clear h1 h2 hc1 hc2
    go_enter Try.func18, Try.ntmps18
    go_wp2_with fail
    go_loopw [5] (fun i wr => ∃ k : Nat, k ≤ n ∧ i = .int .i64 k ∧ Below w.heap.size w wr) (fun i _ => n - (intOf i).toNat)
    case atStart => exact ⟨0, Nat.zero_le _, rfl, Below.refl _ _⟩
    case round =>
      obtain ⟨k, hk, rfl, hb⟩ := hrel
      by_cases hlt : k < n
      · obtain ⟨F, hF⟩ := atB_of_lt HL.out hlt
        obtain ⟨x0, x1, x2⟩ := H1.out k F hF
        obtain ⟨y0, y1, y2⟩ := H2.out k F hF
        have x0 := (hb.cell (p := ⟨b1, o1 + k * 3, none⟩) hb1).trans x0
        have x1 := (hb.cell (p := ⟨b1, o1 + k * 3 + 1, none⟩) hb1).trans x1
        have x2 := (hb.cell (p := ⟨b1, o1 + k * 3 + 2, none⟩) hb1).trans x2
        have y0 := (hb.cell (p := ⟨b2, o2 + k * 3, none⟩) hb2).trans y0
        have y1 := (hb.cell (p := ⟨b2, o2 + k * 3 + 1, none⟩) hb2).trans y1
        have y2 := (hb.cell (p := ⟨b2, o2 + k * 3 + 2, none⟩) hb2).trans y2
        have HB := Lib.hid hb
        clear hF hb
        go_wp2_with fail
        go_region_with (first
          | (go_at_call 34; (with_reducible refine (CQ.out F _).mono ?_); rintro e w2 ⟨rfl, g2⟩; have hS : Below wr.heap.size wr w2 := ⟨g2.os, g2.tape, g2.output, g2.size, g2.block⟩; have HB2 := Lib.hid (HB.out.trans (hS.mono HB.out.size)); clear hS g2))
        all_goals
          clear x0 x1 x2 y0 y1 y2
          go_wp2_with fail
          go_roundw
          case rel => exact ⟨k + 1, by omega, by go_num, HB2.out⟩
          case measure => simp [intOf]; omega
      · have HB := Lib.hid hb
        clear hb
        go_wp2_with fail
        go_ret
        exact ⟨rfl, HB.out⟩
end Go.Proofs.Ythapidnjioindaa
