/- Several small texts in one: Cur, Pick, Draw, Clash, Against, DrawTin, DrawField, Cset. -/
import Derived.WalkKit
import Derived.Below
import Derived.Test.YthapidnjioindaaDoorKA
import Derived.Test.YthapidnjioindaaDoorProg
import Derived.WalkLawsBesides
import Derived.Deep.QuietTactic
import Derived.BigQuiet
import Derived.IntWalk
import Derived.OwnWalk
import Derived.Laws.Rows
import Derived.Laws.AppendOwn
import Derived.Maps.AppendAt
import Derived.Laws.BitsLemmas
import Derived.Laws.OwnMore
import Derived.Laws.BytesArg
import Derived.Test.YthapidnjioindaaDoorKC
namespace Go.Proofs.YthapidnjioindaaDoor
open Go.RowKit

theorem cset_o (w : World) (b i j : Nat) (v : Value) (h : i ≠ j) : (w.setCell ⟨b, i, none⟩ v).cell? ⟨b, j, none⟩ = w.cell? ⟨b, j, none⟩ :=
  World.cell?_setCell_other _ _ _ _ (fun e => h (Addr.mk.inj e).2.1)
theorem cset_b (w : World) (b c i j : Nat) (v : Value) (h : b ≠ c) : (w.setCell ⟨b, i, none⟩ v).cell? ⟨c, j, none⟩ = w.cell? ⟨c, j, none⟩ :=
  World.cell?_setCell_other _ _ _ _ (fun e => h (Addr.mk.inj e).1)
end Go.Proofs.YthapidnjioindaaDoor
namespace Go.Proofs.YthapidnjioindaaDoor
open Go.RowKit

/-- The bytes that came in: n of them, at a, each from 0 to 255, in blocks below B. -/
def RdB (w : World) (B : Nat) (a : Option Addr) (n : Nat) : Prop :=
  0 < n → ∃ b o, a = some ⟨b, o, none⟩ ∧ b < B ∧ ∀ k, k < n → ∃ x : Int, w.cell? ⟨b, o + k, none⟩ = some (.int .u8 x) ∧ 0 ≤ x ∧ x ≤ 255
/-- Block p is a cursor over these bytes that has been moved at most M times. -/
def IsCur (w : World) (B p : Nat) (a : Option Addr) (n cap M : Nat) : Prop :=
  B ≤ p ∧ RdB w B a n ∧ ∃ (at_ : Nat) (seed : Int), at_ ≤ M ∧ w.heap[p]? = some (.cells #[.slice a n cap, .int .i64 at_, .int .u64 seed] 77 (0, 0))

theorem cur_cells {w : World} {p : Nat} {u v x : Value} {t : TypeId} (h : w.heap[p]? = some (.cells #[u, v, x] t (0, 0))) :
    w.cell? ⟨p, 0, none⟩ = some u ∧ w.cell? ⟨p, 1, none⟩ = some v ∧ w.cell? ⟨p, 2, none⟩ = some x ∧ (∀ i, w.frozen? ⟨p, i, none⟩ = false) := by
  refine ⟨?_, ?_, ?_, fun i => ?_⟩ <;> simp [World.cell?, World.frozen?, h]

theorem cur_moved {w : World} {B p : Nat} {a : Option Addr} {n cap M at_ : Nat} {seed : Int} (hB : B ≤ p) (hR : RdB w B a n) (hat : at_ ≤ M)
    (hp : w.heap[p]? = some (.cells #[.slice a n cap, .int .i64 at_, .int .u64 seed] 77 (0, 0))) (q1 q2 : Nat) (s' : Int) :
    IsCur ((((w.drewN q1).setCell ⟨p, 1, none⟩ (.int .i64 ((at_ : Int) + 1))).setCell ⟨p, 2, none⟩ (.int .u64 s')).drewN q2) B p a n cap (M + 1) ∧
      w.grownBy ((((w.drewN q1).setCell ⟨p, 1, none⟩ (.int .i64 ((at_ : Int) + 1))).setCell ⟨p, 2, none⟩ (.int .u64 s')).drewN q2) (some p) := by
  have hblk : ∀ k, k ≠ p → ((((w.drewN q1).setCell ⟨p, 1, none⟩ (.int .i64 ((at_ : Int) + 1))).setCell ⟨p, 2, none⟩ (.int .u64 s')).drewN q2).heap[k]? = w.heap[k]? := fun k hk =>
    (Below.heap_setCell _ ⟨p, 2, none⟩ _ k hk).trans (Below.heap_setCell _ ⟨p, 1, none⟩ _ k hk)
  refine ⟨⟨hB, fun hn => ?_, at_ + 1, s', by omega, ?_⟩, ⟨rfl, rfl, rfl, by simp [World.setCell], fun k _ hk => hblk k (fun e => hk (by rw [e]))⟩⟩
  · obtain ⟨b, o, e, hb, hc⟩ := hR hn
    refine ⟨b, o, e, hb, fun k hk => ?_⟩
    obtain ⟨x, hx, h0, h1⟩ := hc k hk
    exact ⟨x, (World.cell?_of_block (hblk b (by omega))).trans hx, h0, h1⟩
  · show ((((w.drewN q1).setCell ⟨p, 1, none⟩ (.int .i64 ((at_ : Int) + 1))).setCell ⟨p, 2, none⟩ (.int .u64 s'))).heap[p]? = _
    simp [World.setCell, Array.getElem?_modify]
    exact ⟨_, hp, rfl⟩

theorem low8 (s : Int) : 0 ≤ wrap64 (bits .and .u64 (IntKind.u64.wrap s / 1099511627776) 255) ∧ wrap64 (bits .and .u64 (IntKind.u64.wrap s / 1099511627776) 255) ≤ 255 := by
  have hw : IntKind.u64.wrap s = s % 18446744073709551616 := IntKind.wrap_u64 s
  have hk : ∀ n : Int, 0 ≤ n → n < 2 ^ 63 → IntKind.u64.wrap n = n := fun n h₀ h₁ => by rw [IntKind.wrap_u64]; omega
  have hm := bits_mask .u64 63 (by decide) hk 8 (by decide) (IntKind.u64.wrap s / 1099511627776) (by omega) (by omega)
  have e : ((2 : Int) ^ 8 - 1) = 255 := by decide
  have e2 : ((2 : Int) ^ 8) = 256 := by decide
  rw [e, e2] at hm
  rw [hm]
  unfold wrap64
  omega

set_option maxHeartbeats 2000000 in
theorem next_any (B p : Nat) (a : Option Addr) (n cap M : Nat) (w : World) (h : IsCur w B p a n cap M) (hM : M ≤ 1000000) (hn : n ≤ 65536) :
    Calls Tryd.prog 99 #[.pointer (some ⟨p, 0, none⟩)] w fun e w' => (∃ r : Int, e = .returned (.int .i64 r) ∧ 0 ≤ r ∧ r ≤ 255) ∧ IsCur w' B p a n cap (M + 1) ∧ w.grownBy w' (some p) := by
  obtain ⟨hB, hR, at_, seed, hat, hp⟩ := h
  obtain ⟨f0, f1, f2, fz⟩ := cur_cells hp
  have z1 := fz 1
  have z2 := fz 2
  have HP := Lib.hid hp
  have HR := Lib.hid hR
  clear hp hR fz
  by_cases hlt : at_ < n
  · obtain ⟨b, o, rfl, hb, hc⟩ := HR.out (by omega)
    obtain ⟨x, hx, hx0, hx1⟩ := hc at_ hlt
    clear hc
    go_enter Tryd.func99, Tryd.ntmps99
    go_wp2_with fail
    go_quiet (fail)
    go_wp2_with fail
    go_quiet (fail)
    go_wp2_with fail
    go_quiet (fail)
    go_wp2_with fail
    go_ret
    exact ⟨⟨x, rfl, hx0, hx1⟩, cur_moved hB HR.out hat HP.out _ _ _⟩
  · have hge : decide ((at_ : Int) < (n : Int)) = false := by simp; omega
    go_enter Tryd.func99, Tryd.ntmps99
    go_wp2_with fail
    go_quiet (fail)
    go_wp2_with fail
    go_quiet (fail)
    go_wp2_with fail
    go_ret
    exact ⟨⟨_, rfl, (low8 _).1, (low8 _).2⟩, cur_moved hB HR.out hat HP.out _ _ _⟩
end Go.Proofs.YthapidnjioindaaDoor
namespace Go.Proofs.YthapidnjioindaaDoor
open Go.RowKit

theorem IsCur.mono {w : World} {B p : Nat} {a : Option Addr} {n cap M M' : Nat} (h : IsCur w B p a n cap M) (hm : M ≤ M') : IsCur w B p a n cap M' := by
  obtain ⟨hB, hR, at_, seed, hat, hp⟩ := h
  exact ⟨hB, hR, at_, seed, by omega, hp⟩
theorem grownBy_refl (w : World) (o : Option Nat) : w.grownBy w o := ⟨rfl, rfl, rfl, Nat.le_refl _, fun _ _ _ => rfl⟩
theorem grownBy_trans {w w1 w2 : World} {o : Option Nat} (h : w.grownBy w1 o) (h' : w1.grownBy w2 o) : w.grownBy w2 o := by
  obtain ⟨a1, a2, a3, a4, a5⟩ := h
  obtain ⟨b1, b2, b3, b4, b5⟩ := h'
  exact ⟨b1.trans a1, b2.trans a2, b3.trans a3, by omega, fun k hk hne => (b5 k (by omega) hne).trans (a5 k hk hne)⟩
theorem mod_pick {x N : Int} (hN : 1 < N) : 0 ≤ x % N ∧ x % N < N := by
  exact ⟨Int.emod_nonneg _ (by omega), Int.emod_lt_of_pos _ (by omega)⟩

theorem pick_any (B p : Nat) (a : Option Addr) (n cap M : Nat) (w : World) (h : IsCur w B p a n cap M) (hM : M ≤ 999990) (hn : n ≤ 65536) (N : Int) (hN0 : 0 ≤ N) (hN : N ≤ 1000000) :
    Calls Tryd.prog 61 #[.pointer (some ⟨p, 0, none⟩), .int .i64 N] w fun e w' => (∃ r : Int, e = .returned (.int .i64 r) ∧ 0 ≤ r ∧ (r < N ∨ r = 0)) ∧ IsCur w' B p a n cap (M + 2) ∧ w.grownBy w' (some p) := by
  by_cases h1 : N ≤ 1
  · have e1 : decide (N ≤ 1) = true := by simp; omega
    have H := Lib.hid h
    clear h
    go_enter Tryd.func61, Tryd.ntmps61
    go_wp2_with fail
    go_ret
    exact ⟨⟨0, rfl, by omega, .inr rfl⟩, H.out.mono (by omega), grownBy_refl _ _⟩
  · have e1 : decide (N ≤ 1) = false := by simp; omega
    have e0 : (N == 0) = false := by simp; omega
    have c1 := next_any B p a n cap M w h (by omega) hn
    have c2 := fun w1 h1 => next_any B p a n cap (M + 1) w1 h1 (by omega) hn
    clear h
    by_cases h2 : 200 < N
    · have e2 : decide (200 < N) = true := by simp; omega
      go_enter Tryd.func61, Tryd.ntmps61
      go_wp2_with fail
      refine c1.mono ?_
      rintro e w1 ⟨⟨x, rfl, hx0, hx1⟩, hc1, hg1⟩
      go_wp2_with fail
      refine (c2 w1 hc1).mono ?_
      rintro e w2 ⟨⟨y, rfl, hy0, hy1⟩, hc2, hg2⟩
      have hm := mod_pick (x := x * 256 + y) (N := N) (by omega)
      have HC := Lib.hid hc2
      clear hc1 hc2
      go_wp2_with fail
      go_ret
      exact ⟨⟨_, rfl, hm.1, .inl hm.2⟩, HC.out.mono (by omega), hg1.trans hg2⟩
    · have e2 : decide (200 < N) = false := by simp; omega
      go_enter Tryd.func61, Tryd.ntmps61
      go_wp2_with fail
      refine c1.mono ?_
      rintro e w1 ⟨⟨x, rfl, hx0, hx1⟩, hc1, hg1⟩
      have hm := mod_pick (x := x) (N := N) (by omega)
      have HC := Lib.hid hc1
      clear hc1
      go_wp2_with fail
      go_ret
      exact ⟨⟨_, rfl, hm.1, .inl hm.2⟩, HC.out.mono (by omega), hg1⟩

theorem one_any (B p : Nat) (a : Option Addr) (n cap M : Nat) (w : World) (h : IsCur w B p a n cap M) (hM : M ≤ 999990) (hn : n ≤ 65536) (N : Int) (hN0 : 0 ≤ N) (hN : N ≤ 1000000) :
    Calls Tryd.prog 90 #[.pointer (some ⟨p, 0, none⟩), .int .i64 N] w fun e w' => (∃ b : Bool, e = .returned (.bool b)) ∧ IsCur w' B p a n cap (M + 2) ∧ w.grownBy w' (some p) := by
  have c1 := pick_any B p a n cap M w h hM hn N hN0 hN
  clear h
  go_enter Tryd.func90, Tryd.ntmps90
  go_wp2_with fail
  refine c1.mono ?_
  rintro e w1 ⟨⟨x, rfl, hx0, hx1⟩, hc1, hg1⟩
  have HC := Lib.hid hc1
  clear hc1
  go_wp2_with fail
  go_ret
  exact ⟨⟨_, rfl⟩, HC.out, hg1⟩


/-- Row g holds m numbers from -L to L. -/
def NumRow (w : World) (g m L : Nat) : Prop := ∀ k, k < m → ∃ x : Int, w.cell? ⟨g, k, none⟩ = some (.int .i64 x) ∧ -(L : Int) ≤ x ∧ x ≤ L
theorem among_any (B p : Nat) (a : Option Addr) (n cap M : Nat) (w : World) (h : IsCur w B p a n cap M) (hM : M ≤ 999990) (hn : n ≤ 65536) (g m cp L : Nat) (hm0 : 0 < m) (hm : m ≤ 1000) (hr : NumRow w g m L) (hgp : g ≠ p) (hgw : g < w.heap.size) :
    Calls Tryd.prog 49 #[.pointer (some ⟨p, 0, none⟩), .slice (some ⟨g, 0, none⟩) m cp] w fun e w' => (∃ x : Int, e = .returned (.int .i64 x) ∧ -(L : Int) ≤ x ∧ x ≤ L) ∧ IsCur w' B p a n cap (M + 2) ∧ w.grownBy w' (some p) := by
  have c1 := pick_any B p a n cap M w h hM hn m (by omega) (by omega)
  have HR := Lib.hid hr
  clear h hr
  go_enter Tryd.func49, Tryd.ntmps49
  go_wp2_with fail
  refine c1.mono ?_
  rintro e w1 ⟨⟨x, rfl, hx0, hx1⟩, hc1, hg1⟩
  obtain ⟨k, rfl⟩ : ∃ k : Nat, x = k := ⟨x.toNat, by omega⟩
  obtain ⟨s, hs, hS⟩ := HR.out k (by omega)
  have hs1 : w1.cell? ⟨g, k, none⟩ = some (.int .i64 s) := (World.cell?_of_block (hg1.block g hgw (by simp; omega))).trans hs
  have HC := Lib.hid hc1
  have hk : k < m := by omega
  clear hc1 hs hx1
  go_wp2_with fail
  go_ret
  exact ⟨⟨s, rfl, hS⟩, HC.out, hg1⟩
/-- Row g holds m numbers of which P holds. -/
def NumRowP (w : World) (g m : Nat) (P : Int → Prop) : Prop := ∀ k, k < m → ∃ x : Int, w.cell? ⟨g, k, none⟩ = some (.int .i64 x) ∧ P x
theorem among_p (B p : Nat) (a : Option Addr) (n cap M : Nat) (w : World) (h : IsCur w B p a n cap M) (hM : M ≤ 999990) (hn : n ≤ 65536) (g m cp : Nat) (P : Int → Prop) (hm0 : 0 < m) (hm : m ≤ 1000) (hr : NumRowP w g m P) (hgp : g ≠ p) (hgw : g < w.heap.size) :
    Calls Tryd.prog 49 #[.pointer (some ⟨p, 0, none⟩), .slice (some ⟨g, 0, none⟩) m cp] w fun e w' => (∃ x : Int, e = .returned (.int .i64 x) ∧ P x) ∧ IsCur w' B p a n cap (M + 2) ∧ w.grownBy w' (some p) := by
  have c1 := pick_any B p a n cap M w h hM hn m (by omega) (by omega)
  have HR := Lib.hid hr
  clear h hr
  go_enter Tryd.func49, Tryd.ntmps49
  go_wp2_with fail
  refine c1.mono ?_
  rintro e w1 ⟨⟨x, rfl, hx0, hx1⟩, hc1, hg1⟩
  obtain ⟨k, rfl⟩ : ∃ k : Nat, x = k := ⟨x.toNat, by omega⟩
  obtain ⟨s, hs, hS⟩ := HR.out k (by omega)
  have hs1 : w1.cell? ⟨g, k, none⟩ = some (.int .i64 s) := (World.cell?_of_block (hg1.block g hgw (by simp; omega))).trans hs
  have HC := Lib.hid hc1
  have hk : k < m := by omega
  clear hc1 hs hx1
  go_wp2_with fail
  go_ret
  exact ⟨⟨s, rfl, hS⟩, HC.out, hg1⟩
end Go.Proofs.YthapidnjioindaaDoor
namespace Go.Proofs.YthapidnjioindaaDoor
open Go.RowKit

theorem alloc_size (w : World) (o : Obj) : (w.alloc o).heap.size = w.heap.size + 1 := by
  show (w.heap.push o).size = _
  exact Array.size_push ..
theorem IsCur.lt {w : World} {B p : Nat} {a : Option Addr} {n cap M : Nat} (h : IsCur w B p a n cap M) : p < w.heap.size := by
  obtain ⟨hB, hR, at_, seed, hat, hp⟩ := h
  rcases Nat.lt_or_ge p w.heap.size with h1 | h1
  · exact h1
  · rw [Array.getElem?_eq_none h1] at hp; cases hp
theorem IsCur.kept {w w' : World} {B p : Nat} {a : Option Addr} {n cap M : Nat} {row : Option Nat} (h : IsCur w B p a n cap M) (hg : w.grownBy w' row) (hr : ∀ k, row = some k → p < k) : IsCur w' B p a n cap M := by
  have hlt := h.lt
  obtain ⟨hB, hR, at_, seed, hat, hp⟩ := h
  refine ⟨hB, fun hn => ?_, at_, seed, hat, (hg.block p hlt (fun e => by have := hr p e.symm; omega)).trans hp⟩
  obtain ⟨b, o, e, hb, hc⟩ := hR hn
  refine ⟨b, o, e, hb, fun k hk => ?_⟩
  obtain ⟨x, hx, h0, h1⟩ := hc k hk
  exact ⟨x, (World.cell?_of_block (hg.block b (by omega) (fun e => by have := hr b e.symm; omega))).trans hx, h0, h1⟩
theorem IsCur.alloc {w : World} {B p : Nat} {a : Option Addr} {n cap M : Nat} (h : IsCur w B p a n cap M) (o : Obj) : IsCur (w.alloc o) B p a n cap M :=
  h.kept (World.grownBy_alloc w o none) (by simp)
theorem isCur_new {w : World} {a : Option Addr} {n : Nat} (cap : Nat) (h : RdB w w.heap.size a n) : IsCur (w.alloc (.cells #[.slice a n cap, .int .i64 0, .int .u64 0] 77 (0, 0))) w.heap.size w.heap.size a n cap 0 := by
  refine ⟨Nat.le_refl _, fun hn => ?_, 0, 0, Nat.le_refl _, by show (w.heap.push _)[w.heap.size]? = _; exact Array.getElem?_push_size⟩
  obtain ⟨b, o, e, hb, hc⟩ := h hn
  refine ⟨b, o, e, hb, fun k hk => ?_⟩
  obtain ⟨x, hx, h0, h1⟩ := hc k hk
  exact ⟨x, (World.cell?_of_block (Below.heap_alloc w _ b hb)).trans hx, h0, h1⟩
theorem RdB.on {w w' : World} {a : Option Addr} {n : Nat} (h : RdB w w.heap.size a n) (hb : Below w.heap.size w w') : RdB w' w'.heap.size a n := by
  intro hn
  obtain ⟨b, o, e, hlt, hc⟩ := h hn
  have := hb.size
  refine ⟨b, o, e, by omega, fun k hk => ?_⟩
  obtain ⟨x, hx, h0, h1⟩ := hc k hk
  exact ⟨x, (hb.cell (p := ⟨b, o + k, none⟩) hlt).trans hx, h0, h1⟩

def isShort (S : Nat) : Value → Bool
  | .string s => decide (s.size ≤ S)
  | _ => false
theorem alloc_cell (w : World) (l : Array Value) (t : TypeId) (k : Nat) : (w.alloc (.cells l t)).cell? ⟨w.heap.size, k, none⟩ = l[k]? := by
  have e : (w.alloc (.cells l t)).heap[w.heap.size]? = some (.cells l t) := by show (w.heap.push _)[w.heap.size]? = _; exact Array.getElem?_push_size
  simp only [World.cell?, e]
  rfl
def isNum (L : Nat) : Value → Prop
  | .int .i64 x => -(L : Int) ≤ x ∧ x ≤ L
  | _ => False
theorem numRow_alloc (w : World) (l : Array Value) (t : TypeId) (L m : Nat) (hm : l.size = m) (h : ∀ v ∈ l.toList, isNum L v) : NumRow (w.alloc (.cells l t)) w.heap.size m L := by
  intro k hk
  rw [alloc_cell]
  have hk2 : k < l.size := by omega
  have h1 := h l[k] (by simp)
  rw [Array.getElem?_eq_getElem hk2]
  revert h1
  generalize l[k] = v
  intro h1
  unfold isNum at h1
  split at h1
  · exact ⟨_, rfl, h1⟩
  · exact h1.elim

def isNumP (P : Int → Prop) : Value → Prop
  | .int .i64 x => P x
  | _ => False
theorem numRowP_alloc (w : World) (l : Array Value) (t : TypeId) (P : Int → Prop) (m : Nat) (hm : l.size = m) (h : ∀ v ∈ l.toList, isNumP P v) : NumRowP (w.alloc (.cells l t)) w.heap.size m P := by
  intro k hk
  rw [alloc_cell]
  have hk2 : k < l.size := by omega
  have h1 := h l[k] (by simp)
  rw [Array.getElem?_eq_getElem hk2]
  revert h1
  generalize l[k] = v
  intro h1
  unfold isNumP at h1
  split at h1
  · exact ⟨_, rfl, h1⟩
  · exact h1.elim
end Go.Proofs.YthapidnjioindaaDoor
namespace Go.Proofs.YthapidnjioindaaDoor
open Go.RowKit

theorem clash_eq {a b : Int} (h : a = b) : clashB a b = true := by simp [clashB, h]
theorem clash_cls {a b : Int} (h : cls a = cls b) (h3 : cls a ≠ 3) : clashB a b = true := by simp only [clashB, decide_eq_true_eq]; exact .inr ⟨h, h3⟩
theorem clash_ne {a b : Int} (h0 : a ≠ b) (h : cls a ≠ cls b) : clashB a b = false := by simp only [clashB, decide_eq_false_iff_not]; rintro (h1 | h1); exact h0 h1; exact h h1.1
theorem clash_fur {a b : Int} (h0 : a ≠ b) (h : cls a = 3) : clashB a b = false := by simp only [clashB, decide_eq_false_iff_not]; rintro (h1 | h1); exact h0 h1; exact h1.2 h
theorem clash_comm (a b : Int) : clashB a b = clashB b a := by
  unfold clashB
  congr 1
  apply propext
  constructor
  · rintro (h | ⟨h, h'⟩)
    · exact .inl h.symm
    · exact .inr ⟨h.symm, fun e => h' (h.trans e)⟩
  · rintro (h | ⟨h, h'⟩)
    · exact .inl h.symm
    · exact .inr ⟨h.symm, fun e => h' (h.trans e)⟩


end Go.Proofs.YthapidnjioindaaDoor
namespace Go.Proofs.YthapidnjioindaaDoor
open Go.RowKit

theorem agL_zero (x : Int) : agL x 0 = [] := rfl
end Go.Proofs.YthapidnjioindaaDoor
namespace Go.Proofs.YthapidnjioindaaDoor
open Go.RowKit

theorem grownBy_own {w w2 w3 : World} {o row : Option Nat} (h : w.grownBy w2 o) (h' : w2.grownBy w3 row) (hr : ∀ q, row = some q → w.heap.size ≤ q) : w.grownBy w3 o :=
  ⟨h'.os.trans h.os, h'.tape.trans h.tape, h'.output.trans h.output, Nat.le_trans h.size h'.size, fun k hk hne => (h'.block k (Nat.lt_of_lt_of_le hk h.size) (fun e => by have := hr k e.symm; omega)).trans (h.block k hk hne)⟩

theorem tincture_any (B p : Nat) (a : Option Addr) (n cap M : Nat) (w : World) (h : IsCur w B p a n cap M) (hM : M ≤ 999990) (hn : n ≤ 65536) :
    Calls Tryd.prog 120 #[.pointer (some ⟨p, 0, none⟩)] w fun e w' => (∃ x : Int, e = .returned (.int .i64 x) ∧ 1 ≤ x ∧ x ≤ 9) ∧ IsCur w' B p a n cap (M + 2) ∧ w.grownBy w' (some p) := by
  have c1 := pick_any B p a n cap M w h hM hn 9 (by omega) (by omega)
  clear h
  go_enter Tryd.func120, Tryd.ntmps120
  go_wp2_with fail
  refine c1.mono ?_
  rintro e w1 ⟨⟨x, rfl, hx0, hx1⟩, hc1, hg1⟩
  have HC := Lib.hid hc1
  clear hc1 c1
  go_wp2_with fail
  go_ret
  exact ⟨⟨_, rfl, by omega, by omega⟩, HC.out, hg1⟩

end Go.Proofs.YthapidnjioindaaDoor
namespace Go.Proofs.YthapidnjioindaaDoor
open Go.RowKit

/-- The four cells of a box. -/
theorem BoxF.four {w : World} {b : Nat} {x0 x1 x2 x3 : Value} {t : TypeId} (h : BoxF w b [x0, x1, x2, x3] t) : w.cell? ⟨b, 0, none⟩ = some x0 ∧ w.cell? ⟨b, 1, none⟩ = some x1 ∧ w.cell? ⟨b, 2, none⟩ = some x2 ∧ w.cell? ⟨b, 3, none⟩ = some x3 ∧ (∀ i, w.frozen? ⟨b, i, none⟩ = false) :=
  ⟨h.at 0, h.at 1, h.at 2, h.at 3, h.free⟩

theorem fok_plain {f : Int} (h0 : 1 ≤ f) (h1 : f ≤ 9) : FOk 0 0 f 0 := ⟨by omega, by omega, ⟨h0, h1⟩, .inl ⟨rfl, rfl, rfl⟩⟩
theorem fok_drawn {f q l r : Int} (h0 : 1 ≤ f) (h1 : f ≤ 9) (hq0 : 0 ≤ q) (hq1 : q < 7) (hl0 : 0 ≤ l) (hl1 : l ≤ 4) (hr0 : 0 ≤ r) (hr1 : r < 8) : FOk (1 + q) l f (1 + (f + r) % 9) :=
  ⟨by omega, ⟨hl0, hl1⟩, ⟨h0, h1⟩, .inr ⟨by omega, by omega, by omega⟩⟩

theorem grown4 (w : World) (b : Nat) (v0 v1 v2 v3 : Value) : w.grownBy ((((w.setCell ⟨b, 0, none⟩ v0).setCell ⟨b, 1, none⟩ v1).setCell ⟨b, 2, none⟩ v2).setCell ⟨b, 3, none⟩ v3) (some b) :=
  (((grownBy_set w b 0 v0).trans (grownBy_set _ b 1 v1)).trans (grownBy_set _ b 2 v2)).trans (grownBy_set _ b 3 v3)
def DrewField (w : World) (B p : Nat) (a : Option Addr) (n cap M : Nat) (e : Ending) (w' : World) : Prop :=
  (∃ d l f s : Int, e = .returned (.agg #[.int .i64 d, .int .i64 l, .int .i64 f, .int .i64 s]) ∧ FOk d l f s) ∧ IsCur w' B p a n cap M ∧ w.grownBy w' (some p)
set_option maxHeartbeats 4000000 in
theorem field_any (B p : Nat) (a : Option Addr) (n cap M : Nat) (w : World) (h : IsCur w B p a n cap M) (hM : M ≤ 900000) (hn : n ≤ 65536) :
    Calls Tryd.prog 119 #[.pointer (some ⟨p, 0, none⟩)] w (DrewField w B p a n cap (M + 20)) := by
  have hpw := h.lt
  have HC0 := Lib.hid h
  have b0 := Lib.hid (BoxF.new w [.int .i64 0, .int .i64 0, .int .i64 0, .int .i64 0] 57)
  clear h
  go_enter Tryd.func119, Tryd.ntmps119
  go_wp2_with fail
  refine (tincture_any B p a n cap M _ (HC0.out.alloc _) (by omega) hn).mono ?_
  rintro e w1 ⟨⟨f, rfl, hf0, hf1⟩, hc1, hg1⟩
  have HC1 := Lib.hid hc1
  have b1 := Lib.hid (b0.out.kept hg1 (by simp; omega))
  have hz1 := hg1.size
  simp only [World.size_alloc] at hz1
  have G1 := Lib.hid ((World.grownBy_alloc w (.cells #[.int .i64 0, .int .i64 0, .int .i64 0, .int .i64 0] 57 (0, 0)) (some p)).trans hg1)
  have x1 := Lib.hid (BoxF.new w1 [.int .i64 0, .int .i64 0, .int .i64 f, .int .i64 0] 57)
  clear hc1 hg1 HC0 b0
  go_wp2_with fail
  refine (one_any B p a n cap _ _ (HC1.out.alloc _) (by omega) hn 2 (by omega) (by omega)).mono ?_
  rintro e w2 ⟨⟨b, rfl⟩, hc2, hg2⟩
  have HC2 := Lib.hid hc2
  have b2 := Lib.hid ((b1.out.alloc _).kept hg2 (by simp; omega))
  have x2 := Lib.hid (x1.out.kept hg2 (by simp; omega))
  have hz2 := hg2.size
  simp only [World.size_alloc] at hz2
  have G2 := Lib.hid (G1.out.trans ((World.grownBy_alloc w1 _ _).trans hg2))
  clear hc2 hg2 HC1 b1 x1 G1
  obtain ⟨k0, k1, k2, k3, kf⟩ := b2.out.four
  obtain ⟨m0, m1, m2, m3, mf⟩ := x2.out.four
  cases b
  · clear k0 k1 k2 k3 kf m0 m1 m2 m3 mf
    go_wp2_with fail
    refine (pick_any B p a n cap _ w2 HC2.out (by omega) hn 7 (by omega) (by omega)).mono ?_
    rintro e w3 ⟨⟨q, rfl, hq0, hq1⟩, hc3, hg3⟩
    have x3 := x2.out.kept hg3 (by simp; omega)
    have b3 := b2.out.kept hg3 (by simp; omega)
    have hz3 := hg3.size
    obtain ⟨m0, m1, m2, m3, mf⟩ := x3.four
    have HC3 := Lib.hid (hc3.kept (grownBy_set w3 w1.heap.size 0 (.int .i64 (1 + q))) (fun k hk => by cases hk; omega))
    have X3 := Lib.hid (x3.set 0 (.int .i64 (1 + q)))
    have B3 := Lib.hid (b3.kept (grownBy_set w3 w1.heap.size 0 (.int .i64 (1 + q))) (by simp; omega))
    have G3 := Lib.hid (grownBy_own (G2.out.trans hg3) (grownBy_set w3 w1.heap.size 0 (.int .i64 (1 + q))) (fun k hk => by cases hk; omega))
    clear hc3 hg3 x3 b3 HC2 b2 x2 G2
    go_wp2_with fail
    generalize hW : w3.setCell ⟨w1.heap.size, 0, none⟩ (.int .i64 (1 + q)) = W3 at *
    have hzW : w3.heap.size = W3.heap.size := by rw [← hW]; simp
    have HW := Lib.hid hW
    clear hW m0 m1 m2 m3 mf
    refine (among_p B p a n cap _ _ (HC3.out.alloc _) (by omega) hn w3.heap.size 6 6 (fun x => 0 ≤ x ∧ x ≤ 4) (by omega) (by omega) (by rw [hzW]; exact numRowP_alloc _ _ _ _ 6 rfl (by intro v hv; simp at hv; rcases hv with rfl | rfl | rfl | rfl | rfl | rfl <;> simp [isNumP])) (by omega) (by rw [alloc_size]; omega)).mono ?_
    rintro e w4 ⟨⟨l, rfl, hl0, hl1⟩, hc4, hg4⟩
    have x4 := (X3.out.alloc _).kept hg4 (by simp; omega)
    have b4 := (B3.out.alloc _).kept hg4 (by simp; omega)
    have hz4 := hg4.size
    simp only [World.size_alloc] at hz4
    simp only [List.set_cons_zero] at x4
    obtain ⟨m0, m1, m2, m3, mf⟩ := x4.four
    have HC4 := Lib.hid (hc4.kept (grownBy_set w4 w1.heap.size 1 (.int .i64 l)) (fun k hk => by cases hk; omega))
    have X4 := Lib.hid (x4.set 1 (.int .i64 l))
    have B4 := Lib.hid (b4.kept (grownBy_set w4 w1.heap.size 1 (.int .i64 l)) (by simp; omega))
    have G4 := Lib.hid (grownBy_own (G3.out.trans ((World.grownBy_alloc W3 _ _).trans hg4)) (grownBy_set w4 w1.heap.size 1 (.int .i64 l)) (fun k hk => by cases hk; omega))
    clear hc4 hg4 x4 b4 HC3 B3 X3 G3
    go_wp2_with fail
    generalize hW4 : w4.setCell ⟨w1.heap.size, 1, none⟩ (.int .i64 l) = W4 at *
    have hzW4 : w4.heap.size = W4.heap.size := by rw [← hW4]; simp
    clear hW4 m0 m1 m2 m3 mf HW
    simp only [List.set_cons_succ, List.set_cons_zero] at X4
    obtain ⟨m0, m1, m2, m3, mf⟩ := X4.out.four
    have cpk := Lib.hid (fun k => pick_any B p a n cap _ (W4.drewN k) (show IsCur (W4.drewN k) B p a n cap _ from HC4.out) (by omega) hn 8 (by omega) (by omega))
    go_region_with (go_at_call 61; refine (cpk.out _).mono ?_; rintro e w5 ⟨⟨r, rfl, hr0, hr1⟩, hc5, hg5⟩; have x5 := BoxF.kept (show BoxF (W4.drewN _) w1.heap.size [.int .i64 (1 + q), .int .i64 l, .int .i64 f, .int .i64 0] 57 from X4.out) hg5 (by simp; omega); have c5 := x5.four.1; have c6 := x5.four.2.1; have c7 := x5.four.2.2.1; have c8 := x5.four.2.2.2.1; have c9 := x5.four.2.2.2.2; have y1 : IntKind.i64.wrap (f + r) = f + r := IntWalk.i64_in _ (by omega); have y2 : (f + r).tmod 9 = (f + r) % 9 := Int.tmod_eq_emod_of_nonneg (by omega); have y3 : IntKind.i64.wrap (1 + (f + r) % 9) = 1 + (f + r) % 9 := IntWalk.i64_in _ (by omega); have y4 : IntKind.i64.wrap ((f + r) % 9) = (f + r) % 9 := IntWalk.i64_in _ (by omega))
    all_goals
      clear c5 c6 c7 c8 c9 y1 y2 y3 y4 m0 m1 m2 m3 mf cpk
      have b5 := BoxF.kept (show BoxF (W4.drewN _) w.heap.size _ _ from B4.out) hg5 (by simp; omega)
      have hz5 : W4.heap.size ≤ w5.heap.size := hg5.size
      have gs := grownBy_set w5 w1.heap.size 3 (.int .i64 (1 + (f + r) % 9))
      have x6 := x5.set 3 (.int .i64 (1 + (f + r) % 9))
      have b6 := b5.kept gs (by simp; omega)
      have HC6 := Lib.hid ((hc5.mono (M' := M + 20) (by omega)).kept gs (fun k hk => by cases hk; omega))
      have G6 := Lib.hid (grownBy_own (G4.out.trans (show W4.grownBy w5 (some p) from ⟨hg5.os, hg5.tape, hg5.output, hg5.size, hg5.block⟩)) gs (fun k hk => by cases hk; omega))
      simp only [List.set_cons_succ, List.set_cons_zero] at x6
      obtain ⟨k0, k1, k2, k3, kf⟩ := b6.four
      obtain ⟨m0, m1, m2, m3, mf⟩ := x6.four
      clear x5 b5 gs hc5 hg5 x6 b6
      generalize w5.setCell ⟨w1.heap.size, 3, none⟩ (.int .i64 (1 + (f + r) % 9)) = W6 at *
      go_wp2_with fail
      refine bodyPost_ret (v := .agg #[.int .i64 (1 + q), .int .i64 l, .int .i64 f, .int .i64 (1 + (f + r) % 9)]) (by simp [results, Tryd.results119, go_sem, k0, k1, k2, k3]) rfl ⟨⟨_, _, _, _, rfl, fok_drawn hf0 hf1 hq0 (by omega) hl0 hl1 hr0 (by omega)⟩, ?_, ?_⟩
      · exact HC6.out.kept (grown4 W6 _ _ _ _ _) (fun k hk => by cases hk; omega)
      · exact grownBy_own G6.out (grown4 W6 _ _ _ _ _) (fun k hk => by cases hk; omega)
  · go_wp2_with fail
    refine bodyPost_ret (v := .agg #[.int .i64 0, .int .i64 0, .int .i64 f, .int .i64 0]) (by simp [results, Tryd.results119, go_sem, k0, k1, k2, k3]) rfl ⟨⟨_, _, _, _, rfl, fok_plain hf0 hf1⟩, ?_, ?_⟩
    · exact (HC2.out.mono (by omega)).kept (grown4 w2 _ _ _ _ _) (fun k hk => by cases hk; omega)
    · exact grownBy_own G2.out (grown4 w2 _ _ _ _ _) (fun k hk => by cases hk; omega)
end Go.Proofs.YthapidnjioindaaDoor
