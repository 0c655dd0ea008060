/- Several small texts in one: Cur, Pick, Draw, Clash, Against, DrawTin, DrawField, Cset. -/
import Derived.Test.YtmmbhglmafnfpabDoorKA
import Derived.Test.YtmmbhglmafnfpabDoorProg
import Derived.WalkLawsBesides
import Derived.Deep.QuietTactic
import Derived.BigQuiet
import Derived.IntWalk
import Derived.OwnWalk
import Derived.Laws.Rows
import Derived.Laws.AppendOwn
import Derived.Maps.AppendAt
import Derived.Laws.BitsLemmas
import Derived.Laws.OwnMore
import Derived.Laws.BytesArg
import Derived.Test.YtmmbhglmafnfpabDoorKC
import Derived.WalkKit
import Derived.Below
namespace Go.Proofs.YtmmbhglmafnfpabDoor
open Go.RowKit

/-- The bytes that came in: n of them, at a, each from 0 to 255, in blocks below B. -/
def RdB (w : World) (B : Nat) (a : Option Addr) (n : Nat) : Prop :=
  0 < n → ∃ b o, a = some ⟨b, o, none⟩ ∧ b < B ∧ ∀ k, k < n → ∃ x : Int, w.cell? ⟨b, o + k, none⟩ = some (.int .u8 x) ∧ 0 ≤ x ∧ x ≤ 255
/-- Block p is a cursor over these bytes that has been moved at most M times. -/
def IsCur (w : World) (B p : Nat) (a : Option Addr) (n cap M : Nat) : Prop :=
  B ≤ p ∧ RdB w B a n ∧ ∃ (at_ : Nat) (seed : Int), at_ ≤ M ∧ w.heap[p]? = some (.cells #[.slice a n cap, .int .i64 at_, .int .u64 seed] 66 (0, 0))

theorem cur_cells {w : World} {p : Nat} {u v x : Value} {t : TypeId} (h : w.heap[p]? = some (.cells #[u, v, x] t (0, 0))) :
    w.cell? ⟨p, 0, none⟩ = some u ∧ w.cell? ⟨p, 1, none⟩ = some v ∧ w.cell? ⟨p, 2, none⟩ = some x ∧ (∀ i, w.frozen? ⟨p, i, none⟩ = false) := by
  refine ⟨?_, ?_, ?_, fun i => ?_⟩ <;> simp [World.cell?, World.frozen?, h]

theorem cur_moved {w : World} {B p : Nat} {a : Option Addr} {n cap M at_ : Nat} {seed : Int} (hB : B ≤ p) (hR : RdB w B a n) (hat : at_ ≤ M)
    (hp : w.heap[p]? = some (.cells #[.slice a n cap, .int .i64 at_, .int .u64 seed] 66 (0, 0))) (q1 q2 : Nat) (s' : Int) :
    IsCur ((((w.drewN q1).setCell ⟨p, 1, none⟩ (.int .i64 ((at_ : Int) + 1))).setCell ⟨p, 2, none⟩ (.int .u64 s')).drewN q2) B p a n cap (M + 1) ∧
      w.grownBy ((((w.drewN q1).setCell ⟨p, 1, none⟩ (.int .i64 ((at_ : Int) + 1))).setCell ⟨p, 2, none⟩ (.int .u64 s')).drewN q2) (some p) := by
  have hblk : ∀ k, k ≠ p → ((((w.drewN q1).setCell ⟨p, 1, none⟩ (.int .i64 ((at_ : Int) + 1))).setCell ⟨p, 2, none⟩ (.int .u64 s')).drewN q2).heap[k]? = w.heap[k]? := fun k hk =>
    (Below.heap_setCell _ ⟨p, 2, none⟩ _ k hk).trans (Below.heap_setCell _ ⟨p, 1, none⟩ _ k hk)
  refine ⟨⟨hB, fun hn => ?_, at_ + 1, s', by omega, ?_⟩, ⟨rfl, rfl, rfl, by simp [World.setCell], fun k _ hk => hblk k (fun e => hk (by rw [e]))⟩⟩
  · obtain ⟨b, o, e, hb, hc⟩ := hR hn
    refine ⟨b, o, e, hb, fun k hk => ?_⟩
    obtain ⟨x, hx, h0, h1⟩ := hc k hk
    exact ⟨x, (World.cell?_of_block (hblk b (by omega))).trans hx, h0, h1⟩
  · show ((((w.drewN q1).setCell ⟨p, 1, none⟩ (.int .i64 ((at_ : Int) + 1))).setCell ⟨p, 2, none⟩ (.int .u64 s'))).heap[p]? = _
    simp [World.setCell, Array.getElem?_modify]
    exact ⟨_, hp, rfl⟩

theorem low8 (s : Int) : 0 ≤ wrap64 (bits .and .u64 (IntKind.u64.wrap s / 1099511627776) 255) ∧ wrap64 (bits .and .u64 (IntKind.u64.wrap s / 1099511627776) 255) ≤ 255 := by
  have hw : IntKind.u64.wrap s = s % 18446744073709551616 := IntKind.wrap_u64 s
  have hk : ∀ n : Int, 0 ≤ n → n < 2 ^ 63 → IntKind.u64.wrap n = n := fun n h₀ h₁ => by rw [IntKind.wrap_u64]; omega
  have hm := bits_mask .u64 63 (by decide) hk 8 (by decide) (IntKind.u64.wrap s / 1099511627776) (by omega) (by omega)
  have e : ((2 : Int) ^ 8 - 1) = 255 := by decide
  have e2 : ((2 : Int) ^ 8) = 256 := by decide
  rw [e, e2] at hm
  rw [hm]
  unfold wrap64
  omega

set_option maxHeartbeats 2000000 in
theorem next_any (B p : Nat) (a : Option Addr) (n cap M : Nat) (w : World) (h : IsCur w B p a n cap M) (hM : M ≤ 1000000) (hn : n ≤ 65536) :
    Calls Tryd.prog 75 #[.pointer (some ⟨p, 0, none⟩)] w fun e w' => (∃ r : Int, e = .returned (.int .i64 r) ∧ 0 ≤ r ∧ r ≤ 255) ∧ IsCur w' B p a n cap (M + 1) ∧ w.grownBy w' (some p) := by
  obtain ⟨hB, hR, at_, seed, hat, hp⟩ := h
  obtain ⟨f0, f1, f2, fz⟩ := cur_cells hp
  have z1 := fz 1
  have z2 := fz 2
  have HP := Lib.hid hp
  have HR := Lib.hid hR
  clear hp hR fz
  by_cases hlt : at_ < n
  · obtain ⟨b, o, rfl, hb, hc⟩ := HR.out (by omega)
    obtain ⟨x, hx, hx0, hx1⟩ := hc at_ hlt
    clear hc
    go_enter Tryd.func75, Tryd.ntmps75
    go_wp2_with fail
    go_quiet (fail)
    go_wp2_with fail
    go_quiet (fail)
    go_wp2_with fail
    go_quiet (fail)
    go_wp2_with fail
    go_ret
    exact ⟨⟨x, rfl, hx0, hx1⟩, cur_moved hB HR.out hat HP.out _ _ _⟩
  · have hge : decide ((at_ : Int) < (n : Int)) = false := by simp; omega
    go_enter Tryd.func75, Tryd.ntmps75
    go_wp2_with fail
    go_quiet (fail)
    go_wp2_with fail
    go_quiet (fail)
    go_wp2_with fail
    go_ret
    exact ⟨⟨_, rfl, (low8 _).1, (low8 _).2⟩, cur_moved hB HR.out hat HP.out _ _ _⟩
end Go.Proofs.YtmmbhglmafnfpabDoor
namespace Go.Proofs.YtmmbhglmafnfpabDoor
open Go.RowKit

theorem IsCur.mono {w : World} {B p : Nat} {a : Option Addr} {n cap M M' : Nat} (h : IsCur w B p a n cap M) (hm : M ≤ M') : IsCur w B p a n cap M' := by
  obtain ⟨hB, hR, at_, seed, hat, hp⟩ := h
  exact ⟨hB, hR, at_, seed, by omega, hp⟩
theorem grownBy_refl (w : World) (o : Option Nat) : w.grownBy w o := ⟨rfl, rfl, rfl, Nat.le_refl _, fun _ _ _ => rfl⟩
theorem grownBy_trans {w w1 w2 : World} {o : Option Nat} (h : w.grownBy w1 o) (h' : w1.grownBy w2 o) : w.grownBy w2 o := by
  obtain ⟨a1, a2, a3, a4, a5⟩ := h
  obtain ⟨b1, b2, b3, b4, b5⟩ := h'
  exact ⟨b1.trans a1, b2.trans a2, b3.trans a3, by omega, fun k hk hne => (b5 k (by omega) hne).trans (a5 k hk hne)⟩
theorem mod_pick {x N : Int} (hN : 1 < N) : 0 ≤ x % N ∧ x % N < N := by
  exact ⟨Int.emod_nonneg _ (by omega), Int.emod_lt_of_pos _ (by omega)⟩

theorem pick_any (B p : Nat) (a : Option Addr) (n cap M : Nat) (w : World) (h : IsCur w B p a n cap M) (hM : M ≤ 999990) (hn : n ≤ 65536) (N : Int) (hN0 : 0 ≤ N) (hN : N ≤ 1000000) :
    Calls Tryd.prog 35 #[.pointer (some ⟨p, 0, none⟩), .int .i64 N] w fun e w' => (∃ r : Int, e = .returned (.int .i64 r) ∧ 0 ≤ r ∧ (r < N ∨ r = 0)) ∧ IsCur w' B p a n cap (M + 2) ∧ w.grownBy w' (some p) := by
  by_cases h1 : N ≤ 1
  · have e1 : decide (N ≤ 1) = true := by simp; omega
    have H := Lib.hid h
    clear h
    go_enter Tryd.func35, Tryd.ntmps35
    go_wp2_with fail
    go_ret
    exact ⟨⟨0, rfl, by omega, .inr rfl⟩, H.out.mono (by omega), grownBy_refl _ _⟩
  · have e1 : decide (N ≤ 1) = false := by simp; omega
    have e0 : (N == 0) = false := by simp; omega
    have c1 := next_any B p a n cap M w h (by omega) hn
    have c2 := fun w1 h1 => next_any B p a n cap (M + 1) w1 h1 (by omega) hn
    clear h
    by_cases h2 : 200 < N
    · have e2 : decide (200 < N) = true := by simp; omega
      go_enter Tryd.func35, Tryd.ntmps35
      go_wp2_with fail
      refine c1.mono ?_
      rintro e w1 ⟨⟨x, rfl, hx0, hx1⟩, hc1, hg1⟩
      go_wp2_with fail
      refine (c2 w1 hc1).mono ?_
      rintro e w2 ⟨⟨y, rfl, hy0, hy1⟩, hc2, hg2⟩
      have hm := mod_pick (x := x * 256 + y) (N := N) (by omega)
      have HC := Lib.hid hc2
      clear hc1 hc2
      go_wp2_with fail
      go_ret
      exact ⟨⟨_, rfl, hm.1, .inl hm.2⟩, HC.out.mono (by omega), hg1.trans hg2⟩
    · have e2 : decide (200 < N) = false := by simp; omega
      go_enter Tryd.func35, Tryd.ntmps35
      go_wp2_with fail
      refine c1.mono ?_
      rintro e w1 ⟨⟨x, rfl, hx0, hx1⟩, hc1, hg1⟩
      have hm := mod_pick (x := x) (N := N) (by omega)
      have HC := Lib.hid hc1
      clear hc1
      go_wp2_with fail
      go_ret
      exact ⟨⟨_, rfl, hm.1, .inl hm.2⟩, HC.out.mono (by omega), hg1⟩

theorem one_any (B p : Nat) (a : Option Addr) (n cap M : Nat) (w : World) (h : IsCur w B p a n cap M) (hM : M ≤ 999990) (hn : n ≤ 65536) (N : Int) (hN0 : 0 ≤ N) (hN : N ≤ 1000000) :
    Calls Tryd.prog 45 #[.pointer (some ⟨p, 0, none⟩), .int .i64 N] w fun e w' => (∃ b : Bool, e = .returned (.bool b)) ∧ IsCur w' B p a n cap (M + 2) ∧ w.grownBy w' (some p) := by
  have c1 := pick_any B p a n cap M w h hM hn N hN0 hN
  clear h
  go_enter Tryd.func45, Tryd.ntmps45
  go_wp2_with fail
  refine c1.mono ?_
  rintro e w1 ⟨⟨x, rfl, hx0, hx1⟩, hc1, hg1⟩
  have HC := Lib.hid hc1
  clear hc1
  go_wp2_with fail
  go_ret
  exact ⟨⟨_, rfl⟩, HC.out, hg1⟩

/-- Row g holds m strings of at most S bytes. -/
def ShortRow (w : World) (g m S : Nat) : Prop := ∀ k, k < m → ∃ s : ByteArray, w.cell? ⟨g, k, none⟩ = some (.string s) ∧ s.size ≤ S
theorem of_any (B p : Nat) (a : Option Addr) (n cap M : Nat) (w : World) (h : IsCur w B p a n cap M) (hM : M ≤ 999990) (hn : n ≤ 65536) (g m cp S : Nat) (hm0 : 0 < m) (hm : m ≤ 1000) (hr : ShortRow w g m S) (hgp : g ≠ p) (hgw : g < w.heap.size) :
    Calls Tryd.prog 71 #[.pointer (some ⟨p, 0, none⟩), .slice (some ⟨g, 0, none⟩) m cp] w fun e w' => (∃ s : ByteArray, e = .returned (.string s) ∧ s.size ≤ S) ∧ IsCur w' B p a n cap (M + 2) ∧ w.grownBy w' (some p) := by
  have c1 := pick_any B p a n cap M w h hM hn m (by omega) (by omega)
  have HR := Lib.hid hr
  clear h hr
  go_enter Tryd.func71, Tryd.ntmps71
  go_wp2_with fail
  refine c1.mono ?_
  rintro e w1 ⟨⟨x, rfl, hx0, hx1⟩, hc1, hg1⟩
  obtain ⟨k, rfl⟩ : ∃ k : Nat, x = k := ⟨x.toNat, by omega⟩
  obtain ⟨s, hs, hS⟩ := HR.out k (by omega)
  have hs1 : w1.cell? ⟨g, k, none⟩ = some (.string s) := (World.cell?_of_block (hg1.block g hgw (by simp; omega))).trans hs
  have HC := Lib.hid hc1
  have hk : k < m := by omega
  clear hc1 hs hx1
  go_wp2_with fail
  go_ret
  exact ⟨⟨s, rfl, hS⟩, HC.out, hg1⟩

/-- Row g holds m numbers from -L to L. -/
def NumRow (w : World) (g m L : Nat) : Prop := ∀ k, k < m → ∃ x : Int, w.cell? ⟨g, k, none⟩ = some (.int .i64 x) ∧ -(L : Int) ≤ x ∧ x ≤ L
theorem among_any (B p : Nat) (a : Option Addr) (n cap M : Nat) (w : World) (h : IsCur w B p a n cap M) (hM : M ≤ 999990) (hn : n ≤ 65536) (g m cp L : Nat) (hm0 : 0 < m) (hm : m ≤ 1000) (hr : NumRow w g m L) (hgp : g ≠ p) (hgw : g < w.heap.size) :
    Calls Tryd.prog 34 #[.pointer (some ⟨p, 0, none⟩), .slice (some ⟨g, 0, none⟩) m cp] w fun e w' => (∃ x : Int, e = .returned (.int .i64 x) ∧ -(L : Int) ≤ x ∧ x ≤ L) ∧ IsCur w' B p a n cap (M + 2) ∧ w.grownBy w' (some p) := by
  have c1 := pick_any B p a n cap M w h hM hn m (by omega) (by omega)
  have HR := Lib.hid hr
  clear h hr
  go_enter Tryd.func34, Tryd.ntmps34
  go_wp2_with fail
  refine c1.mono ?_
  rintro e w1 ⟨⟨x, rfl, hx0, hx1⟩, hc1, hg1⟩
  obtain ⟨k, rfl⟩ : ∃ k : Nat, x = k := ⟨x.toNat, by omega⟩
  obtain ⟨s, hs, hS⟩ := HR.out k (by omega)
  have hs1 : w1.cell? ⟨g, k, none⟩ = some (.int .i64 s) := (World.cell?_of_block (hg1.block g hgw (by simp; omega))).trans hs
  have HC := Lib.hid hc1
  have hk : k < m := by omega
  clear hc1 hs hx1
  go_wp2_with fail
  go_ret
  exact ⟨⟨s, rfl, hS⟩, HC.out, hg1⟩
/-- Row g holds m numbers of which P holds. -/
def NumRowP (w : World) (g m : Nat) (P : Int → Prop) : Prop := ∀ k, k < m → ∃ x : Int, w.cell? ⟨g, k, none⟩ = some (.int .i64 x) ∧ P x
theorem among_p (B p : Nat) (a : Option Addr) (n cap M : Nat) (w : World) (h : IsCur w B p a n cap M) (hM : M ≤ 999990) (hn : n ≤ 65536) (g m cp : Nat) (P : Int → Prop) (hm0 : 0 < m) (hm : m ≤ 1000) (hr : NumRowP w g m P) (hgp : g ≠ p) (hgw : g < w.heap.size) :
    Calls Tryd.prog 34 #[.pointer (some ⟨p, 0, none⟩), .slice (some ⟨g, 0, none⟩) m cp] w fun e w' => (∃ x : Int, e = .returned (.int .i64 x) ∧ P x) ∧ IsCur w' B p a n cap (M + 2) ∧ w.grownBy w' (some p) := by
  have c1 := pick_any B p a n cap M w h hM hn m (by omega) (by omega)
  have HR := Lib.hid hr
  clear h hr
  go_enter Tryd.func34, Tryd.ntmps34
  go_wp2_with fail
  refine c1.mono ?_
  rintro e w1 ⟨⟨x, rfl, hx0, hx1⟩, hc1, hg1⟩
  obtain ⟨k, rfl⟩ : ∃ k : Nat, x = k := ⟨x.toNat, by omega⟩
  obtain ⟨s, hs, hS⟩ := HR.out k (by omega)
  have hs1 : w1.cell? ⟨g, k, none⟩ = some (.int .i64 s) := (World.cell?_of_block (hg1.block g hgw (by simp; omega))).trans hs
  have HC := Lib.hid hc1
  have hk : k < m := by omega
  clear hc1 hs hx1
  go_wp2_with fail
  go_ret
  exact ⟨⟨s, rfl, hS⟩, HC.out, hg1⟩
end Go.Proofs.YtmmbhglmafnfpabDoor
namespace Go.Proofs.YtmmbhglmafnfpabDoor
open Go.RowKit

theorem alloc_size (w : World) (o : Obj) : (w.alloc o).heap.size = w.heap.size + 1 := by
  show (w.heap.push o).size = _
  exact Array.size_push ..
theorem IsCur.lt {w : World} {B p : Nat} {a : Option Addr} {n cap M : Nat} (h : IsCur w B p a n cap M) : p < w.heap.size := by
  obtain ⟨hB, hR, at_, seed, hat, hp⟩ := h
  rcases Nat.lt_or_ge p w.heap.size with h1 | h1
  · exact h1
  · rw [Array.getElem?_eq_none h1] at hp; cases hp
theorem IsCur.kept {w w' : World} {B p : Nat} {a : Option Addr} {n cap M : Nat} {row : Option Nat} (h : IsCur w B p a n cap M) (hg : w.grownBy w' row) (hr : ∀ k, row = some k → p < k) : IsCur w' B p a n cap M := by
  have hlt := h.lt
  obtain ⟨hB, hR, at_, seed, hat, hp⟩ := h
  refine ⟨hB, fun hn => ?_, at_, seed, hat, (hg.block p hlt (fun e => by have := hr p e.symm; omega)).trans hp⟩
  obtain ⟨b, o, e, hb, hc⟩ := hR hn
  refine ⟨b, o, e, hb, fun k hk => ?_⟩
  obtain ⟨x, hx, h0, h1⟩ := hc k hk
  exact ⟨x, (World.cell?_of_block (hg.block b (by omega) (fun e => by have := hr b e.symm; omega))).trans hx, h0, h1⟩
theorem IsCur.alloc {w : World} {B p : Nat} {a : Option Addr} {n cap M : Nat} (h : IsCur w B p a n cap M) (o : Obj) : IsCur (w.alloc o) B p a n cap M :=
  h.kept (World.grownBy_alloc w o none) (by simp)
theorem isCur_new {w : World} {a : Option Addr} {n : Nat} (cap : Nat) (h : RdB w w.heap.size a n) : IsCur (w.alloc (.cells #[.slice a n cap, .int .i64 0, .int .u64 0] 66 (0, 0))) w.heap.size w.heap.size a n cap 0 := by
  refine ⟨Nat.le_refl _, fun hn => ?_, 0, 0, Nat.le_refl _, by show (w.heap.push _)[w.heap.size]? = _; exact Array.getElem?_push_size⟩
  obtain ⟨b, o, e, hb, hc⟩ := h hn
  refine ⟨b, o, e, hb, fun k hk => ?_⟩
  obtain ⟨x, hx, h0, h1⟩ := hc k hk
  exact ⟨x, (World.cell?_of_block (Below.heap_alloc w _ b hb)).trans hx, h0, h1⟩
theorem RdB.on {w w' : World} {a : Option Addr} {n : Nat} (h : RdB w w.heap.size a n) (hb : Below w.heap.size w w') : RdB w' w'.heap.size a n := by
  intro hn
  obtain ⟨b, o, e, hlt, hc⟩ := h hn
  have := hb.size
  refine ⟨b, o, e, by omega, fun k hk => ?_⟩
  obtain ⟨x, hx, h0, h1⟩ := hc k hk
  exact ⟨x, (hb.cell (p := ⟨b, o + k, none⟩) hlt).trans hx, h0, h1⟩

def isShort (S : Nat) : Value → Bool
  | .string s => decide (s.size ≤ S)
  | _ => false
theorem alloc_cell (w : World) (l : Array Value) (t : TypeId) (k : Nat) : (w.alloc (.cells l t)).cell? ⟨w.heap.size, k, none⟩ = l[k]? := by
  have e : (w.alloc (.cells l t)).heap[w.heap.size]? = some (.cells l t) := by show (w.heap.push _)[w.heap.size]? = _; exact Array.getElem?_push_size
  simp only [World.cell?, e]
  rfl
theorem shortRow_alloc (w : World) (l : Array Value) (t : TypeId) (S m : Nat) (hm : l.size = m) (h : l.toList.all (isShort S) = true) : ShortRow (w.alloc (.cells l t)) w.heap.size m S := by
  intro k hk
  rw [alloc_cell]
  have hk2 : k < l.size := by omega
  have h1 := List.all_eq_true.1 h l[k] (by simp)
  rw [Array.getElem?_eq_getElem hk2]
  cases hv : l[k] <;> rw [hv] at h1 <;> simp [isShort] at h1
  exact ⟨_, rfl, h1⟩
def isNum (L : Nat) : Value → Prop
  | .int .i64 x => -(L : Int) ≤ x ∧ x ≤ L
  | _ => False
theorem numRow_alloc (w : World) (l : Array Value) (t : TypeId) (L m : Nat) (hm : l.size = m) (h : ∀ v ∈ l.toList, isNum L v) : NumRow (w.alloc (.cells l t)) w.heap.size m L := by
  intro k hk
  rw [alloc_cell]
  have hk2 : k < l.size := by omega
  have h1 := h l[k] (by simp)
  rw [Array.getElem?_eq_getElem hk2]
  revert h1
  generalize l[k] = v
  intro h1
  unfold isNum at h1
  split at h1
  · exact ⟨_, rfl, h1⟩
  · exact h1.elim

def isNumP (P : Int → Prop) : Value → Prop
  | .int .i64 x => P x
  | _ => False
theorem numRowP_alloc (w : World) (l : Array Value) (t : TypeId) (P : Int → Prop) (m : Nat) (hm : l.size = m) (h : ∀ v ∈ l.toList, isNumP P v) : NumRowP (w.alloc (.cells l t)) w.heap.size m P := by
  intro k hk
  rw [alloc_cell]
  have hk2 : k < l.size := by omega
  have h1 := h l[k] (by simp)
  rw [Array.getElem?_eq_getElem hk2]
  revert h1
  generalize l[k] = v
  intro h1
  unfold isNumP at h1
  split at h1
  · exact ⟨_, rfl, h1⟩
  · exact h1.elim
end Go.Proofs.YtmmbhglmafnfpabDoor
namespace Go.Proofs.YtmmbhglmafnfpabDoor
open Go.RowKit

theorem clash_eq {a b : Int} (h : a = b) : clashB a b = true := by simp [clashB, h]
theorem clash_cls {a b : Int} (h : cls a = cls b) (h3 : cls a ≠ 3) : clashB a b = true := by simp only [clashB, decide_eq_true_eq]; exact .inr ⟨h, h3⟩
theorem clash_ne {a b : Int} (h0 : a ≠ b) (h : cls a ≠ cls b) : clashB a b = false := by simp only [clashB, decide_eq_false_iff_not]; rintro (h1 | h1); exact h0 h1; exact h h1.1
theorem clash_fur {a b : Int} (h0 : a ≠ b) (h : cls a = 3) : clashB a b = false := by simp only [clashB, decide_eq_false_iff_not]; rintro (h1 | h1); exact h0 h1; exact h1.2 h
theorem clash_comm (a b : Int) : clashB a b = clashB b a := by
  unfold clashB
  congr 1
  apply propext
  constructor
  · rintro (h | ⟨h, h'⟩)
    · exact .inl h.symm
    · exact .inr ⟨h.symm, fun e => h' (h.trans e)⟩
  · rintro (h | ⟨h, h'⟩)
    · exact .inl h.symm
    · exact .inr ⟨h.symm, fun e => h' (h.trans e)⟩

set_option maxHeartbeats 1000000 in
theorem clash_yes (a b : Int) (w : World) (a0 : 1 ≤ a) (a1 : a ≤ 9) (b0 : 1 ≤ b) (b1 : b ≤ 9) :
    Calls Tryd.prog 51 #[.int .i64 a, .int .i64 b] w fun e w' => e = .returned (.tuple #[.bool (clashB a b), .bool true]) ∧ w = w' := by
  have c1 := classOf_yes a w a0 a1
  have c2 := classOf_yes b w b0 b1
  generalize hr : clashB a b = r
  have HR := Lib.hid hr
  obtain ⟨p, hp⟩ : ∃ p, cls a = p := ⟨_, rfl⟩
  obtain ⟨q, hq⟩ : ∃ q, cls b = q := ⟨_, rfl⟩
  rw [hp] at c1
  rw [hq] at c2
  have HP := Lib.hid hp
  have HQ := Lib.hid hq
  clear hr hp hq a0 a1 b0 b1
  by_cases h0 : a = b
  · have e0 : (a == b) = true := by rw [beq_iff_eq]; exact h0
    have HF : Hid (r = true) := Lib.hid (HR.out.symm.trans (clash_eq h0))
    clear h0
    go_enter Tryd.func51, Tryd.ntmps51
    go_wp2_with fail
    refine c1.mono ?_
    rintro e w' ⟨rfl, rfl⟩
    go_wp2_with fail
    refine c2.mono ?_
    rintro e w' ⟨rfl, rfl⟩
    go_wp2_with fail
    go_ret2
    exact ⟨by rw [HF.out] <;> rfl, rfl⟩
  · have e0 : (a == b) = false := by rw [beq_eq_false_iff_ne]; exact h0
    by_cases h1 : p = q
    · have e1 : (p == q) = true := by rw [beq_iff_eq]; exact h1
      by_cases h3 : p = 3
      · have e3 : (p == 3) = true := by rw [beq_iff_eq]; exact h3
        have e4 : (p != 3) = false := by simp [h3]
        have HF : Hid (r = false) := Lib.hid (HR.out.symm.trans (clash_fur h0 (HP.out.trans h3)))
        clear h0 h1 h3
        go_enter Tryd.func51, Tryd.ntmps51
        go_wp2_with fail
        refine c1.mono ?_
        rintro e w' ⟨rfl, rfl⟩
        go_wp2_with fail
        refine c2.mono ?_
        rintro e w' ⟨rfl, rfl⟩
        go_wp2_with fail
        go_ret2
        exact ⟨by rw [HF.out] <;> rfl, rfl⟩
      · have e3 : (p == 3) = false := by rw [beq_eq_false_iff_ne]; exact h3
        have e4 : (p != 3) = true := by rw [bne_iff_ne]; exact h3
        have HF : Hid (r = true) := Lib.hid (HR.out.symm.trans (clash_cls (HP.out.trans (h1.trans HQ.out.symm)) (by rw [HP.out]; exact h3)))
        clear h0 h1 h3
        go_enter Tryd.func51, Tryd.ntmps51
        go_wp2_with fail
        refine c1.mono ?_
        rintro e w' ⟨rfl, rfl⟩
        go_wp2_with fail
        refine c2.mono ?_
        rintro e w' ⟨rfl, rfl⟩
        go_wp2_with fail
        go_ret2
        exact ⟨by rw [HF.out] <;> rfl, rfl⟩
    · have e1 : (p == q) = false := by rw [beq_eq_false_iff_ne]; exact h1
      have HF : Hid (r = false) := Lib.hid (HR.out.symm.trans (clash_ne h0 (by rw [HP.out, HQ.out]; exact h1)))
      clear h0 h1
      go_enter Tryd.func51, Tryd.ntmps51
      go_wp2_with fail
      refine c1.mono ?_
      rintro e w' ⟨rfl, rfl⟩
      go_wp2_with fail
      refine c2.mono ?_
      rintro e w' ⟨rfl, rfl⟩
      go_wp2_with fail
      go_ret2
      exact ⟨by rw [HF.out] <;> rfl, rfl⟩
theorem clash_no1 (a b : Int) (w : World) (h : a < 1 ∨ 9 < a) :
    Calls Tryd.prog 51 #[.int .i64 a, .int .i64 b] w fun e w' => e = .returned (.tuple #[.bool false, .bool false]) ∧ w = w' := by
  have c1 := classOf_no a w h
  clear h
  by_cases hb : 1 ≤ b ∧ b ≤ 9
  · have c2 := classOf_yes b w hb.1 hb.2
    clear hb
    go_enter Tryd.func51, Tryd.ntmps51
    go_wp2_with fail
    refine c1.mono ?_
    rintro e w' ⟨rfl, rfl⟩
    go_wp2_with fail
    refine c2.mono ?_
    rintro e w' ⟨rfl, rfl⟩
    go_wp2_with fail
    go_ret2
    exact ⟨rfl, rfl⟩
  · have c2 := classOf_no b w (by omega)
    clear hb
    go_enter Tryd.func51, Tryd.ntmps51
    go_wp2_with fail
    refine c1.mono ?_
    rintro e w' ⟨rfl, rfl⟩
    go_wp2_with fail
    refine c2.mono ?_
    rintro e w' ⟨rfl, rfl⟩
    go_wp2_with fail
    go_ret2
    exact ⟨rfl, rfl⟩
theorem clash_no2 (a b : Int) (w : World) (h : b < 1 ∨ 9 < b) :
    Calls Tryd.prog 51 #[.int .i64 a, .int .i64 b] w fun e w' => e = .returned (.tuple #[.bool false, .bool false]) ∧ w = w' := by
  by_cases ha : 1 ≤ a ∧ a ≤ 9
  · have c1 := classOf_yes a w ha.1 ha.2
    have c2 := classOf_no b w h
    clear ha h
    go_enter Tryd.func51, Tryd.ntmps51
    go_wp2_with fail
    refine c1.mono ?_
    rintro e w' ⟨rfl, rfl⟩
    go_wp2_with fail
    refine c2.mono ?_
    rintro e w' ⟨rfl, rfl⟩
    go_wp2_with fail
    go_ret2
    exact ⟨rfl, rfl⟩
  · exact clash_no1 a b w (by omega)
/-- What both answer. -/
def clashA (a b : Int) : Bool × Bool := if 1 ≤ a ∧ a ≤ 9 ∧ 1 ≤ b ∧ b ≤ 9 then (clashB a b, true) else (false, false)
theorem clash_impl (a b : Int) (w : World) :
    Calls Tryd.prog 51 #[.int .i64 a, .int .i64 b] w fun e w' => e = .returned (.tuple #[.bool (clashA a b).1, .bool (clashA a b).2]) ∧ w = w' := by
  unfold clashA
  split
  · next h => exact clash_yes a b w h.1 h.2.1 h.2.2.1 h.2.2.2
  · next h =>
    by_cases ha : 1 ≤ a ∧ a ≤ 9
    · exact clash_no2 a b w (by omega)
    · exact clash_no1 a b w (by omega)

set_option maxHeartbeats 1000000 in
theorem l2Clash_any (a b : Int) (w : World) :
    Calls Tryd.prog 43 #[.int .i64 a, .int .i64 b] w fun e w' => e = .returned (.bool (clashB a b)) ∧ w = w' := by
  have c1 := fun W => l2Class_any a W
  have c2 := fun W => l2Class_any b W
  generalize hr : clashB a b = r
  have HR := Lib.hid hr
  obtain ⟨p, hp⟩ : ∃ p, cls a = p := ⟨_, rfl⟩
  obtain ⟨q, hq⟩ : ∃ q, cls b = q := ⟨_, rfl⟩
  rw [hp] at c1
  rw [hq] at c2
  have HP := Lib.hid hp
  have HQ := Lib.hid hq
  clear hr hp hq
  by_cases h0 : a = b
  · have e0 : (a == b) = true := by rw [beq_iff_eq]; exact h0
    have HF : Hid (r = true) := Lib.hid (HR.out.symm.trans (clash_eq h0))
    clear h0
    go_enter Tryd.func43, Tryd.ntmps43
    go_wp2_with (first | (go_at_call 80; (with_reducible refine (c1 _).mono ?_); rintro e w' ⟨rfl, rfl⟩) | (go_at_call 80; (with_reducible refine (c2 _).mono ?_); rintro e w' ⟨rfl, rfl⟩))
    go_ret
    exact ⟨by rw [HF.out] <;> rfl, rfl⟩
  · have e0 : (a == b) = false := by rw [beq_eq_false_iff_ne]; exact h0
    by_cases h1 : p = q
    · have e1 : (p == q) = true := by rw [beq_iff_eq]; exact h1
      by_cases h3 : p = 3
      · have e3 : (p == 3) = true := by rw [beq_iff_eq]; exact h3
        have e4 : (p != 3) = false := by simp [h3]
        have HF : Hid (r = false) := Lib.hid (HR.out.symm.trans (clash_fur h0 (HP.out.trans h3)))
        clear h0 h1 h3
        go_enter Tryd.func43, Tryd.ntmps43
        go_wp2_with (first | (go_at_call 80; (with_reducible refine (c1 _).mono ?_); rintro e w' ⟨rfl, rfl⟩) | (go_at_call 80; (with_reducible refine (c2 _).mono ?_); rintro e w' ⟨rfl, rfl⟩))
        go_ret
        exact ⟨by rw [HF.out] <;> rfl, rfl⟩
      · have e3 : (p == 3) = false := by rw [beq_eq_false_iff_ne]; exact h3
        have e4 : (p != 3) = true := by rw [bne_iff_ne]; exact h3
        have HF : Hid (r = true) := Lib.hid (HR.out.symm.trans (clash_cls (HP.out.trans (h1.trans HQ.out.symm)) (by rw [HP.out]; exact h3)))
        clear h0 h1 h3
        go_enter Tryd.func43, Tryd.ntmps43
        go_wp2_with (first | (go_at_call 80; (with_reducible refine (c1 _).mono ?_); rintro e w' ⟨rfl, rfl⟩) | (go_at_call 80; (with_reducible refine (c2 _).mono ?_); rintro e w' ⟨rfl, rfl⟩))
        go_ret
        exact ⟨by rw [HF.out] <;> rfl, rfl⟩
    · have e1 : (p == q) = false := by rw [beq_eq_false_iff_ne]; exact h1
      have HF : Hid (r = false) := Lib.hid (HR.out.symm.trans (clash_ne h0 (by rw [HP.out, HQ.out]; exact h1)))
      clear h0 h1
      go_enter Tryd.func43, Tryd.ntmps43
      go_wp2_with (first | (go_at_call 80; (with_reducible refine (c1 _).mono ?_); rintro e w' ⟨rfl, rfl⟩) | (go_at_call 80; (with_reducible refine (c2 _).mono ?_); rintro e w' ⟨rfl, rfl⟩))
      go_ret
      exact ⟨by rw [HF.out] <;> rfl, rfl⟩
end Go.Proofs.YtmmbhglmafnfpabDoor
namespace Go.Proofs.YtmmbhglmafnfpabDoor
open Go.RowKit

theorem ownI_append {w : World} {B : Nat} {v : Value} {n : Nat} {X : List Int} (h : w.ownsRow B 3 1 v n (X.map (Value.int .i64))) : ∃ a cap, v = .slice a n cap ∧ OwnI w B a n cap X := by
  rcases h.2 with ⟨rfl, rfl⟩ | ⟨g, cap, cur, rfl, h2, h3⟩
  · exact ⟨none, 0, rfl, h⟩
  · exact ⟨some ⟨g, 0, none⟩, cap, rfl, h⟩
theorem agL_zero (x : Int) : agL x 0 = [] := rfl
theorem sliceR {w : World} {B : Nat} {v : Value} {n : Nat} {X Y : List Int} (h : w.ownsRow B 3 1 v n (X.map (Value.int .i64))) (e : X = Y) : w.ownsRow B 3 1 v Y.length (Y.map (Value.int .i64)) := by
  subst e
  have hl : X.length = n := by have := h.1; simpa using this
  rw [hl]; exact h
theorem app_len {w : World} {B : Nat} {v : Value} {n : Nat} {X : List Int} (h : w.ownsRow B 3 1 v n (X.map (Value.int .i64))) : X.length = n := by have := h.1; simpa using this
theorem app_one {w : World} {B : Nat} {v : Value} {n : Nat} {X : List Int} {x : Int} (h : w.ownsRow B 3 1 v n (X.map (Value.int .i64) ++ [.int .i64 x])) : w.ownsRow B 3 1 v n ((X ++ [x]).map (Value.int .i64)) := by simpa using h

end Go.Proofs.YtmmbhglmafnfpabDoor
namespace Go.Proofs.YtmmbhglmafnfpabDoor
open Go.RowKit

theorem grownBy_own {w w2 w3 : World} {o row : Option Nat} (h : w.grownBy w2 o) (h' : w2.grownBy w3 row) (hr : ∀ q, row = some q → w.heap.size ≤ q) : w.grownBy w3 o :=
  ⟨h'.os.trans h.os, h'.tape.trans h.tape, h'.output.trans h.output, Nat.le_trans h.size h'.size, fun k hk hne => (h'.block k (Nat.lt_of_lt_of_le hk h.size) (fun e => by have := hr k e.symm; omega)).trans (h.block k hk hne)⟩

theorem tincture_any (B p : Nat) (a : Option Addr) (n cap M : Nat) (w : World) (h : IsCur w B p a n cap M) (hM : M ≤ 999990) (hn : n ≤ 65536) :
    Calls Tryd.prog 98 #[.pointer (some ⟨p, 0, none⟩)] w fun e w' => (∃ x : Int, e = .returned (.int .i64 x) ∧ 1 ≤ x ∧ x ≤ 9) ∧ IsCur w' B p a n cap (M + 2) ∧ w.grownBy w' (some p) := by
  have c1 := pick_any B p a n cap M w h hM hn 9 (by omega) (by omega)
  clear h
  go_enter Tryd.func98, Tryd.ntmps98
  go_wp2_with fail
  refine c1.mono ?_
  rintro e w1 ⟨⟨x, rfl, hx0, hx1⟩, hc1, hg1⟩
  have HC := Lib.hid hc1
  clear hc1 c1
  go_wp2_with fail
  go_ret
  exact ⟨⟨_, rfl, by omega, by omega⟩, HC.out, hg1⟩
theorem anyTincture_any (B p : Nat) (a : Option Addr) (n cap M : Nat) (w : World) (h : IsCur w B p a n cap M) (hM : M ≤ 999980) (hn : n ≤ 65536) :
    Calls Tryd.prog 97 #[.pointer (some ⟨p, 0, none⟩)] w fun e w' => (∃ x : Int, e = .returned (.int .i64 x) ∧ -10 ≤ x ∧ x ≤ 10) ∧ IsCur w' B p a n cap (M + 4) ∧ w.grownBy w' (some p) := by
  have c1 := one_any B p a n cap M w h (by omega) hn 16 (by omega) (by omega)
  clear h
  go_enter Tryd.func97, Tryd.ntmps97
  go_wp2_with fail
  refine c1.mono ?_
  rintro e w1 ⟨⟨b, rfl⟩, hc1, hg1⟩
  have HC := Lib.hid hc1
  have hlt := hc1.lt
  clear hc1 c1
  cases b
  · go_wp2_with fail
    refine (tincture_any B p a n cap _ _ HC.out (by omega) hn).mono ?_
    rintro e w2 ⟨⟨x, rfl, hx0, hx1⟩, hc2, hg2⟩
    have HC2 := Lib.hid hc2
    clear hc2
    go_wp2_with fail
    go_ret
    exact ⟨⟨_, rfl, by omega, by omega⟩, HC2.out, hg1.trans hg2⟩
  · go_wp2_with fail
    refine (among_any B p a n cap _ _ (HC.out.alloc _) (by omega) hn w1.heap.size 5 5 10 (by omega) (by omega) (numRow_alloc _ _ _ _ 5 rfl (by intro v hv; simp at hv; rcases hv with rfl | rfl | rfl | rfl | rfl <;> simp [isNum])) (by omega) (by rw [alloc_size]; omega)).mono ?_
    rintro e w2 ⟨⟨x, rfl, hx0, hx1⟩, hc2, hg2⟩
    have HC2 := Lib.hid hc2
    clear hc2
    go_wp2_with fail
    go_ret
    exact ⟨⟨_, rfl, by omega, by omega⟩, HC2.out, hg1.trans ((World.grownBy_alloc _ _ _).trans hg2)⟩

end Go.Proofs.YtmmbhglmafnfpabDoor
namespace Go.Proofs.YtmmbhglmafnfpabDoor
open Go.RowKit

/-- Block b is a box of these cells. -/
def BoxF (w : World) (b : Nat) (L : List Value) (t : TypeId) : Prop := w.heap[b]? = some (.cells L.toArray t (0, 0))
theorem BoxF.new (w : World) (L : List Value) (t : TypeId) : BoxF (w.alloc (.cells L.toArray t (0, 0))) w.heap.size L t := by
  show (w.heap.push _)[w.heap.size]? = _; exact Array.getElem?_push_size
theorem BoxF.lt {w : World} {b : Nat} {L : List Value} {t : TypeId} (h : BoxF w b L t) : b < w.heap.size := by
  rcases Nat.lt_or_ge b w.heap.size with h1 | h1
  · exact h1
  · unfold BoxF at h; rw [Array.getElem?_eq_none h1] at h; cases h
theorem BoxF.kept {w w' : World} {b : Nat} {L : List Value} {t : TypeId} {row : Option Nat} (h : BoxF w b L t) (hg : w.grownBy w' row) (hne : some b ≠ row) : BoxF w' b L t := (hg.block b h.lt hne).trans h
theorem BoxF.alloc {w : World} {b : Nat} {L : List Value} {t : TypeId} (h : BoxF w b L t) (o : Obj) : BoxF (w.alloc o) b L t := h.kept (World.grownBy_alloc w o none) (by simp)
theorem BoxF.set {w : World} {b : Nat} {L : List Value} {t : TypeId} (h : BoxF w b L t) (i : Nat) (v : Value) : BoxF (w.setCell ⟨b, i, none⟩ v) b (L.set i v) t := by
  have h1 := heap_setCell_same w b i L.toArray t v h
  unfold BoxF
  rw [h1]
  congr 2
  apply Array.toList_inj.1
  simp
theorem BoxF.far {w : World} {b b' : Nat} {L : List Value} {t : TypeId} (h : BoxF w b L t) (i : Nat) (v : Value) (hne : b ≠ b') : BoxF (w.setCell ⟨b', i, none⟩ v) b L t := (heap_setCell_other w ⟨b', i, none⟩ b v hne).trans h
theorem BoxF.at {w : World} {b : Nat} {L : List Value} {t : TypeId} (h : BoxF w b L t) (i : Nat) : w.cell? ⟨b, i, none⟩ = L[i]? := by
  unfold BoxF at h
  simp only [World.cell?, h]
  simp
theorem BoxF.free {w : World} {b : Nat} {L : List Value} {t : TypeId} (h : BoxF w b L t) (i : Nat) : w.frozen? ⟨b, i, none⟩ = false := by
  unfold BoxF at h
  simp [World.frozen?, h]
theorem BoxF.below {w w' : World} {b : Nat} {L : List Value} {t : TypeId} (h : BoxF w b L t) (hb : Below w.heap.size w w') : BoxF w' b L t := (hb.block b h.lt).trans h
theorem grownBy_set (w : World) (b i : Nat) (v : Value) : w.grownBy (w.setCell ⟨b, i, none⟩ v) (some b) :=
  ⟨rfl, rfl, rfl, by simp, fun k _ hk => heap_setCell_other w ⟨b, i, none⟩ k v (fun e => hk (by rw [e]))⟩
/-- The four cells of a box. -/
theorem BoxF.four {w : World} {b : Nat} {x0 x1 x2 x3 : Value} {t : TypeId} (h : BoxF w b [x0, x1, x2, x3] t) : w.cell? ⟨b, 0, none⟩ = some x0 ∧ w.cell? ⟨b, 1, none⟩ = some x1 ∧ w.cell? ⟨b, 2, none⟩ = some x2 ∧ w.cell? ⟨b, 3, none⟩ = some x3 ∧ (∀ i, w.frozen? ⟨b, i, none⟩ = false) :=
  ⟨h.at 0, h.at 1, h.at 2, h.at 3, h.free⟩

theorem fok_plain {f : Int} (h0 : 1 ≤ f) (h1 : f ≤ 9) : FOk 0 0 f 0 := ⟨by omega, by omega, ⟨h0, h1⟩, .inl ⟨rfl, rfl, rfl⟩⟩
theorem fok_drawn {f q l r : Int} (h0 : 1 ≤ f) (h1 : f ≤ 9) (hq0 : 0 ≤ q) (hq1 : q < 7) (hl0 : 0 ≤ l) (hl1 : l ≤ 4) (hr0 : 0 ≤ r) (hr1 : r < 8) : FOk (1 + q) l f (1 + (f + r) % 9) :=
  ⟨by omega, ⟨hl0, hl1⟩, ⟨h0, h1⟩, .inr ⟨by omega, by omega, by omega⟩⟩

theorem grown4 (w : World) (b : Nat) (v0 v1 v2 v3 : Value) : w.grownBy ((((w.setCell ⟨b, 0, none⟩ v0).setCell ⟨b, 1, none⟩ v1).setCell ⟨b, 2, none⟩ v2).setCell ⟨b, 3, none⟩ v3) (some b) :=
  (((grownBy_set w b 0 v0).trans (grownBy_set _ b 1 v1)).trans (grownBy_set _ b 2 v2)).trans (grownBy_set _ b 3 v3)
def DrewField (w : World) (B p : Nat) (a : Option Addr) (n cap M : Nat) (e : Ending) (w' : World) : Prop :=
  (∃ d l f s : Int, e = .returned (.agg #[.int .i64 d, .int .i64 l, .int .i64 f, .int .i64 s]) ∧ FOk d l f s) ∧ IsCur w' B p a n cap M ∧ w.grownBy w' (some p)
set_option maxHeartbeats 4000000 in
theorem field_any (B p : Nat) (a : Option Addr) (n cap M : Nat) (w : World) (h : IsCur w B p a n cap M) (hM : M ≤ 900000) (hn : n ≤ 65536) :
    Calls Tryd.prog 83 #[.pointer (some ⟨p, 0, none⟩)] w (DrewField w B p a n cap (M + 20)) := by
  have hpw := h.lt
  have HC0 := Lib.hid h
  have b0 := Lib.hid (BoxF.new w [.int .i64 0, .int .i64 0, .int .i64 0, .int .i64 0] 25)
  clear h
  go_enter Tryd.func83, Tryd.ntmps83
  go_wp2_with fail
  refine (tincture_any B p a n cap M _ (HC0.out.alloc _) (by omega) hn).mono ?_
  rintro e w1 ⟨⟨f, rfl, hf0, hf1⟩, hc1, hg1⟩
  have HC1 := Lib.hid hc1
  have b1 := Lib.hid (b0.out.kept hg1 (by simp; omega))
  have hz1 := hg1.size
  simp only [World.size_alloc] at hz1
  have G1 := Lib.hid ((World.grownBy_alloc w (.cells #[.int .i64 0, .int .i64 0, .int .i64 0, .int .i64 0] 25 (0, 0)) (some p)).trans hg1)
  have x1 := Lib.hid (BoxF.new w1 [.int .i64 0, .int .i64 0, .int .i64 f, .int .i64 0] 25)
  clear hc1 hg1 HC0 b0
  go_wp2_with fail
  refine (one_any B p a n cap _ _ (HC1.out.alloc _) (by omega) hn 2 (by omega) (by omega)).mono ?_
  rintro e w2 ⟨⟨b, rfl⟩, hc2, hg2⟩
  have HC2 := Lib.hid hc2
  have b2 := Lib.hid ((b1.out.alloc _).kept hg2 (by simp; omega))
  have x2 := Lib.hid (x1.out.kept hg2 (by simp; omega))
  have hz2 := hg2.size
  simp only [World.size_alloc] at hz2
  have G2 := Lib.hid (G1.out.trans ((World.grownBy_alloc w1 _ _).trans hg2))
  clear hc2 hg2 HC1 b1 x1 G1
  obtain ⟨k0, k1, k2, k3, kf⟩ := b2.out.four
  obtain ⟨m0, m1, m2, m3, mf⟩ := x2.out.four
  cases b
  · clear k0 k1 k2 k3 kf m0 m1 m2 m3 mf
    go_wp2_with fail
    refine (pick_any B p a n cap _ w2 HC2.out (by omega) hn 7 (by omega) (by omega)).mono ?_
    rintro e w3 ⟨⟨q, rfl, hq0, hq1⟩, hc3, hg3⟩
    have x3 := x2.out.kept hg3 (by simp; omega)
    have b3 := b2.out.kept hg3 (by simp; omega)
    have hz3 := hg3.size
    obtain ⟨m0, m1, m2, m3, mf⟩ := x3.four
    have HC3 := Lib.hid (hc3.kept (grownBy_set w3 w1.heap.size 0 (.int .i64 (1 + q))) (fun k hk => by cases hk; omega))
    have X3 := Lib.hid (x3.set 0 (.int .i64 (1 + q)))
    have B3 := Lib.hid (b3.kept (grownBy_set w3 w1.heap.size 0 (.int .i64 (1 + q))) (by simp; omega))
    have G3 := Lib.hid (grownBy_own (G2.out.trans hg3) (grownBy_set w3 w1.heap.size 0 (.int .i64 (1 + q))) (fun k hk => by cases hk; omega))
    clear hc3 hg3 x3 b3 HC2 b2 x2 G2
    go_wp2_with fail
    generalize hW : w3.setCell ⟨w1.heap.size, 0, none⟩ (.int .i64 (1 + q)) = W3 at *
    have hzW : w3.heap.size = W3.heap.size := by rw [← hW]; simp
    have HW := Lib.hid hW
    clear hW m0 m1 m2 m3 mf
    refine (among_p B p a n cap _ _ (HC3.out.alloc _) (by omega) hn w3.heap.size 6 6 (fun x => 0 ≤ x ∧ x ≤ 4) (by omega) (by omega) (by rw [hzW]; exact numRowP_alloc _ _ _ _ 6 rfl (by intro v hv; simp at hv; rcases hv with rfl | rfl | rfl | rfl | rfl | rfl <;> simp [isNumP])) (by omega) (by rw [alloc_size]; omega)).mono ?_
    rintro e w4 ⟨⟨l, rfl, hl0, hl1⟩, hc4, hg4⟩
    have x4 := (X3.out.alloc _).kept hg4 (by simp; omega)
    have b4 := (B3.out.alloc _).kept hg4 (by simp; omega)
    have hz4 := hg4.size
    simp only [World.size_alloc] at hz4
    simp only [List.set_cons_zero] at x4
    obtain ⟨m0, m1, m2, m3, mf⟩ := x4.four
    have HC4 := Lib.hid (hc4.kept (grownBy_set w4 w1.heap.size 1 (.int .i64 l)) (fun k hk => by cases hk; omega))
    have X4 := Lib.hid (x4.set 1 (.int .i64 l))
    have B4 := Lib.hid (b4.kept (grownBy_set w4 w1.heap.size 1 (.int .i64 l)) (by simp; omega))
    have G4 := Lib.hid (grownBy_own (G3.out.trans ((World.grownBy_alloc W3 _ _).trans hg4)) (grownBy_set w4 w1.heap.size 1 (.int .i64 l)) (fun k hk => by cases hk; omega))
    clear hc4 hg4 x4 b4 HC3 B3 X3 G3
    go_wp2_with fail
    generalize hW4 : w4.setCell ⟨w1.heap.size, 1, none⟩ (.int .i64 l) = W4 at *
    have hzW4 : w4.heap.size = W4.heap.size := by rw [← hW4]; simp
    clear hW4 m0 m1 m2 m3 mf HW
    simp only [List.set_cons_succ, List.set_cons_zero] at X4
    obtain ⟨m0, m1, m2, m3, mf⟩ := X4.out.four
    have cpk := Lib.hid (fun k => pick_any B p a n cap _ (W4.drewN k) (show IsCur (W4.drewN k) B p a n cap _ from HC4.out) (by omega) hn 8 (by omega) (by omega))
    go_region_with (go_at_call 35; refine (cpk.out _).mono ?_; rintro e w5 ⟨⟨r, rfl, hr0, hr1⟩, hc5, hg5⟩; have x5 := BoxF.kept (show BoxF (W4.drewN _) w1.heap.size [.int .i64 (1 + q), .int .i64 l, .int .i64 f, .int .i64 0] 25 from X4.out) hg5 (by simp; omega); have c5 := x5.four.1; have c6 := x5.four.2.1; have c7 := x5.four.2.2.1; have c8 := x5.four.2.2.2.1; have c9 := x5.four.2.2.2.2; have y1 : IntKind.i64.wrap (f + r) = f + r := IntWalk.i64_in _ (by omega); have y2 : (f + r).tmod 9 = (f + r) % 9 := Int.tmod_eq_emod_of_nonneg (by omega); have y3 : IntKind.i64.wrap (1 + (f + r) % 9) = 1 + (f + r) % 9 := IntWalk.i64_in _ (by omega); have y4 : IntKind.i64.wrap ((f + r) % 9) = (f + r) % 9 := IntWalk.i64_in _ (by omega))
    all_goals
      clear c5 c6 c7 c8 c9 y1 y2 y3 y4 m0 m1 m2 m3 mf cpk
      have b5 := BoxF.kept (show BoxF (W4.drewN _) w.heap.size _ _ from B4.out) hg5 (by simp; omega)
      have hz5 : W4.heap.size ≤ w5.heap.size := hg5.size
      have gs := grownBy_set w5 w1.heap.size 3 (.int .i64 (1 + (f + r) % 9))
      have x6 := x5.set 3 (.int .i64 (1 + (f + r) % 9))
      have b6 := b5.kept gs (by simp; omega)
      have HC6 := Lib.hid ((hc5.mono (M' := M + 20) (by omega)).kept gs (fun k hk => by cases hk; omega))
      have G6 := Lib.hid (grownBy_own (G4.out.trans (show W4.grownBy w5 (some p) from ⟨hg5.os, hg5.tape, hg5.output, hg5.size, hg5.block⟩)) gs (fun k hk => by cases hk; omega))
      simp only [List.set_cons_succ, List.set_cons_zero] at x6
      obtain ⟨k0, k1, k2, k3, kf⟩ := b6.four
      obtain ⟨m0, m1, m2, m3, mf⟩ := x6.four
      clear x5 b5 gs hc5 hg5 x6 b6
      generalize w5.setCell ⟨w1.heap.size, 3, none⟩ (.int .i64 (1 + (f + r) % 9)) = W6 at *
      go_wp2_with fail
      refine bodyPost_ret (v := .agg #[.int .i64 (1 + q), .int .i64 l, .int .i64 f, .int .i64 (1 + (f + r) % 9)]) (by simp [results, Tryd.results83, go_sem, k0, k1, k2, k3]) rfl ⟨⟨_, _, _, _, rfl, fok_drawn hf0 hf1 hq0 (by omega) hl0 hl1 hr0 (by omega)⟩, ?_, ?_⟩
      · exact HC6.out.kept (grown4 W6 _ _ _ _ _) (fun k hk => by cases hk; omega)
      · exact grownBy_own G6.out (grown4 W6 _ _ _ _ _) (fun k hk => by cases hk; omega)
  · go_wp2_with fail
    refine bodyPost_ret (v := .agg #[.int .i64 0, .int .i64 0, .int .i64 f, .int .i64 0]) (by simp [results, Tryd.results83, go_sem, k0, k1, k2, k3]) rfl ⟨⟨_, _, _, _, rfl, fok_plain hf0 hf1⟩, ?_, ?_⟩
    · exact (HC2.out.mono (by omega)).kept (grown4 w2 _ _ _ _ _) (fun k hk => by cases hk; omega)
    · exact grownBy_own G2.out (grown4 w2 _ _ _ _ _) (fun k hk => by cases hk; omega)
end Go.Proofs.YtmmbhglmafnfpabDoor
namespace Go.Proofs.YtmmbhglmafnfpabDoor
open Go.RowKit

theorem cset_o (w : World) (b i j : Nat) (v : Value) (h : i ≠ j) : (w.setCell ⟨b, i, none⟩ v).cell? ⟨b, j, none⟩ = w.cell? ⟨b, j, none⟩ :=
  World.cell?_setCell_other _ _ _ _ (fun e => h (Addr.mk.inj e).2.1)
theorem cset_b (w : World) (b c i j : Nat) (v : Value) (h : b ≠ c) : (w.setCell ⟨b, i, none⟩ v).cell? ⟨c, j, none⟩ = w.cell? ⟨c, j, none⟩ :=
  World.cell?_setCell_other _ _ _ _ (fun e => h (Addr.mk.inj e).1)
end Go.Proofs.YtmmbhglmafnfpabDoor
