/- Several small texts in one: SPWalkA. -/
import Derived.Test.YtgeidnnjljpdkaaDoorK9
import Derived.Test.YtgeidnnjljpdkaaDoorKX
import Derived.Test.YtgeidnnjljpdkaaDoorKU
namespace Go.Proofs.YtgeidnnjljpdkaaDoor
open Go.RowKit Go.Lib

/-- Two boxes of empty arms, and all that was there. -/
def NK (w : World) (W : World) : Prop := BoxF W w.heap.size [.int .i64 0, .int .i64 0, .int .i64 0, .int .i64 0, .int .i64 0, .int .i64 0, .int .i64 0, .int .i64 0, .int .i64 0, .int .i64 0, .int .i64 0, .int .i64 0, .int .i64 0, .int .i64 0, .int .i64 0] 37 ∧ BoxF W (w.heap.size + 1) [.int .i64 0, .int .i64 0, .int .i64 0, .int .i64 0, .int .i64 0, .int .i64 0, .int .i64 0, .int .i64 0, .int .i64 0, .int .i64 0, .int .i64 0, .int .i64 0, .int .i64 0, .int .i64 0, .int .i64 0] 37 ∧ Below w.heap.size w W
theorem NK.bel {w W : World} (h : NK w W) : Below w.heap.size w W := h.2.2
theorem NK.below {w W W' : World} (h : NK w W) (hb : Below W.heap.size W W') : NK w W' := ⟨h.1.below hb, h.2.1.below hb, h.2.2.trans (hb.mono h.2.2.size)⟩
theorem NK.drewN {w W : World} (h : NK w W) (q : Nat) : NK w (W.drewN q) := ⟨h.1, h.2.1, below_drewN' h.2.2 q⟩
theorem NK.alloc {w W : World} (h : NK w W) (o : Obj) : NK w (W.alloc o) := h.below ((Below.refl _ _).alloc (Nat.le_refl _) o)
theorem NK.new (w : World) : NK w ((w.alloc (.cells #[.int .i64 0, .int .i64 0, .int .i64 0, .int .i64 0, .int .i64 0, .int .i64 0, .int .i64 0, .int .i64 0, .int .i64 0, .int .i64 0, .int .i64 0, .int .i64 0, .int .i64 0, .int .i64 0, .int .i64 0] 37 (0, 0))).alloc (.cells #[.int .i64 0, .int .i64 0, .int .i64 0, .int .i64 0, .int .i64 0, .int .i64 0, .int .i64 0, .int .i64 0, .int .i64 0, .int .i64 0, .int .i64 0, .int .i64 0, .int .i64 0, .int .i64 0, .int .i64 0] 37 (0, 0))) := by
  have h := BoxF.new (w.alloc (.cells #[.int .i64 0, .int .i64 0, .int .i64 0, .int .i64 0, .int .i64 0, .int .i64 0, .int .i64 0, .int .i64 0, .int .i64 0, .int .i64 0, .int .i64 0, .int .i64 0, .int .i64 0, .int .i64 0, .int .i64 0] 37 (0, 0))) [.int .i64 0, .int .i64 0, .int .i64 0, .int .i64 0, .int .i64 0, .int .i64 0, .int .i64 0, .int .i64 0, .int .i64 0, .int .i64 0, .int .i64 0, .int .i64 0, .int .i64 0, .int .i64 0, .int .i64 0] 37
  simp only [World.size_alloc] at h
  exact ⟨(BoxF.new w [.int .i64 0, .int .i64 0, .int .i64 0, .int .i64 0, .int .i64 0, .int .i64 0, .int .i64 0, .int .i64 0, .int .i64 0, .int .i64 0, .int .i64 0, .int .i64 0, .int .i64 0, .int .i64 0, .int .i64 0] _).alloc _, h, ((Below.refl _ w).alloc (Nat.le_refl _) _).alloc (by simp) _⟩
/-- These, and the box b of the arms that are read. -/
def MK (w : World) (b : Nat) (L : List Value) (W : World) : Prop := BoxF W w.heap.size [.int .i64 0, .int .i64 0, .int .i64 0, .int .i64 0, .int .i64 0, .int .i64 0, .int .i64 0, .int .i64 0, .int .i64 0, .int .i64 0, .int .i64 0, .int .i64 0, .int .i64 0, .int .i64 0, .int .i64 0] 37 ∧ BoxF W (w.heap.size + 1) [.int .i64 0, .int .i64 0, .int .i64 0, .int .i64 0, .int .i64 0, .int .i64 0, .int .i64 0, .int .i64 0, .int .i64 0, .int .i64 0, .int .i64 0, .int .i64 0, .int .i64 0, .int .i64 0, .int .i64 0] 37 ∧ w.heap.size + 2 ≤ b ∧ BoxF W b L 37 ∧ Below w.heap.size w W
theorem MK.bel {w W : World} {b : Nat} {L : List Value} (h : MK w b L W) : Below w.heap.size w W := h.2.2.2.2
theorem MK.below {w W W' : World} {b : Nat} {L : List Value} (h : MK w b L W) (hb : Below W.heap.size W W') : MK w b L W' := ⟨h.1.below hb, h.2.1.below hb, h.2.2.1, h.2.2.2.1.below hb, h.2.2.2.2.trans (hb.mono h.2.2.2.2.size)⟩
theorem MK.drewN {w W : World} {b : Nat} {L : List Value} (h : MK w b L W) (q : Nat) : MK w b L (W.drewN q) := ⟨h.1, h.2.1, h.2.2.1, h.2.2.2.1, below_drewN' h.2.2.2.2 q⟩
theorem MK.alloc {w W : World} {b : Nat} {L : List Value} (h : MK w b L W) (o : Obj) : MK w b L (W.alloc o) := h.below ((Below.refl _ _).alloc (Nat.le_refl _) o)
theorem MK.puts {w W : World} {b : Nat} {L : List Value} (h : MK w b L W) (o : Nat) (vs : List Value) : MK w b (putL L o vs) (sets W b o vs) :=
  have hb := h.2.2.1
  ⟨sets_far (by omega) vs o h.1, sets_far (by omega) vs o h.2.1, h.2.2.1, sets_box vs o h.2.2.2.1, sets_below (by omega) vs o h.2.2.2.2⟩
theorem MK.put {w W : World} {b : Nat} {L : List Value} (h : MK w b L W) (o : Nat) (vs : List Value) : MK w b (putL L o vs) (W.setCells b o vs) := by
  rw [setCells_sets]; exact h.puts o vs
theorem NK.mk {w W : World} (h : NK w W) (L : List Value) (hs : w.heap.size + 2 ≤ W.heap.size) : MK w W.heap.size L (W.alloc (.cells L.toArray 37 (0, 0))) :=
  ⟨(h.alloc _).1, (h.alloc _).2.1, hs, BoxF.new W L _, (h.alloc _).2.2⟩
theorem NK.two {w W : World} (h : NK w W) : w.heap.size + 2 ≤ W.heap.size := by have := h.2.1.lt; omega
/-- The same where the result's box may hold anything. -/
def MKd (w : World) (b : Nat) (L : List Value) (W : World) : Prop := w.heap.size + 2 ≤ b ∧ w.heap.size < W.heap.size ∧ True ∧ BoxF W b L 37 ∧ Below w.heap.size w W
theorem MK.toD {w W : World} {b : Nat} {L : List Value} (h : MK w b L W) : MKd w b L W := ⟨h.2.2.1, h.1.lt, trivial, h.2.2.2.1, h.2.2.2.2⟩
theorem MKd.below {w W W' : World} {b : Nat} {L : List Value} (h : MKd w b L W) (hb : Below W.heap.size W W') : MKd w b L W' := ⟨h.1, Nat.lt_of_lt_of_le h.2.1 hb.size, trivial, h.2.2.2.1.below hb, h.2.2.2.2.trans (hb.mono h.2.2.2.2.size)⟩
theorem MKd.res {w W : World} {b : Nat} {L : List Value} (h : MKd w b L W) (vs : List Value) : MKd w b L (W.setCells w.heap.size 0 vs) := by
  have hb := h.1
  have hg := setc_grownC W w.heap.size vs
  exact ⟨h.1, Nat.lt_of_lt_of_le h.2.1 hg.size, trivial, h.2.2.2.1.kept hg (by simp; omega), h.2.2.2.2.grown hg h.2.2.2.2.size (fun k hk => by cases hk; exact Nat.le_refl _)⟩
set_option maxRecDepth 100000 in
set_option maxHeartbeats 8000000 in
theorem l6P_long (z : ByteArray) (w : World) (hz : (240 : Int) < (z.size : Int)) :
    Calls Tryd.prog 73 #[.string z] w (AnsA w 0 0 0 0 0 0 0 0 0 0 0 0 0 0 0 false) := by
  have K0 := Lib.hid (NK.new w)
  go_enter Tryd.func73, Tryd.ntmps73
  have r9 := K0.out.2.1.range
  have t9 := K0.out.1.ther (n := 15) rfl
  go_wp2_with (first | (with_reducible refine isList ?_; refine ld15 4 (w.heap.size + 1) [.int .i64 0, .int .i64 0, .int .i64 0, .int .i64 0, .int .i64 0, .int .i64 0, .int .i64 0, .int .i64 0, .int .i64 0, .int .i64 0, .int .i64 0, .int .i64 0, .int .i64 0, .int .i64 0, .int .i64 0] rfl rfl rfl rfl ?_ ?_; exact r9) | (with_reducible refine isList ?_; (set_option maxRecDepth 100000 in refine st15 2 27 w.heap.size [.int .i64 0, .int .i64 0, .int .i64 0, .int .i64 0, .int .i64 0, .int .i64 0, .int .i64 0, .int .i64 0, .int .i64 0, .int .i64 0, .int .i64 0, .int .i64 0, .int .i64 0, .int .i64 0, .int .i64 0] rfl rfl rfl rfl rfl ?_ ?_ ?_); exact t9; simp [Value.oneCell']))
  have g9 := setc_grownC ((w.alloc (.cells #[.int .i64 0, .int .i64 0, .int .i64 0, .int .i64 0, .int .i64 0, .int .i64 0, .int .i64 0, .int .i64 0, .int .i64 0, .int .i64 0, .int .i64 0, .int .i64 0, .int .i64 0, .int .i64 0, .int .i64 0] 37 (0, 0))).alloc (.cells #[.int .i64 0, .int .i64 0, .int .i64 0, .int .i64 0, .int .i64 0, .int .i64 0, .int .i64 0, .int .i64 0, .int .i64 0, .int .i64 0, .int .i64 0, .int .i64 0, .int .i64 0, .int .i64 0, .int .i64 0] 37 (0, 0))) w.heap.size [.int .i64 0, .int .i64 0, .int .i64 0, .int .i64 0, .int .i64 0, .int .i64 0, .int .i64 0, .int .i64 0, .int .i64 0, .int .i64 0, .int .i64 0, .int .i64 0, .int .i64 0, .int .i64 0, .int .i64 0]
  have BE := Lib.hid ((K0.out).bel.grown g9 (K0.out).bel.size (fun q hq => by cases hq; exact Nat.le_refl _))
  have XR : BoxF (((w.alloc (.cells #[.int .i64 0, .int .i64 0, .int .i64 0, .int .i64 0, .int .i64 0, .int .i64 0, .int .i64 0, .int .i64 0, .int .i64 0, .int .i64 0, .int .i64 0, .int .i64 0, .int .i64 0, .int .i64 0, .int .i64 0] 37 (0, 0))).alloc (.cells #[.int .i64 0, .int .i64 0, .int .i64 0, .int .i64 0, .int .i64 0, .int .i64 0, .int .i64 0, .int .i64 0, .int .i64 0, .int .i64 0, .int .i64 0, .int .i64 0, .int .i64 0, .int .i64 0, .int .i64 0] 37 (0, 0))).setCells w.heap.size 0 [.int .i64 0, .int .i64 0, .int .i64 0, .int .i64 0, .int .i64 0, .int .i64 0, .int .i64 0, .int .i64 0, .int .i64 0, .int .i64 0, .int .i64 0, .int .i64 0, .int .i64 0, .int .i64 0, .int .i64 0]) w.heap.size [.int .i64 0, .int .i64 0, .int .i64 0, .int .i64 0, .int .i64 0, .int .i64 0, .int .i64 0, .int .i64 0, .int .i64 0, .int .i64 0, .int .i64 0, .int .i64 0, .int .i64 0, .int .i64 0, .int .i64 0] 37 := BoxF.setAll (vs := [.int .i64 0, .int .i64 0, .int .i64 0, .int .i64 0, .int .i64 0, .int .i64 0, .int .i64 0, .int .i64 0, .int .i64 0, .int .i64 0, .int .i64 0, .int .i64 0, .int .i64 0, .int .i64 0, .int .i64 0]) K0.out.1
  generalize ((w.alloc (.cells #[.int .i64 0, .int .i64 0, .int .i64 0, .int .i64 0, .int .i64 0, .int .i64 0, .int .i64 0, .int .i64 0, .int .i64 0, .int .i64 0, .int .i64 0, .int .i64 0, .int .i64 0, .int .i64 0, .int .i64 0] 37 (0, 0))).alloc (.cells #[.int .i64 0, .int .i64 0, .int .i64 0, .int .i64 0, .int .i64 0, .int .i64 0, .int .i64 0, .int .i64 0, .int .i64 0, .int .i64 0, .int .i64 0, .int .i64 0, .int .i64 0, .int .i64 0, .int .i64 0] 37 (0, 0))).setCells w.heap.size 0 [.int .i64 0, .int .i64 0, .int .i64 0, .int .i64 0, .int .i64 0, .int .i64 0, .int .i64 0, .int .i64 0, .int .i64 0, .int .i64 0, .int .i64 0, .int .i64 0, .int .i64 0, .int .i64 0, .int .i64 0] = W9 at *
  obtain ⟨z0, z1, z2, z3, z4, z5, z6, z7, z8, z9, z10, z11, z12, z13, z14, zf⟩ := XR.fifteen
  exact bodyPost_ret (v := .tuple #[.agg #[.int .i64 0, .int .i64 0, .int .i64 0, .int .i64 0, .int .i64 0, .int .i64 0, .int .i64 0, .int .i64 0, .int .i64 0, .int .i64 0, .int .i64 0, .int .i64 0, .int .i64 0, .int .i64 0, .int .i64 0], .bool false]) (by simp [results, Tryd.results73, go_sem, z0, z1, z2, z3, z4, z5, z6, z7, z8, z9, z10, z11, z12, z13, z14]) rfl ⟨rfl, BE.out⟩
set_option maxRecDepth 100000 in
set_option maxHeartbeats 8000000 in
theorem l6P_nofield (z F R : ByteArray) (d l f s : Int) (m : Bool) (w : World) (hz : ¬ (240 : Int) < (z.size : Int))
    (hC : ∀ W, Calls Tryd.prog 113 #[.string z, .string ⟨#[44, 32]⟩] W fun e w' => e = .returned (.tuple #[.string F, .string R, .bool m]) ∧ ∃ q, w' = W.drewN q)
    (hF : ∀ W, Calls Tryd.prog 114 #[.string F] W (AnsF W d l f s false)) :
    Calls Tryd.prog 73 #[.string z] w (AnsA w 0 0 0 0 0 0 0 0 0 0 0 0 0 0 0 false) := by
  have HC_ := Lib.hid hC
  have HF_ := Lib.hid hF
  clear hC hF
  have K0 := Lib.hid (NK.new w)
  go_enter Tryd.func73, Tryd.ntmps73
  go_wp2_with fail
  refine (HC_.out _).mono ?_
  rintro e w1 ⟨rfl, q, rfl⟩
  have K1 := Lib.hid (K0.out.drewN q)
  clear K0 HC_
  go_wp2_with fail
  refine (HF_.out _).mono ?_
  rintro e w2 ⟨rfl, h2⟩
  have K2 := Lib.hid (K1.out.below h2)
  clear K1 HF_ h2
  have K3 := Lib.hid (K2.out.alloc (.cells #[.int .i64 d, .int .i64 l, .int .i64 f, .int .i64 s] 33 (0, 0)))
  clear K2
  have r9 := K3.out.2.1.range
  have t9 := K3.out.1.ther (n := 15) rfl
  go_wp2_with (first | (with_reducible refine isList ?_; refine ld15 4 (w.heap.size + 1) [.int .i64 0, .int .i64 0, .int .i64 0, .int .i64 0, .int .i64 0, .int .i64 0, .int .i64 0, .int .i64 0, .int .i64 0, .int .i64 0, .int .i64 0, .int .i64 0, .int .i64 0, .int .i64 0, .int .i64 0] rfl rfl rfl rfl ?_ ?_; exact r9) | (with_reducible refine isList ?_; (set_option maxRecDepth 100000 in refine st15 2 41 w.heap.size [.int .i64 0, .int .i64 0, .int .i64 0, .int .i64 0, .int .i64 0, .int .i64 0, .int .i64 0, .int .i64 0, .int .i64 0, .int .i64 0, .int .i64 0, .int .i64 0, .int .i64 0, .int .i64 0, .int .i64 0] rfl rfl rfl rfl rfl ?_ ?_ ?_); exact t9; simp [Value.oneCell']))
  have g9 := setc_grownC (w2.alloc (.cells #[.int .i64 d, .int .i64 l, .int .i64 f, .int .i64 s] 33 (0, 0))) w.heap.size [.int .i64 0, .int .i64 0, .int .i64 0, .int .i64 0, .int .i64 0, .int .i64 0, .int .i64 0, .int .i64 0, .int .i64 0, .int .i64 0, .int .i64 0, .int .i64 0, .int .i64 0, .int .i64 0, .int .i64 0]
  have BE := Lib.hid ((K3.out).bel.grown g9 (K3.out).bel.size (fun q hq => by cases hq; exact Nat.le_refl _))
  have XR : BoxF ((w2.alloc (.cells #[.int .i64 d, .int .i64 l, .int .i64 f, .int .i64 s] 33 (0, 0))).setCells w.heap.size 0 [.int .i64 0, .int .i64 0, .int .i64 0, .int .i64 0, .int .i64 0, .int .i64 0, .int .i64 0, .int .i64 0, .int .i64 0, .int .i64 0, .int .i64 0, .int .i64 0, .int .i64 0, .int .i64 0, .int .i64 0]) w.heap.size [.int .i64 0, .int .i64 0, .int .i64 0, .int .i64 0, .int .i64 0, .int .i64 0, .int .i64 0, .int .i64 0, .int .i64 0, .int .i64 0, .int .i64 0, .int .i64 0, .int .i64 0, .int .i64 0, .int .i64 0] 37 := BoxF.setAll (vs := [.int .i64 0, .int .i64 0, .int .i64 0, .int .i64 0, .int .i64 0, .int .i64 0, .int .i64 0, .int .i64 0, .int .i64 0, .int .i64 0, .int .i64 0, .int .i64 0, .int .i64 0, .int .i64 0, .int .i64 0]) K3.out.1
  generalize (w2.alloc (.cells #[.int .i64 d, .int .i64 l, .int .i64 f, .int .i64 s] 33 (0, 0))).setCells w.heap.size 0 [.int .i64 0, .int .i64 0, .int .i64 0, .int .i64 0, .int .i64 0, .int .i64 0, .int .i64 0, .int .i64 0, .int .i64 0, .int .i64 0, .int .i64 0, .int .i64 0, .int .i64 0, .int .i64 0, .int .i64 0] = W9 at *
  obtain ⟨z0, z1, z2, z3, z4, z5, z6, z7, z8, z9, z10, z11, z12, z13, z14, zf⟩ := XR.fifteen
  exact bodyPost_ret (v := .tuple #[.agg #[.int .i64 0, .int .i64 0, .int .i64 0, .int .i64 0, .int .i64 0, .int .i64 0, .int .i64 0, .int .i64 0, .int .i64 0, .int .i64 0, .int .i64 0, .int .i64 0, .int .i64 0, .int .i64 0, .int .i64 0], .bool false]) (by simp [results, Tryd.results73, go_sem, z0, z1, z2, z3, z4, z5, z6, z7, z8, z9, z10, z11, z12, z13, z14]) rfl ⟨rfl, BE.out⟩
set_option maxRecDepth 100000 in
set_option maxHeartbeats 8000000 in
theorem l6P_field (z F R : ByteArray) (d l f s : Int) (w : World) (hz : ¬ (240 : Int) < (z.size : Int))
    (hC : ∀ W, Calls Tryd.prog 113 #[.string z, .string ⟨#[44, 32]⟩] W fun e w' => e = .returned (.tuple #[.string F, .string R, .bool false]) ∧ ∃ q, w' = W.drewN q)
    (hF : ∀ W, Calls Tryd.prog 114 #[.string F] W (AnsF W d l f s true)) :
    Calls Tryd.prog 73 #[.string z] w (AnsA w d l f s 0 0 0 0 0 0 0 0 0 0 0 true) := by
  have HC_ := Lib.hid hC
  have HF_ := Lib.hid hF
  clear hC hF
  have K0 := Lib.hid (NK.new w)
  go_enter Tryd.func73, Tryd.ntmps73
  go_wp2_with fail
  refine (HC_.out _).mono ?_
  rintro e w1 ⟨rfl, q, rfl⟩
  have K1 := Lib.hid (K0.out.drewN q)
  clear K0 HC_
  go_wp2_with fail
  refine (HF_.out _).mono ?_
  rintro e w2 ⟨rfl, h2⟩
  have K2 := Lib.hid (K1.out.below h2)
  clear K1 HF_ h2
  have x3 := BoxF.new w2 [.int .i64 d, .int .i64 l, .int .i64 f, .int .i64 s] 33
  have K3 := K2.out.alloc (.cells #[.int .i64 d, .int .i64 l, .int .i64 f, .int .i64 s] 33 (0, 0))
  have K4 := Lib.hid (show MK w (w2.heap.size + 1) [.int .i64 d, .int .i64 l, .int .i64 f, .int .i64 s, .int .i64 0, .int .i64 0, .int .i64 0, .int .i64 0, .int .i64 0, .int .i64 0, .int .i64 0, .int .i64 0, .int .i64 0, .int .i64 0, .int .i64 0] ((w2.alloc (.cells #[.int .i64 d, .int .i64 l, .int .i64 f, .int .i64 s] 33 (0, 0))).alloc (.cells #[.int .i64 d, .int .i64 l, .int .i64 f, .int .i64 s, .int .i64 0, .int .i64 0, .int .i64 0, .int .i64 0, .int .i64 0, .int .i64 0, .int .i64 0, .int .i64 0, .int .i64 0, .int .i64 0, .int .i64 0] 37 (0, 0))) by have h := K3.mk [.int .i64 d, .int .i64 l, .int .i64 f, .int .i64 s, .int .i64 0, .int .i64 0, .int .i64 0, .int .i64 0, .int .i64 0, .int .i64 0, .int .i64 0, .int .i64 0, .int .i64 0, .int .i64 0, .int .i64 0] K3.two; simpa only [World.size_alloc] using h)
  obtain ⟨k0, k1, k2, k3, kf⟩ := x3.four
  clear K2 K3
  have r9 := K4.out.2.2.2.1.range
  have t9 := K4.out.1.ther (n := 15) rfl
  go_wp2_with (first | (with_reducible refine isList ?_; refine ld15 10 (w2.heap.size + 1) [.int .i64 d, .int .i64 l, .int .i64 f, .int .i64 s, .int .i64 0, .int .i64 0, .int .i64 0, .int .i64 0, .int .i64 0, .int .i64 0, .int .i64 0, .int .i64 0, .int .i64 0, .int .i64 0, .int .i64 0] rfl rfl rfl rfl ?_ ?_; exact r9) | (with_reducible refine isList ?_; (set_option maxRecDepth 100000 in refine st15 2 46 w.heap.size [.int .i64 d, .int .i64 l, .int .i64 f, .int .i64 s, .int .i64 0, .int .i64 0, .int .i64 0, .int .i64 0, .int .i64 0, .int .i64 0, .int .i64 0, .int .i64 0, .int .i64 0, .int .i64 0, .int .i64 0] rfl rfl rfl rfl rfl ?_ ?_ ?_); exact t9; simp [Value.oneCell']))
  have g9 := setc_grownC ((w2.alloc (.cells #[.int .i64 d, .int .i64 l, .int .i64 f, .int .i64 s] 33 (0, 0))).alloc (.cells #[.int .i64 d, .int .i64 l, .int .i64 f, .int .i64 s, .int .i64 0, .int .i64 0, .int .i64 0, .int .i64 0, .int .i64 0, .int .i64 0, .int .i64 0, .int .i64 0, .int .i64 0, .int .i64 0, .int .i64 0] 37 (0, 0))) w.heap.size [.int .i64 d, .int .i64 l, .int .i64 f, .int .i64 s, .int .i64 0, .int .i64 0, .int .i64 0, .int .i64 0, .int .i64 0, .int .i64 0, .int .i64 0, .int .i64 0, .int .i64 0, .int .i64 0, .int .i64 0]
  have BE := Lib.hid ((K4.out).bel.grown g9 (K4.out).bel.size (fun q hq => by cases hq; exact Nat.le_refl _))
  have XR : BoxF (((w2.alloc (.cells #[.int .i64 d, .int .i64 l, .int .i64 f, .int .i64 s] 33 (0, 0))).alloc (.cells #[.int .i64 d, .int .i64 l, .int .i64 f, .int .i64 s, .int .i64 0, .int .i64 0, .int .i64 0, .int .i64 0, .int .i64 0, .int .i64 0, .int .i64 0, .int .i64 0, .int .i64 0, .int .i64 0, .int .i64 0] 37 (0, 0))).setCells w.heap.size 0 [.int .i64 d, .int .i64 l, .int .i64 f, .int .i64 s, .int .i64 0, .int .i64 0, .int .i64 0, .int .i64 0, .int .i64 0, .int .i64 0, .int .i64 0, .int .i64 0, .int .i64 0, .int .i64 0, .int .i64 0]) w.heap.size [.int .i64 d, .int .i64 l, .int .i64 f, .int .i64 s, .int .i64 0, .int .i64 0, .int .i64 0, .int .i64 0, .int .i64 0, .int .i64 0, .int .i64 0, .int .i64 0, .int .i64 0, .int .i64 0, .int .i64 0] 37 := BoxF.setAll (vs := [.int .i64 d, .int .i64 l, .int .i64 f, .int .i64 s, .int .i64 0, .int .i64 0, .int .i64 0, .int .i64 0, .int .i64 0, .int .i64 0, .int .i64 0, .int .i64 0, .int .i64 0, .int .i64 0, .int .i64 0]) K4.out.1
  generalize ((w2.alloc (.cells #[.int .i64 d, .int .i64 l, .int .i64 f, .int .i64 s] 33 (0, 0))).alloc (.cells #[.int .i64 d, .int .i64 l, .int .i64 f, .int .i64 s, .int .i64 0, .int .i64 0, .int .i64 0, .int .i64 0, .int .i64 0, .int .i64 0, .int .i64 0, .int .i64 0, .int .i64 0, .int .i64 0, .int .i64 0] 37 (0, 0))).setCells w.heap.size 0 [.int .i64 d, .int .i64 l, .int .i64 f, .int .i64 s, .int .i64 0, .int .i64 0, .int .i64 0, .int .i64 0, .int .i64 0, .int .i64 0, .int .i64 0, .int .i64 0, .int .i64 0, .int .i64 0, .int .i64 0] = W9 at *
  obtain ⟨z0, z1, z2, z3, z4, z5, z6, z7, z8, z9, z10, z11, z12, z13, z14, zf⟩ := XR.fifteen
  exact bodyPost_ret (v := .tuple #[.agg #[.int .i64 d, .int .i64 l, .int .i64 f, .int .i64 s, .int .i64 0, .int .i64 0, .int .i64 0, .int .i64 0, .int .i64 0, .int .i64 0, .int .i64 0, .int .i64 0, .int .i64 0, .int .i64 0, .int .i64 0], .bool true]) (by simp [results, Tryd.results73, go_sem, z0, z1, z2, z3, z4, z5, z6, z7, z8, z9, z10, z11, z12, z13, z14]) rfl ⟨rfl, BE.out⟩
set_option maxRecDepth 100000 in
set_option maxHeartbeats 8000000 in
theorem l6P_group (z F R T : ByteArray) (d l f s c' k' a' t' : Int) (w : World) (hz : ¬ (240 : Int) < (z.size : Int))
    (hC : ∀ W, Calls Tryd.prog 113 #[.string z, .string ⟨#[44, 32]⟩] W fun e w' => e = .returned (.tuple #[.string F, .string R, .bool true]) ∧ ∃ q, w' = W.drewN q)
    (hF : ∀ W, Calls Tryd.prog 114 #[.string F] W (AnsF W d l f s true))
    (hG : ∀ W, Calls Tryd.prog 115 #[.string R] W (AnsF W c' k' a' t' true))
    (hT : ∀ W, Calls Tryd.prog 52 #[.agg #[.int .i64 d, .int .i64 l, .int .i64 f, .int .i64 s, .int .i64 0, .int .i64 0, .int .i64 0, .int .i64 0, .int .i64 0, .int .i64 0, .int .i64 0, .int .i64 c', .int .i64 k', .int .i64 a', .int .i64 t']] W fun e w' => e = .returned (.string T) ∧ Below W.heap.size W w') (v : Bool) (hv : decide (T = z) = v) :
    Calls Tryd.prog 73 #[.string z] w (AnsA w d l f s 0 0 0 0 0 0 0 c' k' a' t' v) := by
  have HC_ := Lib.hid hC
  have HF_ := Lib.hid hF
  have HG_ := Lib.hid hG
  have HT_ := Lib.hid hT
  clear hC hF hG hT
  have K0 := Lib.hid (NK.new w)
  go_enter Tryd.func73, Tryd.ntmps73
  go_wp2_with fail
  refine (HC_.out _).mono ?_
  rintro e w1 ⟨rfl, q, rfl⟩
  have K1 := Lib.hid (K0.out.drewN q)
  clear K0 HC_
  go_wp2_with fail
  refine (HF_.out _).mono ?_
  rintro e w2 ⟨rfl, h2⟩
  have K2 := Lib.hid (K1.out.below h2)
  clear K1 HF_ h2
  have x3 := BoxF.new w2 [.int .i64 d, .int .i64 l, .int .i64 f, .int .i64 s] 33
  have K3 := K2.out.alloc (.cells #[.int .i64 d, .int .i64 l, .int .i64 f, .int .i64 s] 33 (0, 0))
  have K4 := Lib.hid (show MK w (w2.heap.size + 1) [.int .i64 d, .int .i64 l, .int .i64 f, .int .i64 s, .int .i64 0, .int .i64 0, .int .i64 0, .int .i64 0, .int .i64 0, .int .i64 0, .int .i64 0, .int .i64 0, .int .i64 0, .int .i64 0, .int .i64 0] ((w2.alloc (.cells #[.int .i64 d, .int .i64 l, .int .i64 f, .int .i64 s] 33 (0, 0))).alloc (.cells #[.int .i64 d, .int .i64 l, .int .i64 f, .int .i64 s, .int .i64 0, .int .i64 0, .int .i64 0, .int .i64 0, .int .i64 0, .int .i64 0, .int .i64 0, .int .i64 0, .int .i64 0, .int .i64 0, .int .i64 0] 37 (0, 0))) by have h := K3.mk [.int .i64 d, .int .i64 l, .int .i64 f, .int .i64 s, .int .i64 0, .int .i64 0, .int .i64 0, .int .i64 0, .int .i64 0, .int .i64 0, .int .i64 0, .int .i64 0, .int .i64 0, .int .i64 0, .int .i64 0] K3.two; simpa only [World.size_alloc] using h)
  obtain ⟨k0, k1, k2, k3, kf⟩ := x3.four
  clear K2 K3
  go_wp2_with fail
  clear k0 k1 k2 k3 kf x3
  refine (HG_.out _).mono ?_
  rintro e w5 ⟨rfl, h5⟩
  have x5 := BoxF.new w5 [.int .i64 c', .int .i64 k', .int .i64 a', .int .i64 t'] 35
  have K5 := Lib.hid ((K4.out.below h5).alloc (.cells #[.int .i64 c', .int .i64 k', .int .i64 a', .int .i64 t'] 35 (0, 0)))
  clear K4 HG_ h5
  have d4 := x5.range
  clear x5
  have t_ := K5.out.2.2.2.1.therM 11 4 (by simp)
  have K6 := Lib.hid (show MK w (w2.heap.size + 1) [.int .i64 d, .int .i64 l, .int .i64 f, .int .i64 s, .int .i64 0, .int .i64 0, .int .i64 0, .int .i64 0, .int .i64 0, .int .i64 0, .int .i64 0, .int .i64 c', .int .i64 k', .int .i64 a', .int .i64 t'] ((w5.alloc (.cells #[.int .i64 c', .int .i64 k', .int .i64 a', .int .i64 t'] 35 (0, 0))).setCells (w2.heap.size + 1) 11 [.int .i64 c', .int .i64 k', .int .i64 a', .int .i64 t']) from K5.out.put 11 [.int .i64 c', .int .i64 k', .int .i64 a', .int .i64 t'])
  clear K5
  go_upto_region 14 with (first | (with_reducible refine isList ?_; refine ldG 11 w5.heap.size [.int .i64 c', .int .i64 k', .int .i64 a', .int .i64 t'] rfl rfl rfl rfl ?_ ?_; exact d4) | (with_reducible refine isList ?_; (set_option maxRecDepth 100000 in refine stG 54 53 (w2.heap.size + 1) 11 [.int .i64 c', .int .i64 k', .int .i64 a', .int .i64 t'] rfl rfl rfl rfl rfl ?_ ?_ ?_); exact t_; simp [Value.oneCell']))
  clear t_ d4
  obtain ⟨W6, h6⟩ : ∃ W6, W6 = (w5.alloc (.cells #[.int .i64 c', .int .i64 k', .int .i64 a', .int .i64 t'] 35 (0, 0))).setCells (w2.heap.size + 1) 11 [.int .i64 c', .int .i64 k', .int .i64 a', .int .i64 t'] := ⟨_, rfl⟩
  rw [← h6] at K6 ⊢
  clear h6
  have hS0 : MKd w (w2.heap.size + 1) [.int .i64 d, .int .i64 l, .int .i64 f, .int .i64 s, .int .i64 0, .int .i64 0, .int .i64 0, .int .i64 0, .int .i64 0, .int .i64 0, .int .i64 0, .int .i64 c', .int .i64 k', .int .i64 a', .int .i64 t'] W6.drew := (K6.out.below (Below.refl _ _).drew).toD
  have qb : BoxF W6.drew w.heap.size [.int .i64 0, .int .i64 0, .int .i64 0, .int .i64 0, .int .i64 0, .int .i64 0, .int .i64 0, .int .i64 0, .int .i64 0, .int .i64 0, .int .i64 0, .int .i64 0, .int .i64 0, .int .i64 0, .int .i64 0] 37 := (K6.out.below (Below.refl _ _).drew).1
  have HONE := Lib.hid (show (List.toArray [Value.int .i64 d, Value.int .i64 l, Value.int .i64 f, Value.int .i64 s, Value.int .i64 0, Value.int .i64 0, Value.int .i64 0, Value.int .i64 0, Value.int .i64 0, Value.int .i64 0, Value.int .i64 0, Value.int .i64 c', Value.int .i64 k', Value.int .i64 a', Value.int .i64 t']).all (·.oneCell') = true by simp [Value.oneCell'])
  clear K6
  refine wp_region_noPanic ?_
  refine wp_region_held_drew (S := fun W => W.rangeAt (w2.heap.size + 1) 0 [.int .i64 d, .int .i64 l, .int .i64 f, .int .i64 s, .int .i64 0, .int .i64 0, .int .i64 0, .int .i64 0, .int .i64 0, .int .i64 0, .int .i64 0, .int .i64 c', .int .i64 k', .int .i64 a', .int .i64 t'] ∧ MKd w (w2.heap.size + 1) [.int .i64 d, .int .i64 l, .int .i64 f, .int .i64 s, .int .i64 0, .int .i64 0, .int .i64 0, .int .i64 0, .int .i64 0, .int .i64 0, .int .i64 0, .int .i64 c', .int .i64 k', .int .i64 a', .int .i64 t'] W) (by kernel_rfl) ⟨hS0.2.2.2.1.range, hS0⟩ (fun hHeld => ?_)
  clear hS0
  generalize W6.drew = Wd at *
  refine wpAnyH_take (i := 0) rfl (by kernel_rfl) (by kernel_rfl) (by kernel_rfl) (fun _ _ _ h => h) (yieldsIf_load_mid (by rfl) 37 _ rfl (w2.heap.size + 1) 0 rfl [.int .i64 d, .int .i64 l, .int .i64 f, .int .i64 s, .int .i64 0, .int .i64 0, .int .i64 0, .int .i64 0, .int .i64 0, .int .i64 0, .int .i64 0, .int .i64 c', .int .i64 k', .int .i64 a', .int .i64 t'] _ (fun w h => h.1) Tryd.underlying37 rfl (by kernel_rfl)) hHeld ?_
  set_option linter.unusedSimpArgs false in try simp only [Act.put, List.setIfInBounds_toArray, List.set_cons_zero, List.set_cons_succ]
  refine wpAnyH_take (i := 1) rfl (by kernel_rfl) (by kernel_rfl) (by kernel_rfl) (fun _ _ _ h => h) (yieldsIf_load_mid (by rfl) 37 _ rfl (w2.heap.size + 1) 0 rfl [.int .i64 d, .int .i64 l, .int .i64 f, .int .i64 s, .int .i64 0, .int .i64 0, .int .i64 0, .int .i64 0, .int .i64 0, .int .i64 0, .int .i64 0, .int .i64 c', .int .i64 k', .int .i64 a', .int .i64 t'] _ (fun w h => h.1) Tryd.underlying37 rfl (by kernel_rfl)) hHeld ?_
  set_option linter.unusedSimpArgs false in try simp only [Act.put, List.setIfInBounds_toArray, List.set_cons_zero, List.set_cons_succ]
  refine wpAnyH_take (i := 3) (oi := { dst := some 58, op := _, type := _, pos := _, after := _, guard := none }) (v := ?_) rfl (by kernel_rfl) (by kernel_rfl) (by kernel_rfl) (fun _ _ _ h => h) (Or.inl ⟨by rfl, ?_⟩) hHeld ?_
  rotate_left
  · (intro w hSw; clear hSw; go_simp; first | done | with_reducible rfl)
  set_option linter.unusedSimpArgs false in try simp only [Act.put, List.setIfInBounds_toArray, List.set_cons_zero, List.set_cons_succ]
  refine wpAnyH_ready (rs := [2]) (by kernel_rfl) (by simp) ?_
  refine AllReadyH.cons rfl (fun K hK => ?_) ?_
  rotate_left
  · exact AllReadyH.nil
  go_simp
  refine (HT_.out _).mono ?_
  rintro e w7 ⟨rfl, h7⟩
  have hD := hHeld.2.below h7
  have qc := BoxF.below qb h7
  clear qb h7
  go_wp2_with fail
  refine hK.out _ _ ⟨hD.2.2.2.1.range, hD⟩ (fun hHeld => ?_)
  clear hK K hD
  set_option linter.unusedSimpArgs false in try simp only [Act.put, List.setIfInBounds_toArray, List.set_cons_zero, List.set_cons_succ]
  cases v
  · have hne := str_ne (of_decide_eq_false hv)
    clear hv
    refine wpAnyH_take (i := 4) (oi := { dst := some 59, op := _, type := _, pos := _, after := _, guard := none }) (v := ?_) rfl (by kernel_rfl) (by kernel_rfl) (by kernel_rfl) (fun _ _ _ h => h) (Or.inl ⟨by rfl, ?_⟩) hHeld ?_
    rotate_left
    · (intro w hSw; clear hSw; go_simp; first | done | with_reducible rfl)
    set_option linter.unusedSimpArgs false in try simp only [Act.put, List.setIfInBounds_toArray, List.set_cons_zero, List.set_cons_succ]
    refine wpAnyH_ready (rs := [5]) (by kernel_rfl) (by simp) ?_
    refine AllReadyH.cons rfl (fun K hK => ?_) ?_
    rotate_left
    · exact AllReadyH.nil
    try rw [if_pos (by rfl)]
    set_option maxRecDepth 100000 in refine wp_store_mid 37 _ _ rfl w.heap.size 0 (List.toArray [.int .i64 d, .int .i64 l, .int .i64 f, .int .i64 s, .int .i64 0, .int .i64 0, .int .i64 0, .int .i64 0, .int .i64 0, .int .i64 0, .int .i64 0, .int .i64 c', .int .i64 k', .int .i64 a', .int .i64 t']) rfl rfl (qc.ther (n := 15) rfl) size29 HONE.out ?_
    have hD := hHeld.2.res [.int .i64 d, .int .i64 l, .int .i64 f, .int .i64 s, .int .i64 0, .int .i64 0, .int .i64 0, .int .i64 0, .int .i64 0, .int .i64 0, .int .i64 0, .int .i64 c', .int .i64 k', .int .i64 a', .int .i64 t']
    have qe : BoxF (w7.setCells w.heap.size 0 [.int .i64 d, .int .i64 l, .int .i64 f, .int .i64 s, .int .i64 0, .int .i64 0, .int .i64 0, .int .i64 0, .int .i64 0, .int .i64 0, .int .i64 0, .int .i64 c', .int .i64 k', .int .i64 a', .int .i64 t']) w.heap.size [.int .i64 d, .int .i64 l, .int .i64 f, .int .i64 s, .int .i64 0, .int .i64 0, .int .i64 0, .int .i64 0, .int .i64 0, .int .i64 0, .int .i64 0, .int .i64 c', .int .i64 k', .int .i64 a', .int .i64 t'] 37 := BoxF.setAll (vs := [.int .i64 d, .int .i64 l, .int .i64 f, .int .i64 s, .int .i64 0, .int .i64 0, .int .i64 0, .int .i64 0, .int .i64 0, .int .i64 0, .int .i64 0, .int .i64 c', .int .i64 k', .int .i64 a', .int .i64 t']) qc
    clear qc
    refine hK.out _ _ ⟨hD.2.2.2.1.range, hD⟩ (fun hHeld => ?_)
    clear hK K hD
    set_option linter.unusedSimpArgs false in try simp only [Act.put, List.setIfInBounds_toArray, List.set_cons_zero, List.set_cons_succ]
    refine wpAnyH_take (i := 6) (oi := { dst := some 3, op := _, type := _, pos := _, after := _, guard := none }) (v := ?_) rfl (by kernel_rfl) (by kernel_rfl) (by kernel_rfl) (fun _ _ _ h => h) (Or.inl ⟨by rfl, ?_⟩) hHeld ?_
    rotate_left
    · (intro w hSw; clear hSw; go_simp; first | done | with_reducible rfl)
    set_option linter.unusedSimpArgs false in try simp only [Act.put, List.setIfInBounds_toArray, List.set_cons_zero, List.set_cons_succ]
    refine wpAnyH_done (by kernel_rfl) ?_ _
    refine NoPanic.normal ?_
    obtain ⟨z0, z1, z2, z3, z4, z5, z6, z7, z8, z9, z10, z11, z12, z13, z14, zf⟩ := qe.fifteen
    have BE := Lib.hid hHeld.2.2.2.2.2
    go_wp2_with fail
    exact bodyPost_ret (v := .tuple #[.agg #[.int .i64 d, .int .i64 l, .int .i64 f, .int .i64 s, .int .i64 0, .int .i64 0, .int .i64 0, .int .i64 0, .int .i64 0, .int .i64 0, .int .i64 0, .int .i64 c', .int .i64 k', .int .i64 a', .int .i64 t'], .bool false]) (by simp [results, Tryd.results73, go_sem, z0, z1, z2, z3, z4, z5, z6, z7, z8, z9, z10, z11, z12, z13, z14]) rfl ⟨rfl, BE.out⟩
  · have heq := str_eq (of_decide_eq_true hv)
    clear hv
    refine wpAnyH_take (i := 4) (oi := { dst := some 59, op := _, type := _, pos := _, after := _, guard := none }) (v := ?_) rfl (by kernel_rfl) (by kernel_rfl) (by kernel_rfl) (fun _ _ _ h => h) (Or.inl ⟨by rfl, ?_⟩) hHeld ?_
    rotate_left
    · (intro w hSw; clear hSw; go_simp; first | done | with_reducible rfl)
    set_option linter.unusedSimpArgs false in try simp only [Act.put, List.setIfInBounds_toArray, List.set_cons_zero, List.set_cons_succ]
    refine wpAnyH_ready (rs := [5]) (by kernel_rfl) (by simp) ?_
    refine AllReadyH.cons rfl (fun K hK => ?_) ?_
    rotate_left
    · exact AllReadyH.nil
    try rw [if_pos (by rfl)]
    set_option maxRecDepth 100000 in refine wp_store_mid 37 _ _ rfl w.heap.size 0 (List.toArray [.int .i64 d, .int .i64 l, .int .i64 f, .int .i64 s, .int .i64 0, .int .i64 0, .int .i64 0, .int .i64 0, .int .i64 0, .int .i64 0, .int .i64 0, .int .i64 c', .int .i64 k', .int .i64 a', .int .i64 t']) rfl rfl (qc.ther (n := 15) rfl) size29 HONE.out ?_
    have hD := hHeld.2.res [.int .i64 d, .int .i64 l, .int .i64 f, .int .i64 s, .int .i64 0, .int .i64 0, .int .i64 0, .int .i64 0, .int .i64 0, .int .i64 0, .int .i64 0, .int .i64 c', .int .i64 k', .int .i64 a', .int .i64 t']
    have qe : BoxF (w7.setCells w.heap.size 0 [.int .i64 d, .int .i64 l, .int .i64 f, .int .i64 s, .int .i64 0, .int .i64 0, .int .i64 0, .int .i64 0, .int .i64 0, .int .i64 0, .int .i64 0, .int .i64 c', .int .i64 k', .int .i64 a', .int .i64 t']) w.heap.size [.int .i64 d, .int .i64 l, .int .i64 f, .int .i64 s, .int .i64 0, .int .i64 0, .int .i64 0, .int .i64 0, .int .i64 0, .int .i64 0, .int .i64 0, .int .i64 c', .int .i64 k', .int .i64 a', .int .i64 t'] 37 := BoxF.setAll (vs := [.int .i64 d, .int .i64 l, .int .i64 f, .int .i64 s, .int .i64 0, .int .i64 0, .int .i64 0, .int .i64 0, .int .i64 0, .int .i64 0, .int .i64 0, .int .i64 c', .int .i64 k', .int .i64 a', .int .i64 t']) qc
    clear qc
    refine hK.out _ _ ⟨hD.2.2.2.1.range, hD⟩ (fun hHeld => ?_)
    clear hK K hD
    set_option linter.unusedSimpArgs false in try simp only [Act.put, List.setIfInBounds_toArray, List.set_cons_zero, List.set_cons_succ]
    refine wpAnyH_take (i := 6) (oi := { dst := some 3, op := _, type := _, pos := _, after := _, guard := none }) (v := ?_) rfl (by kernel_rfl) (by kernel_rfl) (by kernel_rfl) (fun _ _ _ h => h) (Or.inl ⟨by rfl, ?_⟩) hHeld ?_
    rotate_left
    · (intro w hSw; clear hSw; go_simp; first | done | with_reducible rfl)
    set_option linter.unusedSimpArgs false in try simp only [Act.put, List.setIfInBounds_toArray, List.set_cons_zero, List.set_cons_succ]
    refine wpAnyH_done (by kernel_rfl) ?_ _
    refine NoPanic.normal ?_
    obtain ⟨z0, z1, z2, z3, z4, z5, z6, z7, z8, z9, z10, z11, z12, z13, z14, zf⟩ := qe.fifteen
    have BE := Lib.hid hHeld.2.2.2.2.2
    go_wp2_with fail
    exact bodyPost_ret (v := .tuple #[.agg #[.int .i64 d, .int .i64 l, .int .i64 f, .int .i64 s, .int .i64 0, .int .i64 0, .int .i64 0, .int .i64 0, .int .i64 0, .int .i64 0, .int .i64 0, .int .i64 c', .int .i64 k', .int .i64 a', .int .i64 t'], .bool true]) (by simp [results, Tryd.results73, go_sem, z0, z1, z2, z3, z4, z5, z6, z7, z8, z9, z10, z11, z12, z13, z14]) rfl ⟨rfl, BE.out⟩
end Go.Proofs.YtgeidnnjljpdkaaDoor
