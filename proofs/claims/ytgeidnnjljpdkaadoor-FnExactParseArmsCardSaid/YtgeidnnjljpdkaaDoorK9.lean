/- Several small texts in one: RPArms. -/
import Derived.Test.YtgeidnnjljpdkaaDoorKX
import Derived.Test.YtgeidnnjljpdkaaDoorKF
import Derived.Test.YtgeidnnjljpdkaaDoorKS
import Derived.Test.YtgeidnnjljpdkaaDoorKM
import Derived.WalkMore
import Derived.ScopeJumps
namespace Go.Proofs.YtgeidnnjljpdkaaDoor
open Go.RowKit

theorem size33 : (Tryd.prog.info? 33).map (·.size) = some 4 := by kernel_rfl
theorem BoxF.therM {w : World} {b : Nat} {L : List Value} {t : TypeId} (h : BoxF w b L t) (o n : Nat) (hn : o + n ≤ L.length) : w.there b o n := fun j hj =>
  ⟨by rw [h.at (o + j), List.getElem?_eq_getElem (by omega)]; rfl, h.free (o + j)⟩
theorem stF (s s2 R i : Nat) (L : List Value) {ops : Array Oper} {rest : List Oper} {op : Oper} {a : Act} {W : World} {Q : Exit → Act → World → Prop} (hgd : op.guard = none) (ho : op.op = .store 33 (.tmp s) (.tmp s2)) (hx : a.eval (.tmp s) = .pointer (some ⟨R, i, none⟩)) (hy : a.eval (.tmp s2) = .agg L.toArray) (hl : L.length = 4) (ht : W.there R i 4) (h1 : ∀ v ∈ L, v.oneCell' = true)
    (h : wpList Tryd.prog ops Q rest (a.put op.dst undef) (W.setCells R i L)) : wpList Tryd.prog ops Q (op :: rest) a W :=
  wpList_store_mid hgd 33 _ _ ho R i L.toArray hx hy (by simpa [hl] using ht) (by rw [List.size_toArray, hl]; exact size33) (all_oneCell_toArray h1) (by simpa using h)
theorem stG (s s2 R i : Nat) (L : List Value) {ops : Array Oper} {rest : List Oper} {op : Oper} {a : Act} {W : World} {Q : Exit → Act → World → Prop} (hgd : op.guard = none) (ho : op.op = .store 35 (.tmp s) (.tmp s2)) (hx : a.eval (.tmp s) = .pointer (some ⟨R, i, none⟩)) (hy : a.eval (.tmp s2) = .agg L.toArray) (hl : L.length = 4) (ht : W.there R i 4) (h1 : ∀ v ∈ L, v.oneCell' = true)
    (h : wpList Tryd.prog ops Q rest (a.put op.dst undef) (W.setCells R i L)) : wpList Tryd.prog ops Q (op :: rest) a W :=
  wpList_store_mid hgd 35 _ _ ho R i L.toArray hx hy (by simpa [hl] using ht) (by rw [List.size_toArray, hl]; exact size35) (all_oneCell_toArray h1) (by simpa using h)
theorem ldG (s D : Nat) (L : List Value) {ops : Array Oper} {rest : List Oper} {op : Oper} {a : Act} {W : World} {Q : Exit → Act → World → Prop} (hgd : op.guard = none) (ho : op.op = .load 35 (.tmp s)) (hx : a.eval (.tmp s) = .pointer (some ⟨D, 0, none⟩)) (hl : L.length = 4) (hc : W.rangeAt D 0 L)
    (h : wpList Tryd.prog ops Q rest (a.put op.dst (.agg L.toArray)) W) : wpList Tryd.prog ops Q (op :: rest) a W :=
  wpList_load_mid hgd 35 _ ho D 0 hx L _ hc Tryd.underlying35 rfl (by rw [hl]; exact size35) h
/-- The result's box is empty still, the box of the arms holds L. -/
def PK (w : World) (L : List Value) (W : World) : Prop := BoxF W w.heap.size [.int .i64 0, .int .i64 0, .int .i64 0, .int .i64 0, .int .i64 0, .int .i64 0, .int .i64 0, .int .i64 0, .int .i64 0, .int .i64 0, .int .i64 0, .int .i64 0, .int .i64 0, .int .i64 0, .int .i64 0] 37 ∧ BoxF W (w.heap.size + 1) L 37 ∧ Below w.heap.size w W
theorem PK.below {w W W' : World} {L : List Value} (h : PK w L W) (hb : Below W.heap.size W W') : PK w L W' := ⟨h.1.below hb, h.2.1.below hb, h.2.2.trans (hb.mono h.2.2.size)⟩
theorem PK.drewN {w W : World} {L : List Value} (h : PK w L W) (q : Nat) : PK w L (W.drewN q) := ⟨h.1, h.2.1, below_drewN' h.2.2 q⟩
theorem PK.alloc {w W : World} {L : List Value} (h : PK w L W) (o : Obj) : PK w L (W.alloc o) := h.below ((Below.refl _ _).alloc (Nat.le_refl _) o)
theorem PK.put {w W : World} {L : List Value} (h : PK w L W) (o : Nat) (vs : List Value) : PK w (putL L o vs) (W.setCells (w.heap.size + 1) o vs) := by
  rw [setCells_sets]
  exact ⟨sets_far (by omega) vs o h.1, sets_box vs o h.2.1, sets_below (by omega) vs o h.2.2⟩
theorem PK.new (w : World) : PK w [.int .i64 0, .int .i64 0, .int .i64 0, .int .i64 0, .int .i64 0, .int .i64 0, .int .i64 0, .int .i64 0, .int .i64 0, .int .i64 0, .int .i64 0, .int .i64 0, .int .i64 0, .int .i64 0, .int .i64 0] ((w.alloc (.cells #[.int .i64 0, .int .i64 0, .int .i64 0, .int .i64 0, .int .i64 0, .int .i64 0, .int .i64 0, .int .i64 0, .int .i64 0, .int .i64 0, .int .i64 0, .int .i64 0, .int .i64 0, .int .i64 0, .int .i64 0] 37 (0, 0))).alloc (.cells #[.int .i64 0, .int .i64 0, .int .i64 0, .int .i64 0, .int .i64 0, .int .i64 0, .int .i64 0, .int .i64 0, .int .i64 0, .int .i64 0, .int .i64 0, .int .i64 0, .int .i64 0, .int .i64 0, .int .i64 0] 37 (0, 0))) := by
  have h := BoxF.new (w.alloc (.cells #[.int .i64 0, .int .i64 0, .int .i64 0, .int .i64 0, .int .i64 0, .int .i64 0, .int .i64 0, .int .i64 0, .int .i64 0, .int .i64 0, .int .i64 0, .int .i64 0, .int .i64 0, .int .i64 0, .int .i64 0] 37 (0, 0))) [.int .i64 0, .int .i64 0, .int .i64 0, .int .i64 0, .int .i64 0, .int .i64 0, .int .i64 0, .int .i64 0, .int .i64 0, .int .i64 0, .int .i64 0, .int .i64 0, .int .i64 0, .int .i64 0, .int .i64 0] 37
  simp only [World.size_alloc] at h
  exact ⟨(BoxF.new w [.int .i64 0, .int .i64 0, .int .i64 0, .int .i64 0, .int .i64 0, .int .i64 0, .int .i64 0, .int .i64 0, .int .i64 0, .int .i64 0, .int .i64 0, .int .i64 0, .int .i64 0, .int .i64 0, .int .i64 0] _).alloc _, h, ((Below.refl _ w).alloc (Nat.le_refl _) _).alloc (by simp) _⟩
/-- A scope whose label is jumped to once, forward. -/
theorem wp_scope_forward {P : Program} {Q : Exit → Act → World → Prop} {a : Act} {w : World} {c rest : Code} (l : Nat) (hf : findLabel c l = some rest) (h : c.wp P (Exit.jump l (fun a w => rest.wp P (Exit.noGoto Q) a w) Q) a w) : (Code.scope c).wp P Q a w :=
  wp_scope_jumps l (fun a w => rest.wp P (Exit.noGoto Q) a w) (fun _ _ => 0) hf h (fun a w hJ => wp_mono hJ (fun e a w hq => by cases e <;> first | exact hq | exact hq.elim))
set_option maxRecDepth 100000 in
set_option maxHeartbeats 8000000 in
theorem parseArms_plain (z F R T : ByteArray) (d l f s : Int) (fok r v : Bool) (w : World)
    (hC : ∀ W, Below w.heap.size w W → Calls Tryd.prog 74 #[.string z, .string ⟨#[44, 32]⟩] W fun e w' => e = .returned (.tuple #[.string F, .string R, .bool false]) ∧ ∃ q, w' = W.drewN q)
    (hF : ∀ W, Below w.heap.size w W → Calls Tryd.prog 75 #[.string F] W (AnsF W d l f s fok))
    (hT : ∀ W, Below w.heap.size w W → Calls Tryd.prog 25 #[.agg #[.int .i64 d, .int .i64 l, .int .i64 f, .int .i64 s, .int .i64 0, .int .i64 0, .int .i64 0, .int .i64 0, .int .i64 0, .int .i64 0, .int .i64 0, .int .i64 0, .int .i64 0, .int .i64 0, .int .i64 0]] W fun e w' => e = .returned (.tuple #[.string T, .bool r]) ∧ Below W.heap.size W w')
    (hv : (r && decide (T = z)) = v) :
    Calls Tryd.prog 27 #[.string z] w (if v = true then AnsA w d l f s 0 0 0 0 0 0 0 0 0 0 0 true else AnsA w 0 0 0 0 0 0 0 0 0 0 0 0 0 0 0 false) := by
  have HC_ := Lib.hid hC
  have HF_ := Lib.hid hF
  have HT_ := Lib.hid hT
  clear hC hF hT
  have K0 := Lib.hid (PK.new w)
  go_enter Tryd.func27, Tryd.ntmps27
  go_wp2_with fail
  refine wp_scope_forward 0 (by rfl) ?_
  go_wp2_with fail
  refine (HC_.out _ K0.out.2.2).mono ?_
  rintro e w1 ⟨rfl, q, rfl⟩
  have K1 := Lib.hid (K0.out.drewN q)
  clear K0 HC_
  go_wp2_with fail
  refine (HF_.out _ K1.out.2.2).mono ?_
  rintro e w2 ⟨rfl, h2⟩
  have K2 := Lib.hid (K1.out.below h2)
  clear K1 HF_ h2
  have t_ := K2.out.2.1.therM 0 4 (by simp)
  have K3 := Lib.hid (show PK w [.int .i64 d, .int .i64 l, .int .i64 f, .int .i64 s, .int .i64 0, .int .i64 0, .int .i64 0, .int .i64 0, .int .i64 0, .int .i64 0, .int .i64 0, .int .i64 0, .int .i64 0, .int .i64 0, .int .i64 0] (w2.setCells (w.heap.size + 1) 0 [.int .i64 d, .int .i64 l, .int .i64 f, .int .i64 s]) from K2.out.put 0 [.int .i64 d, .int .i64 l, .int .i64 f, .int .i64 s])
  clear K2
  go_wp2_with (with_reducible refine isList ?_; (set_option maxRecDepth 100000 in refine stF 23 21 (w.heap.size + 1) 0 [.int .i64 d, .int .i64 l, .int .i64 f, .int .i64 s] rfl rfl rfl rfl rfl ?_ ?_ ?_); exact t_; simp [Value.oneCell'])
  clear t_
  have r0 := K3.out.2.1.range
  go_step3
  refine And.intro rfl ?_
  go_wp2_with (with_reducible refine isList ?_; refine ld15 4 (w.heap.size + 1) [.int .i64 d, .int .i64 l, .int .i64 f, .int .i64 s, .int .i64 0, .int .i64 0, .int .i64 0, .int .i64 0, .int .i64 0, .int .i64 0, .int .i64 0, .int .i64 0, .int .i64 0, .int .i64 0, .int .i64 0] rfl rfl rfl rfl ?_ ?_; exact r0)
  refine (HT_.out _ K3.out.2.2).mono ?_
  rintro e w8 ⟨rfl, h8⟩
  have KE := Lib.hid (K3.out.below h8)
  clear K3 HT_ h8 r0
  have t_ := KE.out.1.ther (n := 15) rfl
  cases r
  · obtain rfl : v = false := by simpa using hv.symm
    clear hv
    go_wp2_with (with_reducible refine isList ?_; (set_option maxRecDepth 100000 in refine st15 2 68 w.heap.size [.int .i64 0, .int .i64 0, .int .i64 0, .int .i64 0, .int .i64 0, .int .i64 0, .int .i64 0, .int .i64 0, .int .i64 0, .int .i64 0, .int .i64 0, .int .i64 0, .int .i64 0, .int .i64 0, .int .i64 0] rfl rfl rfl rfl rfl ?_ ?_ ?_); exact t_; simp [Value.oneCell'])
    have g9 := setc_grownC w8 w.heap.size [.int .i64 0, .int .i64 0, .int .i64 0, .int .i64 0, .int .i64 0, .int .i64 0, .int .i64 0, .int .i64 0, .int .i64 0, .int .i64 0, .int .i64 0, .int .i64 0, .int .i64 0, .int .i64 0, .int .i64 0]
    have BE := Lib.hid (KE.out.2.2.grown g9 KE.out.2.2.size (fun q hq => by cases hq; exact Nat.le_refl _))
    have XR : BoxF (w8.setCells w.heap.size 0 [.int .i64 0, .int .i64 0, .int .i64 0, .int .i64 0, .int .i64 0, .int .i64 0, .int .i64 0, .int .i64 0, .int .i64 0, .int .i64 0, .int .i64 0, .int .i64 0, .int .i64 0, .int .i64 0, .int .i64 0]) w.heap.size [.int .i64 0, .int .i64 0, .int .i64 0, .int .i64 0, .int .i64 0, .int .i64 0, .int .i64 0, .int .i64 0, .int .i64 0, .int .i64 0, .int .i64 0, .int .i64 0, .int .i64 0, .int .i64 0, .int .i64 0] 37 := BoxF.setAll (vs := [.int .i64 0, .int .i64 0, .int .i64 0, .int .i64 0, .int .i64 0, .int .i64 0, .int .i64 0, .int .i64 0, .int .i64 0, .int .i64 0, .int .i64 0, .int .i64 0, .int .i64 0, .int .i64 0, .int .i64 0]) KE.out.1
    generalize w8.setCells w.heap.size 0 [.int .i64 0, .int .i64 0, .int .i64 0, .int .i64 0, .int .i64 0, .int .i64 0, .int .i64 0, .int .i64 0, .int .i64 0, .int .i64 0, .int .i64 0, .int .i64 0, .int .i64 0, .int .i64 0, .int .i64 0] = W9 at *
    obtain ⟨z0, z1, z2, z3, z4, z5, z6, z7, z8, z9, z10, z11, z12, z13, z14, zf⟩ := XR.fifteen
    exact bodyPost_ret (v := .tuple #[.agg #[.int .i64 0, .int .i64 0, .int .i64 0, .int .i64 0, .int .i64 0, .int .i64 0, .int .i64 0, .int .i64 0, .int .i64 0, .int .i64 0, .int .i64 0, .int .i64 0, .int .i64 0, .int .i64 0, .int .i64 0], .bool false]) (by simp [results, Tryd.results27, go_sem, z0, z1, z2, z3, z4, z5, z6, z7, z8, z9, z10, z11, z12, z13, z14]) rfl ⟨rfl, BE.out⟩
  · by_cases hts : T = z
    · obtain rfl : v = true := by rw [← hv]; simp [hts]
      have heq := str_eq hts
      clear hv hts
      have r9 := KE.out.2.1.range
      go_wp2_with (first | (with_reducible refine isList ?_; refine ld15 4 (w.heap.size + 1) [.int .i64 d, .int .i64 l, .int .i64 f, .int .i64 s, .int .i64 0, .int .i64 0, .int .i64 0, .int .i64 0, .int .i64 0, .int .i64 0, .int .i64 0, .int .i64 0, .int .i64 0, .int .i64 0, .int .i64 0] rfl rfl rfl rfl ?_ ?_; exact r9) | (with_reducible refine isList ?_; (set_option maxRecDepth 100000 in refine st15 2 69 w.heap.size [.int .i64 d, .int .i64 l, .int .i64 f, .int .i64 s, .int .i64 0, .int .i64 0, .int .i64 0, .int .i64 0, .int .i64 0, .int .i64 0, .int .i64 0, .int .i64 0, .int .i64 0, .int .i64 0, .int .i64 0] rfl rfl rfl rfl rfl ?_ ?_ ?_); exact t_; simp [Value.oneCell']))
      have g9 := setc_grownC w8 w.heap.size [.int .i64 d, .int .i64 l, .int .i64 f, .int .i64 s, .int .i64 0, .int .i64 0, .int .i64 0, .int .i64 0, .int .i64 0, .int .i64 0, .int .i64 0, .int .i64 0, .int .i64 0, .int .i64 0, .int .i64 0]
      have BE := Lib.hid (KE.out.2.2.grown g9 KE.out.2.2.size (fun q hq => by cases hq; exact Nat.le_refl _))
      have XR : BoxF (w8.setCells w.heap.size 0 [.int .i64 d, .int .i64 l, .int .i64 f, .int .i64 s, .int .i64 0, .int .i64 0, .int .i64 0, .int .i64 0, .int .i64 0, .int .i64 0, .int .i64 0, .int .i64 0, .int .i64 0, .int .i64 0, .int .i64 0]) w.heap.size [.int .i64 d, .int .i64 l, .int .i64 f, .int .i64 s, .int .i64 0, .int .i64 0, .int .i64 0, .int .i64 0, .int .i64 0, .int .i64 0, .int .i64 0, .int .i64 0, .int .i64 0, .int .i64 0, .int .i64 0] 37 := BoxF.setAll (vs := [.int .i64 d, .int .i64 l, .int .i64 f, .int .i64 s, .int .i64 0, .int .i64 0, .int .i64 0, .int .i64 0, .int .i64 0, .int .i64 0, .int .i64 0, .int .i64 0, .int .i64 0, .int .i64 0, .int .i64 0]) KE.out.1
      generalize w8.setCells w.heap.size 0 [.int .i64 d, .int .i64 l, .int .i64 f, .int .i64 s, .int .i64 0, .int .i64 0, .int .i64 0, .int .i64 0, .int .i64 0, .int .i64 0, .int .i64 0, .int .i64 0, .int .i64 0, .int .i64 0, .int .i64 0] = W9 at *
      obtain ⟨z0, z1, z2, z3, z4, z5, z6, z7, z8, z9, z10, z11, z12, z13, z14, zf⟩ := XR.fifteen
      exact bodyPost_ret (v := .tuple #[.agg #[.int .i64 d, .int .i64 l, .int .i64 f, .int .i64 s, .int .i64 0, .int .i64 0, .int .i64 0, .int .i64 0, .int .i64 0, .int .i64 0, .int .i64 0, .int .i64 0, .int .i64 0, .int .i64 0, .int .i64 0], .bool true]) (by simp [results, Tryd.results27, go_sem, z0, z1, z2, z3, z4, z5, z6, z7, z8, z9, z10, z11, z12, z13, z14]) rfl ⟨rfl, BE.out⟩
    · obtain rfl : v = false := by rw [← hv]; simp [hts]
      have hne := str_ne hts
      clear hv hts
      go_wp2_with (with_reducible refine isList ?_; (set_option maxRecDepth 100000 in refine st15 2 68 w.heap.size [.int .i64 0, .int .i64 0, .int .i64 0, .int .i64 0, .int .i64 0, .int .i64 0, .int .i64 0, .int .i64 0, .int .i64 0, .int .i64 0, .int .i64 0, .int .i64 0, .int .i64 0, .int .i64 0, .int .i64 0] rfl rfl rfl rfl rfl ?_ ?_ ?_); exact t_; simp [Value.oneCell'])
      have g9 := setc_grownC w8 w.heap.size [.int .i64 0, .int .i64 0, .int .i64 0, .int .i64 0, .int .i64 0, .int .i64 0, .int .i64 0, .int .i64 0, .int .i64 0, .int .i64 0, .int .i64 0, .int .i64 0, .int .i64 0, .int .i64 0, .int .i64 0]
      have BE := Lib.hid (KE.out.2.2.grown g9 KE.out.2.2.size (fun q hq => by cases hq; exact Nat.le_refl _))
      have XR : BoxF (w8.setCells w.heap.size 0 [.int .i64 0, .int .i64 0, .int .i64 0, .int .i64 0, .int .i64 0, .int .i64 0, .int .i64 0, .int .i64 0, .int .i64 0, .int .i64 0, .int .i64 0, .int .i64 0, .int .i64 0, .int .i64 0, .int .i64 0]) w.heap.size [.int .i64 0, .int .i64 0, .int .i64 0, .int .i64 0, .int .i64 0, .int .i64 0, .int .i64 0, .int .i64 0, .int .i64 0, .int .i64 0, .int .i64 0, .int .i64 0, .int .i64 0, .int .i64 0, .int .i64 0] 37 := BoxF.setAll (vs := [.int .i64 0, .int .i64 0, .int .i64 0, .int .i64 0, .int .i64 0, .int .i64 0, .int .i64 0, .int .i64 0, .int .i64 0, .int .i64 0, .int .i64 0, .int .i64 0, .int .i64 0, .int .i64 0, .int .i64 0]) KE.out.1
      generalize w8.setCells w.heap.size 0 [.int .i64 0, .int .i64 0, .int .i64 0, .int .i64 0, .int .i64 0, .int .i64 0, .int .i64 0, .int .i64 0, .int .i64 0, .int .i64 0, .int .i64 0, .int .i64 0, .int .i64 0, .int .i64 0, .int .i64 0] = W9 at *
      obtain ⟨z0, z1, z2, z3, z4, z5, z6, z7, z8, z9, z10, z11, z12, z13, z14, zf⟩ := XR.fifteen
      exact bodyPost_ret (v := .tuple #[.agg #[.int .i64 0, .int .i64 0, .int .i64 0, .int .i64 0, .int .i64 0, .int .i64 0, .int .i64 0, .int .i64 0, .int .i64 0, .int .i64 0, .int .i64 0, .int .i64 0, .int .i64 0, .int .i64 0, .int .i64 0], .bool false]) (by simp [results, Tryd.results27, go_sem, z0, z1, z2, z3, z4, z5, z6, z7, z8, z9, z10, z11, z12, z13, z14]) rfl ⟨rfl, BE.out⟩
set_option maxRecDepth 100000 in
set_option maxHeartbeats 8000000 in
theorem parseArms_group (z F R T : ByteArray) (d l f s c' k' a' t' : Int) (fok r v : Bool) (w : World)
    (hC : ∀ W, Below w.heap.size w W → Calls Tryd.prog 74 #[.string z, .string ⟨#[44, 32]⟩] W fun e w' => e = .returned (.tuple #[.string F, .string R, .bool true]) ∧ ∃ q, w' = W.drewN q)
    (hF : ∀ W, Below w.heap.size w W → Calls Tryd.prog 75 #[.string F] W (AnsF W d l f s fok))
    (hG : ∀ W, Below w.heap.size w W → Calls Tryd.prog 76 #[.string R] W (AnsF W c' k' a' t' true))
    (hT : ∀ W, Below w.heap.size w W → Calls Tryd.prog 25 #[.agg #[.int .i64 d, .int .i64 l, .int .i64 f, .int .i64 s, .int .i64 0, .int .i64 0, .int .i64 0, .int .i64 0, .int .i64 0, .int .i64 0, .int .i64 0, .int .i64 c', .int .i64 k', .int .i64 a', .int .i64 t']] W fun e w' => e = .returned (.tuple #[.string T, .bool r]) ∧ Below W.heap.size W w')
    (hv : (r && decide (T = z)) = v) :
    Calls Tryd.prog 27 #[.string z] w (if v = true then AnsA w d l f s 0 0 0 0 0 0 0 c' k' a' t' true else AnsA w 0 0 0 0 0 0 0 0 0 0 0 0 0 0 0 false) := by
  have HC_ := Lib.hid hC
  have HF_ := Lib.hid hF
  have HG_ := Lib.hid hG
  have HT_ := Lib.hid hT
  clear hC hF hG hT
  have K0 := Lib.hid (PK.new w)
  go_enter Tryd.func27, Tryd.ntmps27
  go_wp2_with fail
  refine wp_scope_forward 0 (by rfl) ?_
  go_wp2_with fail
  refine (HC_.out _ K0.out.2.2).mono ?_
  rintro e w1 ⟨rfl, q, rfl⟩
  have K1 := Lib.hid (K0.out.drewN q)
  clear K0 HC_
  go_wp2_with fail
  refine (HF_.out _ K1.out.2.2).mono ?_
  rintro e w2 ⟨rfl, h2⟩
  have K2 := Lib.hid (K1.out.below h2)
  clear K1 HF_ h2
  have t_ := K2.out.2.1.therM 0 4 (by simp)
  have K3 := Lib.hid (show PK w [.int .i64 d, .int .i64 l, .int .i64 f, .int .i64 s, .int .i64 0, .int .i64 0, .int .i64 0, .int .i64 0, .int .i64 0, .int .i64 0, .int .i64 0, .int .i64 0, .int .i64 0, .int .i64 0, .int .i64 0] (w2.setCells (w.heap.size + 1) 0 [.int .i64 d, .int .i64 l, .int .i64 f, .int .i64 s]) from K2.out.put 0 [.int .i64 d, .int .i64 l, .int .i64 f, .int .i64 s])
  clear K2
  go_wp2_with (with_reducible refine isList ?_; (set_option maxRecDepth 100000 in refine stF 23 21 (w.heap.size + 1) 0 [.int .i64 d, .int .i64 l, .int .i64 f, .int .i64 s] rfl rfl rfl rfl rfl ?_ ?_ ?_); exact t_; simp [Value.oneCell'])
  clear t_
  refine (HG_.out _ K3.out.2.2).mono ?_
  rintro e w3 ⟨rfl, h3⟩
  have K4 := Lib.hid ((K3.out.below h3).alloc (.cells #[.int .i64 c', .int .i64 k', .int .i64 a', .int .i64 t'] 35 (0, 0)))
  have d4 := (BoxF.new w3 [.int .i64 c', .int .i64 k', .int .i64 a', .int .i64 t'] 35).range
  have t_ := K4.out.2.1.therM 11 4 (by simp)
  have K5 := Lib.hid (show PK w [.int .i64 d, .int .i64 l, .int .i64 f, .int .i64 s, .int .i64 0, .int .i64 0, .int .i64 0, .int .i64 0, .int .i64 0, .int .i64 0, .int .i64 0, .int .i64 c', .int .i64 k', .int .i64 a', .int .i64 t'] ((w3.alloc (.cells #[.int .i64 c', .int .i64 k', .int .i64 a', .int .i64 t'] 35 (0, 0))).setCells (w.heap.size + 1) 11 [.int .i64 c', .int .i64 k', .int .i64 a', .int .i64 t']) from K4.out.put 11 [.int .i64 c', .int .i64 k', .int .i64 a', .int .i64 t'])
  clear K3 h3 HG_ K4
  go_wp2_with (first | (with_reducible refine isList ?_; refine ldG 8 w3.heap.size [.int .i64 c', .int .i64 k', .int .i64 a', .int .i64 t'] rfl rfl rfl rfl ?_ ?_; exact d4) | (with_reducible refine isList ?_; (set_option maxRecDepth 100000 in refine stG 33 32 (w.heap.size + 1) 11 [.int .i64 c', .int .i64 k', .int .i64 a', .int .i64 t'] rfl rfl rfl rfl rfl ?_ ?_ ?_); exact t_; simp [Value.oneCell']))
  clear t_ d4
  have r0 := K5.out.2.1.range
  go_step3
  refine And.intro rfl ?_
  go_wp2_with (with_reducible refine isList ?_; refine ld15 4 (w.heap.size + 1) [.int .i64 d, .int .i64 l, .int .i64 f, .int .i64 s, .int .i64 0, .int .i64 0, .int .i64 0, .int .i64 0, .int .i64 0, .int .i64 0, .int .i64 0, .int .i64 c', .int .i64 k', .int .i64 a', .int .i64 t'] rfl rfl rfl rfl ?_ ?_; exact r0)
  refine (HT_.out _ K5.out.2.2).mono ?_
  rintro e w8 ⟨rfl, h8⟩
  have KE := Lib.hid (K5.out.below h8)
  clear K5 HT_ h8 r0
  have t_ := KE.out.1.ther (n := 15) rfl
  cases r
  · obtain rfl : v = false := by simpa using hv.symm
    clear hv
    go_wp2_with (with_reducible refine isList ?_; (set_option maxRecDepth 100000 in refine st15 2 68 w.heap.size [.int .i64 0, .int .i64 0, .int .i64 0, .int .i64 0, .int .i64 0, .int .i64 0, .int .i64 0, .int .i64 0, .int .i64 0, .int .i64 0, .int .i64 0, .int .i64 0, .int .i64 0, .int .i64 0, .int .i64 0] rfl rfl rfl rfl rfl ?_ ?_ ?_); exact t_; simp [Value.oneCell'])
    have g9 := setc_grownC w8 w.heap.size [.int .i64 0, .int .i64 0, .int .i64 0, .int .i64 0, .int .i64 0, .int .i64 0, .int .i64 0, .int .i64 0, .int .i64 0, .int .i64 0, .int .i64 0, .int .i64 0, .int .i64 0, .int .i64 0, .int .i64 0]
    have BE := Lib.hid (KE.out.2.2.grown g9 KE.out.2.2.size (fun q hq => by cases hq; exact Nat.le_refl _))
    have XR : BoxF (w8.setCells w.heap.size 0 [.int .i64 0, .int .i64 0, .int .i64 0, .int .i64 0, .int .i64 0, .int .i64 0, .int .i64 0, .int .i64 0, .int .i64 0, .int .i64 0, .int .i64 0, .int .i64 0, .int .i64 0, .int .i64 0, .int .i64 0]) w.heap.size [.int .i64 0, .int .i64 0, .int .i64 0, .int .i64 0, .int .i64 0, .int .i64 0, .int .i64 0, .int .i64 0, .int .i64 0, .int .i64 0, .int .i64 0, .int .i64 0, .int .i64 0, .int .i64 0, .int .i64 0] 37 := BoxF.setAll (vs := [.int .i64 0, .int .i64 0, .int .i64 0, .int .i64 0, .int .i64 0, .int .i64 0, .int .i64 0, .int .i64 0, .int .i64 0, .int .i64 0, .int .i64 0, .int .i64 0, .int .i64 0, .int .i64 0, .int .i64 0]) KE.out.1
    generalize w8.setCells w.heap.size 0 [.int .i64 0, .int .i64 0, .int .i64 0, .int .i64 0, .int .i64 0, .int .i64 0, .int .i64 0, .int .i64 0, .int .i64 0, .int .i64 0, .int .i64 0, .int .i64 0, .int .i64 0, .int .i64 0, .int .i64 0] = W9 at *
    obtain ⟨z0, z1, z2, z3, z4, z5, z6, z7, z8, z9, z10, z11, z12, z13, z14, zf⟩ := XR.fifteen
    exact bodyPost_ret (v := .tuple #[.agg #[.int .i64 0, .int .i64 0, .int .i64 0, .int .i64 0, .int .i64 0, .int .i64 0, .int .i64 0, .int .i64 0, .int .i64 0, .int .i64 0, .int .i64 0, .int .i64 0, .int .i64 0, .int .i64 0, .int .i64 0], .bool false]) (by simp [results, Tryd.results27, go_sem, z0, z1, z2, z3, z4, z5, z6, z7, z8, z9, z10, z11, z12, z13, z14]) rfl ⟨rfl, BE.out⟩
  · by_cases hts : T = z
    · obtain rfl : v = true := by rw [← hv]; simp [hts]
      have heq := str_eq hts
      clear hv hts
      have r9 := KE.out.2.1.range
      go_wp2_with (first | (with_reducible refine isList ?_; refine ld15 4 (w.heap.size + 1) [.int .i64 d, .int .i64 l, .int .i64 f, .int .i64 s, .int .i64 0, .int .i64 0, .int .i64 0, .int .i64 0, .int .i64 0, .int .i64 0, .int .i64 0, .int .i64 c', .int .i64 k', .int .i64 a', .int .i64 t'] rfl rfl rfl rfl ?_ ?_; exact r9) | (with_reducible refine isList ?_; (set_option maxRecDepth 100000 in refine st15 2 69 w.heap.size [.int .i64 d, .int .i64 l, .int .i64 f, .int .i64 s, .int .i64 0, .int .i64 0, .int .i64 0, .int .i64 0, .int .i64 0, .int .i64 0, .int .i64 0, .int .i64 c', .int .i64 k', .int .i64 a', .int .i64 t'] rfl rfl rfl rfl rfl ?_ ?_ ?_); exact t_; simp [Value.oneCell']))
      have g9 := setc_grownC w8 w.heap.size [.int .i64 d, .int .i64 l, .int .i64 f, .int .i64 s, .int .i64 0, .int .i64 0, .int .i64 0, .int .i64 0, .int .i64 0, .int .i64 0, .int .i64 0, .int .i64 c', .int .i64 k', .int .i64 a', .int .i64 t']
      have BE := Lib.hid (KE.out.2.2.grown g9 KE.out.2.2.size (fun q hq => by cases hq; exact Nat.le_refl _))
      have XR : BoxF (w8.setCells w.heap.size 0 [.int .i64 d, .int .i64 l, .int .i64 f, .int .i64 s, .int .i64 0, .int .i64 0, .int .i64 0, .int .i64 0, .int .i64 0, .int .i64 0, .int .i64 0, .int .i64 c', .int .i64 k', .int .i64 a', .int .i64 t']) w.heap.size [.int .i64 d, .int .i64 l, .int .i64 f, .int .i64 s, .int .i64 0, .int .i64 0, .int .i64 0, .int .i64 0, .int .i64 0, .int .i64 0, .int .i64 0, .int .i64 c', .int .i64 k', .int .i64 a', .int .i64 t'] 37 := BoxF.setAll (vs := [.int .i64 d, .int .i64 l, .int .i64 f, .int .i64 s, .int .i64 0, .int .i64 0, .int .i64 0, .int .i64 0, .int .i64 0, .int .i64 0, .int .i64 0, .int .i64 c', .int .i64 k', .int .i64 a', .int .i64 t']) KE.out.1
      generalize w8.setCells w.heap.size 0 [.int .i64 d, .int .i64 l, .int .i64 f, .int .i64 s, .int .i64 0, .int .i64 0, .int .i64 0, .int .i64 0, .int .i64 0, .int .i64 0, .int .i64 0, .int .i64 c', .int .i64 k', .int .i64 a', .int .i64 t'] = W9 at *
      obtain ⟨z0, z1, z2, z3, z4, z5, z6, z7, z8, z9, z10, z11, z12, z13, z14, zf⟩ := XR.fifteen
      exact bodyPost_ret (v := .tuple #[.agg #[.int .i64 d, .int .i64 l, .int .i64 f, .int .i64 s, .int .i64 0, .int .i64 0, .int .i64 0, .int .i64 0, .int .i64 0, .int .i64 0, .int .i64 0, .int .i64 c', .int .i64 k', .int .i64 a', .int .i64 t'], .bool true]) (by simp [results, Tryd.results27, go_sem, z0, z1, z2, z3, z4, z5, z6, z7, z8, z9, z10, z11, z12, z13, z14]) rfl ⟨rfl, BE.out⟩
    · obtain rfl : v = false := by rw [← hv]; simp [hts]
      have hne := str_ne hts
      clear hv hts
      go_wp2_with (with_reducible refine isList ?_; (set_option maxRecDepth 100000 in refine st15 2 68 w.heap.size [.int .i64 0, .int .i64 0, .int .i64 0, .int .i64 0, .int .i64 0, .int .i64 0, .int .i64 0, .int .i64 0, .int .i64 0, .int .i64 0, .int .i64 0, .int .i64 0, .int .i64 0, .int .i64 0, .int .i64 0] rfl rfl rfl rfl rfl ?_ ?_ ?_); exact t_; simp [Value.oneCell'])
      have g9 := setc_grownC w8 w.heap.size [.int .i64 0, .int .i64 0, .int .i64 0, .int .i64 0, .int .i64 0, .int .i64 0, .int .i64 0, .int .i64 0, .int .i64 0, .int .i64 0, .int .i64 0, .int .i64 0, .int .i64 0, .int .i64 0, .int .i64 0]
      have BE := Lib.hid (KE.out.2.2.grown g9 KE.out.2.2.size (fun q hq => by cases hq; exact Nat.le_refl _))
      have XR : BoxF (w8.setCells w.heap.size 0 [.int .i64 0, .int .i64 0, .int .i64 0, .int .i64 0, .int .i64 0, .int .i64 0, .int .i64 0, .int .i64 0, .int .i64 0, .int .i64 0, .int .i64 0, .int .i64 0, .int .i64 0, .int .i64 0, .int .i64 0]) w.heap.size [.int .i64 0, .int .i64 0, .int .i64 0, .int .i64 0, .int .i64 0, .int .i64 0, .int .i64 0, .int .i64 0, .int .i64 0, .int .i64 0, .int .i64 0, .int .i64 0, .int .i64 0, .int .i64 0, .int .i64 0] 37 := BoxF.setAll (vs := [.int .i64 0, .int .i64 0, .int .i64 0, .int .i64 0, .int .i64 0, .int .i64 0, .int .i64 0, .int .i64 0, .int .i64 0, .int .i64 0, .int .i64 0, .int .i64 0, .int .i64 0, .int .i64 0, .int .i64 0]) KE.out.1
      generalize w8.setCells w.heap.size 0 [.int .i64 0, .int .i64 0, .int .i64 0, .int .i64 0, .int .i64 0, .int .i64 0, .int .i64 0, .int .i64 0, .int .i64 0, .int .i64 0, .int .i64 0, .int .i64 0, .int .i64 0, .int .i64 0, .int .i64 0] = W9 at *
      obtain ⟨z0, z1, z2, z3, z4, z5, z6, z7, z8, z9, z10, z11, z12, z13, z14, zf⟩ := XR.fifteen
      exact bodyPost_ret (v := .tuple #[.agg #[.int .i64 0, .int .i64 0, .int .i64 0, .int .i64 0, .int .i64 0, .int .i64 0, .int .i64 0, .int .i64 0, .int .i64 0, .int .i64 0, .int .i64 0, .int .i64 0, .int .i64 0, .int .i64 0, .int .i64 0], .bool false]) (by simp [results, Tryd.results27, go_sem, z0, z1, z2, z3, z4, z5, z6, z7, z8, z9, z10, z11, z12, z13, z14]) rfl ⟨rfl, BE.out⟩
set_option maxRecDepth 100000 in
set_option maxHeartbeats 8000000 in
theorem parseArms_full (z F R R1 R2 T : ByteArray) (d l f s gc gk ga gt c' k' a' t' c k a t o n x : Int) (fok ook r v : Bool) (w : World)
    (hC : ∀ W, Below w.heap.size w W → Calls Tryd.prog 74 #[.string z, .string ⟨#[44, 32]⟩] W fun e w' => e = .returned (.tuple #[.string F, .string R, .bool true]) ∧ ∃ q, w' = W.drewN q)
    (hF : ∀ W, Below w.heap.size w W → Calls Tryd.prog 75 #[.string F] W (AnsF W d l f s fok))
    (hG : ∀ W, Below w.heap.size w W → Calls Tryd.prog 76 #[.string R] W (AnsF W gc gk ga gt false))
    (hA : ∀ W, Below w.heap.size w W → Calls Tryd.prog 77 #[.string R] W fun e w' => e = .returned (.tuple #[.string R1, .agg #[.int .i64 c', .int .i64 k', .int .i64 a', .int .i64 t']]) ∧ Below W.heap.size W w')
    (hO : ∀ W, Below w.heap.size w W → Calls Tryd.prog 78 #[.string R1, .string ⟨#[32, 99, 104, 97, 114, 103, 101, 100, 32, 119, 105, 116, 104, 32]⟩] W fun e w' => e = .returned (.tuple #[.string R2, .agg #[.int .i64 c, .int .i64 k, .int .i64 a, .int .i64 t]]) ∧ Below W.heap.size W w')
    (hP : ∀ W, Below w.heap.size w W → Calls Tryd.prog 21 #[.string R2] W fun e w' => e = .returned (.tuple #[.int .i64 o, .int .i64 n, .int .i64 x, .bool ook]) ∧ Below W.heap.size W w')
    (hT : ∀ W, Below w.heap.size w W → Calls Tryd.prog 25 #[.agg #[.int .i64 d, .int .i64 l, .int .i64 f, .int .i64 s, .int .i64 o, .int .i64 n, .int .i64 x, .int .i64 c, .int .i64 k, .int .i64 a, .int .i64 t, .int .i64 c', .int .i64 k', .int .i64 a', .int .i64 t']] W fun e w' => e = .returned (.tuple #[.string T, .bool r]) ∧ Below W.heap.size W w')
    (hv : (r && decide (T = z)) = v) :
    Calls Tryd.prog 27 #[.string z] w (if v = true then AnsA w d l f s o n x c k a t c' k' a' t' true else AnsA w 0 0 0 0 0 0 0 0 0 0 0 0 0 0 0 false) := by
  have HC_ := Lib.hid hC
  have HF_ := Lib.hid hF
  have HG_ := Lib.hid hG
  have HA_ := Lib.hid hA
  have HO_ := Lib.hid hO
  have HP_ := Lib.hid hP
  have HT_ := Lib.hid hT
  clear hC hF hG hA hO hP hT
  have K0 := Lib.hid (PK.new w)
  go_enter Tryd.func27, Tryd.ntmps27
  go_wp2_with fail
  go_step3
  go_wp2_with fail
  refine (HC_.out _ K0.out.2.2).mono ?_
  rintro e w1 ⟨rfl, q, rfl⟩
  have K1 := Lib.hid (K0.out.drewN q)
  clear K0 HC_
  go_wp2_with fail
  refine (HF_.out _ K1.out.2.2).mono ?_
  rintro e w2 ⟨rfl, h2⟩
  have K2 := Lib.hid (K1.out.below h2)
  clear K1 HF_ h2
  have t_ := K2.out.2.1.therM 0 4 (by simp)
  have K3 := Lib.hid (show PK w [.int .i64 d, .int .i64 l, .int .i64 f, .int .i64 s, .int .i64 0, .int .i64 0, .int .i64 0, .int .i64 0, .int .i64 0, .int .i64 0, .int .i64 0, .int .i64 0, .int .i64 0, .int .i64 0, .int .i64 0] (w2.setCells (w.heap.size + 1) 0 [.int .i64 d, .int .i64 l, .int .i64 f, .int .i64 s]) from K2.out.put 0 [.int .i64 d, .int .i64 l, .int .i64 f, .int .i64 s])
  clear K2
  go_wp2_with (with_reducible refine isList ?_; (set_option maxRecDepth 100000 in refine stF 23 21 (w.heap.size + 1) 0 [.int .i64 d, .int .i64 l, .int .i64 f, .int .i64 s] rfl rfl rfl rfl rfl ?_ ?_ ?_); exact t_; simp [Value.oneCell'])
  clear t_
  refine (HG_.out _ K3.out.2.2).mono ?_
  rintro e w3 ⟨rfl, h3⟩
  have K4 := Lib.hid ((K3.out.below h3).alloc (.cells #[.int .i64 gc, .int .i64 gk, .int .i64 ga, .int .i64 gt] 35 (0, 0)))
  clear K3 h3 HG_
  go_wp2_with fail
  refine (HA_.out _ K4.out.2.2).mono ?_
  rintro e w4 ⟨rfl, h4⟩
  have K5 := Lib.hid (K4.out.below h4)
  clear K4 HA_ h4
  have t_ := K5.out.2.1.therM 11 4 (by simp)
  have K6 := Lib.hid (show PK w [.int .i64 d, .int .i64 l, .int .i64 f, .int .i64 s, .int .i64 0, .int .i64 0, .int .i64 0, .int .i64 0, .int .i64 0, .int .i64 0, .int .i64 0, .int .i64 c', .int .i64 k', .int .i64 a', .int .i64 t'] (w4.setCells (w.heap.size + 1) 11 [.int .i64 c', .int .i64 k', .int .i64 a', .int .i64 t']) from K5.out.put 11 [.int .i64 c', .int .i64 k', .int .i64 a', .int .i64 t'])
  clear K5
  go_wp2_with (with_reducible refine isList ?_; (set_option maxRecDepth 100000 in refine stG 39 38 (w.heap.size + 1) 11 [.int .i64 c', .int .i64 k', .int .i64 a', .int .i64 t'] rfl rfl rfl rfl rfl ?_ ?_ ?_); exact t_; simp [Value.oneCell'])
  clear t_
  refine (HO_.out _ K6.out.2.2).mono ?_
  rintro e w5 ⟨rfl, h5⟩
  have K7 := Lib.hid (K6.out.below h5)
  clear K6 HO_ h5
  have t_ := K7.out.2.1.therM 7 4 (by simp)
  have K8 := Lib.hid (show PK w [.int .i64 d, .int .i64 l, .int .i64 f, .int .i64 s, .int .i64 0, .int .i64 0, .int .i64 0, .int .i64 c, .int .i64 k, .int .i64 a, .int .i64 t, .int .i64 c', .int .i64 k', .int .i64 a', .int .i64 t'] (w5.setCells (w.heap.size + 1) 7 [.int .i64 c, .int .i64 k, .int .i64 a, .int .i64 t]) from K7.out.put 7 [.int .i64 c, .int .i64 k, .int .i64 a, .int .i64 t])
  clear K7
  go_wp2_with (with_reducible refine isList ?_; (set_option maxRecDepth 100000 in refine stG 45 44 (w.heap.size + 1) 7 [.int .i64 c, .int .i64 k, .int .i64 a, .int .i64 t] rfl rfl rfl rfl rfl ?_ ?_ ?_); exact t_; simp [Value.oneCell'])
  clear t_
  refine (HP_.out _ K8.out.2.2).mono ?_
  rintro e w6 ⟨rfl, h6⟩
  have K9 := Lib.hid (K8.out.below h6)
  clear K8 HP_ h6
  obtain ⟨x0, x1, x2, x3, x4, x5, x6, x7, x8, x9, x10, x11, x12, x13, x14, xf⟩ := K9.out.2.1.fifteen
  have K10 := Lib.hid (show PK w [.int .i64 d, .int .i64 l, .int .i64 f, .int .i64 s, .int .i64 o, .int .i64 n, .int .i64 x, .int .i64 c, .int .i64 k, .int .i64 a, .int .i64 t, .int .i64 c', .int .i64 k', .int .i64 a', .int .i64 t'] (((w6.setCell ⟨w.heap.size + 1, 4, none⟩ (.int .i64 o)).setCell ⟨w.heap.size + 1, 5, none⟩ (.int .i64 n)).setCell ⟨w.heap.size + 1, 6, none⟩ (.int .i64 x)) from K9.out.put 4 [.int .i64 o, .int .i64 n, .int .i64 x])
  have r0 := K10.out.2.1.range
  go_wp2_with fail
  go_step3
  go_wp2_with (with_reducible refine isList ?_; refine ld15 4 (w.heap.size + 1) [.int .i64 d, .int .i64 l, .int .i64 f, .int .i64 s, .int .i64 o, .int .i64 n, .int .i64 x, .int .i64 c, .int .i64 k, .int .i64 a, .int .i64 t, .int .i64 c', .int .i64 k', .int .i64 a', .int .i64 t'] rfl rfl rfl rfl ?_ ?_; exact r0)
  clear x0 x1 x2 x3 x4 x5 x6 x7 x8 x9 x10 x11 x12 x13 x14 xf
  refine (HT_.out _ K10.out.2.2).mono ?_
  rintro e w8 ⟨rfl, h8⟩
  have KE := Lib.hid (K10.out.below h8)
  clear K10 HT_ h8 r0
  have t_ := KE.out.1.ther (n := 15) rfl
  clear K9
  cases r
  · obtain rfl : v = false := by simpa using hv.symm
    clear hv
    go_wp2_with (with_reducible refine isList ?_; (set_option maxRecDepth 100000 in refine st15 2 68 w.heap.size [.int .i64 0, .int .i64 0, .int .i64 0, .int .i64 0, .int .i64 0, .int .i64 0, .int .i64 0, .int .i64 0, .int .i64 0, .int .i64 0, .int .i64 0, .int .i64 0, .int .i64 0, .int .i64 0, .int .i64 0] rfl rfl rfl rfl rfl ?_ ?_ ?_); exact t_; simp [Value.oneCell'])
    have g9 := setc_grownC w8 w.heap.size [.int .i64 0, .int .i64 0, .int .i64 0, .int .i64 0, .int .i64 0, .int .i64 0, .int .i64 0, .int .i64 0, .int .i64 0, .int .i64 0, .int .i64 0, .int .i64 0, .int .i64 0, .int .i64 0, .int .i64 0]
    have BE := Lib.hid (KE.out.2.2.grown g9 KE.out.2.2.size (fun q hq => by cases hq; exact Nat.le_refl _))
    have XR : BoxF (w8.setCells w.heap.size 0 [.int .i64 0, .int .i64 0, .int .i64 0, .int .i64 0, .int .i64 0, .int .i64 0, .int .i64 0, .int .i64 0, .int .i64 0, .int .i64 0, .int .i64 0, .int .i64 0, .int .i64 0, .int .i64 0, .int .i64 0]) w.heap.size [.int .i64 0, .int .i64 0, .int .i64 0, .int .i64 0, .int .i64 0, .int .i64 0, .int .i64 0, .int .i64 0, .int .i64 0, .int .i64 0, .int .i64 0, .int .i64 0, .int .i64 0, .int .i64 0, .int .i64 0] 37 := BoxF.setAll (vs := [.int .i64 0, .int .i64 0, .int .i64 0, .int .i64 0, .int .i64 0, .int .i64 0, .int .i64 0, .int .i64 0, .int .i64 0, .int .i64 0, .int .i64 0, .int .i64 0, .int .i64 0, .int .i64 0, .int .i64 0]) KE.out.1
    generalize w8.setCells w.heap.size 0 [.int .i64 0, .int .i64 0, .int .i64 0, .int .i64 0, .int .i64 0, .int .i64 0, .int .i64 0, .int .i64 0, .int .i64 0, .int .i64 0, .int .i64 0, .int .i64 0, .int .i64 0, .int .i64 0, .int .i64 0] = W9 at *
    obtain ⟨z0, z1, z2, z3, z4, z5, z6, z7, z8, z9, z10, z11, z12, z13, z14, zf⟩ := XR.fifteen
    exact bodyPost_ret (v := .tuple #[.agg #[.int .i64 0, .int .i64 0, .int .i64 0, .int .i64 0, .int .i64 0, .int .i64 0, .int .i64 0, .int .i64 0, .int .i64 0, .int .i64 0, .int .i64 0, .int .i64 0, .int .i64 0, .int .i64 0, .int .i64 0], .bool false]) (by simp [results, Tryd.results27, go_sem, z0, z1, z2, z3, z4, z5, z6, z7, z8, z9, z10, z11, z12, z13, z14]) rfl ⟨rfl, BE.out⟩
  · by_cases hts : T = z
    · obtain rfl : v = true := by rw [← hv]; simp [hts]
      have heq := str_eq hts
      clear hv hts
      have r9 := KE.out.2.1.range
      go_wp2_with (first | (with_reducible refine isList ?_; refine ld15 4 (w.heap.size + 1) [.int .i64 d, .int .i64 l, .int .i64 f, .int .i64 s, .int .i64 o, .int .i64 n, .int .i64 x, .int .i64 c, .int .i64 k, .int .i64 a, .int .i64 t, .int .i64 c', .int .i64 k', .int .i64 a', .int .i64 t'] rfl rfl rfl rfl ?_ ?_; exact r9) | (with_reducible refine isList ?_; (set_option maxRecDepth 100000 in refine st15 2 69 w.heap.size [.int .i64 d, .int .i64 l, .int .i64 f, .int .i64 s, .int .i64 o, .int .i64 n, .int .i64 x, .int .i64 c, .int .i64 k, .int .i64 a, .int .i64 t, .int .i64 c', .int .i64 k', .int .i64 a', .int .i64 t'] rfl rfl rfl rfl rfl ?_ ?_ ?_); exact t_; simp [Value.oneCell']))
      have g9 := setc_grownC w8 w.heap.size [.int .i64 d, .int .i64 l, .int .i64 f, .int .i64 s, .int .i64 o, .int .i64 n, .int .i64 x, .int .i64 c, .int .i64 k, .int .i64 a, .int .i64 t, .int .i64 c', .int .i64 k', .int .i64 a', .int .i64 t']
      have BE := Lib.hid (KE.out.2.2.grown g9 KE.out.2.2.size (fun q hq => by cases hq; exact Nat.le_refl _))
      have XR : BoxF (w8.setCells w.heap.size 0 [.int .i64 d, .int .i64 l, .int .i64 f, .int .i64 s, .int .i64 o, .int .i64 n, .int .i64 x, .int .i64 c, .int .i64 k, .int .i64 a, .int .i64 t, .int .i64 c', .int .i64 k', .int .i64 a', .int .i64 t']) w.heap.size [.int .i64 d, .int .i64 l, .int .i64 f, .int .i64 s, .int .i64 o, .int .i64 n, .int .i64 x, .int .i64 c, .int .i64 k, .int .i64 a, .int .i64 t, .int .i64 c', .int .i64 k', .int .i64 a', .int .i64 t'] 37 := BoxF.setAll (vs := [.int .i64 d, .int .i64 l, .int .i64 f, .int .i64 s, .int .i64 o, .int .i64 n, .int .i64 x, .int .i64 c, .int .i64 k, .int .i64 a, .int .i64 t, .int .i64 c', .int .i64 k', .int .i64 a', .int .i64 t']) KE.out.1
      generalize w8.setCells w.heap.size 0 [.int .i64 d, .int .i64 l, .int .i64 f, .int .i64 s, .int .i64 o, .int .i64 n, .int .i64 x, .int .i64 c, .int .i64 k, .int .i64 a, .int .i64 t, .int .i64 c', .int .i64 k', .int .i64 a', .int .i64 t'] = W9 at *
      obtain ⟨z0, z1, z2, z3, z4, z5, z6, z7, z8, z9, z10, z11, z12, z13, z14, zf⟩ := XR.fifteen
      exact bodyPost_ret (v := .tuple #[.agg #[.int .i64 d, .int .i64 l, .int .i64 f, .int .i64 s, .int .i64 o, .int .i64 n, .int .i64 x, .int .i64 c, .int .i64 k, .int .i64 a, .int .i64 t, .int .i64 c', .int .i64 k', .int .i64 a', .int .i64 t'], .bool true]) (by simp [results, Tryd.results27, go_sem, z0, z1, z2, z3, z4, z5, z6, z7, z8, z9, z10, z11, z12, z13, z14]) rfl ⟨rfl, BE.out⟩
    · obtain rfl : v = false := by rw [← hv]; simp [hts]
      have hne := str_ne hts
      clear hv hts
      go_wp2_with (with_reducible refine isList ?_; (set_option maxRecDepth 100000 in refine st15 2 68 w.heap.size [.int .i64 0, .int .i64 0, .int .i64 0, .int .i64 0, .int .i64 0, .int .i64 0, .int .i64 0, .int .i64 0, .int .i64 0, .int .i64 0, .int .i64 0, .int .i64 0, .int .i64 0, .int .i64 0, .int .i64 0] rfl rfl rfl rfl rfl ?_ ?_ ?_); exact t_; simp [Value.oneCell'])
      have g9 := setc_grownC w8 w.heap.size [.int .i64 0, .int .i64 0, .int .i64 0, .int .i64 0, .int .i64 0, .int .i64 0, .int .i64 0, .int .i64 0, .int .i64 0, .int .i64 0, .int .i64 0, .int .i64 0, .int .i64 0, .int .i64 0, .int .i64 0]
      have BE := Lib.hid (KE.out.2.2.grown g9 KE.out.2.2.size (fun q hq => by cases hq; exact Nat.le_refl _))
      have XR : BoxF (w8.setCells w.heap.size 0 [.int .i64 0, .int .i64 0, .int .i64 0, .int .i64 0, .int .i64 0, .int .i64 0, .int .i64 0, .int .i64 0, .int .i64 0, .int .i64 0, .int .i64 0, .int .i64 0, .int .i64 0, .int .i64 0, .int .i64 0]) w.heap.size [.int .i64 0, .int .i64 0, .int .i64 0, .int .i64 0, .int .i64 0, .int .i64 0, .int .i64 0, .int .i64 0, .int .i64 0, .int .i64 0, .int .i64 0, .int .i64 0, .int .i64 0, .int .i64 0, .int .i64 0] 37 := BoxF.setAll (vs := [.int .i64 0, .int .i64 0, .int .i64 0, .int .i64 0, .int .i64 0, .int .i64 0, .int .i64 0, .int .i64 0, .int .i64 0, .int .i64 0, .int .i64 0, .int .i64 0, .int .i64 0, .int .i64 0, .int .i64 0]) KE.out.1
      generalize w8.setCells w.heap.size 0 [.int .i64 0, .int .i64 0, .int .i64 0, .int .i64 0, .int .i64 0, .int .i64 0, .int .i64 0, .int .i64 0, .int .i64 0, .int .i64 0, .int .i64 0, .int .i64 0, .int .i64 0, .int .i64 0, .int .i64 0] = W9 at *
      obtain ⟨z0, z1, z2, z3, z4, z5, z6, z7, z8, z9, z10, z11, z12, z13, z14, zf⟩ := XR.fifteen
      exact bodyPost_ret (v := .tuple #[.agg #[.int .i64 0, .int .i64 0, .int .i64 0, .int .i64 0, .int .i64 0, .int .i64 0, .int .i64 0, .int .i64 0, .int .i64 0, .int .i64 0, .int .i64 0, .int .i64 0, .int .i64 0, .int .i64 0, .int .i64 0], .bool false]) (by simp [results, Tryd.results27, go_sem, z0, z1, z2, z3, z4, z5, z6, z7, z8, z9, z10, z11, z12, z13, z14]) rfl ⟨rfl, BE.out⟩
theorem parseArms_third (z : ByteArray) (hz : z.size ≤ 1048576) (d l f s : Int) (fok : Bool) (gc gk ga gt : Int)
    (hPF : PAns ⟨(Lib.cut z.data.toList [44, 32]).1.toArray⟩ d l f s fok) (hPG : GAns ⟨(Lib.cut z.data.toList [44, 32]).2.1.toArray⟩ gc gk ga gt false) (hfl : (Lib.cut z.data.toList [44, 32]).2.2 = true)
    (hC : ∀ W, MaxLenAt W → Calls Tryd.prog 74 #[.string z, .string ⟨#[44, 32]⟩] W fun e w' => e = .returned (.tuple #[.string ⟨(Lib.cut z.data.toList [44, 32]).1.toArray⟩, .string ⟨(Lib.cut z.data.toList [44, 32]).2.1.toArray⟩, .bool true]) ∧ ∃ q, w' = W.drewN q)
    (hF : ∀ W, TabsLie W → MaxLenAt W → Calls Tryd.prog 75 #[.string ⟨(Lib.cut z.data.toList [44, 32]).1.toArray⟩] W (AnsF W d l f s fok))
    (hG : ∀ W, GTabs W → Calls Tryd.prog 76 #[.string ⟨(Lib.cut z.data.toList [44, 32]).2.1.toArray⟩] W (AnsF W gc gk ga gt false)) :
    ∃ (d l f s o n x c k a t c' k' a' t' : Int) (ok : Bool), AAns z d l f s o n x c k a t c' k' a' t' ok ∧ ∀ w, STabs w → MaxLenAt w → Calls Tryd.prog 27 #[.string z] w (AnsA w d l f s o n x c k a t c' k' a' t' ok) := by
  have zl : z.data.toList.length = z.size := rfl
  have hl := cut_len z.data.toList [44, 32]
  obtain ⟨R, hR'⟩ : ∃ R : ByteArray, R = ⟨(Lib.cut z.data.toList [44, 32]).2.1.toArray⟩ := ⟨_, rfl⟩
  have hR : R.data.toList = (Lib.cut z.data.toList [44, 32]).2.1 := by rw [hR']
  have rl : R.data.toList.length = R.size := rfl
  rw [hR] at rl
  rw [← hR'] at hPG hG hC
  have hl2 := cut_len R.data.toList (linkA R).data.toList
  rw [← hR] at rl
  obtain ⟨R1, hR1'⟩ : ∃ R1 : ByteArray, R1 = ⟨(Lib.cut R.data.toList (linkA R).data.toList).1.toArray⟩ := ⟨_, rfl⟩
  have hR1 : R1.data.toList = (Lib.cut R.data.toList (linkA R).data.toList).1 := by rw [hR1']
  have rl1 : R1.data.toList.length = R1.size := rfl
  have hsR : R.size ≤ 1048576 := by rw [← rl, hR]; omega
  have hsR1 : R1.size ≤ 1048576 := by rw [← rl1, hR1]; omega
  have y2 : (⟨(Lib.cut R.data.toList (linkA R).data.toList).2.1.toArray⟩ : ByteArray).size = (Lib.cut R.data.toList (linkA R).data.toList).2.1.length := rfl
  obtain ⟨c', k', a', t', aok, hPA, hA⟩ := parseGroup_impl ⟨(Lib.cut R.data.toList (linkA R).data.toList).2.1.toArray⟩ (by omega)
  have hl3 := cut_len R1.data.toList [32, 99, 104, 97, 114, 103, 101, 100, 32, 119, 105, 116, 104, 32]
  have y3 : (⟨(Lib.cut R1.data.toList [32, 99, 104, 97, 114, 103, 101, 100, 32, 119, 105, 116, 104, 32]).2.1.toArray⟩ : ByteArray).size = (Lib.cut R1.data.toList [32, 99, 104, 97, 114, 103, 101, 100, 32, 119, 105, 116, 104, 32]).2.1.length := rfl
  have y4 : (⟨(Lib.cut R1.data.toList [32, 99, 104, 97, 114, 103, 101, 100, 32, 119, 105, 116, 104, 32]).1.toArray⟩ : ByteArray).size = (Lib.cut R1.data.toList [32, 99, 104, 97, 114, 103, 101, 100, 32, 119, 105, 116, 104, 32]).1.length := rfl
  obtain ⟨c, k, a, t, gok2, hPO, hO⟩ := parseGroup_impl ⟨(Lib.cut R1.data.toList [32, 99, 104, 97, 114, 103, 101, 100, 32, 119, 105, 116, 104, 32]).2.1.toArray⟩ (by omega)
  obtain ⟨o, n, x, ook, hPP, hP⟩ := parseOrd_impl ⟨(Lib.cut R1.data.toList [32, 99, 104, 97, 114, 103, 101, 100, 32, 119, 105, 116, 104, 32]).1.toArray⟩ (by omega)
  obtain ⟨r, hr⟩ : ∃ r, aOkB d l f s o n x c k a t c' k' a' t' = r := ⟨_, rfl⟩
  have hT := fun W (hb : STabs W) => armsText_impl d l f s o n x c k a t c' k' a' t' W r hr hb
  obtain ⟨T, hTT⟩ : ∃ T, (if r = true then armsN d l f s o n x c k a t c' k' a' t' else ByteArray.empty) = T := ⟨_, rfl⟩
  rw [hTT] at hT
  obtain ⟨v, hv⟩ : ∃ v, (r && decide (T = z)) = v := ⟨_, rfl⟩
  have hw := fun w (hS : STabs w) (hM : MaxLenAt w) => parseArms_full z _ R R1 _ T d l f s gc gk ga gt c' k' a' t' c k a t o n x fok ook r _ w (fun W hb => hC W (hM.below hb)) (fun W hb => hF W (hS.below hb).2.1 (hM.below hb)) (fun W hb => hG W (hS.below hb).1) (fun W hb => (by subst hR1'; exact cutAround_walk R hsR W (hM.below hb) (fun W' hb' => hA W' ((hS.below hb).below hb').1))) (fun W hb => cutGroup_walk R1 ⟨#[32, 99, 104, 97, 114, 103, 101, 100, 32, 119, 105, 116, 104, 32]⟩ hsR1 W (hM.below hb) (fun W' hb' => hO W' ((hS.below hb).below hb').1)) (fun W hb => hP W (hS.below hb).ord) (fun W hb => hT W (hS.below hb)) hv
  cases v
  · refine ⟨0, 0, 0, 0, 0, 0, 0, 0, 0, 0, 0, 0, 0, 0, 0, false, .inr ⟨rfl, ⟨rfl, rfl, rfl, rfl, rfl, rfl, rfl, rfl, rfl, rfl, rfl, rfl, rfl, rfl, rfl⟩, fun b0 b1 b2 b3 b4 b5 b6 b7 b8 b9 b10 b11 b12 b13 b14 g e => ?_⟩, hw⟩
    have hp := arms_parts g e
    have hEq : b0 = d ∧ b1 = l ∧ b2 = f ∧ b3 = s ∧ b4 = o ∧ b5 = n ∧ b6 = x ∧ b7 = c ∧ b8 = k ∧ b9 = a ∧ b10 = t ∧ b11 = c' ∧ b12 = k' ∧ b13 = a' ∧ b14 = t' := by
      obtain ⟨hf, h1 | h1 | h1⟩ := hp
      · exact absurd (show true = false from hfl.symm.trans (by rw [h1.2])) (by decide)
      · obtain ⟨⟨_, _, hg⟩, hq⟩ := h1
        have q2 := group_one hPG hg (by rw [hR, hq])
        cases q2.1
      · obtain ⟨⟨ho, hn, hx, hg, hg'⟩, hq⟩ := h1
        have q := field_one hPF hf (by rw [hq])
        have hRR : R.data.toList = frontL b4 b5 b6 b7 b8 b9 b10 ++ arL b4 b11 b12 b13 b14 := by rw [hR, hq]
        have ea := cut_link R
        rw [hRR, (cut_around ho hn hx hg hg').1] at ea
        rw [← hRR] at ea
        have qa := group_end hPA hg' (by rw [ea])
        have hR1' : R1.data.toList = frontL b4 b5 b6 b7 b8 b9 b10 := by rw [hR1, ea]
        have eo := cut_on (c := b7) (k := b8) (a := b9) (t := b10) ho hn hx
        rw [← hR1'] at eo
        have qo := group_end hPO hg (by rw [eo])
        have qp := ord_one hPP ho hn hx (by rw [eo])
        exact ⟨q.2.1.symm, q.2.2.1.symm, q.2.2.2.1.symm, q.2.2.2.2.symm, qp.2.1.symm, qp.2.2.1.symm, qp.2.2.2.symm, qo.1.symm, qo.2.1.symm, qo.2.2.1.symm, qo.2.2.2.1.symm, qa.1.symm, qa.2.1.symm, qa.2.2.1.symm, qa.2.2.2.1.symm⟩
    obtain ⟨rfl, rfl, rfl, rfl, rfl, rfl, rfl, rfl, rfl, rfl, rfl, rfl, rfl, rfl, rfl⟩ := hEq
    rw [g] at hr
    subst hr
    rw [if_pos rfl, e] at hTT
    rw [← hTT] at hv
    simp at hv
  · refine ⟨d, l, f, s, o, n, x, c, k, a, t, c', k', a', t', true, .inl ⟨rfl, ?_, ?_⟩, hw⟩
    · cases r
      · simp at hv
      · exact hr
    · cases r
      · simp at hv
      · rw [if_pos rfl] at hTT
        rw [hTT]
        simpa using hv
/-- Whatever the string: the program's answer is the arms whose text it is, or none. -/
theorem parseArms_impl (z : ByteArray) (hz : z.size ≤ 1048576) : ∃ (d l f s o n x c k a t c' k' a' t' : Int) (ok : Bool), AAns z d l f s o n x c k a t c' k' a' t' ok ∧ ∀ w, STabs w → MaxLenAt w → Calls Tryd.prog 27 #[.string z] w (AnsA w d l f s o n x c k a t c' k' a' t' ok) := by
  have zl : z.data.toList.length = z.size := rfl
  have hC : ∀ W, MaxLenAt W → Calls Tryd.prog 74 #[.string z, .string ⟨#[44, 32]⟩] W fun e w' => e = .returned (.tuple #[.string ⟨(Lib.cut z.data.toList [44, 32]).1.toArray⟩, .string ⟨(Lib.cut z.data.toList [44, 32]).2.1.toArray⟩, .bool (Lib.cut z.data.toList [44, 32]).2.2]) ∧ ∃ q, w' = W.drewN q := fun W hW => by
    obtain ⟨m, hm⟩ := hW
    exact Tryd.strings_Cut z ⟨#[44, 32]⟩ m W (by omega) hm
  have hl := cut_len z.data.toList [44, 32]
  have z1 : (⟨(Lib.cut z.data.toList [44, 32]).1.toArray⟩ : ByteArray).size = (Lib.cut z.data.toList [44, 32]).1.length := rfl
  have z2 : (⟨(Lib.cut z.data.toList [44, 32]).2.1.toArray⟩ : ByteArray).size = (Lib.cut z.data.toList [44, 32]).2.1.length := rfl
  obtain ⟨d, l, f, s, fok, hPF, hF⟩ := parseField_impl ⟨(Lib.cut z.data.toList [44, 32]).1.toArray⟩ (by omega)
  obtain ⟨fl, hfl⟩ : ∃ fl, (Lib.cut z.data.toList [44, 32]).2.2 = fl := ⟨_, rfl⟩
  rw [hfl] at hC
  cases fl
  · skip
    obtain ⟨r, hr⟩ : ∃ r, aOkB d l f s 0 0 0 0 0 0 0 0 0 0 0 = r := ⟨_, rfl⟩
    have hT := fun W (hb : STabs W) => armsText_impl d l f s 0 0 0 0 0 0 0 0 0 0 0 W r hr hb
    obtain ⟨T, hTT⟩ : ∃ T, (if r = true then armsN d l f s 0 0 0 0 0 0 0 0 0 0 0 else ByteArray.empty) = T := ⟨_, rfl⟩
    rw [hTT] at hT
    obtain ⟨v, hv⟩ : ∃ v, (r && decide (T = z)) = v := ⟨_, rfl⟩
    have hw := fun w (hS : STabs w) (hM : MaxLenAt w) => parseArms_plain z _ _ T d l f s fok r _ w (fun W hb => hC W (hM.below hb)) (fun W hb => hF W (hS.below hb).2.1 (hM.below hb)) (fun W hb => hT W (hS.below hb)) hv
    cases v
    · refine ⟨0, 0, 0, 0, 0, 0, 0, 0, 0, 0, 0, 0, 0, 0, 0, false, .inr ⟨rfl, ⟨rfl, rfl, rfl, rfl, rfl, rfl, rfl, rfl, rfl, rfl, rfl, rfl, rfl, rfl, rfl⟩, fun b0 b1 b2 b3 b4 b5 b6 b7 b8 b9 b10 b11 b12 b13 b14 g e => ?_⟩, hw⟩
      have hp := arms_parts g e
      have hEq : b0 = d ∧ b1 = l ∧ b2 = f ∧ b3 = s ∧ b4 = 0 ∧ b5 = 0 ∧ b6 = 0 ∧ b7 = 0 ∧ b8 = 0 ∧ b9 = 0 ∧ b10 = 0 ∧ b11 = 0 ∧ b12 = 0 ∧ b13 = 0 ∧ b14 = 0 := by
        obtain ⟨hf, h1 | h1 | h1⟩ := hp
        · obtain ⟨⟨⟨y1, y2, y3⟩, ⟨y4, y5, y6, y7⟩, y8, y9, y10, y11⟩, hq⟩ := h1
          have q := field_one hPF hf (by rw [hq])
          exact ⟨q.2.1.symm, q.2.2.1.symm, q.2.2.2.1.symm, q.2.2.2.2.symm, y1, y2, y3, y4, y5, y6, y7, y8, y9, y10, y11⟩
        · exact absurd (show false = true from hfl.symm.trans (by rw [h1.2])) (by decide)
        · exact absurd (show false = true from hfl.symm.trans (by rw [h1.2])) (by decide)
      obtain ⟨rfl, rfl, rfl, rfl, rfl, rfl, rfl, rfl, rfl, rfl, rfl, rfl, rfl, rfl, rfl⟩ := hEq
      rw [g] at hr
      subst hr
      rw [if_pos rfl, e] at hTT
      rw [← hTT] at hv
      simp at hv
    · refine ⟨d, l, f, s, 0, 0, 0, 0, 0, 0, 0, 0, 0, 0, 0, true, .inl ⟨rfl, ?_, ?_⟩, hw⟩
      · cases r
        · simp at hv
        · exact hr
      · cases r
        · simp at hv
        · rw [if_pos rfl] at hTT
          rw [hTT]
          simpa using hv
  · obtain ⟨gc, gk, ga, gt, gok, hPG, hG⟩ := parseGroup_impl ⟨(Lib.cut z.data.toList [44, 32]).2.1.toArray⟩ (by omega)
    cases gok
    · exact parseArms_third z hz d l f s fok gc gk ga gt hPF hPG hfl hC hF hG
    · skip
      obtain ⟨r, hr⟩ : ∃ r, aOkB d l f s 0 0 0 0 0 0 0 gc gk ga gt = r := ⟨_, rfl⟩
      have hT := fun W (hb : STabs W) => armsText_impl d l f s 0 0 0 0 0 0 0 gc gk ga gt W r hr hb
      obtain ⟨T, hTT⟩ : ∃ T, (if r = true then armsN d l f s 0 0 0 0 0 0 0 gc gk ga gt else ByteArray.empty) = T := ⟨_, rfl⟩
      rw [hTT] at hT
      obtain ⟨v, hv⟩ : ∃ v, (r && decide (T = z)) = v := ⟨_, rfl⟩
      have hw := fun w (hS : STabs w) (hM : MaxLenAt w) => parseArms_group z _ _ T d l f s gc gk ga gt fok r _ w (fun W hb => hC W (hM.below hb)) (fun W hb => hF W (hS.below hb).2.1 (hM.below hb)) (fun W hb => hG W (hS.below hb).1) (fun W hb => hT W (hS.below hb)) hv
      cases v
      · refine ⟨0, 0, 0, 0, 0, 0, 0, 0, 0, 0, 0, 0, 0, 0, 0, false, .inr ⟨rfl, ⟨rfl, rfl, rfl, rfl, rfl, rfl, rfl, rfl, rfl, rfl, rfl, rfl, rfl, rfl, rfl⟩, fun b0 b1 b2 b3 b4 b5 b6 b7 b8 b9 b10 b11 b12 b13 b14 g e => ?_⟩, hw⟩
        have hp := arms_parts g e
        have hEq : b0 = d ∧ b1 = l ∧ b2 = f ∧ b3 = s ∧ b4 = 0 ∧ b5 = 0 ∧ b6 = 0 ∧ b7 = 0 ∧ b8 = 0 ∧ b9 = 0 ∧ b10 = 0 ∧ b11 = gc ∧ b12 = gk ∧ b13 = ga ∧ b14 = gt := by
          obtain ⟨hf, h1 | h1 | h1⟩ := hp
          · exact absurd (show true = false from hfl.symm.trans (by rw [h1.2])) (by decide)
          · obtain ⟨⟨⟨y1, y2, y3⟩, ⟨y4, y5, y6, y7⟩, hg⟩, hq⟩ := h1
            have q := field_one hPF hf (by rw [hq])
            have q2 := group_one hPG hg (by rw [hq])
            exact ⟨q.2.1.symm, q.2.2.1.symm, q.2.2.2.1.symm, q.2.2.2.2.symm, y1, y2, y3, y4, y5, y6, y7, q2.2.1.symm, q2.2.2.1.symm, q2.2.2.2.1.symm, q2.2.2.2.2.symm⟩
          · obtain ⟨⟨ho, hn, hx, hg, hg'⟩, hq⟩ := h1
            rcases hPG with ⟨_, k1, k2⟩ | ⟨k0, _, _⟩
            · have e9 := congrArg (fun s : ByteArray => s.data.toList) k2
              rw [hq] at e9
              unfold frontL at e9
              rw [List.append_assoc] at e9
              exact absurd e9 (not_group ho hn k1)
            · cases k0
        obtain ⟨rfl, rfl, rfl, rfl, rfl, rfl, rfl, rfl, rfl, rfl, rfl, rfl, rfl, rfl, rfl⟩ := hEq
        rw [g] at hr
        subst hr
        rw [if_pos rfl, e] at hTT
        rw [← hTT] at hv
        simp at hv
      · refine ⟨d, l, f, s, 0, 0, 0, 0, 0, 0, 0, gc, gk, ga, gt, true, .inl ⟨rfl, ?_, ?_⟩, hw⟩
        · cases r
          · simp at hv
          · exact hr
        · cases r
          · simp at hv
          · rw [if_pos rfl] at hTT
            rw [hTT]
            simpa using hv
end Go.Proofs.YtgeidnnjljpdkaaDoor
