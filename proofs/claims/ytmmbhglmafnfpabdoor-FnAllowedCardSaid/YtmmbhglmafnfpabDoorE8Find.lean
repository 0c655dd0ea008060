/- Contracts: rows of findings; the layers of arms; RuleFindings and KeepsRules of the program. -/
import Derived.Test.YtmmbhglmafnfpabDoorE8Rules
import Derived.Test.YtmmbhglmafnfpabDoorK6
import Derived.Test.YtmmbhglmafnfpabDoorKM
import Derived.OwnWalk
import Derived.Laws.OwnMore
import Derived.Maps.AppendAt
namespace Go.Proofs.YtmmbhglmafnfpabDoor
open Go.RowKit

/-- A finding: its place, the tincture above and the one below. -/
structure Fnd where
  p : Int
  u : Int
  l : Int
  deriving DecidableEq
def fcell (F : Fnd) : List Value := [.int .i64 F.p, .int .i64 F.u, .int .i64 F.l]
def fcells (X : List Fnd) : List Value := X.flatMap fcell
theorem fcells_len : ∀ X : List Fnd, (fcells X).length = X.length * 3
  | [] => rfl
  | F :: X => by
    show (fcell F ++ fcells X).length = (X.length + 1) * 3
    rw [List.length_append, fcells_len X]; simp [fcell]; omega
theorem fcells_app (X : List Fnd) (F : Fnd) : fcells (X ++ [F]) = fcells X ++ fcell F := by simp [fcells]
theorem infoFn : (Tryd.prog.info? 40).map (fun i => (i.zero, i.size, i.bytes)) = some (some (.agg #[.int .i64 0, .int .i64 0, .int .i64 0]), 3, 24) := by kernel_rfl
/-- The slice owns a row from block B on that holds these findings (or is nil and holds none). -/
def OwnFn (w : World) (B : Nat) (v : Value) (X : List Fnd) : Prop := w.ownsRow B 40 3 v X.length (fcells X)
theorem OwnFn.below {w w' : World} {B : Nat} {v : Value} {X : List Fnd} (h : OwnFn w B v X) (hb : Below w.heap.size w w') : OwnFn w' B v X :=
  World.ownsRow.kept (row := none) h ⟨hb.os, hb.tape, hb.output, hb.size, fun i hi _ => hb.block i hi⟩ (by cases h : v.ownBlock <;> simp)
theorem OwnFn.low {w : World} {B B2 : Nat} {v : Value} {X : List Fnd} (h : OwnFn w B v X) (hb : B2 ≤ B) : OwnFn w B2 v X := ownsRow_low8 h hb
theorem OwnFn.slice {w : World} {B : Nat} {v : Value} {X : List Fnd} (h : OwnFn w B v X) : ∃ a cap, v = .slice a X.length cap := by
  rcases h.2 with ⟨h0, h1⟩ | ⟨g, cap, cur, hv, hg, r⟩
  · have h2 := h.1
    rw [h1] at h2
    have h3 : X.length = 0 := by simp at h2; omega
    exact ⟨none, 0, by rw [h3]; exact h0⟩
  · exact ⟨_, cap, hv⟩
theorem ownFn_nil (w : World) (B : Nat) : OwnFn w B (.slice none 0 0) [] := World.ownsRow_nil _ _ _ _
def AnsFn (w : World) (X : List Fnd) (ok : Bool) (e : Ending) (w' : World) : Prop :=
  ∃ a cap, e = .returned (.tuple #[.slice a X.length cap, .bool ok]) ∧ OwnFn w' w.heap.size (.slice a X.length cap) X ∧ Below w.heap.size w w'
theorem app_fnd {w : World} {B : Nat} {v : Value} {n : Nat} {X Y : List Fnd} {F : Fnd} (h : w.ownsRow B 40 3 v n (fcells X ++ [.int .i64 F.p, .int .i64 F.u, .int .i64 F.l])) (e : Y = X ++ [F]) (hn : n = X.length + 1) : OwnFn w B v Y := by
  subst e
  unfold OwnFn
  rw [fcells_app, List.length_append, List.length_singleton, ← hn]
  exact h
theorem cell_newF (W : World) (L : List Value) (t : TypeId) : ∀ j u, L[j]? = some u → (W.alloc (.cells L.toArray t (0, 0))).cell? ((⟨W.heap.size, 0, none⟩ : Addr).add j) = some u := fun j u hj => by
  have e : (⟨W.heap.size, 0, none⟩ : Addr).add j = ⟨W.heap.size, j, none⟩ := by unfold Addr.add; split <;> simp_all
  rw [e]
  exact ((BoxF.new W L t).at j).trans hj
/-- The findings of the first k layers. -/
def FL (b : Nat → Bool) (T lo : Nat → Int) : Nat → List Fnd
  | 0 => []
  | k + 1 => if b k = true then FL b T lo k ++ [⟨(k : Int) + 1, T k, lo k⟩] else FL b T lo k
theorem FL_len (b : Nat → Bool) (T lo : Nat → Int) : ∀ k, (FL b T lo k).length ≤ k
  | 0 => Nat.le_refl _
  | k + 1 => by
    rw [FL]
    have := FL_len b T lo k
    split
    · rw [List.length_append, List.length_singleton]; omega
    · omega
set_option linter.unusedSimpArgs false in
set_option maxRecDepth 100000 in
set_option maxHeartbeats 8000000 in
theorem upper_any (d l f s o n x c k a t c' k' a' t' : Int) (w : World) :
    Calls Tryd.prog 37 #[.agg #[.int .i64 d, .int .i64 l, .int .i64 f, .int .i64 s, .int .i64 o, .int .i64 n, .int .i64 x, .int .i64 c, .int .i64 k, .int .i64 a, .int .i64 t, .int .i64 c', .int .i64 k', .int .i64 a', .int .i64 t']] w fun e w' => e = .returned (.agg #[.int .i64 x, .iface 25 (.agg #[.int .i64 d, .int .i64 l, .int .i64 f, .int .i64 s]), .int .i64 t, .iface 110 (.int .i64 x), .int .i64 t', .iface 25 (.agg #[.int .i64 d, .int .i64 l, .int .i64 f, .int .i64 s])]) ∧ Below w.heap.size w w' := by
  have bx := (BoxF.new w [.int .i64 d, .int .i64 l, .int .i64 f, .int .i64 s, .int .i64 o, .int .i64 n, .int .i64 x, .int .i64 c, .int .i64 k, .int .i64 a, .int .i64 t, .int .i64 c', .int .i64 k', .int .i64 a', .int .i64 t'] 29).alloc (.cells #[.int .i64 0, .nilIface, .int .i64 0, .nilIface, .int .i64 0, .nilIface] 73 (0, 0))
  obtain ⟨x0, x1, x2, x3, x4, x5, x6, x7, x8, x9, x10, x11, x12, x13, x14, xf⟩ := bx.fifteen
  clear bx
  go_enter Tryd.func37, Tryd.ntmps37
  go_wp2_with fail
  have BB := (((Below.refl _ w).alloc (Nat.le_refl _) (.cells #[.int .i64 d, .int .i64 l, .int .i64 f, .int .i64 s, .int .i64 o, .int .i64 n, .int .i64 x, .int .i64 c, .int .i64 k, .int .i64 a, .int .i64 t, .int .i64 c', .int .i64 k', .int .i64 a', .int .i64 t'] 29 (0, 0))).alloc (by simp) (.cells #[.int .i64 x, .iface 25 (.agg #[.int .i64 d, .int .i64 l, .int .i64 f, .int .i64 s]), .int .i64 t, .iface 110 (.int .i64 x), .int .i64 t', .iface 25 (.agg #[.int .i64 d, .int .i64 l, .int .i64 f, .int .i64 s])] 73 (0, 0)))
  exact bodyPost_ret (v := .agg #[.int .i64 x, .iface 25 (.agg #[.int .i64 d, .int .i64 l, .int .i64 f, .int .i64 s]), .int .i64 t, .iface 110 (.int .i64 x), .int .i64 t', .iface 25 (.agg #[.int .i64 d, .int .i64 l, .int .i64 f, .int .i64 s])]) (by simp [results, Tryd.results37, go_sem]) rfl ⟨rfl, BB⟩
theorem run_index_layer (T : Nat → Int) (τ : Nat → TypeId) (ν : Nat → Value) (k : Nat) (hk : k < 3) (W : World) : (Instr.index 73 (.agg #[.int .i64 (T 0), .iface (τ 0) (ν 0), .int .i64 (T 1), .iface (τ 1) (ν 1), .int .i64 (T 2), .iface (τ 2) (ν 2)]) (.int .i64 (k : Int))).run Tryd.prog W = .ok (.agg #[.int .i64 (T k), .iface (τ k) (ν k)]) W := by
  rcases (show k = 0 ∨ k = 1 ∨ k = 2 by omega) with rfl | rfl | rfl <;> kernel_rfl
set_option linter.unusedSimpArgs false in
set_option maxRecDepth 100000 in
set_option maxHeartbeats 8000000 in
theorem find_no (d l f s o n x c k a t c' k' a' t' : Int) (w : World) (hr : aOkB d l f s o n x c k a t c' k' a' t' = false) (hA : AttsLie w) :
    Calls Tryd.prog 11 #[.agg #[.int .i64 d, .int .i64 l, .int .i64 f, .int .i64 s, .int .i64 o, .int .i64 n, .int .i64 x, .int .i64 c, .int .i64 k, .int .i64 a, .int .i64 t, .int .i64 c', .int .i64 k', .int .i64 a', .int .i64 t']] w (AnsFn w [] false) := by
  have CV := Lib.hid (fun W (hb : Below w.heap.size w W) => validArms_impl d l f s o n x c k a t c' k' a' t' W false hr (hA.below hb))
  have B0 := Lib.hid ((Below.refl _ w).alloc (Nat.le_refl _) (.cells #[.int .i64 d, .int .i64 l, .int .i64 f, .int .i64 s, .int .i64 o, .int .i64 n, .int .i64 x, .int .i64 c, .int .i64 k, .int .i64 a, .int .i64 t, .int .i64 c', .int .i64 k', .int .i64 a', .int .i64 t'] 29 (0, 0)))
  have r0 := (BoxF.new w [.int .i64 d, .int .i64 l, .int .i64 f, .int .i64 s, .int .i64 o, .int .i64 n, .int .i64 x, .int .i64 c, .int .i64 k, .int .i64 a, .int .i64 t, .int .i64 c', .int .i64 k', .int .i64 a', .int .i64 t'] 29).range
  clear hr hA
  go_enter Tryd.func11, Tryd.ntmps11
  go_wp2_with (with_reducible refine isList ?_; refine ld15 1 w.heap.size [.int .i64 d, .int .i64 l, .int .i64 f, .int .i64 s, .int .i64 o, .int .i64 n, .int .i64 x, .int .i64 c, .int .i64 k, .int .i64 a, .int .i64 t, .int .i64 c', .int .i64 k', .int .i64 a', .int .i64 t'] rfl rfl rfl rfl ?_ ?_; exact r0)
  refine (CV.out _ B0.out).mono ?_
  rintro e w1 ⟨rfl, h1⟩
  have B1 := Lib.hid (B0.out.trans (h1.mono B0.out.size))
  clear h1 B0 r0
  go_wp2_with fail
  go_ret2
  exact ⟨none, 0, rfl, ownFn_nil _ _, B1.out⟩
set_option linter.unusedSimpArgs false in
set_option maxRecDepth 100000 in
set_option maxHeartbeats 8000000 in
theorem find_walk (d l f s o n x c k a t c' k' a' t' : Int) (T lo : Nat → Int) (τ : Nat → TypeId) (ν : Nat → Value) (b : Nat → Bool) (w : World)
    (hV : ∀ W, Below w.heap.size w W → Calls Tryd.prog 30 #[.agg #[.int .i64 d, .int .i64 l, .int .i64 f, .int .i64 s, .int .i64 o, .int .i64 n, .int .i64 x, .int .i64 c, .int .i64 k, .int .i64 a, .int .i64 t, .int .i64 c', .int .i64 k', .int .i64 a', .int .i64 t']] W fun e w' => e = .returned (.bool true) ∧ Below W.heap.size W w')
    (hU : ∀ W, Calls Tryd.prog 37 #[.agg #[.int .i64 d, .int .i64 l, .int .i64 f, .int .i64 s, .int .i64 o, .int .i64 n, .int .i64 x, .int .i64 c, .int .i64 k, .int .i64 a, .int .i64 t, .int .i64 c', .int .i64 k', .int .i64 a', .int .i64 t']] W fun e w' => e = .returned (.agg #[.int .i64 (T 0), .iface (τ 0) (ν 0), .int .i64 (T 1), .iface (τ 1) (ν 1), .int .i64 (T 2), .iface (τ 2) (ν 2)]) ∧ Below W.heap.size W w')
    (hB : ∀ k, k < 3 → ∀ W, Calls Tryd.prog 38 #[.agg #[.int .i64 (T k), .iface (τ k) (ν k)]] W fun e w' => e = .returned (.bool (b k)) ∧ Below W.heap.size W w')
    (hL : ∀ k, k < 3 → ∀ W, Calls Tryd.prog 44 #[.agg #[.int .i64 (T k), .iface (τ k) (ν k)]] W fun e w' => ∃ L, AnsL W (lo k :: L) e w') :
    Calls Tryd.prog 11 #[.agg #[.int .i64 d, .int .i64 l, .int .i64 f, .int .i64 s, .int .i64 o, .int .i64 n, .int .i64 x, .int .i64 c, .int .i64 k, .int .i64 a, .int .i64 t, .int .i64 c', .int .i64 k', .int .i64 a', .int .i64 t']] w (AnsFn w (FL b T lo 3) true) := by
  have CV := Lib.hid hV
  have CU := Lib.hid hU
  have CB := Lib.hid hB
  have CL := Lib.hid hL
  obtain ⟨i0, hi, hz0, hz1, hz2⟩ := info_parts infoFn
  have X0 := Lib.hid (BoxF.new w [.int .i64 d, .int .i64 l, .int .i64 f, .int .i64 s, .int .i64 o, .int .i64 n, .int .i64 x, .int .i64 c, .int .i64 k, .int .i64 a, .int .i64 t, .int .i64 c', .int .i64 k', .int .i64 a', .int .i64 t'] 29)
  have B0 := Lib.hid ((Below.refl _ w).alloc (Nat.le_refl _) (.cells #[.int .i64 d, .int .i64 l, .int .i64 f, .int .i64 s, .int .i64 o, .int .i64 n, .int .i64 x, .int .i64 c, .int .i64 k, .int .i64 a, .int .i64 t, .int .i64 c', .int .i64 k', .int .i64 a', .int .i64 t'] 29 (0, 0)))
  have r0 := X0.out.range
  clear hV hU hB hL
  go_enter Tryd.func11, Tryd.ntmps11
  go_wp2_with (with_reducible refine isList ?_; refine ld15 1 w.heap.size [.int .i64 d, .int .i64 l, .int .i64 f, .int .i64 s, .int .i64 o, .int .i64 n, .int .i64 x, .int .i64 c, .int .i64 k, .int .i64 a, .int .i64 t, .int .i64 c', .int .i64 k', .int .i64 a', .int .i64 t'] rfl rfl rfl rfl ?_ ?_; exact r0)
  refine (CV.out _ B0.out).mono ?_
  rintro e w1 ⟨rfl, h1⟩
  have X1 := Lib.hid (X0.out.below h1)
  have B1 := Lib.hid (B0.out.trans (h1.mono B0.out.size))
  clear h1 B0 r0 X0
  have r1 := X1.out.range
  go_wp2_with (with_reducible refine isList ?_; refine ld15 1 w.heap.size [.int .i64 d, .int .i64 l, .int .i64 f, .int .i64 s, .int .i64 o, .int .i64 n, .int .i64 x, .int .i64 c, .int .i64 k, .int .i64 a, .int .i64 t, .int .i64 c', .int .i64 k', .int .i64 a', .int .i64 t'] rfl rfl rfl rfl ?_ ?_; exact r1)
  refine (CU.out _).mono ?_
  rintro e w2 ⟨rfl, h2⟩
  have B2 := Lib.hid (B1.out.trans (h2.mono B1.out.size))
  clear h2 B1 r1 X1
  go_wp2_with fail
  go_loopw [4, 13] (fun v i wr => ∃ q : Nat, q ≤ 3 ∧ i = .int .i64 (q : Int) ∧ OwnFn wr w.heap.size v (FL b T lo q) ∧ Below w.heap.size w wr) (fun _ i _ => 3 - (intOf i).toNat)
  case atStart => exact ⟨0, by omega, rfl, ownFn_nil _ _, B2.out⟩
  case round =>
    obtain ⟨q, hq, rfl, ho, hb⟩ := hrel
    by_cases hlt : q < 3
    · have hix := run_index_layer T τ ν q hlt
      have CBk := Lib.hid (CB.out q hlt)
      have CLk := Lib.hid (CL.out q hlt)
      have hlen := FL_len b T lo q
      obtain ⟨p, hp⟩ : ∃ p, b q = p := ⟨_, rfl⟩
      rw [hp] at CBk
      have HFL : Hid (FL b T lo (q + 1) = if p = true then FL b T lo q ++ [⟨(q : Int) + 1, T q, lo q⟩] else FL b T lo q) := Lib.hid (by rw [FL, hp])
      clear hp
      generalize T q = tk at *
      generalize lo q = lk at *
      generalize τ q = tyk at *
      generalize ν q = vk at *
      generalize FL b T lo q = X at *
      have bo := Lib.hid (OwnFn.below ho ((Below.refl _ wr).alloc (Nat.le_refl _) (.cells #[.int .i64 tk, .iface tyk vk] 72 (0, 0))))
      have bb := Lib.hid (hb.alloc hb.size (.cells #[.int .i64 tk, .iface tyk vk] 72 (0, 0)))
      have bx := Lib.hid (Box.new wr [.int .i64 tk, .iface tyk vk] 72)
      clear ho hb
      go_wp2_with fail
      refine (CBk.out _).mono ?_
      rintro e w3 ⟨rfl, h3⟩
      have bo1 := Lib.hid (bo.out.below h3)
      have bb1 := Lib.hid (bb.out.trans (h3.mono bb.out.size))
      have bx1 := Lib.hid (bx.out.below h3)
      have c0 := bx1.out.2 0 _ rfl
      have c1 := bx1.out.2 1 _ rfl
      clear h3 bo bb bx
      cases p
      · go_wp2_with fail
        go_roundw
        case rel => exact ⟨q + 1, by omega, by go_num, by rw [HFL.out]; exact bo1.out, bb1.out⟩
        case measure => simp [intOf]; omega
      · go_wp2_with fail
        refine (CLk.out _).mono ?_
        rintro e w4 ⟨L, a0, cap0, rfl, ho4, h4⟩
        obtain ⟨gb, go, rfl, _, hcl⟩ := ho4.rd.2 (by simp)
        have hc4 := hcl 0 (by simp)
        simp only [Nat.add_zero, List.getD_cons_zero] at hc4
        have bo2 := Lib.hid (bo1.out.below h4)
        have bb2 := Lib.hid (bb1.out.trans (h4.mono bb1.out.size))
        have bx2 := Lib.hid (bx1.out.below h4)
        have c0' := bx2.out.2 0 _ rfl
        obtain ⟨m, hm⟩ : ∃ m, (lk :: L).length = m + 1 := ⟨L.length, rfl⟩
        rw [hm]
        clear h4 bo1 bb1 bx1 c0 c1 ho4 hcl hm
        have bs := bb2.out.size
        go_wp2_with (at_builtin; refine wpList_append_own _ rfl _ _ 36 rfl w.heap.size 40 i0 _ 3 24 Tryd.underlying36 hi hz0 hz1 hz2 rfl (by decide) _ _ _ rfl (World.ownsRow.alloc bo2.out _) ⟨w4.heap.size, 0, none⟩ 1 1 [.int .i64 ((q : Int) + 1), .int .i64 tk, .int .i64 lk] rfl rfl (cell_newF w4 [.int .i64 ((q : Int) + 1), .int .i64 tk, .int .i64 lk] 40) (by simp [Value.oneCell']) (by unfold maxLen; omega) (by omega) (by simp; omega) ?_; intro v' w5 hown' hgrow hnil)
        go_roundw
        case rel => exact ⟨q + 1, by omega, by go_num, app_fnd (F := ⟨(q : Int) + 1, tk, lk⟩) hown' (by have h_ := HFL.out; simpa using h_) rfl, (bb2.out.alloc bs _).grown hgrow (by simp; omega) (fun q hq => (World.ownsRow.lt bo2.out q hq).1)⟩
        case measure => simp [intOf]; omega
    · obtain rfl : q = 3 := by omega
      obtain ⟨a0, cap0, rfl⟩ := ho.slice
      have HO := Lib.hid ho
      have HB := Lib.hid hb
      clear ho hb
      go_wp2_with fail
      go_ret2
      exact ⟨a0, cap0, rfl, HO.out, HB.out⟩
/-- The findings of arms: the tincture of each layer, what is under it, and whether it breaks the rule. -/
def tk8 (x t t' : Int) : Nat → Int
  | 0 => x
  | 1 => t
  | _ => t'
def lo8 (f x : Int) : Nat → Int
  | 0 => f
  | 1 => x
  | _ => f
def bk8 (d f s x t t' : Int) : Nat → Bool
  | 0 => brkL x (tincL d f s)
  | 1 => brkL t [x]
  | _ => brkL t' (tincL d f s)
def FA (d f s x t t' : Int) : List Fnd := FL (bk8 d f s x t t') (tk8 x t t') (lo8 f x) 3
theorem tincL_head (d f s : Int) : ∃ L, tincL d f s = f :: L := by
  unfold tincL
  split
  · exact ⟨[], rfl⟩
  · exact ⟨[s], rfl⟩
theorem tincL_l8 (d f s : Int) : (tincL d f s).length ≤ 1000 := by unfold tincL; split <;> simp
def ty8 : Nat → TypeId
  | 0 => 25
  | 1 => 110
  | _ => 25
def nu8 (d l f s x : Int) : Nat → Value
  | 0 => .agg #[.int .i64 d, .int .i64 l, .int .i64 f, .int .i64 s]
  | 1 => .int .i64 x
  | _ => .agg #[.int .i64 d, .int .i64 l, .int .i64 f, .int .i64 s]
theorem layer_breaks (d l f s x t t' : Int) (h : FOk d l f s) (k : Nat) (_hk : k < 3) (W : World) :
    Calls Tryd.prog 38 #[.agg #[.int .i64 (tk8 x t t' k), .iface (ty8 k) (nu8 d l f s x k)]] W fun e w' => e = .returned (.bool (bk8 d f s x t t' k)) ∧ Below W.heap.size W w' := by
  match k with
  | 0 => exact breaks_any _ _ _ W (tincL_l8 d f s) fun W' _ => below_field _ d l f s W' h
  | 1 => exact breaks_any _ _ _ W (by simp) fun W' _ => below_band _ x W'
  | _ + 2 => exact breaks_any _ _ _ W (tincL_l8 d f s) fun W' _ => below_field _ d l f s W' h
theorem layer_below (d l f s x t t' : Int) (h : FOk d l f s) (k : Nat) (_hk : k < 3) (W : World) :
    Calls Tryd.prog 44 #[.agg #[.int .i64 (tk8 x t t' k), .iface (ty8 k) (nu8 d l f s x k)]] W fun e w' => ∃ L, AnsL W (lo8 f x k :: L) e w' := by
  obtain ⟨L, hL⟩ := tincL_head d f s
  match k with
  | 0 => exact (below_field _ d l f s W h).mono fun e w' h' => ⟨L, by rw [hL] at h'; exact h'⟩
  | 1 => exact (below_band _ x W).mono fun e w' h' => ⟨[], h'⟩
  | _ + 2 => exact (below_field _ d l f s W h).mono fun e w' h' => ⟨L, by rw [hL] at h'; exact h'⟩
theorem find_yes (d l f s o n x c k a t c' k' a' t' : Int) (w : World) (hr : aOkB d l f s o n x c k a t c' k' a' t' = true) (hF : FOk d l f s) (hA : AttsLie w) :
    Calls Tryd.prog 11 #[.agg #[.int .i64 d, .int .i64 l, .int .i64 f, .int .i64 s, .int .i64 o, .int .i64 n, .int .i64 x, .int .i64 c, .int .i64 k, .int .i64 a, .int .i64 t, .int .i64 c', .int .i64 k', .int .i64 a', .int .i64 t']] w (AnsFn w (FA d f s x t t') true) :=
  find_walk d l f s o n x c k a t c' k' a' t' (tk8 x t t') (lo8 f x) ty8 (nu8 d l f s x) (bk8 d f s x t t') w (fun W hb => validArms_impl d l f s o n x c k a t c' k' a' t' W true hr (hA.below hb)) (fun W => upper_any d l f s o n x c k a t c' k' a' t' W)
    (layer_breaks d l f s x t t' hF) (layer_below d l f s x t t' hF)
theorem find_impl (d l f s o n x c k a t c' k' a' t' : Int) (w : World) (r : Bool) (hr : aOkB d l f s o n x c k a t c' k' a' t' = r) (hF : r = true → FOk d l f s) (hA : AttsLie w) :
    Calls Tryd.prog 11 #[.agg #[.int .i64 d, .int .i64 l, .int .i64 f, .int .i64 s, .int .i64 o, .int .i64 n, .int .i64 x, .int .i64 c, .int .i64 k, .int .i64 a, .int .i64 t, .int .i64 c', .int .i64 k', .int .i64 a', .int .i64 t']] w (AnsFn w (if r = true then FA d f s x t t' else []) r) := by
  cases r
  · exact find_no d l f s o n x c k a t c' k' a' t' w hr hA
  · exact find_yes d l f s o n x c k a t c' k' a' t' w hr (hF rfl) hA
set_option linter.unusedSimpArgs false in
set_option maxRecDepth 100000 in
set_option maxHeartbeats 8000000 in
theorem keeps_impl (d l f s o n x c k a t c' k' a' t' : Int) (w : World) (X : List Fnd) (r : Bool) (hF : ∀ W, Below w.heap.size w W → Calls Tryd.prog 11 #[.agg #[.int .i64 d, .int .i64 l, .int .i64 f, .int .i64 s, .int .i64 o, .int .i64 n, .int .i64 x, .int .i64 c, .int .i64 k, .int .i64 a, .int .i64 t, .int .i64 c', .int .i64 k', .int .i64 a', .int .i64 t']] W (AnsFn W X r)) :
    Calls Tryd.prog 26 #[.agg #[.int .i64 d, .int .i64 l, .int .i64 f, .int .i64 s, .int .i64 o, .int .i64 n, .int .i64 x, .int .i64 c, .int .i64 k, .int .i64 a, .int .i64 t, .int .i64 c', .int .i64 k', .int .i64 a', .int .i64 t']] w fun e w' => e = .returned (.tuple #[.bool (r && X.isEmpty), .bool r]) ∧ Below w.heap.size w w' := by
  have CF := Lib.hid hF
  have B0 := Lib.hid ((Below.refl _ w).alloc (Nat.le_refl _) (.cells #[.int .i64 d, .int .i64 l, .int .i64 f, .int .i64 s, .int .i64 o, .int .i64 n, .int .i64 x, .int .i64 c, .int .i64 k, .int .i64 a, .int .i64 t, .int .i64 c', .int .i64 k', .int .i64 a', .int .i64 t'] 29 (0, 0)))
  have r0 := (BoxF.new w [.int .i64 d, .int .i64 l, .int .i64 f, .int .i64 s, .int .i64 o, .int .i64 n, .int .i64 x, .int .i64 c, .int .i64 k, .int .i64 a, .int .i64 t, .int .i64 c', .int .i64 k', .int .i64 a', .int .i64 t'] 29).range
  obtain ⟨n, hn⟩ : ∃ n, X.length = n := ⟨_, rfl⟩
  obtain ⟨z, hz⟩ : ∃ z, ((n : Int) == 0) = z := ⟨_, rfl⟩
  have HZ := Lib.hid (show X.isEmpty = z by rw [← hz, ← hn]; cases X <;> simp; omega)
  have HN := Lib.hid hn
  clear hF hn
  cases r
  all_goals
    go_enter Tryd.func26, Tryd.ntmps26
    go_wp2_with (with_reducible refine isList ?_; refine ld15 1 w.heap.size [.int .i64 d, .int .i64 l, .int .i64 f, .int .i64 s, .int .i64 o, .int .i64 n, .int .i64 x, .int .i64 c, .int .i64 k, .int .i64 a, .int .i64 t, .int .i64 c', .int .i64 k', .int .i64 a', .int .i64 t'] rfl rfl rfl rfl ?_ ?_; exact r0)
    refine (CF.out _ B0.out).mono ?_
    rintro e w1 ⟨a0, cap0, rfl, ho, h1⟩
    rw [HN.out]
    have B1 := Lib.hid (B0.out.trans (h1.mono B0.out.size))
    clear h1 ho r0 B0
    go_wp2_with fail
    go_ret2
    exact ⟨by rw [HZ.out] <;> simp, B1.out⟩
end Go.Proofs.YtmmbhglmafnfpabDoor
