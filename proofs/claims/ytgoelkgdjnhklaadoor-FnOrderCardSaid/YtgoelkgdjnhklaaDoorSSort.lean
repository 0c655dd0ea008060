/- Contract: the model's SortArms. -/
import Derived.Test.YtgoelkgdjnhklaaDoorArmBest
import Derived.Test.YtgoelkgdjnhklaaDoorKN
import Derived.Test.YtgoelkgdjnhklaaDoorSortMath
import Derived.Test.YtgoelkgdjnhklaaDoorKM
import Derived.Deep.AppendLies
import Derived.Deep.RegionHeld3
namespace Go.Proofs.YtgoelkgdjnhklaaDoor
open Go.RowKit

def Arm.text (A : Arm) : ByteArray := armsN A.d A.l A.f A.s A.o A.n A.x A.c A.k A.a A.t A.c' A.k' A.a' A.t'
/-- Is the text of the arms i smaller than that of the arms j? -/
def ltA (X : List Arm) (i j : Nat) : Bool := lessT (X.getD i default).text (X.getD j default).text
def sortL (X : List Arm) (n i : Nat) : List Int := (sortN (ltA X) n i).map (fun k : Nat => (k : Int))
theorem sortL_len (X : List Arm) (n i : Nat) : (sortL X n i).length = i := by unfold sortL; rw [List.length_map, sortN_len]
theorem sortL_at (X : List Arm) {n i j : Nat} (hi : i ≤ n) (hj : j < i) : ∃ q, q < i ∧ (sortN (ltA X) n i)[j]! = q ∧ (sortL X n i)[j]? = some (q : Int) := by
  have hl := sortN_len (ltA X) n i
  have h1 : (sortN (ltA X) n i)[j]? = some (sortN (ltA X) n i)[j] := List.getElem?_eq_getElem (by omega)
  refine ⟨(sortN (ltA X) n i)[j], sortN_lt _ hi _ (List.getElem_mem _), getB h1, ?_⟩
  unfold sortL
  rw [List.getElem?_map, h1]; rfl
theorem sortL_succ (X : List Arm) {n i : Nat} (h : i < n) : sortL X n (i + 1) = (sortL X n i).take (posP (ltA X) (sortN (ltA X) n i) i i) ++ (i : Int) :: (sortL X n i).drop (posP (ltA X) (sortN (ltA X) n i) i i) := by
  unfold sortL
  rw [sortN_succ _ h]
  unfold insP
  simp
theorem rowA {w W : World} {b o q : Nat} {A : Arm} (hb : Below w.heap.size w W) (hl : b < w.heap.size) (h : ∀ j z, A.ints[j]? = some z → w.cell? ⟨b, o + q * 15 + j, none⟩ = some (.int .i64 z)) : W.rangeAt b (o + q * 15) [.int .i64 A.d, .int .i64 A.l, .int .i64 A.f, .int .i64 A.s, .int .i64 A.o, .int .i64 A.n, .int .i64 A.x, .int .i64 A.c, .int .i64 A.k, .int .i64 A.a, .int .i64 A.t, .int .i64 A.c', .int .i64 A.k', .int .i64 A.a', .int .i64 A.t'] := by
  intro j v hv
  have h2 := fun z (hz : A.ints[j]? = some z) => (hb.cell (p := ⟨b, o + q * 15 + j, none⟩) hl).trans (h j z hz)
  have e : ([.int .i64 A.d, .int .i64 A.l, .int .i64 A.f, .int .i64 A.s, .int .i64 A.o, .int .i64 A.n, .int .i64 A.x, .int .i64 A.c, .int .i64 A.k, .int .i64 A.a, .int .i64 A.t, .int .i64 A.c', .int .i64 A.k', .int .i64 A.a', .int .i64 A.t'] : List Value)[j]? = (A.ints[j]?).map (Value.int .i64) := by
    rw [← List.getElem?_map]; rfl
  rw [e] at hv
  cases hz : A.ints[j]? with
  | none => rw [hz] at hv; cases hv
  | some z => rw [hz] at hv; cases hv; exact h2 z hz
theorem wp_append_none {o : Oper} {a : Act} {w : World} {K : Act → World → Prop} {Q : Exit → Act → World → Prop} (s x : Operand) (t : TypeId)
    (ho : o.op = .call { callee := .builtin .append, args := #[s, x], argTypes := #[t, t] }) (e : TypeId) (i : TypeInfo) (ht : Tryd.prog.underlying t = some (.slice e)) (hi : Tryd.prog.info? e = some i)
    (g off n cap : Nat) (hs : a.eval s = .slice (some ⟨g, off, none⟩) n cap) (ad : Addr) (m c : Nat) (hx : a.eval x = .slice (some ad) m c) (hm : m = 0) (hn : n ≤ cap)
    (h : K (a.put o.dst (.slice (some ⟨g, off, none⟩) n cap)) w) : o.wp Tryd.prog a w K Q := by
  subst hm
  have hrun := run_append_room_cells (P := Tryd.prog) (w := w) t o.type e i ht hi g off n cap ad 0 c [] (by simp) (fun j u hu => by simp at hu) (fun u hu => by cases hu) (by omega) (fun j hj => by simp at hj) (fun j hj => by simp at hj)
  unfold Oper.wp execOp
  simp only [ho, resolve, invoke, builtin, Sem.run_bind, Sem.run_pure, Result.andThen_ok, List.map_toArray, List.map_cons, List.map_nil, hs, hx, hrun]
  exact h
theorem ldO (s D off : Nat) (L : List Value) {ops : Array Oper} {rest : List Oper} {op : Oper} {a : Act} {W : World} {Q : Exit → Act → World → Prop} (hgd : op.guard = none) (ho : op.op = .load 37 (.tmp s)) (hx : a.eval (.tmp s) = .pointer (some ⟨D, off, none⟩)) (hl : L.length = 15) (hc : W.rangeAt D off L)
    (h : wpList Tryd.prog ops Q rest (a.put op.dst (.agg L.toArray)) W) : wpList Tryd.prog ops Q (op :: rest) a W :=
  wpList_load_mid hgd 37 _ ho D off hx L _ hc Tryd.underlying37 rfl (by rw [hl]; exact size29) h
theorem infoN : ∃ i, Tryd.prog.info? 3 = some i ∧ i.zero = some (.int .i64 0) ∧ i.size = 1 ∧ i.bytes = 8 := by
  have h : (Tryd.prog.info? 3).map (fun i => (i.zero, i.size, i.bytes)) = some (some (.int .i64 0), 1, 8) := by kernel_rfl
  obtain ⟨i, hi, he⟩ := Option.map_eq_some_iff.1 h
  simp only [Prod.mk.injEq] at he
  exact ⟨i, hi, he.1, he.2.1, he.2.2⟩
theorem ownI_cap {w : World} {B g n cap : Nat} {X : List Int} (h : OwnI w B (some ⟨g, 0, none⟩) n cap X) : n ≤ cap := by
  rcases h.2 with ⟨h1, _⟩ | ⟨g', cp, cur, h1, _, _, h4, _⟩
  · cases h1
  · cases h1; exact h4
theorem ownI_cap2 {w : World} {B g n cap : Nat} {xs : List Value} (h : w.ownsRow B 3 1 (.slice (some ⟨g, 0, none⟩) n cap) n xs) : n ≤ cap := by
  rcases h.2 with ⟨h1, _⟩ | ⟨g', cp, cur, h1, _, _, h4, _⟩
  · cases h1
  · cases h1; exact h4
theorem cell_newI (w : World) (v : Value) (t : TypeId) : (w.alloc (.cells #[v] t (0, 0))).cell? ⟨w.heap.size, 0, none⟩ = some v := (BoxF.new w [v] t).at 0
theorem add_at (g p j : Nat) : (⟨g, p, none⟩ : Addr).add j = ⟨g, p + j, none⟩ := by unfold Addr.add; split <;> simp_all
theorem oneI {L : List Int} {u : Value} (h : u ∈ L.map (Value.int .i64)) : u.oneCell' = true := by
  obtain ⟨z, _, rfl⟩ := List.mem_map.1 h
  rfl
theorem newsT {Wq W : World} {N g0 i k : Nat} {L : List Int} (hO : ∀ W, Below N Wq W → ∀ p, p < i → W.cell? ⟨g0, p, none⟩ = (L[p]?).map (Value.int .i64)) (hb : Below N Wq W) (_hL : L.length = i) (hk : k ≤ i) {j : Nat} {u : Value} (hu : ((L.take k).map (Value.int .i64))[j]? = some u) : W.cell? ⟨g0, 0 + j, none⟩ = some u := by
  rw [List.getElem?_map, List.getElem?_take] at hu
  split at hu
  · rename_i hj
    rw [Nat.zero_add, hO W hb j (by omega), hu]
  · cases hu
theorem newsD {Wq W : World} {N g0 i k : Nat} {L : List Int} (hO : ∀ W, Below N Wq W → ∀ p, p < i → W.cell? ⟨g0, p, none⟩ = (L[p]?).map (Value.int .i64)) (hb : Below N Wq W) (hL : L.length = i) {j : Nat} {u : Value} (hu : ((L.drop k).map (Value.int .i64))[j]? = some u) : W.cell? ⟨g0, k + j, none⟩ = some u := by
  rw [List.getElem?_map, List.getElem?_drop] at hu
  have hlt : k + j < L.length := by
    cases hx : L[k + j]? with
    | none => rw [hx] at hu; cases hu
    | some z => exact (List.getElem?_eq_some_iff.1 hx).1
  rw [hO W hb (k + j) (by omega), hu]
theorem newsO {W : World} {h6 j : Nat} {v u : Value} (hc : W.cell? ⟨h6, 0, none⟩ = some v) (hu : [v][j]? = some u) : W.cell? ⟨h6, 0 + j, none⟩ = some u := by
  cases j with
  | zero => cases hu; exact hc
  | succ j => simp at hu
theorem ownN {hc n c q N : Nat} (hq : (Value.slice (some ⟨hc, 0, none⟩) n c).ownBlock = some q) (h : N ≤ hc) : N ≤ q := by
  have e : hc = q := by simpa [Value.ownBlock] using hq
  omega
theorem ownNe {h6 hc n c : Nat} (h : h6 ≠ hc) : some h6 ≠ (Value.slice (some ⟨hc, 0, none⟩) n c).ownBlock := by simpa [Value.ownBlock] using h
theorem nehat {h6 hc gn H : Nat} (h1 : h6 < H) (h2 : h6 ≠ hc) {m c : Nat} (hat : (Value.slice (some ⟨hc, 0, none⟩) m c).ownBlock = some gn ∨ gn = H) : h6 ≠ gn := by
  rcases hat with h | h
  · have e : hc = gn := by simpa [Value.ownBlock] using h
    omega
  · omega
theorem ownI_re {W : World} {N N' g m m' c : Nat} {xs ys : List Value} (o : W.ownsRow N 3 1 (.slice (some ⟨g, 0, none⟩) m c) m xs) (hN : N' ≤ N) (hm : m = m') (hx : xs = ys) : W.ownsRow N' 3 1 (.slice (some ⟨g, 0, none⟩) m' c) m' ys := by
  subst hm; subst hx
  refine ⟨o.1, ?_⟩
  rcases o.2 with h | ⟨g', cp, cur, e, hb, r⟩
  · exact .inl h
  · exact .inr ⟨g', cp, cur, e, Nat.le_trans hN hb, r⟩
theorem gtT : ∀ x y : List UInt8, (!Op.bytesLess y x && !(y == x)) = Op.bytesLess x y
  | [], [] => by rfl
  | [], _ :: _ => by rfl
  | _ :: _, [] => by rfl
  | a :: x, b :: y => by
    have ih := gtT x y
    rw [Op.bytesLess, Op.bytesLess, List.cons_beq_cons]
    by_cases h : a = b
    · subst h
      have h0 : ¬ a < a := UInt8.lt_irrefl a
      simp only [h0, decide_false, beq_self_eq_true, Bool.true_and, Bool.false_or]
      exact ih
    · have h' : ¬ b = a := fun e => h e.symm
      have e1 : (b == a) = false := by simp [h']
      have e2 : (a == b) = false := by simp [h]
      rw [e1, e2]
      simp only [Bool.false_and, Bool.or_false, Bool.not_false, Bool.and_true]
      rcases UInt8.lt_or_lt_of_ne h with g | g
      · have g' : ¬ b < a := UInt8.lt_asymm g
        simp [g, g']
      · have g' : ¬ a < b := UInt8.lt_asymm g
        simp [g, g']
/-- The row of numbers is there, and all that was there. -/
def KSo (w : World) (X : List Arm) (n i g0 cap0 : Nat) (W : World) : Prop := OwnI W w.heap.size (some ⟨g0, 0, none⟩) i cap0 (sortL X n i) ∧ Below w.heap.size w W
theorem KSo.below {w W W' : World} {X : List Arm} {n i g0 cap0 : Nat} (h : KSo w X n i g0 cap0 W) (hb : Below W.heap.size W W') : KSo w X n i g0 cap0 W' := ⟨h.1.below hb, h.2.trans (hb.mono h.2.size)⟩
def SS (w : World) (X : List Arm) (n b o q i g0 cap0 : Nat) (W : World) : Prop := KSo w X n i g0 cap0 W ∧ (b < w.heap.size ∧ (o = o ∧ q = q))
theorem SS.ks {w W : World} {X : List Arm} {n b o q i g0 cap0 : Nat} (h : SS w X n b o q i g0 cap0 W) : KSo w X n i g0 cap0 W := h.1
theorem SS.below {w W W' : World} {X : List Arm} {n b o q i g0 cap0 : Nat} (h : SS w X n b o q i g0 cap0 W) (hb : Below W.heap.size W W') : SS w X n b o q i g0 cap0 W' := ⟨h.1.below hb, h.2⟩
theorem SS.out_at {w W : World} {X : List Arm} {n b o q i g0 cap0 j : Nat} (h : SS w X n b o q i g0 cap0 W) (hj : j < i) (hq : (sortL X n i)[j]? = some (q : Int)) : W.cell? ⟨g0, j, none⟩ = some (.int .i64 (q : Int)) := by
  rw [World.ownsRow.cellAt h.1.1 j (by omega), List.getElem?_map, hq]; rfl
theorem SS.rowB {w W : World} {X : List Arm} {n b o q i g0 cap0 : Nat} {B : Arm} (h : SS w X n b o q i g0 cap0 W) (hc : ∀ k A, X[k]? = some A → ∀ j z, A.ints[j]? = some z → w.cell? ⟨b, o + k * 15 + j, none⟩ = some (.int .i64 z)) (hB : X[q]? = some B) : W.rangeAt b (o + q * 15) [.int .i64 B.d, .int .i64 B.l, .int .i64 B.f, .int .i64 B.s, .int .i64 B.o, .int .i64 B.n, .int .i64 B.x, .int .i64 B.c, .int .i64 B.k, .int .i64 B.a, .int .i64 B.t, .int .i64 B.c', .int .i64 B.k', .int .i64 B.a', .int .i64 B.t'] := rowA h.1.2 h.2.1 (hc q B hB)
theorem SS.rowA {w W : World} {X : List Arm} {n b o q i g0 cap0 : Nat} {B : Arm} (h : SS w X n b o q i g0 cap0 W) (hc : ∀ k A, X[k]? = some A → ∀ j z, A.ints[j]? = some z → w.cell? ⟨b, o + k * 15 + j, none⟩ = some (.int .i64 z)) (hB : X[i]? = some B) : W.rangeAt b (o + i * 15) [.int .i64 B.d, .int .i64 B.l, .int .i64 B.f, .int .i64 B.s, .int .i64 B.o, .int .i64 B.n, .int .i64 B.x, .int .i64 B.c, .int .i64 B.k, .int .i64 B.a, .int .i64 B.t, .int .i64 B.c', .int .i64 B.k', .int .i64 B.a', .int .i64 B.t'] := Go.Proofs.YtgoelkgdjnhklaaDoor.rowA h.1.2 h.2.1 (hc i B hB)
set_option maxRecDepth 100000 in
set_option maxHeartbeats 8000000 in
theorem sortS_big (n : Nat) (a : Option Addr) (c : Nat) (w : World) (hn : 20 < n) :
    Calls Tryd.prog 17 #[.slice a n c] w (Ans w [] false) := by
  have e1 : decide ((20 : Int) < (n : Int)) = true := by simp; omega
  go_enter Tryd.func17, Tryd.ntmps17
  go_wp2_with fail
  go_ret2
  exact ans_lit w false [] (by simp)
theorem sortS_none (c : Nat) (a : Option Addr) (w : World) :
    Calls Tryd.prog 17 #[.slice a 0 c] w (Ans w [] true) := by
  go_enter Tryd.func17, Tryd.ntmps17
  go_wp2_with fail
  refine wp_loop_rounds 1 ?_
  rw [rounds_succ]
  go_wp2_with fail
  go_ret2
  exact ans_lit w true [] (by simp)
set_option linter.unusedSimpArgs false in
set_option maxRecDepth 100000 in
set_option maxHeartbeats 8000000 in
theorem sortS_loop (X : List Arm) (n : Nat) (a : Option Addr) (c : Nat) (w : World) (h : RdA w a n X) (h1 : 0 < n) (h2 : n ≤ 20) (r : Bool) (hr : X.all Arm.ok = r) :
    Calls Tryd.prog 17 #[.slice a n c] w (Ans w (if r = true then sortL X n n else []) r) := by
  obtain ⟨b, o, rfl, hbw, hc⟩ := h.2 h1
  have HL := Lib.hid h.1
  have HC := Lib.hid hc
  have HR := Lib.hid hr
  have e1 : decide ((20 : Int) < (n : Int)) = false := by simp; omega
  obtain ⟨LL, hLL_⟩ : ∃ L, (if r = true then sortL X n n else []) = L := ⟨_, rfl⟩
  rw [hLL_]
  have HLL := Lib.hid hLL_
  clear h hc hr hLL_
  go_enter Tryd.func17, Tryd.ntmps17
  go_wp2_with fail
  go_loopw [4, 5] (fun v iv wr => ∃ i g0 cap0 : Nat, i ≤ n ∧ iv = .int .i64 (i : Int) ∧ v = .slice (some ⟨g0, 0, none⟩) i cap0 ∧ Hid (OwnI wr w.heap.size (some ⟨g0, 0, none⟩) i cap0 (sortL X n i)) ∧ Hid ((X.take i).all Arm.ok = true) ∧ Hid (Below w.heap.size w wr)) (fun _ iv _ => n - (Lib.intOf iv).toNat)
  case atStart => exact ⟨0, w.heap.size, 0, by omega, rfl, rfl, Lib.hid (ownI_lit w _ (Nat.le_refl _) [] (by simp)), Lib.hid (by simp), Lib.hid ((Below.refl _ _).alloc (Nat.le_refl _) _)⟩
  case round =>
    obtain ⟨i, g0, cap0, hin, rfl, rfl, HOW, HT, HB⟩ := hrel
    by_cases hlt : i < n
    · obtain ⟨A, hA, hm⟩ := atA_of_lt HL.out hlt
      have hAq := hA
      have rA := rowA (q := i) HB.out hbw (HC.out i A hA)
      obtain ⟨p, hp⟩ : ∃ p, A.ok = p := ⟨_, rfl⟩
      have CP := Lib.hid (fun W => l5Good_any A.d A.l A.f A.s A.o A.n A.x A.c A.k A.a A.t A.c' A.k' A.a' A.t' W p hp)
      have HP := Lib.hid hp
      clear hp hm
      go_wp2_with (with_reducible refine isList ?_; refine ldO 20 b (o + i * 15) [.int .i64 A.d, .int .i64 A.l, .int .i64 A.f, .int .i64 A.s, .int .i64 A.o, .int .i64 A.n, .int .i64 A.x, .int .i64 A.c, .int .i64 A.k, .int .i64 A.a, .int .i64 A.t, .int .i64 A.c', .int .i64 A.k', .int .i64 A.a', .int .i64 A.t'] rfl rfl rfl rfl ?_ ?_; exact rA)
      clear rA
      refine (CP.out _).mono ?_
      rintro e w1 ⟨rfl, g1⟩
      have KQ1 := Lib.hid (show KSo w X n i g0 cap0 w1 from ⟨HOW.out.below g1, HB.out.trans (g1.mono HB.out.size)⟩)
      clear g1 HOW HB CP
      cases p
      · obtain rfl : r = false := HR.out.symm.trans (okA_bad hA HP.out)
        obtain rfl : LL = [] := HLL.out.symm.trans (if_neg (by decide))
        go_wp2_with fail
        go_ret2
        exact ⟨some ⟨w1.heap.size, 0, none⟩, 0, rfl, ownI_lit w1 _ KQ1.out.2.size [] (by simp), KQ1.out.2.alloc KQ1.out.2.size _⟩
      · have HT2 : Hid ((X.take (i + 1)).all Arm.ok = true) := Lib.hid (okA_succ hA HT.out HP.out)
        go_wp2_with fail
        go_loopw [6] (fun kv wr2 => ∃ k : Nat, k ≤ i ∧ kv = .int .i64 (k : Int) ∧ Hid (posP (ltA X) (sortN (ltA X) n i) i k = posP (ltA X) (sortN (ltA X) n i) i i) ∧ Hid (KSo w X n i g0 cap0 wr2)) (fun kv _ => (Lib.intOf kv).toNat)
        case atStart => exact ⟨i, Nat.le_refl _, rfl, Lib.hid rfl, KQ1⟩
        case round =>
          obtain ⟨k, hk, rfl, HKP0, KQ0⟩ := hrel
          rcases Nat.eq_zero_or_pos k with hk0 | hk0
          · subst hk0
            have HKP := Lib.hid HKP0.out.symm
            rw [show posP (ltA X) (sortN (ltA X) n i) i 0 = 0 by rfl] at HKP
            clear HKP0 hk
            rw [show ((0 : Nat) : Int) = 0 by rfl]
            go_upto_region 10 with fail
            have hS0 := KQ0.out.below (Below.refl _ _).drew
            refine wp_region_noPanic ?_
            refine wp_region_held_drew (S := fun W => KSo w X n i g0 cap0 W) (by kernel_rfl) hS0 (fun hHeld => ?_)
            clear hS0
            generalize wr.drew = Wd at *
            refine wpAnyH_take (i := 0) (oi := { dst := some 27, op := _, type := _, pos := _, after := _, guard := _ }) (v := ?_) rfl (by kernel_rfl) (by kernel_rfl) (by kernel_rfl) (fun _ _ _ h => h) (Or.inl ⟨by rfl, ?_⟩) hHeld ?_
            rotate_left
            · (intro w hSw; clear hSw; go_simp; first | done | with_reducible rfl | rfl | simp)
            set_option linter.unusedSimpArgs false in try simp only [Act.put, List.setIfInBounds_toArray, List.set_cons_zero, List.set_cons_succ]
            refine wpAnyH_take (i := 1) (oi := { dst := some 28, op := _, type := _, pos := _, after := _, guard := _ }) (v := .bool false) rfl (by kernel_rfl) (by kernel_rfl) (by kernel_rfl) (fun _ _ _ h => h) (Or.inl ⟨by rfl, ?_⟩) hHeld ?_
            · (intro w hSw; clear hSw; go_simp; first | done | with_reducible rfl | rfl | simp)
            set_option linter.unusedSimpArgs false in try simp only [Act.put, List.setIfInBounds_toArray, List.set_cons_zero, List.set_cons_succ]
            refine wpAnyH_take (i := 2) (oi := { dst := some 29, op := _, type := _, pos := _, after := _, guard := _ }) (v := .bool false) rfl (by kernel_rfl) (by kernel_rfl) (by kernel_rfl) (fun _ _ _ h => h) (Or.inl ⟨by rfl, ?_⟩) hHeld ?_
            · (intro w hSw; clear hSw; go_simp; first | done | with_reducible rfl | rfl | simp)
            set_option linter.unusedSimpArgs false in try simp only [Act.put, List.setIfInBounds_toArray, List.set_cons_zero, List.set_cons_succ]
            refine wpAnyH_take (i := 3) (oi := { dst := some 30, op := _, type := _, pos := _, after := _, guard := _ }) (v := undef) rfl (by kernel_rfl) (by kernel_rfl) (by kernel_rfl) (fun _ _ _ h => h) (Or.inr ⟨by rfl, rfl⟩) hHeld ?_
            set_option linter.unusedSimpArgs false in try simp only [Act.put, List.setIfInBounds_toArray, List.set_cons_zero, List.set_cons_succ]
            refine wpAnyH_take (i := 4) (oi := { dst := some 31, op := _, type := _, pos := _, after := _, guard := _ }) (v := undef) rfl (by kernel_rfl) (by kernel_rfl) (by kernel_rfl) (fun _ _ _ h => h) (Or.inr ⟨by rfl, rfl⟩) hHeld ?_
            set_option linter.unusedSimpArgs false in try simp only [Act.put, List.setIfInBounds_toArray, List.set_cons_zero, List.set_cons_succ]
            refine wpAnyH_take (i := 5) (oi := { dst := some 32, op := _, type := _, pos := _, after := _, guard := _ }) (v := undef) rfl (by kernel_rfl) (by kernel_rfl) (by kernel_rfl) (fun _ _ _ h => h) (Or.inr ⟨by rfl, rfl⟩) hHeld ?_
            set_option linter.unusedSimpArgs false in try simp only [Act.put, List.setIfInBounds_toArray, List.set_cons_zero, List.set_cons_succ]
            refine wpAnyH_take (i := 6) (oi := { dst := some 33, op := _, type := _, pos := _, after := _, guard := _ }) (v := undef) rfl (by kernel_rfl) (by kernel_rfl) (by kernel_rfl) (fun _ _ _ h => h) (Or.inr ⟨by rfl, rfl⟩) hHeld ?_
            set_option linter.unusedSimpArgs false in try simp only [Act.put, List.setIfInBounds_toArray, List.set_cons_zero, List.set_cons_succ]
            refine wpAnyH_take (i := 7) (oi := { dst := some 34, op := _, type := _, pos := _, after := _, guard := _ }) (v := undef) rfl (by kernel_rfl) (by kernel_rfl) (by kernel_rfl) (fun _ _ _ h => h) (Or.inr ⟨by rfl, rfl⟩) hHeld ?_
            set_option linter.unusedSimpArgs false in try simp only [Act.put, List.setIfInBounds_toArray, List.set_cons_zero, List.set_cons_succ]
            refine wpAnyH_take (i := 8) (oi := { dst := some 35, op := _, type := _, pos := _, after := _, guard := _ }) (v := undef) rfl (by kernel_rfl) (by kernel_rfl) (by kernel_rfl) (fun _ _ _ h => h) (Or.inr ⟨by rfl, rfl⟩) hHeld ?_
            set_option linter.unusedSimpArgs false in try simp only [Act.put, List.setIfInBounds_toArray, List.set_cons_zero, List.set_cons_succ]
            refine wpAnyH_take (i := 9) (oi := { dst := some 36, op := _, type := _, pos := _, after := _, guard := _ }) (v := undef) rfl (by kernel_rfl) (by kernel_rfl) (by kernel_rfl) (fun _ _ _ h => h) (Or.inr ⟨by rfl, rfl⟩) hHeld ?_
            set_option linter.unusedSimpArgs false in try simp only [Act.put, List.setIfInBounds_toArray, List.set_cons_zero, List.set_cons_succ]
            refine wpAnyH_take (i := 10) (oi := { dst := some 37, op := _, type := _, pos := _, after := _, guard := _ }) (v := undef) rfl (by kernel_rfl) (by kernel_rfl) (by kernel_rfl) (fun _ _ _ h => h) (Or.inr ⟨by rfl, rfl⟩) hHeld ?_
            set_option linter.unusedSimpArgs false in try simp only [Act.put, List.setIfInBounds_toArray, List.set_cons_zero, List.set_cons_succ]
            refine wpAnyH_take (i := 11) (oi := { dst := some 38, op := _, type := _, pos := _, after := _, guard := _ }) (v := undef) rfl (by kernel_rfl) (by kernel_rfl) (by kernel_rfl) (fun _ _ _ h => h) (Or.inr ⟨by rfl, rfl⟩) hHeld ?_
            set_option linter.unusedSimpArgs false in try simp only [Act.put, List.setIfInBounds_toArray, List.set_cons_zero, List.set_cons_succ]
            refine wpAnyH_take (i := 12) (oi := { dst := some 39, op := _, type := _, pos := _, after := _, guard := _ }) (v := undef) rfl (by kernel_rfl) (by kernel_rfl) (by kernel_rfl) (fun _ _ _ h => h) (Or.inr ⟨by rfl, rfl⟩) hHeld ?_
            set_option linter.unusedSimpArgs false in try simp only [Act.put, List.setIfInBounds_toArray, List.set_cons_zero, List.set_cons_succ]
            refine wpAnyH_take (i := 13) (oi := { dst := some 40, op := _, type := _, pos := _, after := _, guard := _ }) (v := undef) rfl (by kernel_rfl) (by kernel_rfl) (by kernel_rfl) (fun _ _ _ h => h) (Or.inr ⟨by rfl, rfl⟩) hHeld ?_
            set_option linter.unusedSimpArgs false in try simp only [Act.put, List.setIfInBounds_toArray, List.set_cons_zero, List.set_cons_succ]
            refine wpAnyH_take (i := 14) (oi := { dst := some 41, op := _, type := _, pos := _, after := _, guard := _ }) (v := undef) rfl (by kernel_rfl) (by kernel_rfl) (by kernel_rfl) (fun _ _ _ h => h) (Or.inr ⟨by rfl, rfl⟩) hHeld ?_
            set_option linter.unusedSimpArgs false in try simp only [Act.put, List.setIfInBounds_toArray, List.set_cons_zero, List.set_cons_succ]
            refine wpAnyH_take (i := 15) (oi := { dst := some 42, op := _, type := _, pos := _, after := _, guard := _ }) (v := undef) rfl (by kernel_rfl) (by kernel_rfl) (by kernel_rfl) (fun _ _ _ h => h) (Or.inr ⟨by rfl, rfl⟩) hHeld ?_
            set_option linter.unusedSimpArgs false in try simp only [Act.put, List.setIfInBounds_toArray, List.set_cons_zero, List.set_cons_succ]
            refine wpAnyH_take (i := 16) (oi := { dst := some 43, op := _, type := _, pos := _, after := _, guard := _ }) (v := undef) rfl (by kernel_rfl) (by kernel_rfl) (by kernel_rfl) (fun _ _ _ h => h) (Or.inr ⟨by rfl, rfl⟩) hHeld ?_
            set_option linter.unusedSimpArgs false in try simp only [Act.put, List.setIfInBounds_toArray, List.set_cons_zero, List.set_cons_succ]
            refine wpAnyH_take (i := 17) (oi := { dst := some 44, op := _, type := _, pos := _, after := _, guard := _ }) (v := undef) rfl (by kernel_rfl) (by kernel_rfl) (by kernel_rfl) (fun _ _ _ h => h) (Or.inr ⟨by rfl, rfl⟩) hHeld ?_
            set_option linter.unusedSimpArgs false in try simp only [Act.put, List.setIfInBounds_toArray, List.set_cons_zero, List.set_cons_succ]
            refine wpAnyH_take (i := 18) (oi := { dst := some 45, op := _, type := _, pos := _, after := _, guard := _ }) (v := .bool false) rfl (by kernel_rfl) (by kernel_rfl) (by kernel_rfl) (fun _ _ _ h => h) (Or.inl ⟨by rfl, ?_⟩) hHeld ?_
            · (intro w hSw; clear hSw; go_simp; first | done | with_reducible rfl | rfl | simp)
            set_option linter.unusedSimpArgs false in try simp only [Act.put, List.setIfInBounds_toArray, List.set_cons_zero, List.set_cons_succ]
            refine wpAnyH_done (by kernel_rfl) ?_ _
            refine NoPanic.normal ?_
            have KQ := Lib.hid hHeld
            clear hHeld KQ0
            go_wp2_with fail
            rcases Nat.lt_or_ge 0 i with hi0 | hi0
            · skip
              obtain ⟨N, hN⟩ : ∃ N, N = Wd.heap.size := ⟨_, rfl⟩
              have hg0N : g0 < N := by have := (World.ownsRow.lt KQ.out.1 g0 rfl).2; omega
              have hwN : w.heap.size ≤ N := by have := KQ.out.2.size; omega
              have HO := Lib.hid (fun W (hb : Below N Wd W) p (hp : p < i) => (show W.cell? ⟨g0, p, none⟩ = ((sortL X n i)[p]?).map (Value.int .i64) by
                rw [hb.cell (p := ⟨g0, p, none⟩) hg0N, World.ownsRow.cellAt KQ.out.1 p (by omega), List.getElem?_map]))
              have hLL := sortL_len X n i
              have hcap : i ≤ cap0 := ownI_cap KQ.out.1
              obtain ⟨i0, hi, hz0, hz1, hz2⟩ := infoN
              have a1 : (0 : Int) ≤ (cap0 : Int) := by omega
              have a2 : (0 : Int) ≤ (0 : Int) := by omega
              have a3 : (0 : Int) ≤ (i : Int) := by omega
              have a4 : 0 ≤ i := by omega
              have a5 : 0 ≤ cap0 := by omega
              have a6 : ((i : Int) - (0 : Int)).toNat = i - 0 := by omega
              have a7 : (0 : Int).toNat = 0 := by omega
              have a8 : ((cap0 : Int) - (0 : Int)).toNat = cap0 - 0 := by omega
              go_upto_region 12 with fail
              refine wp_region_noPanic ?_
              refine wp_region_held_drew (S := fun W => Below N Wd W) (by kernel_rfl) (by rw [hN]; exact (Below.refl _ _).drew) (fun hHeld => ?_)
              generalize Wd.drew = We at *
              refine wpAnyH_take (i := 1) (oi := { dst := some 49, op := _, type := _, pos := _, after := _, guard := _ }) (v := ?_) rfl (by kernel_rfl) (by kernel_rfl) (by kernel_rfl) (fun _ _ _ h => h) (Or.inl ⟨by rfl, ?_⟩) hHeld ?_
              rotate_left
              · (intro w hSw; clear hSw; go_simp; first | done | with_reducible rfl | rfl | simp)
              set_option linter.unusedSimpArgs false in try simp only [Act.put, List.setIfInBounds_toArray, List.set_cons_zero, List.set_cons_succ]
              refine wpAnyH_take (i := 2) (oi := { dst := some 50, op := _, type := _, pos := _, after := _, guard := _ }) (v := ?_) rfl (by kernel_rfl) (by kernel_rfl) (by kernel_rfl) (fun _ _ _ h => h) (Or.inl ⟨by rfl, ?_⟩) hHeld ?_
              rotate_left
              · (intro w hSw; clear hSw; go_simp; first | done | with_reducible rfl | rfl | simp)
              set_option linter.unusedSimpArgs false in try simp only [Act.put, List.setIfInBounds_toArray, List.set_cons_zero, List.set_cons_succ]
              refine wpAnyH_take (i := 3) (oi := { dst := some 51, op := _, type := _, pos := _, after := _, guard := _ }) (v := .slice (some ⟨g0, 0, none⟩) 0 cap0) rfl (by kernel_rfl) (by kernel_rfl) (by kernel_rfl) (fun _ _ _ h => h) (Or.inl ⟨by rfl, ?_⟩) hHeld ?_
              · (intro w hSw; clear hSw; go_simp; first | done | with_reducible rfl | rfl | simp)
              set_option linter.unusedSimpArgs false in try simp only [Act.put, List.setIfInBounds_toArray, List.set_cons_zero, List.set_cons_succ]
              refine wpAnyH_take (i := 5) (oi := { dst := some 53, op := _, type := _, pos := _, after := _, guard := _ }) (v := ?_) rfl (by kernel_rfl) (by kernel_rfl) (by kernel_rfl) (fun _ _ _ h => h) (Or.inl ⟨by rfl, ?_⟩) hHeld ?_
              rotate_left
              · (intro w hSw; clear hSw; go_simp; first | done | with_reducible rfl | rfl | simp)
              set_option linter.unusedSimpArgs false in try simp only [Act.put, List.setIfInBounds_toArray, List.set_cons_zero, List.set_cons_succ]
              refine wpAnyH_take (i := 8) (oi := { dst := some 56, op := _, type := _, pos := _, after := _, guard := _ }) (v := ?_) rfl (by kernel_rfl) (by kernel_rfl) (by kernel_rfl) (fun _ _ _ h => h) (Or.inl ⟨by rfl, ?_⟩) hHeld ?_
              rotate_left
              · (intro w hSw; clear hSw; go_simp; first | done | with_reducible rfl | rfl | simp)
              set_option linter.unusedSimpArgs false in try simp only [Act.put, List.setIfInBounds_toArray, List.set_cons_zero, List.set_cons_succ]
              refine wpAnyH_take (i := 9) (oi := { dst := some 57, op := _, type := _, pos := _, after := _, guard := _ }) (v := ?_) rfl (by kernel_rfl) (by kernel_rfl) (by kernel_rfl) (fun _ _ _ h => h) (Or.inl ⟨by rfl, ?_⟩) hHeld ?_
              rotate_left
              · (intro w hSw; clear hSw; go_simp; first | done | with_reducible rfl | rfl | simp)
              set_option linter.unusedSimpArgs false in try simp only [Act.put, List.setIfInBounds_toArray, List.set_cons_zero, List.set_cons_succ]
              refine wpAnyH_take (i := 10) (oi := { dst := some 58, op := _, type := _, pos := _, after := _, guard := _ }) (v := .slice (some ⟨g0, 0, none⟩) (i - 0) (cap0 - 0)) rfl (by kernel_rfl) (by kernel_rfl) (by kernel_rfl) (fun _ _ _ h => h) (Or.inl ⟨by rfl, ?_⟩) hHeld ?_
              · (intro w hSw; clear hSw; go_simp; first | done | with_reducible rfl | rfl | omega | simp)
              set_option linter.unusedSimpArgs false in try simp only [Act.put, List.setIfInBounds_toArray, List.set_cons_zero, List.set_cons_succ]
              refine wpAnyH_ready (rs := [0, 6]) (by kernel_rfl) (by simp) ?_
              refine AllReadyH.cons rfl (fun K hK => ?_) ?_
              · try rw [if_pos (by rfl)]
                go_simp
                obtain ⟨hc, hhc⟩ : ∃ h, h = We.heap.size := ⟨_, rfl⟩
                have OWN := Lib.hid (show (We.alloc (.cells #[] 3 (0, 0))).ownsRow N 3 1 (.slice (some ⟨hc, 0, none⟩) 0 0) 0 [] by rw [hhc]; exact World.ownsRow_lit We #[] 0 (Nat.le_trans (Nat.le_of_eq hN) hHeld.size) (by unfold maxLen; omega) rfl)
                have hb := hHeld.alloc (Nat.le_trans (Nat.le_of_eq hN) hHeld.size) (.cells #[] 3 (0, 0))
                rw [← hhc]
                clear hhc
                refine hK.out _ _ hb (fun hHeld => ?_)
                clear hK K hb
                set_option linter.unusedSimpArgs false in try simp only [Act.put, List.setIfInBounds_toArray, List.set_cons_zero, List.set_cons_succ]
                generalize (We.alloc (.cells #[] 3 (0, 0))) = V15 at *
                refine wpAnyH_ready (rs := [4, 6]) (by kernel_rfl) (by simp) ?_
                refine AllReadyH.cons rfl (fun K hK => ?_) ?_
                · try rw [if_pos (by rfl)]
                  refine wp_append_none (.tmp 48) (.tmp 51) 26 rfl 3 i0 Tryd.underlying26 hi hc 0 _ _ rfl ⟨g0, 0, none⟩ 0 cap0 (by first | rfl | (simp [Act.eval, Act.put]; done) | (simp [Act.eval, Act.put]; omega)) (by omega) (ownI_cap2 OWN.out) ?_
                  have hb := hHeld
                  refine hK.out _ _ hb (fun hHeld => ?_)
                  clear hK K hb
                  set_option linter.unusedSimpArgs false in try simp only [Act.put, List.setIfInBounds_toArray, List.set_cons_zero, List.set_cons_succ]
                  refine wpAnyH_ready (rs := [6]) (by kernel_rfl) (by simp) ?_
                  refine AllReadyH.cons rfl (fun K hK => ?_) ?_
                  · try rw [if_pos (by rfl)]
                    go_simp
                    obtain ⟨h6, hh6⟩ : ∃ h, h = V15.heap.size := ⟨_, rfl⟩
                    have C6 := Lib.hid (show (V15.alloc (.cells #[.int .i64 (i : Int)] 3 (0, 0))).cell? ⟨h6, 0, none⟩ = some (.int .i64 (i : Int)) ∧ h6 < (V15.alloc (.cells #[.int .i64 (i : Int)] 3 (0, 0))).heap.size ∧ N ≤ h6 from ⟨by rw [hh6]; exact cell_newI V15 _ _, by rw [hh6]; simp, by rw [hh6]; exact (Nat.le_trans (Nat.le_of_eq hN) hHeld.size)⟩)
                    have NE := Lib.hid (show h6 ≠ hc by have := (World.ownsRow.lt OWN.out hc rfl).2; omega)
                    have OWNb := Lib.hid (OWN.out.alloc (.cells #[.int .i64 (i : Int)] 3 (0, 0)))
                    clear OWN
                    have OWN := OWNb
                    clear OWNb
                    have hb := hHeld.alloc (Nat.le_trans (Nat.le_of_eq hN) hHeld.size) (.cells #[.int .i64 (i : Int)] 3 (0, 0))
                    rw [← hh6]
                    clear hh6
                    refine hK.out _ _ hb (fun hHeld => ?_)
                    clear hK K hb
                    set_option linter.unusedSimpArgs false in try simp only [Act.put, List.setIfInBounds_toArray, List.set_cons_zero, List.set_cons_succ]
                    generalize (V15.alloc (.cells #[.int .i64 (i : Int)] 3 (0, 0))) = V17 at *
                    refine wpAnyH_ready (rs := [7]) (by kernel_rfl) (by simp) ?_
                    refine AllReadyH.cons rfl (fun K hK => ?_) ?_
                    · try rw [if_pos (by rfl)]
                      refine wp_append_lies _ (.tmp 52) (.tmp 54) 26 rfl N 3 i0 (.int .i64 0) 1 8 Tryd.underlying26 hi hz0 hz1 hz2 rfl (by decide) _ 0 _ rfl OWN.out ⟨h6, 0, none⟩ 1 1 [.int .i64 (i : Int)] rfl (by first | (simp only [List.length_map, List.length_take, List.length_drop, List.length_cons, List.length_nil]; done) | (simp only [List.length_map, List.length_take, List.length_drop, List.length_cons, List.length_nil]; omega)) (fun j u hu => by rw [add_at]; exact newsO C6.out.1 hu) (fun u hu => oneI (L := [(i : Int)]) hu) (by omega) (by unfold maxLen; omega) (by omega) (Nat.le_trans (Nat.le_of_eq hN) hHeld.size) _ rfl (fun gn cn Vn own hg hat hlt => ?_)
                      have hgN : N ≤ hc := (World.ownsRow.lt OWN.out hc rfl).1
                      have hb : Below N Wd Vn := hHeld.grown hg (Nat.le_trans (Nat.le_of_eq hN) hHeld.size) (fun q hq => ownN hq hgN)
                      have C6b := Lib.hid (show Vn.cell? ⟨h6, 0, none⟩ = some (.int .i64 (i : Int)) ∧ h6 < Vn.heap.size ∧ N ≤ h6 from ⟨hg.cell C6.out.1 (ownNe NE.out), Nat.lt_of_lt_of_le C6.out.2.1 hg.size, C6.out.2.2⟩)
                      have NEb := Lib.hid (show h6 ≠ gn by have h1 := C6.out.2.1; have h2 := NE.out; exact nehat h1 h2 hat)
                      clear C6 NE
                      have C6 := C6b
                      have NE := NEb
                      clear C6b NEb
                      clear OWN hg hat hlt hgN
                      have OWN := Lib.hid own
                      clear own
                      refine hK.out _ _ hb (fun hHeld => ?_)
                      clear hK K hb
                      set_option linter.unusedSimpArgs false in try simp only [Act.put, List.setIfInBounds_toArray, List.set_cons_zero, List.set_cons_succ]
                      obtain ⟨hc, rfl⟩ : ∃ h, h = gn := ⟨_, rfl⟩
                      obtain ⟨cc, rfl⟩ : ∃ h, h = cn := ⟨_, rfl⟩
                      refine wpAnyH_ready (rs := [11]) (by kernel_rfl) (by simp) ?_
                      refine AllReadyH.cons rfl (fun K hK => ?_) ?_
                      · try rw [if_pos (by rfl)]
                        refine wp_append_lies _ (.tmp 55) (.tmp 58) 26 rfl N 3 i0 (.int .i64 0) 1 8 Tryd.underlying26 hi hz0 hz1 hz2 rfl (by decide) _ (0 + 1) _ rfl OWN.out ⟨g0, 0, none⟩ (i - 0) (cap0 - 0) (((sortL X n i).drop 0).map (Value.int .i64)) rfl (by first | (simp only [List.length_map, List.length_take, List.length_drop, List.length_cons, List.length_nil]; done) | (simp only [List.length_map, List.length_take, List.length_drop, List.length_cons, List.length_nil]; omega)) (fun j u hu => by rw [add_at]; exact newsD HO.out hHeld hLL hu) (fun u hu => oneI hu) (by omega) (by unfold maxLen; omega) (by omega) (Nat.le_trans (Nat.le_of_eq hN) hHeld.size) _ rfl (fun gn cn Vn own hg hat hlt => ?_)
                        have hgN : N ≤ hc := (World.ownsRow.lt OWN.out hc rfl).1
                        have hb : Below N Wd Vn := hHeld.grown hg (Nat.le_trans (Nat.le_of_eq hN) hHeld.size) (fun q hq => ownN hq hgN)
                        have C6b := Lib.hid (show Vn.cell? ⟨h6, 0, none⟩ = some (.int .i64 (i : Int)) ∧ h6 < Vn.heap.size ∧ N ≤ h6 from ⟨hg.cell C6.out.1 (ownNe NE.out), Nat.lt_of_lt_of_le C6.out.2.1 hg.size, C6.out.2.2⟩)
                        have NEb := Lib.hid (show h6 ≠ gn by have h1 := C6.out.2.1; have h2 := NE.out; exact nehat h1 h2 hat)
                        clear C6 NE
                        have C6 := C6b
                        have NE := NEb
                        clear C6b NEb
                        clear OWN hg hat hlt hgN
                        have OWN := Lib.hid own
                        clear own
                        refine hK.out _ _ hb (fun hHeld => ?_)
                        clear hK K hb
                        set_option linter.unusedSimpArgs false in try simp only [Act.put, List.setIfInBounds_toArray, List.set_cons_zero, List.set_cons_succ]
                        obtain ⟨hc, rfl⟩ : ∃ h, h = gn := ⟨_, rfl⟩
                        obtain ⟨cc, rfl⟩ : ∃ h, h = cn := ⟨_, rfl⟩
                        refine wpAnyH_take (i := 12) (oi := { dst := some 4, op := _, type := _, pos := _, after := _, guard := _ }) (v := ?_) rfl (by kernel_rfl) (by kernel_rfl) (by kernel_rfl) (fun _ _ _ h => h) (Or.inl ⟨by rfl, ?_⟩) hHeld ?_
                        rotate_left
                        · (intro w hSw; clear hSw; go_simp; first | done | with_reducible rfl | rfl | simp)
                        set_option linter.unusedSimpArgs false in try simp only [Act.put, List.setIfInBounds_toArray, List.set_cons_zero, List.set_cons_succ]
                        refine wpAnyH_done (by kernel_rfl) ?_ _
                        refine NoPanic.normal ?_
                        have hLs := sortL_succ X hlt
                        rw [HKP.out] at hLs
                        have hrow : Vn.ownsRow w.heap.size 3 1 (.slice (some ⟨hc, 0, none⟩) (i + 1) cc) (i + 1) ((sortL X n (i + 1)).map (Value.int .i64)) := by
                          have o := OWN.out
                          refine ownI_re o hwN ?_ ?_
                          · omega
                          · have hdn : (sortL X n i).drop i = [] := List.drop_of_length_le (by omega)
                            rw [hLs]; simp [hdn]
                            all_goals first | omega | exact List.length_eq_zero_iff.1 (by omega)
                        have hbW := Lib.hid (KQ.out.2.trans (hHeld.mono hwN))
                        have eL : (0 + 1 + (i - 0)) = i + 1 := by omega
                        try rw [eL]
                        have HR := Lib.hid hrow
                        clear hrow OWN hHeld HO C6 NE
                        go_wp2_with fail
                        go_roundw
                        case rel => exact ⟨i + 1, hc, cc, by omega, by go_num, by first | rfl | (congr 1; done) | (congr 1; omega), HR, HT2, hbW⟩
                        case measure => simp [Lib.intOf]; omega
                      exact AllReadyH.nil
                    exact AllReadyH.nil
                  exact AllReadyH.nil
                refine AllReadyH.cons rfl (fun K hK => ?_) ?_
                · try rw [if_pos (by rfl)]
                  go_simp
                  obtain ⟨h6, hh6⟩ : ∃ h, h = V15.heap.size := ⟨_, rfl⟩
                  have C6 := Lib.hid (show (V15.alloc (.cells #[.int .i64 (i : Int)] 3 (0, 0))).cell? ⟨h6, 0, none⟩ = some (.int .i64 (i : Int)) ∧ h6 < (V15.alloc (.cells #[.int .i64 (i : Int)] 3 (0, 0))).heap.size ∧ N ≤ h6 from ⟨by rw [hh6]; exact cell_newI V15 _ _, by rw [hh6]; simp, by rw [hh6]; exact (Nat.le_trans (Nat.le_of_eq hN) hHeld.size)⟩)
                  have NE := Lib.hid (show h6 ≠ hc by have := (World.ownsRow.lt OWN.out hc rfl).2; omega)
                  have OWNb := Lib.hid (OWN.out.alloc (.cells #[.int .i64 (i : Int)] 3 (0, 0)))
                  clear OWN
                  have OWN := OWNb
                  clear OWNb
                  have hb := hHeld.alloc (Nat.le_trans (Nat.le_of_eq hN) hHeld.size) (.cells #[.int .i64 (i : Int)] 3 (0, 0))
                  rw [← hh6]
                  clear hh6
                  refine hK.out _ _ hb (fun hHeld => ?_)
                  clear hK K hb
                  set_option linter.unusedSimpArgs false in try simp only [Act.put, List.setIfInBounds_toArray, List.set_cons_zero, List.set_cons_succ]
                  generalize (V15.alloc (.cells #[.int .i64 (i : Int)] 3 (0, 0))) = V20 at *
                  refine wpAnyH_ready (rs := [4]) (by kernel_rfl) (by simp) ?_
                  refine AllReadyH.cons rfl (fun K hK => ?_) ?_
                  · try rw [if_pos (by rfl)]
                    refine wp_append_none (.tmp 48) (.tmp 51) 26 rfl 3 i0 Tryd.underlying26 hi hc 0 _ _ rfl ⟨g0, 0, none⟩ 0 cap0 (by first | rfl | (simp [Act.eval, Act.put]; done) | (simp [Act.eval, Act.put]; omega)) (by omega) (ownI_cap2 OWN.out) ?_
                    have hb := hHeld
                    refine hK.out _ _ hb (fun hHeld => ?_)
                    clear hK K hb
                    set_option linter.unusedSimpArgs false in try simp only [Act.put, List.setIfInBounds_toArray, List.set_cons_zero, List.set_cons_succ]
                    refine wpAnyH_ready (rs := [7]) (by kernel_rfl) (by simp) ?_
                    refine AllReadyH.cons rfl (fun K hK => ?_) ?_
                    · try rw [if_pos (by rfl)]
                      refine wp_append_lies _ (.tmp 52) (.tmp 54) 26 rfl N 3 i0 (.int .i64 0) 1 8 Tryd.underlying26 hi hz0 hz1 hz2 rfl (by decide) _ 0 _ rfl OWN.out ⟨h6, 0, none⟩ 1 1 [.int .i64 (i : Int)] rfl (by first | (simp only [List.length_map, List.length_take, List.length_drop, List.length_cons, List.length_nil]; done) | (simp only [List.length_map, List.length_take, List.length_drop, List.length_cons, List.length_nil]; omega)) (fun j u hu => by rw [add_at]; exact newsO C6.out.1 hu) (fun u hu => oneI (L := [(i : Int)]) hu) (by omega) (by unfold maxLen; omega) (by omega) (Nat.le_trans (Nat.le_of_eq hN) hHeld.size) _ rfl (fun gn cn Vn own hg hat hlt => ?_)
                      have hgN : N ≤ hc := (World.ownsRow.lt OWN.out hc rfl).1
                      have hb : Below N Wd Vn := hHeld.grown hg (Nat.le_trans (Nat.le_of_eq hN) hHeld.size) (fun q hq => ownN hq hgN)
                      have C6b := Lib.hid (show Vn.cell? ⟨h6, 0, none⟩ = some (.int .i64 (i : Int)) ∧ h6 < Vn.heap.size ∧ N ≤ h6 from ⟨hg.cell C6.out.1 (ownNe NE.out), Nat.lt_of_lt_of_le C6.out.2.1 hg.size, C6.out.2.2⟩)
                      have NEb := Lib.hid (show h6 ≠ gn by have h1 := C6.out.2.1; have h2 := NE.out; exact nehat h1 h2 hat)
                      clear C6 NE
                      have C6 := C6b
                      have NE := NEb
                      clear C6b NEb
                      clear OWN hg hat hlt hgN
                      have OWN := Lib.hid own
                      clear own
                      refine hK.out _ _ hb (fun hHeld => ?_)
                      clear hK K hb
                      set_option linter.unusedSimpArgs false in try simp only [Act.put, List.setIfInBounds_toArray, List.set_cons_zero, List.set_cons_succ]
                      obtain ⟨hc, rfl⟩ : ∃ h, h = gn := ⟨_, rfl⟩
                      obtain ⟨cc, rfl⟩ : ∃ h, h = cn := ⟨_, rfl⟩
                      refine wpAnyH_ready (rs := [11]) (by kernel_rfl) (by simp) ?_
                      refine AllReadyH.cons rfl (fun K hK => ?_) ?_
                      · try rw [if_pos (by rfl)]
                        refine wp_append_lies _ (.tmp 55) (.tmp 58) 26 rfl N 3 i0 (.int .i64 0) 1 8 Tryd.underlying26 hi hz0 hz1 hz2 rfl (by decide) _ (0 + 1) _ rfl OWN.out ⟨g0, 0, none⟩ (i - 0) (cap0 - 0) (((sortL X n i).drop 0).map (Value.int .i64)) rfl (by first | (simp only [List.length_map, List.length_take, List.length_drop, List.length_cons, List.length_nil]; done) | (simp only [List.length_map, List.length_take, List.length_drop, List.length_cons, List.length_nil]; omega)) (fun j u hu => by rw [add_at]; exact newsD HO.out hHeld hLL hu) (fun u hu => oneI hu) (by omega) (by unfold maxLen; omega) (by omega) (Nat.le_trans (Nat.le_of_eq hN) hHeld.size) _ rfl (fun gn cn Vn own hg hat hlt => ?_)
                        have hgN : N ≤ hc := (World.ownsRow.lt OWN.out hc rfl).1
                        have hb : Below N Wd Vn := hHeld.grown hg (Nat.le_trans (Nat.le_of_eq hN) hHeld.size) (fun q hq => ownN hq hgN)
                        have C6b := Lib.hid (show Vn.cell? ⟨h6, 0, none⟩ = some (.int .i64 (i : Int)) ∧ h6 < Vn.heap.size ∧ N ≤ h6 from ⟨hg.cell C6.out.1 (ownNe NE.out), Nat.lt_of_lt_of_le C6.out.2.1 hg.size, C6.out.2.2⟩)
                        have NEb := Lib.hid (show h6 ≠ gn by have h1 := C6.out.2.1; have h2 := NE.out; exact nehat h1 h2 hat)
                        clear C6 NE
                        have C6 := C6b
                        have NE := NEb
                        clear C6b NEb
                        clear OWN hg hat hlt hgN
                        have OWN := Lib.hid own
                        clear own
                        refine hK.out _ _ hb (fun hHeld => ?_)
                        clear hK K hb
                        set_option linter.unusedSimpArgs false in try simp only [Act.put, List.setIfInBounds_toArray, List.set_cons_zero, List.set_cons_succ]
                        obtain ⟨hc, rfl⟩ : ∃ h, h = gn := ⟨_, rfl⟩
                        obtain ⟨cc, rfl⟩ : ∃ h, h = cn := ⟨_, rfl⟩
                        refine wpAnyH_take (i := 12) (oi := { dst := some 4, op := _, type := _, pos := _, after := _, guard := _ }) (v := ?_) rfl (by kernel_rfl) (by kernel_rfl) (by kernel_rfl) (fun _ _ _ h => h) (Or.inl ⟨by rfl, ?_⟩) hHeld ?_
                        rotate_left
                        · (intro w hSw; clear hSw; go_simp; first | done | with_reducible rfl | rfl | simp)
                        set_option linter.unusedSimpArgs false in try simp only [Act.put, List.setIfInBounds_toArray, List.set_cons_zero, List.set_cons_succ]
                        refine wpAnyH_done (by kernel_rfl) ?_ _
                        refine NoPanic.normal ?_
                        have hLs := sortL_succ X hlt
                        rw [HKP.out] at hLs
                        have hrow : Vn.ownsRow w.heap.size 3 1 (.slice (some ⟨hc, 0, none⟩) (i + 1) cc) (i + 1) ((sortL X n (i + 1)).map (Value.int .i64)) := by
                          have o := OWN.out
                          refine ownI_re o hwN ?_ ?_
                          · omega
                          · have hdn : (sortL X n i).drop i = [] := List.drop_of_length_le (by omega)
                            rw [hLs]; simp [hdn]
                            all_goals first | omega | exact List.length_eq_zero_iff.1 (by omega)
                        have hbW := Lib.hid (KQ.out.2.trans (hHeld.mono hwN))
                        have eL : (0 + 1 + (i - 0)) = i + 1 := by omega
                        try rw [eL]
                        have HR := Lib.hid hrow
                        clear hrow OWN hHeld HO C6 NE
                        go_wp2_with fail
                        go_roundw
                        case rel => exact ⟨i + 1, hc, cc, by omega, by go_num, by first | rfl | (congr 1; done) | (congr 1; omega), HR, HT2, hbW⟩
                        case measure => simp [Lib.intOf]; omega
                      exact AllReadyH.nil
                    exact AllReadyH.nil
                  exact AllReadyH.nil
                exact AllReadyH.nil
              refine AllReadyH.cons rfl (fun K hK => ?_) ?_
              · try rw [if_pos (by rfl)]
                go_simp
                obtain ⟨h6, hh6⟩ : ∃ h, h = We.heap.size := ⟨_, rfl⟩
                have C6 := Lib.hid (show (We.alloc (.cells #[.int .i64 (i : Int)] 3 (0, 0))).cell? ⟨h6, 0, none⟩ = some (.int .i64 (i : Int)) ∧ h6 < (We.alloc (.cells #[.int .i64 (i : Int)] 3 (0, 0))).heap.size ∧ N ≤ h6 from ⟨by rw [hh6]; exact cell_newI We _ _, by rw [hh6]; simp, by rw [hh6]; exact (Nat.le_trans (Nat.le_of_eq hN) hHeld.size)⟩)
                have hb := hHeld.alloc (Nat.le_trans (Nat.le_of_eq hN) hHeld.size) (.cells #[.int .i64 (i : Int)] 3 (0, 0))
                rw [← hh6]
                clear hh6
                refine hK.out _ _ hb (fun hHeld => ?_)
                clear hK K hb
                set_option linter.unusedSimpArgs false in try simp only [Act.put, List.setIfInBounds_toArray, List.set_cons_zero, List.set_cons_succ]
                generalize (We.alloc (.cells #[.int .i64 (i : Int)] 3 (0, 0))) = V24 at *
                refine wpAnyH_ready (rs := [0]) (by kernel_rfl) (by simp) ?_
                refine AllReadyH.cons rfl (fun K hK => ?_) ?_
                · try rw [if_pos (by rfl)]
                  go_simp
                  obtain ⟨hc, hhc⟩ : ∃ h, h = V24.heap.size := ⟨_, rfl⟩
                  have OWN := Lib.hid (show (V24.alloc (.cells #[] 3 (0, 0))).ownsRow N 3 1 (.slice (some ⟨hc, 0, none⟩) 0 0) 0 [] by rw [hhc]; exact World.ownsRow_lit V24 #[] 0 (Nat.le_trans (Nat.le_of_eq hN) hHeld.size) (by unfold maxLen; omega) rfl)
                  have NE := Lib.hid (show h6 ≠ hc by have := C6.out.2.1; omega)
                  have C6b := Lib.hid (show (V24.alloc (.cells #[] 3 (0, 0))).cell? ⟨h6, 0, none⟩ = some (.int .i64 (i : Int)) ∧ h6 < (V24.alloc (.cells #[] 3 (0, 0))).heap.size ∧ N ≤ h6 from ⟨(((Below.refl _ V24).alloc (Nat.le_refl _) _).cell (p := ⟨h6, 0, none⟩) C6.out.2.1).trans C6.out.1, by have := C6.out.2.1; simp; omega, C6.out.2.2⟩)
                  clear C6
                  have C6 := C6b
                  clear C6b
                  have hb := hHeld.alloc (Nat.le_trans (Nat.le_of_eq hN) hHeld.size) (.cells #[] 3 (0, 0))
                  rw [← hhc]
                  clear hhc
                  refine hK.out _ _ hb (fun hHeld => ?_)
                  clear hK K hb
                  set_option linter.unusedSimpArgs false in try simp only [Act.put, List.setIfInBounds_toArray, List.set_cons_zero, List.set_cons_succ]
                  generalize (V24.alloc (.cells #[] 3 (0, 0))) = V25 at *
                  refine wpAnyH_ready (rs := [4]) (by kernel_rfl) (by simp) ?_
                  refine AllReadyH.cons rfl (fun K hK => ?_) ?_
                  · try rw [if_pos (by rfl)]
                    refine wp_append_none (.tmp 48) (.tmp 51) 26 rfl 3 i0 Tryd.underlying26 hi hc 0 _ _ rfl ⟨g0, 0, none⟩ 0 cap0 (by first | rfl | (simp [Act.eval, Act.put]; done) | (simp [Act.eval, Act.put]; omega)) (by omega) (ownI_cap2 OWN.out) ?_
                    have hb := hHeld
                    refine hK.out _ _ hb (fun hHeld => ?_)
                    clear hK K hb
                    set_option linter.unusedSimpArgs false in try simp only [Act.put, List.setIfInBounds_toArray, List.set_cons_zero, List.set_cons_succ]
                    refine wpAnyH_ready (rs := [7]) (by kernel_rfl) (by simp) ?_
                    refine AllReadyH.cons rfl (fun K hK => ?_) ?_
                    · try rw [if_pos (by rfl)]
                      refine wp_append_lies _ (.tmp 52) (.tmp 54) 26 rfl N 3 i0 (.int .i64 0) 1 8 Tryd.underlying26 hi hz0 hz1 hz2 rfl (by decide) _ 0 _ rfl OWN.out ⟨h6, 0, none⟩ 1 1 [.int .i64 (i : Int)] rfl (by first | (simp only [List.length_map, List.length_take, List.length_drop, List.length_cons, List.length_nil]; done) | (simp only [List.length_map, List.length_take, List.length_drop, List.length_cons, List.length_nil]; omega)) (fun j u hu => by rw [add_at]; exact newsO C6.out.1 hu) (fun u hu => oneI (L := [(i : Int)]) hu) (by omega) (by unfold maxLen; omega) (by omega) (Nat.le_trans (Nat.le_of_eq hN) hHeld.size) _ rfl (fun gn cn Vn own hg hat hlt => ?_)
                      have hgN : N ≤ hc := (World.ownsRow.lt OWN.out hc rfl).1
                      have hb : Below N Wd Vn := hHeld.grown hg (Nat.le_trans (Nat.le_of_eq hN) hHeld.size) (fun q hq => ownN hq hgN)
                      have C6b := Lib.hid (show Vn.cell? ⟨h6, 0, none⟩ = some (.int .i64 (i : Int)) ∧ h6 < Vn.heap.size ∧ N ≤ h6 from ⟨hg.cell C6.out.1 (ownNe NE.out), Nat.lt_of_lt_of_le C6.out.2.1 hg.size, C6.out.2.2⟩)
                      have NEb := Lib.hid (show h6 ≠ gn by have h1 := C6.out.2.1; have h2 := NE.out; exact nehat h1 h2 hat)
                      clear C6 NE
                      have C6 := C6b
                      have NE := NEb
                      clear C6b NEb
                      clear OWN hg hat hlt hgN
                      have OWN := Lib.hid own
                      clear own
                      refine hK.out _ _ hb (fun hHeld => ?_)
                      clear hK K hb
                      set_option linter.unusedSimpArgs false in try simp only [Act.put, List.setIfInBounds_toArray, List.set_cons_zero, List.set_cons_succ]
                      obtain ⟨hc, rfl⟩ : ∃ h, h = gn := ⟨_, rfl⟩
                      obtain ⟨cc, rfl⟩ : ∃ h, h = cn := ⟨_, rfl⟩
                      refine wpAnyH_ready (rs := [11]) (by kernel_rfl) (by simp) ?_
                      refine AllReadyH.cons rfl (fun K hK => ?_) ?_
                      · try rw [if_pos (by rfl)]
                        refine wp_append_lies _ (.tmp 55) (.tmp 58) 26 rfl N 3 i0 (.int .i64 0) 1 8 Tryd.underlying26 hi hz0 hz1 hz2 rfl (by decide) _ (0 + 1) _ rfl OWN.out ⟨g0, 0, none⟩ (i - 0) (cap0 - 0) (((sortL X n i).drop 0).map (Value.int .i64)) rfl (by first | (simp only [List.length_map, List.length_take, List.length_drop, List.length_cons, List.length_nil]; done) | (simp only [List.length_map, List.length_take, List.length_drop, List.length_cons, List.length_nil]; omega)) (fun j u hu => by rw [add_at]; exact newsD HO.out hHeld hLL hu) (fun u hu => oneI hu) (by omega) (by unfold maxLen; omega) (by omega) (Nat.le_trans (Nat.le_of_eq hN) hHeld.size) _ rfl (fun gn cn Vn own hg hat hlt => ?_)
                        have hgN : N ≤ hc := (World.ownsRow.lt OWN.out hc rfl).1
                        have hb : Below N Wd Vn := hHeld.grown hg (Nat.le_trans (Nat.le_of_eq hN) hHeld.size) (fun q hq => ownN hq hgN)
                        have C6b := Lib.hid (show Vn.cell? ⟨h6, 0, none⟩ = some (.int .i64 (i : Int)) ∧ h6 < Vn.heap.size ∧ N ≤ h6 from ⟨hg.cell C6.out.1 (ownNe NE.out), Nat.lt_of_lt_of_le C6.out.2.1 hg.size, C6.out.2.2⟩)
                        have NEb := Lib.hid (show h6 ≠ gn by have h1 := C6.out.2.1; have h2 := NE.out; exact nehat h1 h2 hat)
                        clear C6 NE
                        have C6 := C6b
                        have NE := NEb
                        clear C6b NEb
                        clear OWN hg hat hlt hgN
                        have OWN := Lib.hid own
                        clear own
                        refine hK.out _ _ hb (fun hHeld => ?_)
                        clear hK K hb
                        set_option linter.unusedSimpArgs false in try simp only [Act.put, List.setIfInBounds_toArray, List.set_cons_zero, List.set_cons_succ]
                        obtain ⟨hc, rfl⟩ : ∃ h, h = gn := ⟨_, rfl⟩
                        obtain ⟨cc, rfl⟩ : ∃ h, h = cn := ⟨_, rfl⟩
                        refine wpAnyH_take (i := 12) (oi := { dst := some 4, op := _, type := _, pos := _, after := _, guard := _ }) (v := ?_) rfl (by kernel_rfl) (by kernel_rfl) (by kernel_rfl) (fun _ _ _ h => h) (Or.inl ⟨by rfl, ?_⟩) hHeld ?_
                        rotate_left
                        · (intro w hSw; clear hSw; go_simp; first | done | with_reducible rfl | rfl | simp)
                        set_option linter.unusedSimpArgs false in try simp only [Act.put, List.setIfInBounds_toArray, List.set_cons_zero, List.set_cons_succ]
                        refine wpAnyH_done (by kernel_rfl) ?_ _
                        refine NoPanic.normal ?_
                        have hLs := sortL_succ X hlt
                        rw [HKP.out] at hLs
                        have hrow : Vn.ownsRow w.heap.size 3 1 (.slice (some ⟨hc, 0, none⟩) (i + 1) cc) (i + 1) ((sortL X n (i + 1)).map (Value.int .i64)) := by
                          have o := OWN.out
                          refine ownI_re o hwN ?_ ?_
                          · omega
                          · have hdn : (sortL X n i).drop i = [] := List.drop_of_length_le (by omega)
                            rw [hLs]; simp [hdn]
                            all_goals first | omega | exact List.length_eq_zero_iff.1 (by omega)
                        have hbW := Lib.hid (KQ.out.2.trans (hHeld.mono hwN))
                        have eL : (0 + 1 + (i - 0)) = i + 1 := by omega
                        try rw [eL]
                        have HR := Lib.hid hrow
                        clear hrow OWN hHeld HO C6 NE
                        go_wp2_with fail
                        go_roundw
                        case rel => exact ⟨i + 1, hc, cc, by omega, by go_num, by first | rfl | (congr 1; done) | (congr 1; omega), HR, HT2, hbW⟩
                        case measure => simp [Lib.intOf]; omega
                      exact AllReadyH.nil
                    exact AllReadyH.nil
                  exact AllReadyH.nil
                exact AllReadyH.nil
              exact AllReadyH.nil
            · skip
              obtain ⟨N, hN⟩ : ∃ N, N = Wd.heap.size := ⟨_, rfl⟩
              have hg0N : g0 < N := by have := (World.ownsRow.lt KQ.out.1 g0 rfl).2; omega
              have hwN : w.heap.size ≤ N := by have := KQ.out.2.size; omega
              have HO := Lib.hid (fun W (hb : Below N Wd W) p (hp : p < i) => (show W.cell? ⟨g0, p, none⟩ = ((sortL X n i)[p]?).map (Value.int .i64) by
                rw [hb.cell (p := ⟨g0, p, none⟩) hg0N, World.ownsRow.cellAt KQ.out.1 p (by omega), List.getElem?_map]))
              have hLL := sortL_len X n i
              have hcap : i ≤ cap0 := ownI_cap KQ.out.1
              obtain ⟨i0, hi, hz0, hz1, hz2⟩ := infoN
              have a1 : (0 : Int) ≤ (cap0 : Int) := by omega
              have a2 : (0 : Int) ≤ (0 : Int) := by omega
              have a3 : (0 : Int) ≤ (i : Int) := by omega
              have a4 : 0 ≤ i := by omega
              have a5 : 0 ≤ cap0 := by omega
              have a6 : ((i : Int) - (0 : Int)).toNat = i - 0 := by omega
              have a7 : (0 : Int).toNat = 0 := by omega
              have a8 : ((cap0 : Int) - (0 : Int)).toNat = cap0 - 0 := by omega
              go_upto_region 12 with fail
              refine wp_region_noPanic ?_
              refine wp_region_held_drew (S := fun W => Below N Wd W) (by kernel_rfl) (by rw [hN]; exact (Below.refl _ _).drew) (fun hHeld => ?_)
              generalize Wd.drew = We at *
              refine wpAnyH_take (i := 1) (oi := { dst := some 49, op := _, type := _, pos := _, after := _, guard := _ }) (v := ?_) rfl (by kernel_rfl) (by kernel_rfl) (by kernel_rfl) (fun _ _ _ h => h) (Or.inl ⟨by rfl, ?_⟩) hHeld ?_
              rotate_left
              · (intro w hSw; clear hSw; go_simp; first | done | with_reducible rfl | rfl | simp)
              set_option linter.unusedSimpArgs false in try simp only [Act.put, List.setIfInBounds_toArray, List.set_cons_zero, List.set_cons_succ]
              refine wpAnyH_take (i := 2) (oi := { dst := some 50, op := _, type := _, pos := _, after := _, guard := _ }) (v := ?_) rfl (by kernel_rfl) (by kernel_rfl) (by kernel_rfl) (fun _ _ _ h => h) (Or.inl ⟨by rfl, ?_⟩) hHeld ?_
              rotate_left
              · (intro w hSw; clear hSw; go_simp; first | done | with_reducible rfl | rfl | simp)
              set_option linter.unusedSimpArgs false in try simp only [Act.put, List.setIfInBounds_toArray, List.set_cons_zero, List.set_cons_succ]
              refine wpAnyH_take (i := 3) (oi := { dst := some 51, op := _, type := _, pos := _, after := _, guard := _ }) (v := .slice (some ⟨g0, 0, none⟩) 0 cap0) rfl (by kernel_rfl) (by kernel_rfl) (by kernel_rfl) (fun _ _ _ h => h) (Or.inl ⟨by rfl, ?_⟩) hHeld ?_
              · (intro w hSw; clear hSw; go_simp; first | done | with_reducible rfl | rfl | simp)
              set_option linter.unusedSimpArgs false in try simp only [Act.put, List.setIfInBounds_toArray, List.set_cons_zero, List.set_cons_succ]
              refine wpAnyH_take (i := 5) (oi := { dst := some 53, op := _, type := _, pos := _, after := _, guard := _ }) (v := ?_) rfl (by kernel_rfl) (by kernel_rfl) (by kernel_rfl) (fun _ _ _ h => h) (Or.inl ⟨by rfl, ?_⟩) hHeld ?_
              rotate_left
              · (intro w hSw; clear hSw; go_simp; first | done | with_reducible rfl | rfl | simp)
              set_option linter.unusedSimpArgs false in try simp only [Act.put, List.setIfInBounds_toArray, List.set_cons_zero, List.set_cons_succ]
              refine wpAnyH_take (i := 8) (oi := { dst := some 56, op := _, type := _, pos := _, after := _, guard := _ }) (v := ?_) rfl (by kernel_rfl) (by kernel_rfl) (by kernel_rfl) (fun _ _ _ h => h) (Or.inl ⟨by rfl, ?_⟩) hHeld ?_
              rotate_left
              · (intro w hSw; clear hSw; go_simp; first | done | with_reducible rfl | rfl | simp)
              set_option linter.unusedSimpArgs false in try simp only [Act.put, List.setIfInBounds_toArray, List.set_cons_zero, List.set_cons_succ]
              refine wpAnyH_take (i := 9) (oi := { dst := some 57, op := _, type := _, pos := _, after := _, guard := _ }) (v := ?_) rfl (by kernel_rfl) (by kernel_rfl) (by kernel_rfl) (fun _ _ _ h => h) (Or.inl ⟨by rfl, ?_⟩) hHeld ?_
              rotate_left
              · (intro w hSw; clear hSw; go_simp; first | done | with_reducible rfl | rfl | simp)
              set_option linter.unusedSimpArgs false in try simp only [Act.put, List.setIfInBounds_toArray, List.set_cons_zero, List.set_cons_succ]
              refine wpAnyH_take (i := 10) (oi := { dst := some 58, op := _, type := _, pos := _, after := _, guard := _ }) (v := .slice (some ⟨g0, 0, none⟩) (i - 0) (cap0 - 0)) rfl (by kernel_rfl) (by kernel_rfl) (by kernel_rfl) (fun _ _ _ h => h) (Or.inl ⟨by rfl, ?_⟩) hHeld ?_
              · (intro w hSw; clear hSw; go_simp; first | done | with_reducible rfl | rfl | omega | simp)
              set_option linter.unusedSimpArgs false in try simp only [Act.put, List.setIfInBounds_toArray, List.set_cons_zero, List.set_cons_succ]
              refine wpAnyH_ready (rs := [0, 6]) (by kernel_rfl) (by simp) ?_
              refine AllReadyH.cons rfl (fun K hK => ?_) ?_
              · try rw [if_pos (by rfl)]
                go_simp
                obtain ⟨hc, hhc⟩ : ∃ h, h = We.heap.size := ⟨_, rfl⟩
                have OWN := Lib.hid (show (We.alloc (.cells #[] 3 (0, 0))).ownsRow N 3 1 (.slice (some ⟨hc, 0, none⟩) 0 0) 0 [] by rw [hhc]; exact World.ownsRow_lit We #[] 0 (Nat.le_trans (Nat.le_of_eq hN) hHeld.size) (by unfold maxLen; omega) rfl)
                have hb := hHeld.alloc (Nat.le_trans (Nat.le_of_eq hN) hHeld.size) (.cells #[] 3 (0, 0))
                rw [← hhc]
                clear hhc
                refine hK.out _ _ hb (fun hHeld => ?_)
                clear hK K hb
                set_option linter.unusedSimpArgs false in try simp only [Act.put, List.setIfInBounds_toArray, List.set_cons_zero, List.set_cons_succ]
                generalize (We.alloc (.cells #[] 3 (0, 0))) = V1 at *
                refine wpAnyH_ready (rs := [4, 6]) (by kernel_rfl) (by simp) ?_
                refine AllReadyH.cons rfl (fun K hK => ?_) ?_
                · try rw [if_pos (by rfl)]
                  refine wp_append_none (.tmp 48) (.tmp 51) 26 rfl 3 i0 Tryd.underlying26 hi hc 0 _ _ rfl ⟨g0, 0, none⟩ 0 cap0 (by first | rfl | (simp [Act.eval, Act.put]; done) | (simp [Act.eval, Act.put]; omega)) (by omega) (ownI_cap2 OWN.out) ?_
                  have hb := hHeld
                  refine hK.out _ _ hb (fun hHeld => ?_)
                  clear hK K hb
                  set_option linter.unusedSimpArgs false in try simp only [Act.put, List.setIfInBounds_toArray, List.set_cons_zero, List.set_cons_succ]
                  refine wpAnyH_ready (rs := [6]) (by kernel_rfl) (by simp) ?_
                  refine AllReadyH.cons rfl (fun K hK => ?_) ?_
                  · try rw [if_pos (by rfl)]
                    go_simp
                    obtain ⟨h6, hh6⟩ : ∃ h, h = V1.heap.size := ⟨_, rfl⟩
                    have C6 := Lib.hid (show (V1.alloc (.cells #[.int .i64 (i : Int)] 3 (0, 0))).cell? ⟨h6, 0, none⟩ = some (.int .i64 (i : Int)) ∧ h6 < (V1.alloc (.cells #[.int .i64 (i : Int)] 3 (0, 0))).heap.size ∧ N ≤ h6 from ⟨by rw [hh6]; exact cell_newI V1 _ _, by rw [hh6]; simp, by rw [hh6]; exact (Nat.le_trans (Nat.le_of_eq hN) hHeld.size)⟩)
                    have NE := Lib.hid (show h6 ≠ hc by have := (World.ownsRow.lt OWN.out hc rfl).2; omega)
                    have OWNb := Lib.hid (OWN.out.alloc (.cells #[.int .i64 (i : Int)] 3 (0, 0)))
                    clear OWN
                    have OWN := OWNb
                    clear OWNb
                    have hb := hHeld.alloc (Nat.le_trans (Nat.le_of_eq hN) hHeld.size) (.cells #[.int .i64 (i : Int)] 3 (0, 0))
                    rw [← hh6]
                    clear hh6
                    refine hK.out _ _ hb (fun hHeld => ?_)
                    clear hK K hb
                    set_option linter.unusedSimpArgs false in try simp only [Act.put, List.setIfInBounds_toArray, List.set_cons_zero, List.set_cons_succ]
                    generalize (V1.alloc (.cells #[.int .i64 (i : Int)] 3 (0, 0))) = V3 at *
                    refine wpAnyH_ready (rs := [7]) (by kernel_rfl) (by simp) ?_
                    refine AllReadyH.cons rfl (fun K hK => ?_) ?_
                    · try rw [if_pos (by rfl)]
                      refine wp_append_lies _ (.tmp 52) (.tmp 54) 26 rfl N 3 i0 (.int .i64 0) 1 8 Tryd.underlying26 hi hz0 hz1 hz2 rfl (by decide) _ 0 _ rfl OWN.out ⟨h6, 0, none⟩ 1 1 [.int .i64 (i : Int)] rfl (by first | (simp only [List.length_map, List.length_take, List.length_drop, List.length_cons, List.length_nil]; done) | (simp only [List.length_map, List.length_take, List.length_drop, List.length_cons, List.length_nil]; omega)) (fun j u hu => by rw [add_at]; exact newsO C6.out.1 hu) (fun u hu => oneI (L := [(i : Int)]) hu) (by omega) (by unfold maxLen; omega) (by omega) (Nat.le_trans (Nat.le_of_eq hN) hHeld.size) _ rfl (fun gn cn Vn own hg hat hlt => ?_)
                      have hgN : N ≤ hc := (World.ownsRow.lt OWN.out hc rfl).1
                      have hb : Below N Wd Vn := hHeld.grown hg (Nat.le_trans (Nat.le_of_eq hN) hHeld.size) (fun q hq => ownN hq hgN)
                      have C6b := Lib.hid (show Vn.cell? ⟨h6, 0, none⟩ = some (.int .i64 (i : Int)) ∧ h6 < Vn.heap.size ∧ N ≤ h6 from ⟨hg.cell C6.out.1 (ownNe NE.out), Nat.lt_of_lt_of_le C6.out.2.1 hg.size, C6.out.2.2⟩)
                      have NEb := Lib.hid (show h6 ≠ gn by have h1 := C6.out.2.1; have h2 := NE.out; exact nehat h1 h2 hat)
                      clear C6 NE
                      have C6 := C6b
                      have NE := NEb
                      clear C6b NEb
                      clear OWN hg hat hlt hgN
                      have OWN := Lib.hid own
                      clear own
                      refine hK.out _ _ hb (fun hHeld => ?_)
                      clear hK K hb
                      set_option linter.unusedSimpArgs false in try simp only [Act.put, List.setIfInBounds_toArray, List.set_cons_zero, List.set_cons_succ]
                      obtain ⟨hc, rfl⟩ : ∃ h, h = gn := ⟨_, rfl⟩
                      obtain ⟨cc, rfl⟩ : ∃ h, h = cn := ⟨_, rfl⟩
                      refine wpAnyH_ready (rs := [11]) (by kernel_rfl) (by simp) ?_
                      refine AllReadyH.cons rfl (fun K hK => ?_) ?_
                      · try rw [if_pos (by rfl)]
                        refine wp_append_none (.tmp 55) (.tmp 58) 26 rfl 3 i0 Tryd.underlying26 hi hc 0 _ _ rfl ⟨g0, 0, none⟩ (i - 0) (cap0 - 0) (by first | rfl | (simp [Act.eval, Act.put]; done) | (simp [Act.eval, Act.put]; omega)) (by omega) (ownI_cap2 OWN.out) ?_
                        have hb := hHeld
                        refine hK.out _ _ hb (fun hHeld => ?_)
                        clear hK K hb
                        set_option linter.unusedSimpArgs false in try simp only [Act.put, List.setIfInBounds_toArray, List.set_cons_zero, List.set_cons_succ]
                        refine wpAnyH_take (i := 12) (oi := { dst := some 4, op := _, type := _, pos := _, after := _, guard := _ }) (v := ?_) rfl (by kernel_rfl) (by kernel_rfl) (by kernel_rfl) (fun _ _ _ h => h) (Or.inl ⟨by rfl, ?_⟩) hHeld ?_
                        rotate_left
                        · (intro w hSw; clear hSw; go_simp; first | done | with_reducible rfl | rfl | simp)
                        set_option linter.unusedSimpArgs false in try simp only [Act.put, List.setIfInBounds_toArray, List.set_cons_zero, List.set_cons_succ]
                        refine wpAnyH_done (by kernel_rfl) ?_ _
                        refine NoPanic.normal ?_
                        have hLs := sortL_succ X hlt
                        rw [HKP.out] at hLs
                        have hrow : Vn.ownsRow w.heap.size 3 1 (.slice (some ⟨hc, 0, none⟩) (i + 1) cc) (i + 1) ((sortL X n (i + 1)).map (Value.int .i64)) := by
                          have o := OWN.out
                          refine ownI_re o hwN ?_ ?_
                          · omega
                          · have hdn : (sortL X n i).drop i = [] := List.drop_of_length_le (by omega)
                            rw [hLs]; simp [hdn]
                            all_goals first | omega | exact List.length_eq_zero_iff.1 (by omega)
                        have hbW := Lib.hid (KQ.out.2.trans (hHeld.mono hwN))
                        have eL : (0 + 1) = i + 1 := by omega
                        try rw [eL]
                        have HR := Lib.hid hrow
                        clear hrow OWN hHeld HO C6 NE
                        go_wp2_with fail
                        go_roundw
                        case rel => exact ⟨i + 1, hc, cc, by omega, by go_num, by first | rfl | (congr 1; done) | (congr 1; omega), HR, HT2, hbW⟩
                        case measure => simp [Lib.intOf]; omega
                      exact AllReadyH.nil
                    exact AllReadyH.nil
                  exact AllReadyH.nil
                refine AllReadyH.cons rfl (fun K hK => ?_) ?_
                · try rw [if_pos (by rfl)]
                  go_simp
                  obtain ⟨h6, hh6⟩ : ∃ h, h = V1.heap.size := ⟨_, rfl⟩
                  have C6 := Lib.hid (show (V1.alloc (.cells #[.int .i64 (i : Int)] 3 (0, 0))).cell? ⟨h6, 0, none⟩ = some (.int .i64 (i : Int)) ∧ h6 < (V1.alloc (.cells #[.int .i64 (i : Int)] 3 (0, 0))).heap.size ∧ N ≤ h6 from ⟨by rw [hh6]; exact cell_newI V1 _ _, by rw [hh6]; simp, by rw [hh6]; exact (Nat.le_trans (Nat.le_of_eq hN) hHeld.size)⟩)
                  have NE := Lib.hid (show h6 ≠ hc by have := (World.ownsRow.lt OWN.out hc rfl).2; omega)
                  have OWNb := Lib.hid (OWN.out.alloc (.cells #[.int .i64 (i : Int)] 3 (0, 0)))
                  clear OWN
                  have OWN := OWNb
                  clear OWNb
                  have hb := hHeld.alloc (Nat.le_trans (Nat.le_of_eq hN) hHeld.size) (.cells #[.int .i64 (i : Int)] 3 (0, 0))
                  rw [← hh6]
                  clear hh6
                  refine hK.out _ _ hb (fun hHeld => ?_)
                  clear hK K hb
                  set_option linter.unusedSimpArgs false in try simp only [Act.put, List.setIfInBounds_toArray, List.set_cons_zero, List.set_cons_succ]
                  generalize (V1.alloc (.cells #[.int .i64 (i : Int)] 3 (0, 0))) = V6 at *
                  refine wpAnyH_ready (rs := [4]) (by kernel_rfl) (by simp) ?_
                  refine AllReadyH.cons rfl (fun K hK => ?_) ?_
                  · try rw [if_pos (by rfl)]
                    refine wp_append_none (.tmp 48) (.tmp 51) 26 rfl 3 i0 Tryd.underlying26 hi hc 0 _ _ rfl ⟨g0, 0, none⟩ 0 cap0 (by first | rfl | (simp [Act.eval, Act.put]; done) | (simp [Act.eval, Act.put]; omega)) (by omega) (ownI_cap2 OWN.out) ?_
                    have hb := hHeld
                    refine hK.out _ _ hb (fun hHeld => ?_)
                    clear hK K hb
                    set_option linter.unusedSimpArgs false in try simp only [Act.put, List.setIfInBounds_toArray, List.set_cons_zero, List.set_cons_succ]
                    refine wpAnyH_ready (rs := [7]) (by kernel_rfl) (by simp) ?_
                    refine AllReadyH.cons rfl (fun K hK => ?_) ?_
                    · try rw [if_pos (by rfl)]
                      refine wp_append_lies _ (.tmp 52) (.tmp 54) 26 rfl N 3 i0 (.int .i64 0) 1 8 Tryd.underlying26 hi hz0 hz1 hz2 rfl (by decide) _ 0 _ rfl OWN.out ⟨h6, 0, none⟩ 1 1 [.int .i64 (i : Int)] rfl (by first | (simp only [List.length_map, List.length_take, List.length_drop, List.length_cons, List.length_nil]; done) | (simp only [List.length_map, List.length_take, List.length_drop, List.length_cons, List.length_nil]; omega)) (fun j u hu => by rw [add_at]; exact newsO C6.out.1 hu) (fun u hu => oneI (L := [(i : Int)]) hu) (by omega) (by unfold maxLen; omega) (by omega) (Nat.le_trans (Nat.le_of_eq hN) hHeld.size) _ rfl (fun gn cn Vn own hg hat hlt => ?_)
                      have hgN : N ≤ hc := (World.ownsRow.lt OWN.out hc rfl).1
                      have hb : Below N Wd Vn := hHeld.grown hg (Nat.le_trans (Nat.le_of_eq hN) hHeld.size) (fun q hq => ownN hq hgN)
                      have C6b := Lib.hid (show Vn.cell? ⟨h6, 0, none⟩ = some (.int .i64 (i : Int)) ∧ h6 < Vn.heap.size ∧ N ≤ h6 from ⟨hg.cell C6.out.1 (ownNe NE.out), Nat.lt_of_lt_of_le C6.out.2.1 hg.size, C6.out.2.2⟩)
                      have NEb := Lib.hid (show h6 ≠ gn by have h1 := C6.out.2.1; have h2 := NE.out; exact nehat h1 h2 hat)
                      clear C6 NE
                      have C6 := C6b
                      have NE := NEb
                      clear C6b NEb
                      clear OWN hg hat hlt hgN
                      have OWN := Lib.hid own
                      clear own
                      refine hK.out _ _ hb (fun hHeld => ?_)
                      clear hK K hb
                      set_option linter.unusedSimpArgs false in try simp only [Act.put, List.setIfInBounds_toArray, List.set_cons_zero, List.set_cons_succ]
                      obtain ⟨hc, rfl⟩ : ∃ h, h = gn := ⟨_, rfl⟩
                      obtain ⟨cc, rfl⟩ : ∃ h, h = cn := ⟨_, rfl⟩
                      refine wpAnyH_ready (rs := [11]) (by kernel_rfl) (by simp) ?_
                      refine AllReadyH.cons rfl (fun K hK => ?_) ?_
                      · try rw [if_pos (by rfl)]
                        refine wp_append_none (.tmp 55) (.tmp 58) 26 rfl 3 i0 Tryd.underlying26 hi hc 0 _ _ rfl ⟨g0, 0, none⟩ (i - 0) (cap0 - 0) (by first | rfl | (simp [Act.eval, Act.put]; done) | (simp [Act.eval, Act.put]; omega)) (by omega) (ownI_cap2 OWN.out) ?_
                        have hb := hHeld
                        refine hK.out _ _ hb (fun hHeld => ?_)
                        clear hK K hb
                        set_option linter.unusedSimpArgs false in try simp only [Act.put, List.setIfInBounds_toArray, List.set_cons_zero, List.set_cons_succ]
                        refine wpAnyH_take (i := 12) (oi := { dst := some 4, op := _, type := _, pos := _, after := _, guard := _ }) (v := ?_) rfl (by kernel_rfl) (by kernel_rfl) (by kernel_rfl) (fun _ _ _ h => h) (Or.inl ⟨by rfl, ?_⟩) hHeld ?_
                        rotate_left
                        · (intro w hSw; clear hSw; go_simp; first | done | with_reducible rfl | rfl | simp)
                        set_option linter.unusedSimpArgs false in try simp only [Act.put, List.setIfInBounds_toArray, List.set_cons_zero, List.set_cons_succ]
                        refine wpAnyH_done (by kernel_rfl) ?_ _
                        refine NoPanic.normal ?_
                        have hLs := sortL_succ X hlt
                        rw [HKP.out] at hLs
                        have hrow : Vn.ownsRow w.heap.size 3 1 (.slice (some ⟨hc, 0, none⟩) (i + 1) cc) (i + 1) ((sortL X n (i + 1)).map (Value.int .i64)) := by
                          have o := OWN.out
                          refine ownI_re o hwN ?_ ?_
                          · omega
                          · have hdn : (sortL X n i).drop i = [] := List.drop_of_length_le (by omega)
                            rw [hLs]; simp [hdn]
                            all_goals first | omega | exact List.length_eq_zero_iff.1 (by omega)
                        have hbW := Lib.hid (KQ.out.2.trans (hHeld.mono hwN))
                        have eL : (0 + 1) = i + 1 := by omega
                        try rw [eL]
                        have HR := Lib.hid hrow
                        clear hrow OWN hHeld HO C6 NE
                        go_wp2_with fail
                        go_roundw
                        case rel => exact ⟨i + 1, hc, cc, by omega, by go_num, by first | rfl | (congr 1; done) | (congr 1; omega), HR, HT2, hbW⟩
                        case measure => simp [Lib.intOf]; omega
                      exact AllReadyH.nil
                    exact AllReadyH.nil
                  exact AllReadyH.nil
                exact AllReadyH.nil
              refine AllReadyH.cons rfl (fun K hK => ?_) ?_
              · try rw [if_pos (by rfl)]
                go_simp
                obtain ⟨h6, hh6⟩ : ∃ h, h = We.heap.size := ⟨_, rfl⟩
                have C6 := Lib.hid (show (We.alloc (.cells #[.int .i64 (i : Int)] 3 (0, 0))).cell? ⟨h6, 0, none⟩ = some (.int .i64 (i : Int)) ∧ h6 < (We.alloc (.cells #[.int .i64 (i : Int)] 3 (0, 0))).heap.size ∧ N ≤ h6 from ⟨by rw [hh6]; exact cell_newI We _ _, by rw [hh6]; simp, by rw [hh6]; exact (Nat.le_trans (Nat.le_of_eq hN) hHeld.size)⟩)
                have hb := hHeld.alloc (Nat.le_trans (Nat.le_of_eq hN) hHeld.size) (.cells #[.int .i64 (i : Int)] 3 (0, 0))
                rw [← hh6]
                clear hh6
                refine hK.out _ _ hb (fun hHeld => ?_)
                clear hK K hb
                set_option linter.unusedSimpArgs false in try simp only [Act.put, List.setIfInBounds_toArray, List.set_cons_zero, List.set_cons_succ]
                generalize (We.alloc (.cells #[.int .i64 (i : Int)] 3 (0, 0))) = V10 at *
                refine wpAnyH_ready (rs := [0]) (by kernel_rfl) (by simp) ?_
                refine AllReadyH.cons rfl (fun K hK => ?_) ?_
                · try rw [if_pos (by rfl)]
                  go_simp
                  obtain ⟨hc, hhc⟩ : ∃ h, h = V10.heap.size := ⟨_, rfl⟩
                  have OWN := Lib.hid (show (V10.alloc (.cells #[] 3 (0, 0))).ownsRow N 3 1 (.slice (some ⟨hc, 0, none⟩) 0 0) 0 [] by rw [hhc]; exact World.ownsRow_lit V10 #[] 0 (Nat.le_trans (Nat.le_of_eq hN) hHeld.size) (by unfold maxLen; omega) rfl)
                  have NE := Lib.hid (show h6 ≠ hc by have := C6.out.2.1; omega)
                  have C6b := Lib.hid (show (V10.alloc (.cells #[] 3 (0, 0))).cell? ⟨h6, 0, none⟩ = some (.int .i64 (i : Int)) ∧ h6 < (V10.alloc (.cells #[] 3 (0, 0))).heap.size ∧ N ≤ h6 from ⟨(((Below.refl _ V10).alloc (Nat.le_refl _) _).cell (p := ⟨h6, 0, none⟩) C6.out.2.1).trans C6.out.1, by have := C6.out.2.1; simp; omega, C6.out.2.2⟩)
                  clear C6
                  have C6 := C6b
                  clear C6b
                  have hb := hHeld.alloc (Nat.le_trans (Nat.le_of_eq hN) hHeld.size) (.cells #[] 3 (0, 0))
                  rw [← hhc]
                  clear hhc
                  refine hK.out _ _ hb (fun hHeld => ?_)
                  clear hK K hb
                  set_option linter.unusedSimpArgs false in try simp only [Act.put, List.setIfInBounds_toArray, List.set_cons_zero, List.set_cons_succ]
                  generalize (V10.alloc (.cells #[] 3 (0, 0))) = V11 at *
                  refine wpAnyH_ready (rs := [4]) (by kernel_rfl) (by simp) ?_
                  refine AllReadyH.cons rfl (fun K hK => ?_) ?_
                  · try rw [if_pos (by rfl)]
                    refine wp_append_none (.tmp 48) (.tmp 51) 26 rfl 3 i0 Tryd.underlying26 hi hc 0 _ _ rfl ⟨g0, 0, none⟩ 0 cap0 (by first | rfl | (simp [Act.eval, Act.put]; done) | (simp [Act.eval, Act.put]; omega)) (by omega) (ownI_cap2 OWN.out) ?_
                    have hb := hHeld
                    refine hK.out _ _ hb (fun hHeld => ?_)
                    clear hK K hb
                    set_option linter.unusedSimpArgs false in try simp only [Act.put, List.setIfInBounds_toArray, List.set_cons_zero, List.set_cons_succ]
                    refine wpAnyH_ready (rs := [7]) (by kernel_rfl) (by simp) ?_
                    refine AllReadyH.cons rfl (fun K hK => ?_) ?_
                    · try rw [if_pos (by rfl)]
                      refine wp_append_lies _ (.tmp 52) (.tmp 54) 26 rfl N 3 i0 (.int .i64 0) 1 8 Tryd.underlying26 hi hz0 hz1 hz2 rfl (by decide) _ 0 _ rfl OWN.out ⟨h6, 0, none⟩ 1 1 [.int .i64 (i : Int)] rfl (by first | (simp only [List.length_map, List.length_take, List.length_drop, List.length_cons, List.length_nil]; done) | (simp only [List.length_map, List.length_take, List.length_drop, List.length_cons, List.length_nil]; omega)) (fun j u hu => by rw [add_at]; exact newsO C6.out.1 hu) (fun u hu => oneI (L := [(i : Int)]) hu) (by omega) (by unfold maxLen; omega) (by omega) (Nat.le_trans (Nat.le_of_eq hN) hHeld.size) _ rfl (fun gn cn Vn own hg hat hlt => ?_)
                      have hgN : N ≤ hc := (World.ownsRow.lt OWN.out hc rfl).1
                      have hb : Below N Wd Vn := hHeld.grown hg (Nat.le_trans (Nat.le_of_eq hN) hHeld.size) (fun q hq => ownN hq hgN)
                      have C6b := Lib.hid (show Vn.cell? ⟨h6, 0, none⟩ = some (.int .i64 (i : Int)) ∧ h6 < Vn.heap.size ∧ N ≤ h6 from ⟨hg.cell C6.out.1 (ownNe NE.out), Nat.lt_of_lt_of_le C6.out.2.1 hg.size, C6.out.2.2⟩)
                      have NEb := Lib.hid (show h6 ≠ gn by have h1 := C6.out.2.1; have h2 := NE.out; exact nehat h1 h2 hat)
                      clear C6 NE
                      have C6 := C6b
                      have NE := NEb
                      clear C6b NEb
                      clear OWN hg hat hlt hgN
                      have OWN := Lib.hid own
                      clear own
                      refine hK.out _ _ hb (fun hHeld => ?_)
                      clear hK K hb
                      set_option linter.unusedSimpArgs false in try simp only [Act.put, List.setIfInBounds_toArray, List.set_cons_zero, List.set_cons_succ]
                      obtain ⟨hc, rfl⟩ : ∃ h, h = gn := ⟨_, rfl⟩
                      obtain ⟨cc, rfl⟩ : ∃ h, h = cn := ⟨_, rfl⟩
                      refine wpAnyH_ready (rs := [11]) (by kernel_rfl) (by simp) ?_
                      refine AllReadyH.cons rfl (fun K hK => ?_) ?_
                      · try rw [if_pos (by rfl)]
                        refine wp_append_none (.tmp 55) (.tmp 58) 26 rfl 3 i0 Tryd.underlying26 hi hc 0 _ _ rfl ⟨g0, 0, none⟩ (i - 0) (cap0 - 0) (by first | rfl | (simp [Act.eval, Act.put]; done) | (simp [Act.eval, Act.put]; omega)) (by omega) (ownI_cap2 OWN.out) ?_
                        have hb := hHeld
                        refine hK.out _ _ hb (fun hHeld => ?_)
                        clear hK K hb
                        set_option linter.unusedSimpArgs false in try simp only [Act.put, List.setIfInBounds_toArray, List.set_cons_zero, List.set_cons_succ]
                        refine wpAnyH_take (i := 12) (oi := { dst := some 4, op := _, type := _, pos := _, after := _, guard := _ }) (v := ?_) rfl (by kernel_rfl) (by kernel_rfl) (by kernel_rfl) (fun _ _ _ h => h) (Or.inl ⟨by rfl, ?_⟩) hHeld ?_
                        rotate_left
                        · (intro w hSw; clear hSw; go_simp; first | done | with_reducible rfl | rfl | simp)
                        set_option linter.unusedSimpArgs false in try simp only [Act.put, List.setIfInBounds_toArray, List.set_cons_zero, List.set_cons_succ]
                        refine wpAnyH_done (by kernel_rfl) ?_ _
                        refine NoPanic.normal ?_
                        have hLs := sortL_succ X hlt
                        rw [HKP.out] at hLs
                        have hrow : Vn.ownsRow w.heap.size 3 1 (.slice (some ⟨hc, 0, none⟩) (i + 1) cc) (i + 1) ((sortL X n (i + 1)).map (Value.int .i64)) := by
                          have o := OWN.out
                          refine ownI_re o hwN ?_ ?_
                          · omega
                          · have hdn : (sortL X n i).drop i = [] := List.drop_of_length_le (by omega)
                            rw [hLs]; simp [hdn]
                            all_goals first | omega | exact List.length_eq_zero_iff.1 (by omega)
                        have hbW := Lib.hid (KQ.out.2.trans (hHeld.mono hwN))
                        have eL : (0 + 1) = i + 1 := by omega
                        try rw [eL]
                        have HR := Lib.hid hrow
                        clear hrow OWN hHeld HO C6 NE
                        go_wp2_with fail
                        go_roundw
                        case rel => exact ⟨i + 1, hc, cc, by omega, by go_num, by first | rfl | (congr 1; done) | (congr 1; omega), HR, HT2, hbW⟩
                        case measure => simp [Lib.intOf]; omega
                      exact AllReadyH.nil
                    exact AllReadyH.nil
                  exact AllReadyH.nil
                exact AllReadyH.nil
              exact AllReadyH.nil
          · obtain ⟨j, rfl⟩ : ∃ j, k = j + 1 := ⟨k - 1, by omega⟩
            have hj : j < i := by omega
            obtain ⟨q, hq, hqe, hqj⟩ := sortL_at X (n := n) (i := i) (j := j) (by omega) hj
            obtain ⟨B, hBq, hm⟩ := atA_of_lt HL.out (show q < n by omega)
            have okB := okA_at hBq hq HT.out
            have CB := Lib.hid (fun W => l6Text_any B.d B.l B.f B.s B.o B.n B.x B.c B.k B.a B.t B.c' B.k' B.a' B.t' W okB)
            have CA := Lib.hid (fun W => l6Text_any A.d A.l A.f A.s A.o A.n A.x A.c A.k A.a A.t A.c' A.k' A.a' A.t' W HP.out)
            have hlt2 : ltA X i q = lessT A.text B.text := by unfold ltA; rw [getA hAq, getA hBq]
            unfold Arm.text at hlt2
            generalize armsN A.d A.l A.f A.s A.o A.n A.x A.c A.k A.a A.t A.c' A.k' A.a' A.t' = TA at *
            generalize armsN B.d B.l B.f B.s B.o B.n B.x B.c B.k B.a B.t B.c' B.k' B.a' B.t' = TB at *
            have ej : ((j + 1 : Nat) : Int) = (j : Int) + 1 := by omega
            have HK1 : Hid (posP (ltA X) (sortN (ltA X) n i) i (j + 1) = if lessT TA TB = true then posP (ltA X) (sortN (ltA X) n i) i j else j + 1) := Lib.hid (by rw [posP, hqe, hlt2])
            have yw : IntKind.i64.wrap (j : Int) = (j : Int) := IntWalk.i64_in _ (by omega)
            have b1 : decide ((0 : Int) < (j : Int) + 1) = true := decide_eq_true (by omega)
            have b2 : (0 : Int) ≤ (j : Int) := by omega
            have b3 : (j : Int) < (i : Int) := by omega
            have b4 : (0 : Int) ≤ (q : Int) := by omega
            have b5 : (q : Int) < (n : Int) := by omega
            have b6 : (0 : Int) ≤ (i : Int) := by omega
            have b7 : (i : Int) < (n : Int) := by omega
            clear hlt2 okB hm
            rw [ej]
            go_upto_region 10 with fail
            have hS0 : SS w X n b o q i g0 cap0 wr.drew := ⟨KQ0.out.below (Below.refl _ _).drew, hbw, rfl, rfl⟩
            refine wp_region_noPanic ?_
            refine wp_region_held_drew (S := fun W => SS w X n b o q i g0 cap0 W) (by kernel_rfl) hS0 (fun hHeld => ?_)
            clear hS0
            generalize wr.drew = Wd at *
            refine wpAnyH_take (i := 0) (oi := { dst := some 27, op := _, type := _, pos := _, after := _, guard := _ }) (v := ?_) rfl (by kernel_rfl) (by kernel_rfl) (by kernel_rfl) (fun _ _ _ h => h) (Or.inl ⟨by rfl, ?_⟩) hHeld ?_
            rotate_left
            · (intro w hSw; clear hSw; go_simp; first | done | with_reducible rfl)
            set_option linter.unusedSimpArgs false in try simp only [Act.put, List.setIfInBounds_toArray, List.set_cons_zero, List.set_cons_succ]
            refine wpAnyH_take (i := 1) (oi := { dst := some 28, op := _, type := _, pos := _, after := _, guard := _ }) (v := ?_) rfl (by kernel_rfl) (by kernel_rfl) (by kernel_rfl) (fun _ _ _ h => h) (Or.inl ⟨by rfl, ?_⟩) hHeld ?_
            rotate_left
            · (intro w hSw; clear hSw; go_simp; first | done | with_reducible rfl)
            set_option linter.unusedSimpArgs false in try simp only [Act.put, List.setIfInBounds_toArray, List.set_cons_zero, List.set_cons_succ]
            refine wpAnyH_take (i := 2) (oi := { dst := some 29, op := _, type := _, pos := _, after := _, guard := _ }) (v := ?_) rfl (by kernel_rfl) (by kernel_rfl) (by kernel_rfl) (fun _ _ _ h => h) (Or.inl ⟨by rfl, ?_⟩) hHeld ?_
            rotate_left
            · (intro w hSw; clear hSw; go_simp; first | done | with_reducible rfl)
            set_option linter.unusedSimpArgs false in try simp only [Act.put, List.setIfInBounds_toArray, List.set_cons_zero, List.set_cons_succ]
            refine wpAnyH_take (i := 3) (oi := { dst := some 30, op := _, type := _, pos := _, after := _, guard := _ }) (v := ?_) rfl (by kernel_rfl) (by kernel_rfl) (by kernel_rfl) (fun _ _ _ h => h) (Or.inl ⟨by rfl, ?_⟩) hHeld ?_
            rotate_left
            · (intro w hSw; clear hSw; go_simp; first | done | with_reducible rfl)
            set_option linter.unusedSimpArgs false in try simp only [Act.put, List.setIfInBounds_toArray, List.set_cons_zero, List.set_cons_succ]
            refine wpAnyH_take (i := 4) (oi := { dst := some 31, op := _, type := _, pos := _, after := _, guard := _ }) (v := ?_) rfl (by kernel_rfl) (by kernel_rfl) (by kernel_rfl) (fun _ _ _ h => h) (Or.inl ⟨by rfl, ?_⟩) hHeld ?_
            rotate_left
            · (intro w hSw; clear hSw; go_simp; first | done | with_reducible rfl)
            set_option linter.unusedSimpArgs false in try simp only [Act.put, List.setIfInBounds_toArray, List.set_cons_zero, List.set_cons_succ]
            refine wpAnyH_take (i := 5) (oi := { dst := some 32, op := _, type := _, pos := _, after := _, guard := _ }) (v := ?_) rfl (by kernel_rfl) (by kernel_rfl) (by kernel_rfl) (fun _ _ _ h => h) (Or.inl ⟨by rfl, ?_⟩) hHeld ?_
            rotate_left
            · (intro w hSw; clear hSw; go_simp; first | done | with_reducible rfl)
            set_option linter.unusedSimpArgs false in try simp only [Act.put, List.setIfInBounds_toArray, List.set_cons_zero, List.set_cons_succ]
            refine wpAnyH_take (i := 6) (oi := { dst := some 33, op := _, type := _, pos := _, after := _, guard := _ }) (v := .int .i64 (j : Int)) rfl (by kernel_rfl) (by kernel_rfl) (by kernel_rfl) (fun _ _ _ h => h) (Or.inl ⟨by rfl, ?_⟩) hHeld ?_
            · (intro w hSw; clear hSw; go_simp; first | done | with_reducible rfl)
            set_option linter.unusedSimpArgs false in try simp only [Act.put, List.setIfInBounds_toArray, List.set_cons_zero, List.set_cons_succ]
            refine wpAnyH_take (i := 7) (oi := { dst := some 34, op := _, type := _, pos := _, after := _, guard := _ }) (v := .pointer (some ⟨g0, j, none⟩)) rfl (by kernel_rfl) (by kernel_rfl) (by kernel_rfl) (fun _ _ _ h => h) (Or.inl ⟨by rfl, ?_⟩) hHeld ?_
            · (intro w hSw; clear hSw; go_simp; first | done | with_reducible rfl)
            set_option linter.unusedSimpArgs false in try simp only [Act.put, List.setIfInBounds_toArray, List.set_cons_zero, List.set_cons_succ]
            refine wpAnyH_take (i := 8) (oi := { dst := some 35, op := _, type := _, pos := _, after := _, guard := _ }) (v := .int .i64 (q : Int)) rfl (by kernel_rfl) (by kernel_rfl) (by kernel_rfl) (fun _ _ _ h => h) (Or.inl ⟨by rfl, ?_⟩) hHeld ?_
            · (intro w hSw; have c_ := hSw.out_at hj hqj; clear hSw; go_simp; first | done | rfl)
            set_option linter.unusedSimpArgs false in try simp only [Act.put, List.setIfInBounds_toArray, List.set_cons_zero, List.set_cons_succ]
            refine wpAnyH_take (i := 9) (oi := { dst := some 36, op := _, type := _, pos := _, after := _, guard := _ }) (v := .pointer (some ⟨b, o + q * 15, none⟩)) rfl (by kernel_rfl) (by kernel_rfl) (by kernel_rfl) (fun _ _ _ h => h) (Or.inl ⟨by rfl, ?_⟩) hHeld ?_
            · (intro w hSw; clear hSw; go_simp; first | done | with_reducible rfl)
            set_option linter.unusedSimpArgs false in try simp only [Act.put, List.setIfInBounds_toArray, List.set_cons_zero, List.set_cons_succ]
            refine wpAnyH_take (i := 10) rfl (by kernel_rfl) (by kernel_rfl) (by kernel_rfl) (fun _ _ _ h => h) (yieldsIf_load_mid (by rfl) 37 _ rfl b (o + q * 15) rfl [.int .i64 B.d, .int .i64 B.l, .int .i64 B.f, .int .i64 B.s, .int .i64 B.o, .int .i64 B.n, .int .i64 B.x, .int .i64 B.c, .int .i64 B.k, .int .i64 B.a, .int .i64 B.t, .int .i64 B.c', .int .i64 B.k', .int .i64 B.a', .int .i64 B.t'] _ (fun w h => h.rowB HC.out hBq) Tryd.underlying37 rfl (by kernel_rfl)) hHeld ?_
            set_option linter.unusedSimpArgs false in try simp only [Act.put, List.setIfInBounds_toArray, List.set_cons_zero, List.set_cons_succ]
            refine wpAnyH_take (i := 12) (oi := { dst := some 39, op := _, type := _, pos := _, after := _, guard := _ }) (v := ?_) rfl (by kernel_rfl) (by kernel_rfl) (by kernel_rfl) (fun _ _ _ h => h) (Or.inl ⟨by rfl, ?_⟩) hHeld ?_
            rotate_left
            · (intro w hSw; clear hSw; go_simp; first | done | with_reducible rfl)
            set_option linter.unusedSimpArgs false in try simp only [Act.put, List.setIfInBounds_toArray, List.set_cons_zero, List.set_cons_succ]
            refine wpAnyH_take (i := 13) (oi := { dst := some 40, op := _, type := _, pos := _, after := _, guard := _ }) (v := ?_) rfl (by kernel_rfl) (by kernel_rfl) (by kernel_rfl) (fun _ _ _ h => h) (Or.inl ⟨by rfl, ?_⟩) hHeld ?_
            rotate_left
            · (intro w hSw; clear hSw; go_simp; first | done | with_reducible rfl)
            set_option linter.unusedSimpArgs false in try simp only [Act.put, List.setIfInBounds_toArray, List.set_cons_zero, List.set_cons_succ]
            refine wpAnyH_take (i := 14) (oi := { dst := some 41, op := _, type := _, pos := _, after := _, guard := _ }) (v := .pointer (some ⟨b, o + i * 15, none⟩)) rfl (by kernel_rfl) (by kernel_rfl) (by kernel_rfl) (fun _ _ _ h => h) (Or.inl ⟨by rfl, ?_⟩) hHeld ?_
            · (intro w hSw; clear hSw; go_simp; first | done | with_reducible rfl)
            set_option linter.unusedSimpArgs false in try simp only [Act.put, List.setIfInBounds_toArray, List.set_cons_zero, List.set_cons_succ]
            refine wpAnyH_take (i := 15) rfl (by kernel_rfl) (by kernel_rfl) (by kernel_rfl) (fun _ _ _ h => h) (yieldsIf_load_mid (by rfl) 37 _ rfl b (o + i * 15) rfl [.int .i64 A.d, .int .i64 A.l, .int .i64 A.f, .int .i64 A.s, .int .i64 A.o, .int .i64 A.n, .int .i64 A.x, .int .i64 A.c, .int .i64 A.k, .int .i64 A.a, .int .i64 A.t, .int .i64 A.c', .int .i64 A.k', .int .i64 A.a', .int .i64 A.t'] _ (fun w h => h.rowA HC.out hAq) Tryd.underlying37 rfl (by kernel_rfl)) hHeld ?_
            set_option linter.unusedSimpArgs false in try simp only [Act.put, List.setIfInBounds_toArray, List.set_cons_zero, List.set_cons_succ]
            refine wpAnyH_ready (rs := [11]) (by kernel_rfl) (by simp) ?_
            refine AllReadyH.cons rfl (fun K hK => ?_) ?_
            rotate_left
            · exact AllReadyH.nil
            rw [if_pos (by rfl)]
            go_simp
            refine (CB.out _).mono ?_
            rintro e Wb ⟨rfl, g_⟩
            have hS := hHeld.below g_
            clear g_ hHeld
            go_wp2_with fail
            refine hK.out _ _ hS (fun hHeld => ?_)
            clear hK K hS
            set_option linter.unusedSimpArgs false in try simp only [Act.put, List.setIfInBounds_toArray, List.set_cons_zero, List.set_cons_succ]
            refine wpAnyH_ready (rs := [16]) (by kernel_rfl) (by simp) ?_
            refine AllReadyH.cons rfl (fun K hK => ?_) ?_
            rotate_left
            · exact AllReadyH.nil
            rw [if_pos (by rfl)]
            go_simp
            refine (CA.out _).mono ?_
            rintro e Wc ⟨rfl, g_⟩
            have hS := hHeld.below g_
            clear g_ hHeld
            go_wp2_with fail
            refine hK.out _ _ hS (fun hHeld => ?_)
            clear hK K hS
            set_option linter.unusedSimpArgs false in try simp only [Act.put, List.setIfInBounds_toArray, List.set_cons_zero, List.set_cons_succ]
            refine wpAnyH_take (i := 17) (oi := { dst := some 44, op := _, type := _, pos := _, after := _, guard := _ }) (v := .bool (lessT TA TB)) rfl (by kernel_rfl) (by kernel_rfl) (by kernel_rfl) (fun _ _ _ h => h) (Or.inl ⟨by rfl, ?_⟩) hHeld ?_
            · (intro w hSw; clear hSw; go_simp; first | done | exact gtT _ _ | rfl)
            set_option linter.unusedSimpArgs false in try simp only [Act.put, List.setIfInBounds_toArray, List.set_cons_zero, List.set_cons_succ]
            refine wpAnyH_take (i := 18) (oi := { dst := some 45, op := _, type := _, pos := _, after := _, guard := _ }) (v := .bool (lessT TA TB)) rfl (by kernel_rfl) (by kernel_rfl) (by kernel_rfl) (fun _ _ _ h => h) (Or.inl ⟨by rfl, ?_⟩) hHeld ?_
            · (intro w hSw; clear hSw; go_simp; first | done | with_reducible rfl | rfl)
            set_option linter.unusedSimpArgs false in try simp only [Act.put, List.setIfInBounds_toArray, List.set_cons_zero, List.set_cons_succ]
            refine wpAnyH_done (by kernel_rfl) ?_ _
            refine NoPanic.normal ?_
            have KQ := Lib.hid hHeld.ks
            clear hHeld
            clear CA CB KQ0
            obtain ⟨ltb, hl⟩ : ∃ x, lessT TA TB = x := ⟨_, rfl⟩
            rw [hl] at HK1 ⊢
            cases ltb
            · have HKP : Hid (posP (ltA X) (sortN (ltA X) n i) i i = j + 1) := Lib.hid (by rw [← HKP0.out, HK1.out, if_neg (by decide)])
              clear HKP0 HK1 hl
              go_wp2_with fail
              rcases Nat.lt_or_ge (j + 1) i with hji | hji
              · skip
                obtain ⟨N, hN⟩ : ∃ N, N = Wc.heap.size := ⟨_, rfl⟩
                have hg0N : g0 < N := by have := (World.ownsRow.lt KQ.out.1 g0 rfl).2; omega
                have hwN : w.heap.size ≤ N := by have := KQ.out.2.size; omega
                have HO := Lib.hid (fun W (hb : Below N Wc W) p (hp : p < i) => (show W.cell? ⟨g0, p, none⟩ = ((sortL X n i)[p]?).map (Value.int .i64) by
                  rw [hb.cell (p := ⟨g0, p, none⟩) hg0N, World.ownsRow.cellAt KQ.out.1 p (by omega), List.getElem?_map]))
                have hLL := sortL_len X n i
                have hcap : i ≤ cap0 := ownI_cap KQ.out.1
                obtain ⟨i0, hi, hz0, hz1, hz2⟩ := infoN
                have a1 : ((j + 1) : Int) ≤ (cap0 : Int) := by omega
                have a2 : (0 : Int) ≤ ((j + 1) : Int) := by omega
                have a3 : ((j + 1) : Int) ≤ (i : Int) := by omega
                have a4 : (j + 1) ≤ i := by omega
                have a5 : (j + 1) ≤ cap0 := by omega
                have a6 : ((i : Int) - ((j + 1) : Int)).toNat = i - (j + 1) := by omega
                have a7 : ((j + 1) : Int).toNat = (j + 1) := by omega
                have a8 : ((cap0 : Int) - ((j + 1) : Int)).toNat = cap0 - (j + 1) := by omega
                go_upto_region 12 with fail
                refine wp_region_noPanic ?_
                refine wp_region_held_drew (S := fun W => Below N Wc W) (by kernel_rfl) (by rw [hN]; exact (Below.refl _ _).drew) (fun hHeld => ?_)
                generalize Wc.drew = We at *
                refine wpAnyH_take (i := 1) (oi := { dst := some 49, op := _, type := _, pos := _, after := _, guard := _ }) (v := ?_) rfl (by kernel_rfl) (by kernel_rfl) (by kernel_rfl) (fun _ _ _ h => h) (Or.inl ⟨by rfl, ?_⟩) hHeld ?_
                rotate_left
                · (intro w hSw; clear hSw; go_simp; first | done | with_reducible rfl | rfl | simp)
                set_option linter.unusedSimpArgs false in try simp only [Act.put, List.setIfInBounds_toArray, List.set_cons_zero, List.set_cons_succ]
                refine wpAnyH_take (i := 2) (oi := { dst := some 50, op := _, type := _, pos := _, after := _, guard := _ }) (v := ?_) rfl (by kernel_rfl) (by kernel_rfl) (by kernel_rfl) (fun _ _ _ h => h) (Or.inl ⟨by rfl, ?_⟩) hHeld ?_
                rotate_left
                · (intro w hSw; clear hSw; go_simp; first | done | with_reducible rfl | rfl | simp)
                set_option linter.unusedSimpArgs false in try simp only [Act.put, List.setIfInBounds_toArray, List.set_cons_zero, List.set_cons_succ]
                refine wpAnyH_take (i := 3) (oi := { dst := some 51, op := _, type := _, pos := _, after := _, guard := _ }) (v := .slice (some ⟨g0, 0, none⟩) (j + 1) cap0) rfl (by kernel_rfl) (by kernel_rfl) (by kernel_rfl) (fun _ _ _ h => h) (Or.inl ⟨by rfl, ?_⟩) hHeld ?_
                · (intro w hSw; clear hSw; go_simp; first | done | with_reducible rfl | rfl | simp)
                set_option linter.unusedSimpArgs false in try simp only [Act.put, List.setIfInBounds_toArray, List.set_cons_zero, List.set_cons_succ]
                refine wpAnyH_take (i := 5) (oi := { dst := some 53, op := _, type := _, pos := _, after := _, guard := _ }) (v := ?_) rfl (by kernel_rfl) (by kernel_rfl) (by kernel_rfl) (fun _ _ _ h => h) (Or.inl ⟨by rfl, ?_⟩) hHeld ?_
                rotate_left
                · (intro w hSw; clear hSw; go_simp; first | done | with_reducible rfl | rfl | simp)
                set_option linter.unusedSimpArgs false in try simp only [Act.put, List.setIfInBounds_toArray, List.set_cons_zero, List.set_cons_succ]
                refine wpAnyH_take (i := 8) (oi := { dst := some 56, op := _, type := _, pos := _, after := _, guard := _ }) (v := ?_) rfl (by kernel_rfl) (by kernel_rfl) (by kernel_rfl) (fun _ _ _ h => h) (Or.inl ⟨by rfl, ?_⟩) hHeld ?_
                rotate_left
                · (intro w hSw; clear hSw; go_simp; first | done | with_reducible rfl | rfl | simp)
                set_option linter.unusedSimpArgs false in try simp only [Act.put, List.setIfInBounds_toArray, List.set_cons_zero, List.set_cons_succ]
                refine wpAnyH_take (i := 9) (oi := { dst := some 57, op := _, type := _, pos := _, after := _, guard := _ }) (v := ?_) rfl (by kernel_rfl) (by kernel_rfl) (by kernel_rfl) (fun _ _ _ h => h) (Or.inl ⟨by rfl, ?_⟩) hHeld ?_
                rotate_left
                · (intro w hSw; clear hSw; go_simp; first | done | with_reducible rfl | rfl | simp)
                set_option linter.unusedSimpArgs false in try simp only [Act.put, List.setIfInBounds_toArray, List.set_cons_zero, List.set_cons_succ]
                refine wpAnyH_take (i := 10) (oi := { dst := some 58, op := _, type := _, pos := _, after := _, guard := _ }) (v := .slice (some ⟨g0, (j + 1), none⟩) (i - (j + 1)) (cap0 - (j + 1))) rfl (by kernel_rfl) (by kernel_rfl) (by kernel_rfl) (fun _ _ _ h => h) (Or.inl ⟨by rfl, ?_⟩) hHeld ?_
                · (intro w hSw; clear hSw; go_simp; first | done | with_reducible rfl | rfl | omega | simp)
                set_option linter.unusedSimpArgs false in try simp only [Act.put, List.setIfInBounds_toArray, List.set_cons_zero, List.set_cons_succ]
                refine wpAnyH_ready (rs := [0, 6]) (by kernel_rfl) (by simp) ?_
                refine AllReadyH.cons rfl (fun K hK => ?_) ?_
                · try rw [if_pos (by rfl)]
                  go_simp
                  obtain ⟨hc, hhc⟩ : ∃ h, h = We.heap.size := ⟨_, rfl⟩
                  have OWN := Lib.hid (show (We.alloc (.cells #[] 3 (0, 0))).ownsRow N 3 1 (.slice (some ⟨hc, 0, none⟩) 0 0) 0 [] by rw [hhc]; exact World.ownsRow_lit We #[] 0 (Nat.le_trans (Nat.le_of_eq hN) hHeld.size) (by unfold maxLen; omega) rfl)
                  have hb := hHeld.alloc (Nat.le_trans (Nat.le_of_eq hN) hHeld.size) (.cells #[] 3 (0, 0))
                  rw [← hhc]
                  clear hhc
                  refine hK.out _ _ hb (fun hHeld => ?_)
                  clear hK K hb
                  set_option linter.unusedSimpArgs false in try simp only [Act.put, List.setIfInBounds_toArray, List.set_cons_zero, List.set_cons_succ]
                  generalize (We.alloc (.cells #[] 3 (0, 0))) = V29 at *
                  refine wpAnyH_ready (rs := [4, 6]) (by kernel_rfl) (by simp) ?_
                  refine AllReadyH.cons rfl (fun K hK => ?_) ?_
                  · try rw [if_pos (by rfl)]
                    refine wp_append_lies _ (.tmp 48) (.tmp 51) 26 rfl N 3 i0 (.int .i64 0) 1 8 Tryd.underlying26 hi hz0 hz1 hz2 rfl (by decide) _ 0 _ rfl OWN.out ⟨g0, 0, none⟩ (j + 1) cap0 (((sortL X n i).take (j + 1)).map (Value.int .i64)) rfl (by first | (simp only [List.length_map, List.length_take, List.length_drop, List.length_cons, List.length_nil]; done) | (simp only [List.length_map, List.length_take, List.length_drop, List.length_cons, List.length_nil]; omega)) (fun j u hu => by rw [add_at]; exact newsT HO.out hHeld hLL a4 hu) (fun u hu => oneI hu) (by omega) (by unfold maxLen; omega) (by omega) (Nat.le_trans (Nat.le_of_eq hN) hHeld.size) _ rfl (fun gn cn Vn own hg hat hlt => ?_)
                    have hgN : N ≤ hc := (World.ownsRow.lt OWN.out hc rfl).1
                    have hb : Below N Wc Vn := hHeld.grown hg (Nat.le_trans (Nat.le_of_eq hN) hHeld.size) (fun q hq => ownN hq hgN)
                    simp only [Nat.zero_add, List.nil_append] at own ⊢
                    clear OWN hg hat hlt hgN
                    have OWN := Lib.hid own
                    clear own
                    refine hK.out _ _ hb (fun hHeld => ?_)
                    clear hK K hb
                    set_option linter.unusedSimpArgs false in try simp only [Act.put, List.setIfInBounds_toArray, List.set_cons_zero, List.set_cons_succ]
                    obtain ⟨hc, rfl⟩ : ∃ h, h = gn := ⟨_, rfl⟩
                    obtain ⟨cc, rfl⟩ : ∃ h, h = cn := ⟨_, rfl⟩
                    refine wpAnyH_ready (rs := [6]) (by kernel_rfl) (by simp) ?_
                    refine AllReadyH.cons rfl (fun K hK => ?_) ?_
                    · try rw [if_pos (by rfl)]
                      go_simp
                      obtain ⟨h6, hh6⟩ : ∃ h, h = Vn.heap.size := ⟨_, rfl⟩
                      have C6 := Lib.hid (show (Vn.alloc (.cells #[.int .i64 (i : Int)] 3 (0, 0))).cell? ⟨h6, 0, none⟩ = some (.int .i64 (i : Int)) ∧ h6 < (Vn.alloc (.cells #[.int .i64 (i : Int)] 3 (0, 0))).heap.size ∧ N ≤ h6 from ⟨by rw [hh6]; exact cell_newI Vn _ _, by rw [hh6]; simp, by rw [hh6]; exact (Nat.le_trans (Nat.le_of_eq hN) hHeld.size)⟩)
                      have NE := Lib.hid (show h6 ≠ hc by have := (World.ownsRow.lt OWN.out hc rfl).2; omega)
                      have OWNb := Lib.hid (OWN.out.alloc (.cells #[.int .i64 (i : Int)] 3 (0, 0)))
                      clear OWN
                      have OWN := OWNb
                      clear OWNb
                      have hb := hHeld.alloc (Nat.le_trans (Nat.le_of_eq hN) hHeld.size) (.cells #[.int .i64 (i : Int)] 3 (0, 0))
                      rw [← hh6]
                      clear hh6
                      refine hK.out _ _ hb (fun hHeld => ?_)
                      clear hK K hb
                      set_option linter.unusedSimpArgs false in try simp only [Act.put, List.setIfInBounds_toArray, List.set_cons_zero, List.set_cons_succ]
                      generalize (Vn.alloc (.cells #[.int .i64 (i : Int)] 3 (0, 0))) = V31 at *
                      refine wpAnyH_ready (rs := [7]) (by kernel_rfl) (by simp) ?_
                      refine AllReadyH.cons rfl (fun K hK => ?_) ?_
                      · try rw [if_pos (by rfl)]
                        refine wp_append_lies _ (.tmp 52) (.tmp 54) 26 rfl N 3 i0 (.int .i64 0) 1 8 Tryd.underlying26 hi hz0 hz1 hz2 rfl (by decide) _ (j + 1) _ rfl OWN.out ⟨h6, 0, none⟩ 1 1 [.int .i64 (i : Int)] rfl (by first | (simp only [List.length_map, List.length_take, List.length_drop, List.length_cons, List.length_nil]; done) | (simp only [List.length_map, List.length_take, List.length_drop, List.length_cons, List.length_nil]; omega)) (fun j u hu => by rw [add_at]; exact newsO C6.out.1 hu) (fun u hu => oneI (L := [(i : Int)]) hu) (by omega) (by unfold maxLen; omega) (by omega) (Nat.le_trans (Nat.le_of_eq hN) hHeld.size) _ rfl (fun gn cn Vn own hg hat hlt => ?_)
                        have hgN : N ≤ hc := (World.ownsRow.lt OWN.out hc rfl).1
                        have hb : Below N Wc Vn := hHeld.grown hg (Nat.le_trans (Nat.le_of_eq hN) hHeld.size) (fun q hq => ownN hq hgN)
                        have C6b := Lib.hid (show Vn.cell? ⟨h6, 0, none⟩ = some (.int .i64 (i : Int)) ∧ h6 < Vn.heap.size ∧ N ≤ h6 from ⟨hg.cell C6.out.1 (ownNe NE.out), Nat.lt_of_lt_of_le C6.out.2.1 hg.size, C6.out.2.2⟩)
                        have NEb := Lib.hid (show h6 ≠ gn by have h1 := C6.out.2.1; have h2 := NE.out; exact nehat h1 h2 hat)
                        clear C6 NE
                        have C6 := C6b
                        have NE := NEb
                        clear C6b NEb
                        clear OWN hg hat hlt hgN
                        have OWN := Lib.hid own
                        clear own
                        refine hK.out _ _ hb (fun hHeld => ?_)
                        clear hK K hb
                        set_option linter.unusedSimpArgs false in try simp only [Act.put, List.setIfInBounds_toArray, List.set_cons_zero, List.set_cons_succ]
                        obtain ⟨hc, rfl⟩ : ∃ h, h = gn := ⟨_, rfl⟩
                        obtain ⟨cc, rfl⟩ : ∃ h, h = cn := ⟨_, rfl⟩
                        refine wpAnyH_ready (rs := [11]) (by kernel_rfl) (by simp) ?_
                        refine AllReadyH.cons rfl (fun K hK => ?_) ?_
                        · try rw [if_pos (by rfl)]
                          refine wp_append_lies _ (.tmp 55) (.tmp 58) 26 rfl N 3 i0 (.int .i64 0) 1 8 Tryd.underlying26 hi hz0 hz1 hz2 rfl (by decide) _ ((j + 1) + 1) _ rfl OWN.out ⟨g0, (j + 1), none⟩ (i - (j + 1)) (cap0 - (j + 1)) (((sortL X n i).drop (j + 1)).map (Value.int .i64)) rfl (by first | (simp only [List.length_map, List.length_take, List.length_drop, List.length_cons, List.length_nil]; done) | (simp only [List.length_map, List.length_take, List.length_drop, List.length_cons, List.length_nil]; omega)) (fun j u hu => by rw [add_at]; exact newsD HO.out hHeld hLL hu) (fun u hu => oneI hu) (by omega) (by unfold maxLen; omega) (by omega) (Nat.le_trans (Nat.le_of_eq hN) hHeld.size) _ rfl (fun gn cn Vn own hg hat hlt => ?_)
                          have hgN : N ≤ hc := (World.ownsRow.lt OWN.out hc rfl).1
                          have hb : Below N Wc Vn := hHeld.grown hg (Nat.le_trans (Nat.le_of_eq hN) hHeld.size) (fun q hq => ownN hq hgN)
                          have C6b := Lib.hid (show Vn.cell? ⟨h6, 0, none⟩ = some (.int .i64 (i : Int)) ∧ h6 < Vn.heap.size ∧ N ≤ h6 from ⟨hg.cell C6.out.1 (ownNe NE.out), Nat.lt_of_lt_of_le C6.out.2.1 hg.size, C6.out.2.2⟩)
                          have NEb := Lib.hid (show h6 ≠ gn by have h1 := C6.out.2.1; have h2 := NE.out; exact nehat h1 h2 hat)
                          clear C6 NE
                          have C6 := C6b
                          have NE := NEb
                          clear C6b NEb
                          clear OWN hg hat hlt hgN
                          have OWN := Lib.hid own
                          clear own
                          refine hK.out _ _ hb (fun hHeld => ?_)
                          clear hK K hb
                          set_option linter.unusedSimpArgs false in try simp only [Act.put, List.setIfInBounds_toArray, List.set_cons_zero, List.set_cons_succ]
                          obtain ⟨hc, rfl⟩ : ∃ h, h = gn := ⟨_, rfl⟩
                          obtain ⟨cc, rfl⟩ : ∃ h, h = cn := ⟨_, rfl⟩
                          refine wpAnyH_take (i := 12) (oi := { dst := some 4, op := _, type := _, pos := _, after := _, guard := _ }) (v := ?_) rfl (by kernel_rfl) (by kernel_rfl) (by kernel_rfl) (fun _ _ _ h => h) (Or.inl ⟨by rfl, ?_⟩) hHeld ?_
                          rotate_left
                          · (intro w hSw; clear hSw; go_simp; first | done | with_reducible rfl | rfl | simp)
                          set_option linter.unusedSimpArgs false in try simp only [Act.put, List.setIfInBounds_toArray, List.set_cons_zero, List.set_cons_succ]
                          refine wpAnyH_done (by kernel_rfl) ?_ _
                          refine NoPanic.normal ?_
                          have hLs := sortL_succ X hlt
                          rw [HKP.out] at hLs
                          have hrow : Vn.ownsRow w.heap.size 3 1 (.slice (some ⟨hc, 0, none⟩) (i + 1) cc) (i + 1) ((sortL X n (i + 1)).map (Value.int .i64)) := by
                            have o := OWN.out
                            refine ownI_re o hwN ?_ ?_
                            · omega
                            · have hdn : (sortL X n i).drop i = [] := List.drop_of_length_le (by omega)
                              rw [hLs]; simp [hdn]
                              all_goals first | omega | exact List.length_eq_zero_iff.1 (by omega)
                          have hbW := Lib.hid (KQ.out.2.trans (hHeld.mono hwN))
                          have eL : ((j + 1) + 1 + (i - (j + 1))) = i + 1 := by omega
                          try rw [eL]
                          have HR := Lib.hid hrow
                          clear hrow OWN hHeld HO C6 NE
                          go_wp2_with fail
                          go_roundw
                          case rel => exact ⟨i + 1, hc, cc, by omega, by go_num, by first | rfl | (congr 1; done) | (congr 1; omega), HR, HT2, hbW⟩
                          case measure => simp [Lib.intOf]; omega
                        exact AllReadyH.nil
                      exact AllReadyH.nil
                    exact AllReadyH.nil
                  refine AllReadyH.cons rfl (fun K hK => ?_) ?_
                  · try rw [if_pos (by rfl)]
                    go_simp
                    obtain ⟨h6, hh6⟩ : ∃ h, h = V29.heap.size := ⟨_, rfl⟩
                    have C6 := Lib.hid (show (V29.alloc (.cells #[.int .i64 (i : Int)] 3 (0, 0))).cell? ⟨h6, 0, none⟩ = some (.int .i64 (i : Int)) ∧ h6 < (V29.alloc (.cells #[.int .i64 (i : Int)] 3 (0, 0))).heap.size ∧ N ≤ h6 from ⟨by rw [hh6]; exact cell_newI V29 _ _, by rw [hh6]; simp, by rw [hh6]; exact (Nat.le_trans (Nat.le_of_eq hN) hHeld.size)⟩)
                    have NE := Lib.hid (show h6 ≠ hc by have := (World.ownsRow.lt OWN.out hc rfl).2; omega)
                    have OWNb := Lib.hid (OWN.out.alloc (.cells #[.int .i64 (i : Int)] 3 (0, 0)))
                    clear OWN
                    have OWN := OWNb
                    clear OWNb
                    have hb := hHeld.alloc (Nat.le_trans (Nat.le_of_eq hN) hHeld.size) (.cells #[.int .i64 (i : Int)] 3 (0, 0))
                    rw [← hh6]
                    clear hh6
                    refine hK.out _ _ hb (fun hHeld => ?_)
                    clear hK K hb
                    set_option linter.unusedSimpArgs false in try simp only [Act.put, List.setIfInBounds_toArray, List.set_cons_zero, List.set_cons_succ]
                    generalize (V29.alloc (.cells #[.int .i64 (i : Int)] 3 (0, 0))) = V34 at *
                    refine wpAnyH_ready (rs := [4]) (by kernel_rfl) (by simp) ?_
                    refine AllReadyH.cons rfl (fun K hK => ?_) ?_
                    · try rw [if_pos (by rfl)]
                      refine wp_append_lies _ (.tmp 48) (.tmp 51) 26 rfl N 3 i0 (.int .i64 0) 1 8 Tryd.underlying26 hi hz0 hz1 hz2 rfl (by decide) _ 0 _ rfl OWN.out ⟨g0, 0, none⟩ (j + 1) cap0 (((sortL X n i).take (j + 1)).map (Value.int .i64)) rfl (by first | (simp only [List.length_map, List.length_take, List.length_drop, List.length_cons, List.length_nil]; done) | (simp only [List.length_map, List.length_take, List.length_drop, List.length_cons, List.length_nil]; omega)) (fun j u hu => by rw [add_at]; exact newsT HO.out hHeld hLL a4 hu) (fun u hu => oneI hu) (by omega) (by unfold maxLen; omega) (by omega) (Nat.le_trans (Nat.le_of_eq hN) hHeld.size) _ rfl (fun gn cn Vn own hg hat hlt => ?_)
                      have hgN : N ≤ hc := (World.ownsRow.lt OWN.out hc rfl).1
                      have hb : Below N Wc Vn := hHeld.grown hg (Nat.le_trans (Nat.le_of_eq hN) hHeld.size) (fun q hq => ownN hq hgN)
                      have C6b := Lib.hid (show Vn.cell? ⟨h6, 0, none⟩ = some (.int .i64 (i : Int)) ∧ h6 < Vn.heap.size ∧ N ≤ h6 from ⟨hg.cell C6.out.1 (ownNe NE.out), Nat.lt_of_lt_of_le C6.out.2.1 hg.size, C6.out.2.2⟩)
                      have NEb := Lib.hid (show h6 ≠ gn by have h1 := C6.out.2.1; have h2 := NE.out; exact nehat h1 h2 hat)
                      clear C6 NE
                      have C6 := C6b
                      have NE := NEb
                      clear C6b NEb
                      simp only [Nat.zero_add, List.nil_append] at own ⊢
                      clear OWN hg hat hlt hgN
                      have OWN := Lib.hid own
                      clear own
                      refine hK.out _ _ hb (fun hHeld => ?_)
                      clear hK K hb
                      set_option linter.unusedSimpArgs false in try simp only [Act.put, List.setIfInBounds_toArray, List.set_cons_zero, List.set_cons_succ]
                      obtain ⟨hc, rfl⟩ : ∃ h, h = gn := ⟨_, rfl⟩
                      obtain ⟨cc, rfl⟩ : ∃ h, h = cn := ⟨_, rfl⟩
                      refine wpAnyH_ready (rs := [7]) (by kernel_rfl) (by simp) ?_
                      refine AllReadyH.cons rfl (fun K hK => ?_) ?_
                      · try rw [if_pos (by rfl)]
                        refine wp_append_lies _ (.tmp 52) (.tmp 54) 26 rfl N 3 i0 (.int .i64 0) 1 8 Tryd.underlying26 hi hz0 hz1 hz2 rfl (by decide) _ (j + 1) _ rfl OWN.out ⟨h6, 0, none⟩ 1 1 [.int .i64 (i : Int)] rfl (by first | (simp only [List.length_map, List.length_take, List.length_drop, List.length_cons, List.length_nil]; done) | (simp only [List.length_map, List.length_take, List.length_drop, List.length_cons, List.length_nil]; omega)) (fun j u hu => by rw [add_at]; exact newsO C6.out.1 hu) (fun u hu => oneI (L := [(i : Int)]) hu) (by omega) (by unfold maxLen; omega) (by omega) (Nat.le_trans (Nat.le_of_eq hN) hHeld.size) _ rfl (fun gn cn Vn own hg hat hlt => ?_)
                        have hgN : N ≤ hc := (World.ownsRow.lt OWN.out hc rfl).1
                        have hb : Below N Wc Vn := hHeld.grown hg (Nat.le_trans (Nat.le_of_eq hN) hHeld.size) (fun q hq => ownN hq hgN)
                        have C6b := Lib.hid (show Vn.cell? ⟨h6, 0, none⟩ = some (.int .i64 (i : Int)) ∧ h6 < Vn.heap.size ∧ N ≤ h6 from ⟨hg.cell C6.out.1 (ownNe NE.out), Nat.lt_of_lt_of_le C6.out.2.1 hg.size, C6.out.2.2⟩)
                        have NEb := Lib.hid (show h6 ≠ gn by have h1 := C6.out.2.1; have h2 := NE.out; exact nehat h1 h2 hat)
                        clear C6 NE
                        have C6 := C6b
                        have NE := NEb
                        clear C6b NEb
                        clear OWN hg hat hlt hgN
                        have OWN := Lib.hid own
                        clear own
                        refine hK.out _ _ hb (fun hHeld => ?_)
                        clear hK K hb
                        set_option linter.unusedSimpArgs false in try simp only [Act.put, List.setIfInBounds_toArray, List.set_cons_zero, List.set_cons_succ]
                        obtain ⟨hc, rfl⟩ : ∃ h, h = gn := ⟨_, rfl⟩
                        obtain ⟨cc, rfl⟩ : ∃ h, h = cn := ⟨_, rfl⟩
                        refine wpAnyH_ready (rs := [11]) (by kernel_rfl) (by simp) ?_
                        refine AllReadyH.cons rfl (fun K hK => ?_) ?_
                        · try rw [if_pos (by rfl)]
                          refine wp_append_lies _ (.tmp 55) (.tmp 58) 26 rfl N 3 i0 (.int .i64 0) 1 8 Tryd.underlying26 hi hz0 hz1 hz2 rfl (by decide) _ ((j + 1) + 1) _ rfl OWN.out ⟨g0, (j + 1), none⟩ (i - (j + 1)) (cap0 - (j + 1)) (((sortL X n i).drop (j + 1)).map (Value.int .i64)) rfl (by first | (simp only [List.length_map, List.length_take, List.length_drop, List.length_cons, List.length_nil]; done) | (simp only [List.length_map, List.length_take, List.length_drop, List.length_cons, List.length_nil]; omega)) (fun j u hu => by rw [add_at]; exact newsD HO.out hHeld hLL hu) (fun u hu => oneI hu) (by omega) (by unfold maxLen; omega) (by omega) (Nat.le_trans (Nat.le_of_eq hN) hHeld.size) _ rfl (fun gn cn Vn own hg hat hlt => ?_)
                          have hgN : N ≤ hc := (World.ownsRow.lt OWN.out hc rfl).1
                          have hb : Below N Wc Vn := hHeld.grown hg (Nat.le_trans (Nat.le_of_eq hN) hHeld.size) (fun q hq => ownN hq hgN)
                          have C6b := Lib.hid (show Vn.cell? ⟨h6, 0, none⟩ = some (.int .i64 (i : Int)) ∧ h6 < Vn.heap.size ∧ N ≤ h6 from ⟨hg.cell C6.out.1 (ownNe NE.out), Nat.lt_of_lt_of_le C6.out.2.1 hg.size, C6.out.2.2⟩)
                          have NEb := Lib.hid (show h6 ≠ gn by have h1 := C6.out.2.1; have h2 := NE.out; exact nehat h1 h2 hat)
                          clear C6 NE
                          have C6 := C6b
                          have NE := NEb
                          clear C6b NEb
                          clear OWN hg hat hlt hgN
                          have OWN := Lib.hid own
                          clear own
                          refine hK.out _ _ hb (fun hHeld => ?_)
                          clear hK K hb
                          set_option linter.unusedSimpArgs false in try simp only [Act.put, List.setIfInBounds_toArray, List.set_cons_zero, List.set_cons_succ]
                          obtain ⟨hc, rfl⟩ : ∃ h, h = gn := ⟨_, rfl⟩
                          obtain ⟨cc, rfl⟩ : ∃ h, h = cn := ⟨_, rfl⟩
                          refine wpAnyH_take (i := 12) (oi := { dst := some 4, op := _, type := _, pos := _, after := _, guard := _ }) (v := ?_) rfl (by kernel_rfl) (by kernel_rfl) (by kernel_rfl) (fun _ _ _ h => h) (Or.inl ⟨by rfl, ?_⟩) hHeld ?_
                          rotate_left
                          · (intro w hSw; clear hSw; go_simp; first | done | with_reducible rfl | rfl | simp)
                          set_option linter.unusedSimpArgs false in try simp only [Act.put, List.setIfInBounds_toArray, List.set_cons_zero, List.set_cons_succ]
                          refine wpAnyH_done (by kernel_rfl) ?_ _
                          refine NoPanic.normal ?_
                          have hLs := sortL_succ X hlt
                          rw [HKP.out] at hLs
                          have hrow : Vn.ownsRow w.heap.size 3 1 (.slice (some ⟨hc, 0, none⟩) (i + 1) cc) (i + 1) ((sortL X n (i + 1)).map (Value.int .i64)) := by
                            have o := OWN.out
                            refine ownI_re o hwN ?_ ?_
                            · omega
                            · have hdn : (sortL X n i).drop i = [] := List.drop_of_length_le (by omega)
                              rw [hLs]; simp [hdn]
                              all_goals first | omega | exact List.length_eq_zero_iff.1 (by omega)
                          have hbW := Lib.hid (KQ.out.2.trans (hHeld.mono hwN))
                          have eL : ((j + 1) + 1 + (i - (j + 1))) = i + 1 := by omega
                          try rw [eL]
                          have HR := Lib.hid hrow
                          clear hrow OWN hHeld HO C6 NE
                          go_wp2_with fail
                          go_roundw
                          case rel => exact ⟨i + 1, hc, cc, by omega, by go_num, by first | rfl | (congr 1; done) | (congr 1; omega), HR, HT2, hbW⟩
                          case measure => simp [Lib.intOf]; omega
                        exact AllReadyH.nil
                      exact AllReadyH.nil
                    exact AllReadyH.nil
                  exact AllReadyH.nil
                refine AllReadyH.cons rfl (fun K hK => ?_) ?_
                · try rw [if_pos (by rfl)]
                  go_simp
                  obtain ⟨h6, hh6⟩ : ∃ h, h = We.heap.size := ⟨_, rfl⟩
                  have C6 := Lib.hid (show (We.alloc (.cells #[.int .i64 (i : Int)] 3 (0, 0))).cell? ⟨h6, 0, none⟩ = some (.int .i64 (i : Int)) ∧ h6 < (We.alloc (.cells #[.int .i64 (i : Int)] 3 (0, 0))).heap.size ∧ N ≤ h6 from ⟨by rw [hh6]; exact cell_newI We _ _, by rw [hh6]; simp, by rw [hh6]; exact (Nat.le_trans (Nat.le_of_eq hN) hHeld.size)⟩)
                  have hb := hHeld.alloc (Nat.le_trans (Nat.le_of_eq hN) hHeld.size) (.cells #[.int .i64 (i : Int)] 3 (0, 0))
                  rw [← hh6]
                  clear hh6
                  refine hK.out _ _ hb (fun hHeld => ?_)
                  clear hK K hb
                  set_option linter.unusedSimpArgs false in try simp only [Act.put, List.setIfInBounds_toArray, List.set_cons_zero, List.set_cons_succ]
                  generalize (We.alloc (.cells #[.int .i64 (i : Int)] 3 (0, 0))) = V38 at *
                  refine wpAnyH_ready (rs := [0]) (by kernel_rfl) (by simp) ?_
                  refine AllReadyH.cons rfl (fun K hK => ?_) ?_
                  · try rw [if_pos (by rfl)]
                    go_simp
                    obtain ⟨hc, hhc⟩ : ∃ h, h = V38.heap.size := ⟨_, rfl⟩
                    have OWN := Lib.hid (show (V38.alloc (.cells #[] 3 (0, 0))).ownsRow N 3 1 (.slice (some ⟨hc, 0, none⟩) 0 0) 0 [] by rw [hhc]; exact World.ownsRow_lit V38 #[] 0 (Nat.le_trans (Nat.le_of_eq hN) hHeld.size) (by unfold maxLen; omega) rfl)
                    have NE := Lib.hid (show h6 ≠ hc by have := C6.out.2.1; omega)
                    have C6b := Lib.hid (show (V38.alloc (.cells #[] 3 (0, 0))).cell? ⟨h6, 0, none⟩ = some (.int .i64 (i : Int)) ∧ h6 < (V38.alloc (.cells #[] 3 (0, 0))).heap.size ∧ N ≤ h6 from ⟨(((Below.refl _ V38).alloc (Nat.le_refl _) _).cell (p := ⟨h6, 0, none⟩) C6.out.2.1).trans C6.out.1, by have := C6.out.2.1; simp; omega, C6.out.2.2⟩)
                    clear C6
                    have C6 := C6b
                    clear C6b
                    have hb := hHeld.alloc (Nat.le_trans (Nat.le_of_eq hN) hHeld.size) (.cells #[] 3 (0, 0))
                    rw [← hhc]
                    clear hhc
                    refine hK.out _ _ hb (fun hHeld => ?_)
                    clear hK K hb
                    set_option linter.unusedSimpArgs false in try simp only [Act.put, List.setIfInBounds_toArray, List.set_cons_zero, List.set_cons_succ]
                    generalize (V38.alloc (.cells #[] 3 (0, 0))) = V39 at *
                    refine wpAnyH_ready (rs := [4]) (by kernel_rfl) (by simp) ?_
                    refine AllReadyH.cons rfl (fun K hK => ?_) ?_
                    · try rw [if_pos (by rfl)]
                      refine wp_append_lies _ (.tmp 48) (.tmp 51) 26 rfl N 3 i0 (.int .i64 0) 1 8 Tryd.underlying26 hi hz0 hz1 hz2 rfl (by decide) _ 0 _ rfl OWN.out ⟨g0, 0, none⟩ (j + 1) cap0 (((sortL X n i).take (j + 1)).map (Value.int .i64)) rfl (by first | (simp only [List.length_map, List.length_take, List.length_drop, List.length_cons, List.length_nil]; done) | (simp only [List.length_map, List.length_take, List.length_drop, List.length_cons, List.length_nil]; omega)) (fun j u hu => by rw [add_at]; exact newsT HO.out hHeld hLL a4 hu) (fun u hu => oneI hu) (by omega) (by unfold maxLen; omega) (by omega) (Nat.le_trans (Nat.le_of_eq hN) hHeld.size) _ rfl (fun gn cn Vn own hg hat hlt => ?_)
                      have hgN : N ≤ hc := (World.ownsRow.lt OWN.out hc rfl).1
                      have hb : Below N Wc Vn := hHeld.grown hg (Nat.le_trans (Nat.le_of_eq hN) hHeld.size) (fun q hq => ownN hq hgN)
                      have C6b := Lib.hid (show Vn.cell? ⟨h6, 0, none⟩ = some (.int .i64 (i : Int)) ∧ h6 < Vn.heap.size ∧ N ≤ h6 from ⟨hg.cell C6.out.1 (ownNe NE.out), Nat.lt_of_lt_of_le C6.out.2.1 hg.size, C6.out.2.2⟩)
                      have NEb := Lib.hid (show h6 ≠ gn by have h1 := C6.out.2.1; have h2 := NE.out; exact nehat h1 h2 hat)
                      clear C6 NE
                      have C6 := C6b
                      have NE := NEb
                      clear C6b NEb
                      simp only [Nat.zero_add, List.nil_append] at own ⊢
                      clear OWN hg hat hlt hgN
                      have OWN := Lib.hid own
                      clear own
                      refine hK.out _ _ hb (fun hHeld => ?_)
                      clear hK K hb
                      set_option linter.unusedSimpArgs false in try simp only [Act.put, List.setIfInBounds_toArray, List.set_cons_zero, List.set_cons_succ]
                      obtain ⟨hc, rfl⟩ : ∃ h, h = gn := ⟨_, rfl⟩
                      obtain ⟨cc, rfl⟩ : ∃ h, h = cn := ⟨_, rfl⟩
                      refine wpAnyH_ready (rs := [7]) (by kernel_rfl) (by simp) ?_
                      refine AllReadyH.cons rfl (fun K hK => ?_) ?_
                      · try rw [if_pos (by rfl)]
                        refine wp_append_lies _ (.tmp 52) (.tmp 54) 26 rfl N 3 i0 (.int .i64 0) 1 8 Tryd.underlying26 hi hz0 hz1 hz2 rfl (by decide) _ (j + 1) _ rfl OWN.out ⟨h6, 0, none⟩ 1 1 [.int .i64 (i : Int)] rfl (by first | (simp only [List.length_map, List.length_take, List.length_drop, List.length_cons, List.length_nil]; done) | (simp only [List.length_map, List.length_take, List.length_drop, List.length_cons, List.length_nil]; omega)) (fun j u hu => by rw [add_at]; exact newsO C6.out.1 hu) (fun u hu => oneI (L := [(i : Int)]) hu) (by omega) (by unfold maxLen; omega) (by omega) (Nat.le_trans (Nat.le_of_eq hN) hHeld.size) _ rfl (fun gn cn Vn own hg hat hlt => ?_)
                        have hgN : N ≤ hc := (World.ownsRow.lt OWN.out hc rfl).1
                        have hb : Below N Wc Vn := hHeld.grown hg (Nat.le_trans (Nat.le_of_eq hN) hHeld.size) (fun q hq => ownN hq hgN)
                        have C6b := Lib.hid (show Vn.cell? ⟨h6, 0, none⟩ = some (.int .i64 (i : Int)) ∧ h6 < Vn.heap.size ∧ N ≤ h6 from ⟨hg.cell C6.out.1 (ownNe NE.out), Nat.lt_of_lt_of_le C6.out.2.1 hg.size, C6.out.2.2⟩)
                        have NEb := Lib.hid (show h6 ≠ gn by have h1 := C6.out.2.1; have h2 := NE.out; exact nehat h1 h2 hat)
                        clear C6 NE
                        have C6 := C6b
                        have NE := NEb
                        clear C6b NEb
                        clear OWN hg hat hlt hgN
                        have OWN := Lib.hid own
                        clear own
                        refine hK.out _ _ hb (fun hHeld => ?_)
                        clear hK K hb
                        set_option linter.unusedSimpArgs false in try simp only [Act.put, List.setIfInBounds_toArray, List.set_cons_zero, List.set_cons_succ]
                        obtain ⟨hc, rfl⟩ : ∃ h, h = gn := ⟨_, rfl⟩
                        obtain ⟨cc, rfl⟩ : ∃ h, h = cn := ⟨_, rfl⟩
                        refine wpAnyH_ready (rs := [11]) (by kernel_rfl) (by simp) ?_
                        refine AllReadyH.cons rfl (fun K hK => ?_) ?_
                        · try rw [if_pos (by rfl)]
                          refine wp_append_lies _ (.tmp 55) (.tmp 58) 26 rfl N 3 i0 (.int .i64 0) 1 8 Tryd.underlying26 hi hz0 hz1 hz2 rfl (by decide) _ ((j + 1) + 1) _ rfl OWN.out ⟨g0, (j + 1), none⟩ (i - (j + 1)) (cap0 - (j + 1)) (((sortL X n i).drop (j + 1)).map (Value.int .i64)) rfl (by first | (simp only [List.length_map, List.length_take, List.length_drop, List.length_cons, List.length_nil]; done) | (simp only [List.length_map, List.length_take, List.length_drop, List.length_cons, List.length_nil]; omega)) (fun j u hu => by rw [add_at]; exact newsD HO.out hHeld hLL hu) (fun u hu => oneI hu) (by omega) (by unfold maxLen; omega) (by omega) (Nat.le_trans (Nat.le_of_eq hN) hHeld.size) _ rfl (fun gn cn Vn own hg hat hlt => ?_)
                          have hgN : N ≤ hc := (World.ownsRow.lt OWN.out hc rfl).1
                          have hb : Below N Wc Vn := hHeld.grown hg (Nat.le_trans (Nat.le_of_eq hN) hHeld.size) (fun q hq => ownN hq hgN)
                          have C6b := Lib.hid (show Vn.cell? ⟨h6, 0, none⟩ = some (.int .i64 (i : Int)) ∧ h6 < Vn.heap.size ∧ N ≤ h6 from ⟨hg.cell C6.out.1 (ownNe NE.out), Nat.lt_of_lt_of_le C6.out.2.1 hg.size, C6.out.2.2⟩)
                          have NEb := Lib.hid (show h6 ≠ gn by have h1 := C6.out.2.1; have h2 := NE.out; exact nehat h1 h2 hat)
                          clear C6 NE
                          have C6 := C6b
                          have NE := NEb
                          clear C6b NEb
                          clear OWN hg hat hlt hgN
                          have OWN := Lib.hid own
                          clear own
                          refine hK.out _ _ hb (fun hHeld => ?_)
                          clear hK K hb
                          set_option linter.unusedSimpArgs false in try simp only [Act.put, List.setIfInBounds_toArray, List.set_cons_zero, List.set_cons_succ]
                          obtain ⟨hc, rfl⟩ : ∃ h, h = gn := ⟨_, rfl⟩
                          obtain ⟨cc, rfl⟩ : ∃ h, h = cn := ⟨_, rfl⟩
                          refine wpAnyH_take (i := 12) (oi := { dst := some 4, op := _, type := _, pos := _, after := _, guard := _ }) (v := ?_) rfl (by kernel_rfl) (by kernel_rfl) (by kernel_rfl) (fun _ _ _ h => h) (Or.inl ⟨by rfl, ?_⟩) hHeld ?_
                          rotate_left
                          · (intro w hSw; clear hSw; go_simp; first | done | with_reducible rfl | rfl | simp)
                          set_option linter.unusedSimpArgs false in try simp only [Act.put, List.setIfInBounds_toArray, List.set_cons_zero, List.set_cons_succ]
                          refine wpAnyH_done (by kernel_rfl) ?_ _
                          refine NoPanic.normal ?_
                          have hLs := sortL_succ X hlt
                          rw [HKP.out] at hLs
                          have hrow : Vn.ownsRow w.heap.size 3 1 (.slice (some ⟨hc, 0, none⟩) (i + 1) cc) (i + 1) ((sortL X n (i + 1)).map (Value.int .i64)) := by
                            have o := OWN.out
                            refine ownI_re o hwN ?_ ?_
                            · omega
                            · have hdn : (sortL X n i).drop i = [] := List.drop_of_length_le (by omega)
                              rw [hLs]; simp [hdn]
                              all_goals first | omega | exact List.length_eq_zero_iff.1 (by omega)
                          have hbW := Lib.hid (KQ.out.2.trans (hHeld.mono hwN))
                          have eL : ((j + 1) + 1 + (i - (j + 1))) = i + 1 := by omega
                          try rw [eL]
                          have HR := Lib.hid hrow
                          clear hrow OWN hHeld HO C6 NE
                          go_wp2_with fail
                          go_roundw
                          case rel => exact ⟨i + 1, hc, cc, by omega, by go_num, by first | rfl | (congr 1; done) | (congr 1; omega), HR, HT2, hbW⟩
                          case measure => simp [Lib.intOf]; omega
                        exact AllReadyH.nil
                      exact AllReadyH.nil
                    exact AllReadyH.nil
                  exact AllReadyH.nil
                exact AllReadyH.nil
              · skip
                obtain ⟨N, hN⟩ : ∃ N, N = Wc.heap.size := ⟨_, rfl⟩
                have hg0N : g0 < N := by have := (World.ownsRow.lt KQ.out.1 g0 rfl).2; omega
                have hwN : w.heap.size ≤ N := by have := KQ.out.2.size; omega
                have HO := Lib.hid (fun W (hb : Below N Wc W) p (hp : p < i) => (show W.cell? ⟨g0, p, none⟩ = ((sortL X n i)[p]?).map (Value.int .i64) by
                  rw [hb.cell (p := ⟨g0, p, none⟩) hg0N, World.ownsRow.cellAt KQ.out.1 p (by omega), List.getElem?_map]))
                have hLL := sortL_len X n i
                have hcap : i ≤ cap0 := ownI_cap KQ.out.1
                obtain ⟨i0, hi, hz0, hz1, hz2⟩ := infoN
                have a1 : ((j + 1) : Int) ≤ (cap0 : Int) := by omega
                have a2 : (0 : Int) ≤ ((j + 1) : Int) := by omega
                have a3 : ((j + 1) : Int) ≤ (i : Int) := by omega
                have a4 : (j + 1) ≤ i := by omega
                have a5 : (j + 1) ≤ cap0 := by omega
                have a6 : ((i : Int) - ((j + 1) : Int)).toNat = i - (j + 1) := by omega
                have a7 : ((j + 1) : Int).toNat = (j + 1) := by omega
                have a8 : ((cap0 : Int) - ((j + 1) : Int)).toNat = cap0 - (j + 1) := by omega
                go_upto_region 12 with fail
                refine wp_region_noPanic ?_
                refine wp_region_held_drew (S := fun W => Below N Wc W) (by kernel_rfl) (by rw [hN]; exact (Below.refl _ _).drew) (fun hHeld => ?_)
                generalize Wc.drew = We at *
                refine wpAnyH_take (i := 1) (oi := { dst := some 49, op := _, type := _, pos := _, after := _, guard := _ }) (v := ?_) rfl (by kernel_rfl) (by kernel_rfl) (by kernel_rfl) (fun _ _ _ h => h) (Or.inl ⟨by rfl, ?_⟩) hHeld ?_
                rotate_left
                · (intro w hSw; clear hSw; go_simp; first | done | with_reducible rfl | rfl | simp)
                set_option linter.unusedSimpArgs false in try simp only [Act.put, List.setIfInBounds_toArray, List.set_cons_zero, List.set_cons_succ]
                refine wpAnyH_take (i := 2) (oi := { dst := some 50, op := _, type := _, pos := _, after := _, guard := _ }) (v := ?_) rfl (by kernel_rfl) (by kernel_rfl) (by kernel_rfl) (fun _ _ _ h => h) (Or.inl ⟨by rfl, ?_⟩) hHeld ?_
                rotate_left
                · (intro w hSw; clear hSw; go_simp; first | done | with_reducible rfl | rfl | simp)
                set_option linter.unusedSimpArgs false in try simp only [Act.put, List.setIfInBounds_toArray, List.set_cons_zero, List.set_cons_succ]
                refine wpAnyH_take (i := 3) (oi := { dst := some 51, op := _, type := _, pos := _, after := _, guard := _ }) (v := .slice (some ⟨g0, 0, none⟩) (j + 1) cap0) rfl (by kernel_rfl) (by kernel_rfl) (by kernel_rfl) (fun _ _ _ h => h) (Or.inl ⟨by rfl, ?_⟩) hHeld ?_
                · (intro w hSw; clear hSw; go_simp; first | done | with_reducible rfl | rfl | simp)
                set_option linter.unusedSimpArgs false in try simp only [Act.put, List.setIfInBounds_toArray, List.set_cons_zero, List.set_cons_succ]
                refine wpAnyH_take (i := 5) (oi := { dst := some 53, op := _, type := _, pos := _, after := _, guard := _ }) (v := ?_) rfl (by kernel_rfl) (by kernel_rfl) (by kernel_rfl) (fun _ _ _ h => h) (Or.inl ⟨by rfl, ?_⟩) hHeld ?_
                rotate_left
                · (intro w hSw; clear hSw; go_simp; first | done | with_reducible rfl | rfl | simp)
                set_option linter.unusedSimpArgs false in try simp only [Act.put, List.setIfInBounds_toArray, List.set_cons_zero, List.set_cons_succ]
                refine wpAnyH_take (i := 8) (oi := { dst := some 56, op := _, type := _, pos := _, after := _, guard := _ }) (v := ?_) rfl (by kernel_rfl) (by kernel_rfl) (by kernel_rfl) (fun _ _ _ h => h) (Or.inl ⟨by rfl, ?_⟩) hHeld ?_
                rotate_left
                · (intro w hSw; clear hSw; go_simp; first | done | with_reducible rfl | rfl | simp)
                set_option linter.unusedSimpArgs false in try simp only [Act.put, List.setIfInBounds_toArray, List.set_cons_zero, List.set_cons_succ]
                refine wpAnyH_take (i := 9) (oi := { dst := some 57, op := _, type := _, pos := _, after := _, guard := _ }) (v := ?_) rfl (by kernel_rfl) (by kernel_rfl) (by kernel_rfl) (fun _ _ _ h => h) (Or.inl ⟨by rfl, ?_⟩) hHeld ?_
                rotate_left
                · (intro w hSw; clear hSw; go_simp; first | done | with_reducible rfl | rfl | simp)
                set_option linter.unusedSimpArgs false in try simp only [Act.put, List.setIfInBounds_toArray, List.set_cons_zero, List.set_cons_succ]
                obtain ⟨ad, had⟩ : ∃ a : Addr, (if cap0 = j + 1 then some (⟨g0, 0, none⟩ : Addr) else some ⟨g0, j + 1, none⟩) = some a := by split <;> exact ⟨_, rfl⟩
                refine wpAnyH_take (i := 10) (oi := { dst := some 58, op := _, type := _, pos := _, after := _, guard := _ }) (v := .slice (some ad) (i - (j + 1)) (cap0 - (j + 1))) rfl (by kernel_rfl) (by kernel_rfl) (by kernel_rfl) (fun _ _ _ h => h) (Or.inl ⟨by rfl, ?_⟩) hHeld ?_
                · (intro w hSw; clear hSw; go_simp; first | done | exact had | (rw [had]; done) | with_reducible rfl | rfl | simp)
                set_option linter.unusedSimpArgs false in try simp only [Act.put, List.setIfInBounds_toArray, List.set_cons_zero, List.set_cons_succ]
                refine wpAnyH_ready (rs := [0, 6]) (by kernel_rfl) (by simp) ?_
                refine AllReadyH.cons rfl (fun K hK => ?_) ?_
                · try rw [if_pos (by rfl)]
                  go_simp
                  obtain ⟨hc, hhc⟩ : ∃ h, h = We.heap.size := ⟨_, rfl⟩
                  have OWN := Lib.hid (show (We.alloc (.cells #[] 3 (0, 0))).ownsRow N 3 1 (.slice (some ⟨hc, 0, none⟩) 0 0) 0 [] by rw [hhc]; exact World.ownsRow_lit We #[] 0 (Nat.le_trans (Nat.le_of_eq hN) hHeld.size) (by unfold maxLen; omega) rfl)
                  have hb := hHeld.alloc (Nat.le_trans (Nat.le_of_eq hN) hHeld.size) (.cells #[] 3 (0, 0))
                  rw [← hhc]
                  clear hhc
                  refine hK.out _ _ hb (fun hHeld => ?_)
                  clear hK K hb
                  set_option linter.unusedSimpArgs false in try simp only [Act.put, List.setIfInBounds_toArray, List.set_cons_zero, List.set_cons_succ]
                  generalize (We.alloc (.cells #[] 3 (0, 0))) = V43 at *
                  refine wpAnyH_ready (rs := [4, 6]) (by kernel_rfl) (by simp) ?_
                  refine AllReadyH.cons rfl (fun K hK => ?_) ?_
                  · try rw [if_pos (by rfl)]
                    refine wp_append_lies _ (.tmp 48) (.tmp 51) 26 rfl N 3 i0 (.int .i64 0) 1 8 Tryd.underlying26 hi hz0 hz1 hz2 rfl (by decide) _ 0 _ rfl OWN.out ⟨g0, 0, none⟩ (j + 1) cap0 (((sortL X n i).take (j + 1)).map (Value.int .i64)) rfl (by first | (simp only [List.length_map, List.length_take, List.length_drop, List.length_cons, List.length_nil]; done) | (simp only [List.length_map, List.length_take, List.length_drop, List.length_cons, List.length_nil]; omega)) (fun j u hu => by rw [add_at]; exact newsT HO.out hHeld hLL a4 hu) (fun u hu => oneI hu) (by omega) (by unfold maxLen; omega) (by omega) (Nat.le_trans (Nat.le_of_eq hN) hHeld.size) _ rfl (fun gn cn Vn own hg hat hlt => ?_)
                    have hgN : N ≤ hc := (World.ownsRow.lt OWN.out hc rfl).1
                    have hb : Below N Wc Vn := hHeld.grown hg (Nat.le_trans (Nat.le_of_eq hN) hHeld.size) (fun q hq => ownN hq hgN)
                    simp only [Nat.zero_add, List.nil_append] at own ⊢
                    clear OWN hg hat hlt hgN
                    have OWN := Lib.hid own
                    clear own
                    refine hK.out _ _ hb (fun hHeld => ?_)
                    clear hK K hb
                    set_option linter.unusedSimpArgs false in try simp only [Act.put, List.setIfInBounds_toArray, List.set_cons_zero, List.set_cons_succ]
                    obtain ⟨hc, rfl⟩ : ∃ h, h = gn := ⟨_, rfl⟩
                    obtain ⟨cc, rfl⟩ : ∃ h, h = cn := ⟨_, rfl⟩
                    refine wpAnyH_ready (rs := [6]) (by kernel_rfl) (by simp) ?_
                    refine AllReadyH.cons rfl (fun K hK => ?_) ?_
                    · try rw [if_pos (by rfl)]
                      go_simp
                      obtain ⟨h6, hh6⟩ : ∃ h, h = Vn.heap.size := ⟨_, rfl⟩
                      have C6 := Lib.hid (show (Vn.alloc (.cells #[.int .i64 (i : Int)] 3 (0, 0))).cell? ⟨h6, 0, none⟩ = some (.int .i64 (i : Int)) ∧ h6 < (Vn.alloc (.cells #[.int .i64 (i : Int)] 3 (0, 0))).heap.size ∧ N ≤ h6 from ⟨by rw [hh6]; exact cell_newI Vn _ _, by rw [hh6]; simp, by rw [hh6]; exact (Nat.le_trans (Nat.le_of_eq hN) hHeld.size)⟩)
                      have NE := Lib.hid (show h6 ≠ hc by have := (World.ownsRow.lt OWN.out hc rfl).2; omega)
                      have OWNb := Lib.hid (OWN.out.alloc (.cells #[.int .i64 (i : Int)] 3 (0, 0)))
                      clear OWN
                      have OWN := OWNb
                      clear OWNb
                      have hb := hHeld.alloc (Nat.le_trans (Nat.le_of_eq hN) hHeld.size) (.cells #[.int .i64 (i : Int)] 3 (0, 0))
                      rw [← hh6]
                      clear hh6
                      refine hK.out _ _ hb (fun hHeld => ?_)
                      clear hK K hb
                      set_option linter.unusedSimpArgs false in try simp only [Act.put, List.setIfInBounds_toArray, List.set_cons_zero, List.set_cons_succ]
                      generalize (Vn.alloc (.cells #[.int .i64 (i : Int)] 3 (0, 0))) = V45 at *
                      refine wpAnyH_ready (rs := [7]) (by kernel_rfl) (by simp) ?_
                      refine AllReadyH.cons rfl (fun K hK => ?_) ?_
                      · try rw [if_pos (by rfl)]
                        refine wp_append_lies _ (.tmp 52) (.tmp 54) 26 rfl N 3 i0 (.int .i64 0) 1 8 Tryd.underlying26 hi hz0 hz1 hz2 rfl (by decide) _ (j + 1) _ rfl OWN.out ⟨h6, 0, none⟩ 1 1 [.int .i64 (i : Int)] rfl (by first | (simp only [List.length_map, List.length_take, List.length_drop, List.length_cons, List.length_nil]; done) | (simp only [List.length_map, List.length_take, List.length_drop, List.length_cons, List.length_nil]; omega)) (fun j u hu => by rw [add_at]; exact newsO C6.out.1 hu) (fun u hu => oneI (L := [(i : Int)]) hu) (by omega) (by unfold maxLen; omega) (by omega) (Nat.le_trans (Nat.le_of_eq hN) hHeld.size) _ rfl (fun gn cn Vn own hg hat hlt => ?_)
                        have hgN : N ≤ hc := (World.ownsRow.lt OWN.out hc rfl).1
                        have hb : Below N Wc Vn := hHeld.grown hg (Nat.le_trans (Nat.le_of_eq hN) hHeld.size) (fun q hq => ownN hq hgN)
                        have C6b := Lib.hid (show Vn.cell? ⟨h6, 0, none⟩ = some (.int .i64 (i : Int)) ∧ h6 < Vn.heap.size ∧ N ≤ h6 from ⟨hg.cell C6.out.1 (ownNe NE.out), Nat.lt_of_lt_of_le C6.out.2.1 hg.size, C6.out.2.2⟩)
                        have NEb := Lib.hid (show h6 ≠ gn by have h1 := C6.out.2.1; have h2 := NE.out; exact nehat h1 h2 hat)
                        clear C6 NE
                        have C6 := C6b
                        have NE := NEb
                        clear C6b NEb
                        clear OWN hg hat hlt hgN
                        have OWN := Lib.hid own
                        clear own
                        refine hK.out _ _ hb (fun hHeld => ?_)
                        clear hK K hb
                        set_option linter.unusedSimpArgs false in try simp only [Act.put, List.setIfInBounds_toArray, List.set_cons_zero, List.set_cons_succ]
                        obtain ⟨hc, rfl⟩ : ∃ h, h = gn := ⟨_, rfl⟩
                        obtain ⟨cc, rfl⟩ : ∃ h, h = cn := ⟨_, rfl⟩
                        refine wpAnyH_ready (rs := [11]) (by kernel_rfl) (by simp) ?_
                        refine AllReadyH.cons rfl (fun K hK => ?_) ?_
                        · try rw [if_pos (by rfl)]
                          refine wp_append_none (.tmp 55) (.tmp 58) 26 rfl 3 i0 Tryd.underlying26 hi hc 0 _ _ rfl ad (i - (j + 1)) (cap0 - (j + 1)) (by first | rfl | (simp [Act.eval, Act.put]; done) | (simp [Act.eval, Act.put]; omega)) (by omega) (ownI_cap2 OWN.out) ?_
                          have hb := hHeld
                          refine hK.out _ _ hb (fun hHeld => ?_)
                          clear hK K hb
                          set_option linter.unusedSimpArgs false in try simp only [Act.put, List.setIfInBounds_toArray, List.set_cons_zero, List.set_cons_succ]
                          refine wpAnyH_take (i := 12) (oi := { dst := some 4, op := _, type := _, pos := _, after := _, guard := _ }) (v := ?_) rfl (by kernel_rfl) (by kernel_rfl) (by kernel_rfl) (fun _ _ _ h => h) (Or.inl ⟨by rfl, ?_⟩) hHeld ?_
                          rotate_left
                          · (intro w hSw; clear hSw; go_simp; first | done | with_reducible rfl | rfl | simp)
                          set_option linter.unusedSimpArgs false in try simp only [Act.put, List.setIfInBounds_toArray, List.set_cons_zero, List.set_cons_succ]
                          refine wpAnyH_done (by kernel_rfl) ?_ _
                          refine NoPanic.normal ?_
                          have hLs := sortL_succ X hlt
                          rw [HKP.out] at hLs
                          have hrow : Vn.ownsRow w.heap.size 3 1 (.slice (some ⟨hc, 0, none⟩) (i + 1) cc) (i + 1) ((sortL X n (i + 1)).map (Value.int .i64)) := by
                            have o := OWN.out
                            refine ownI_re o hwN ?_ ?_
                            · omega
                            · have hdn : (sortL X n i).drop i = [] := List.drop_of_length_le (by omega)
                              rw [hLs]; simp [hdn]
                              all_goals first | omega | exact List.length_eq_zero_iff.1 (by omega)
                          have hbW := Lib.hid (KQ.out.2.trans (hHeld.mono hwN))
                          have eL : ((j + 1) + 1) = i + 1 := by omega
                          try rw [eL]
                          have HR := Lib.hid hrow
                          clear hrow OWN hHeld HO C6 NE
                          go_wp2_with fail
                          go_roundw
                          case rel => exact ⟨i + 1, hc, cc, by omega, by go_num, by first | rfl | (congr 1; done) | (congr 1; omega), HR, HT2, hbW⟩
                          case measure => simp [Lib.intOf]; omega
                        exact AllReadyH.nil
                      exact AllReadyH.nil
                    exact AllReadyH.nil
                  refine AllReadyH.cons rfl (fun K hK => ?_) ?_
                  · try rw [if_pos (by rfl)]
                    go_simp
                    obtain ⟨h6, hh6⟩ : ∃ h, h = V43.heap.size := ⟨_, rfl⟩
                    have C6 := Lib.hid (show (V43.alloc (.cells #[.int .i64 (i : Int)] 3 (0, 0))).cell? ⟨h6, 0, none⟩ = some (.int .i64 (i : Int)) ∧ h6 < (V43.alloc (.cells #[.int .i64 (i : Int)] 3 (0, 0))).heap.size ∧ N ≤ h6 from ⟨by rw [hh6]; exact cell_newI V43 _ _, by rw [hh6]; simp, by rw [hh6]; exact (Nat.le_trans (Nat.le_of_eq hN) hHeld.size)⟩)
                    have NE := Lib.hid (show h6 ≠ hc by have := (World.ownsRow.lt OWN.out hc rfl).2; omega)
                    have OWNb := Lib.hid (OWN.out.alloc (.cells #[.int .i64 (i : Int)] 3 (0, 0)))
                    clear OWN
                    have OWN := OWNb
                    clear OWNb
                    have hb := hHeld.alloc (Nat.le_trans (Nat.le_of_eq hN) hHeld.size) (.cells #[.int .i64 (i : Int)] 3 (0, 0))
                    rw [← hh6]
                    clear hh6
                    refine hK.out _ _ hb (fun hHeld => ?_)
                    clear hK K hb
                    set_option linter.unusedSimpArgs false in try simp only [Act.put, List.setIfInBounds_toArray, List.set_cons_zero, List.set_cons_succ]
                    generalize (V43.alloc (.cells #[.int .i64 (i : Int)] 3 (0, 0))) = V48 at *
                    refine wpAnyH_ready (rs := [4]) (by kernel_rfl) (by simp) ?_
                    refine AllReadyH.cons rfl (fun K hK => ?_) ?_
                    · try rw [if_pos (by rfl)]
                      refine wp_append_lies _ (.tmp 48) (.tmp 51) 26 rfl N 3 i0 (.int .i64 0) 1 8 Tryd.underlying26 hi hz0 hz1 hz2 rfl (by decide) _ 0 _ rfl OWN.out ⟨g0, 0, none⟩ (j + 1) cap0 (((sortL X n i).take (j + 1)).map (Value.int .i64)) rfl (by first | (simp only [List.length_map, List.length_take, List.length_drop, List.length_cons, List.length_nil]; done) | (simp only [List.length_map, List.length_take, List.length_drop, List.length_cons, List.length_nil]; omega)) (fun j u hu => by rw [add_at]; exact newsT HO.out hHeld hLL a4 hu) (fun u hu => oneI hu) (by omega) (by unfold maxLen; omega) (by omega) (Nat.le_trans (Nat.le_of_eq hN) hHeld.size) _ rfl (fun gn cn Vn own hg hat hlt => ?_)
                      have hgN : N ≤ hc := (World.ownsRow.lt OWN.out hc rfl).1
                      have hb : Below N Wc Vn := hHeld.grown hg (Nat.le_trans (Nat.le_of_eq hN) hHeld.size) (fun q hq => ownN hq hgN)
                      have C6b := Lib.hid (show Vn.cell? ⟨h6, 0, none⟩ = some (.int .i64 (i : Int)) ∧ h6 < Vn.heap.size ∧ N ≤ h6 from ⟨hg.cell C6.out.1 (ownNe NE.out), Nat.lt_of_lt_of_le C6.out.2.1 hg.size, C6.out.2.2⟩)
                      have NEb := Lib.hid (show h6 ≠ gn by have h1 := C6.out.2.1; have h2 := NE.out; exact nehat h1 h2 hat)
                      clear C6 NE
                      have C6 := C6b
                      have NE := NEb
                      clear C6b NEb
                      simp only [Nat.zero_add, List.nil_append] at own ⊢
                      clear OWN hg hat hlt hgN
                      have OWN := Lib.hid own
                      clear own
                      refine hK.out _ _ hb (fun hHeld => ?_)
                      clear hK K hb
                      set_option linter.unusedSimpArgs false in try simp only [Act.put, List.setIfInBounds_toArray, List.set_cons_zero, List.set_cons_succ]
                      obtain ⟨hc, rfl⟩ : ∃ h, h = gn := ⟨_, rfl⟩
                      obtain ⟨cc, rfl⟩ : ∃ h, h = cn := ⟨_, rfl⟩
                      refine wpAnyH_ready (rs := [7]) (by kernel_rfl) (by simp) ?_
                      refine AllReadyH.cons rfl (fun K hK => ?_) ?_
                      · try rw [if_pos (by rfl)]
                        refine wp_append_lies _ (.tmp 52) (.tmp 54) 26 rfl N 3 i0 (.int .i64 0) 1 8 Tryd.underlying26 hi hz0 hz1 hz2 rfl (by decide) _ (j + 1) _ rfl OWN.out ⟨h6, 0, none⟩ 1 1 [.int .i64 (i : Int)] rfl (by first | (simp only [List.length_map, List.length_take, List.length_drop, List.length_cons, List.length_nil]; done) | (simp only [List.length_map, List.length_take, List.length_drop, List.length_cons, List.length_nil]; omega)) (fun j u hu => by rw [add_at]; exact newsO C6.out.1 hu) (fun u hu => oneI (L := [(i : Int)]) hu) (by omega) (by unfold maxLen; omega) (by omega) (Nat.le_trans (Nat.le_of_eq hN) hHeld.size) _ rfl (fun gn cn Vn own hg hat hlt => ?_)
                        have hgN : N ≤ hc := (World.ownsRow.lt OWN.out hc rfl).1
                        have hb : Below N Wc Vn := hHeld.grown hg (Nat.le_trans (Nat.le_of_eq hN) hHeld.size) (fun q hq => ownN hq hgN)
                        have C6b := Lib.hid (show Vn.cell? ⟨h6, 0, none⟩ = some (.int .i64 (i : Int)) ∧ h6 < Vn.heap.size ∧ N ≤ h6 from ⟨hg.cell C6.out.1 (ownNe NE.out), Nat.lt_of_lt_of_le C6.out.2.1 hg.size, C6.out.2.2⟩)
                        have NEb := Lib.hid (show h6 ≠ gn by have h1 := C6.out.2.1; have h2 := NE.out; exact nehat h1 h2 hat)
                        clear C6 NE
                        have C6 := C6b
                        have NE := NEb
                        clear C6b NEb
                        clear OWN hg hat hlt hgN
                        have OWN := Lib.hid own
                        clear own
                        refine hK.out _ _ hb (fun hHeld => ?_)
                        clear hK K hb
                        set_option linter.unusedSimpArgs false in try simp only [Act.put, List.setIfInBounds_toArray, List.set_cons_zero, List.set_cons_succ]
                        obtain ⟨hc, rfl⟩ : ∃ h, h = gn := ⟨_, rfl⟩
                        obtain ⟨cc, rfl⟩ : ∃ h, h = cn := ⟨_, rfl⟩
                        refine wpAnyH_ready (rs := [11]) (by kernel_rfl) (by simp) ?_
                        refine AllReadyH.cons rfl (fun K hK => ?_) ?_
                        · try rw [if_pos (by rfl)]
                          refine wp_append_none (.tmp 55) (.tmp 58) 26 rfl 3 i0 Tryd.underlying26 hi hc 0 _ _ rfl ad (i - (j + 1)) (cap0 - (j + 1)) (by first | rfl | (simp [Act.eval, Act.put]; done) | (simp [Act.eval, Act.put]; omega)) (by omega) (ownI_cap2 OWN.out) ?_
                          have hb := hHeld
                          refine hK.out _ _ hb (fun hHeld => ?_)
                          clear hK K hb
                          set_option linter.unusedSimpArgs false in try simp only [Act.put, List.setIfInBounds_toArray, List.set_cons_zero, List.set_cons_succ]
                          refine wpAnyH_take (i := 12) (oi := { dst := some 4, op := _, type := _, pos := _, after := _, guard := _ }) (v := ?_) rfl (by kernel_rfl) (by kernel_rfl) (by kernel_rfl) (fun _ _ _ h => h) (Or.inl ⟨by rfl, ?_⟩) hHeld ?_
                          rotate_left
                          · (intro w hSw; clear hSw; go_simp; first | done | with_reducible rfl | rfl | simp)
                          set_option linter.unusedSimpArgs false in try simp only [Act.put, List.setIfInBounds_toArray, List.set_cons_zero, List.set_cons_succ]
                          refine wpAnyH_done (by kernel_rfl) ?_ _
                          refine NoPanic.normal ?_
                          have hLs := sortL_succ X hlt
                          rw [HKP.out] at hLs
                          have hrow : Vn.ownsRow w.heap.size 3 1 (.slice (some ⟨hc, 0, none⟩) (i + 1) cc) (i + 1) ((sortL X n (i + 1)).map (Value.int .i64)) := by
                            have o := OWN.out
                            refine ownI_re o hwN ?_ ?_
                            · omega
                            · have hdn : (sortL X n i).drop i = [] := List.drop_of_length_le (by omega)
                              rw [hLs]; simp [hdn]
                              all_goals first | omega | exact List.length_eq_zero_iff.1 (by omega)
                          have hbW := Lib.hid (KQ.out.2.trans (hHeld.mono hwN))
                          have eL : ((j + 1) + 1) = i + 1 := by omega
                          try rw [eL]
                          have HR := Lib.hid hrow
                          clear hrow OWN hHeld HO C6 NE
                          go_wp2_with fail
                          go_roundw
                          case rel => exact ⟨i + 1, hc, cc, by omega, by go_num, by first | rfl | (congr 1; done) | (congr 1; omega), HR, HT2, hbW⟩
                          case measure => simp [Lib.intOf]; omega
                        exact AllReadyH.nil
                      exact AllReadyH.nil
                    exact AllReadyH.nil
                  exact AllReadyH.nil
                refine AllReadyH.cons rfl (fun K hK => ?_) ?_
                · try rw [if_pos (by rfl)]
                  go_simp
                  obtain ⟨h6, hh6⟩ : ∃ h, h = We.heap.size := ⟨_, rfl⟩
                  have C6 := Lib.hid (show (We.alloc (.cells #[.int .i64 (i : Int)] 3 (0, 0))).cell? ⟨h6, 0, none⟩ = some (.int .i64 (i : Int)) ∧ h6 < (We.alloc (.cells #[.int .i64 (i : Int)] 3 (0, 0))).heap.size ∧ N ≤ h6 from ⟨by rw [hh6]; exact cell_newI We _ _, by rw [hh6]; simp, by rw [hh6]; exact (Nat.le_trans (Nat.le_of_eq hN) hHeld.size)⟩)
                  have hb := hHeld.alloc (Nat.le_trans (Nat.le_of_eq hN) hHeld.size) (.cells #[.int .i64 (i : Int)] 3 (0, 0))
                  rw [← hh6]
                  clear hh6
                  refine hK.out _ _ hb (fun hHeld => ?_)
                  clear hK K hb
                  set_option linter.unusedSimpArgs false in try simp only [Act.put, List.setIfInBounds_toArray, List.set_cons_zero, List.set_cons_succ]
                  generalize (We.alloc (.cells #[.int .i64 (i : Int)] 3 (0, 0))) = V52 at *
                  refine wpAnyH_ready (rs := [0]) (by kernel_rfl) (by simp) ?_
                  refine AllReadyH.cons rfl (fun K hK => ?_) ?_
                  · try rw [if_pos (by rfl)]
                    go_simp
                    obtain ⟨hc, hhc⟩ : ∃ h, h = V52.heap.size := ⟨_, rfl⟩
                    have OWN := Lib.hid (show (V52.alloc (.cells #[] 3 (0, 0))).ownsRow N 3 1 (.slice (some ⟨hc, 0, none⟩) 0 0) 0 [] by rw [hhc]; exact World.ownsRow_lit V52 #[] 0 (Nat.le_trans (Nat.le_of_eq hN) hHeld.size) (by unfold maxLen; omega) rfl)
                    have NE := Lib.hid (show h6 ≠ hc by have := C6.out.2.1; omega)
                    have C6b := Lib.hid (show (V52.alloc (.cells #[] 3 (0, 0))).cell? ⟨h6, 0, none⟩ = some (.int .i64 (i : Int)) ∧ h6 < (V52.alloc (.cells #[] 3 (0, 0))).heap.size ∧ N ≤ h6 from ⟨(((Below.refl _ V52).alloc (Nat.le_refl _) _).cell (p := ⟨h6, 0, none⟩) C6.out.2.1).trans C6.out.1, by have := C6.out.2.1; simp; omega, C6.out.2.2⟩)
                    clear C6
                    have C6 := C6b
                    clear C6b
                    have hb := hHeld.alloc (Nat.le_trans (Nat.le_of_eq hN) hHeld.size) (.cells #[] 3 (0, 0))
                    rw [← hhc]
                    clear hhc
                    refine hK.out _ _ hb (fun hHeld => ?_)
                    clear hK K hb
                    set_option linter.unusedSimpArgs false in try simp only [Act.put, List.setIfInBounds_toArray, List.set_cons_zero, List.set_cons_succ]
                    generalize (V52.alloc (.cells #[] 3 (0, 0))) = V53 at *
                    refine wpAnyH_ready (rs := [4]) (by kernel_rfl) (by simp) ?_
                    refine AllReadyH.cons rfl (fun K hK => ?_) ?_
                    · try rw [if_pos (by rfl)]
                      refine wp_append_lies _ (.tmp 48) (.tmp 51) 26 rfl N 3 i0 (.int .i64 0) 1 8 Tryd.underlying26 hi hz0 hz1 hz2 rfl (by decide) _ 0 _ rfl OWN.out ⟨g0, 0, none⟩ (j + 1) cap0 (((sortL X n i).take (j + 1)).map (Value.int .i64)) rfl (by first | (simp only [List.length_map, List.length_take, List.length_drop, List.length_cons, List.length_nil]; done) | (simp only [List.length_map, List.length_take, List.length_drop, List.length_cons, List.length_nil]; omega)) (fun j u hu => by rw [add_at]; exact newsT HO.out hHeld hLL a4 hu) (fun u hu => oneI hu) (by omega) (by unfold maxLen; omega) (by omega) (Nat.le_trans (Nat.le_of_eq hN) hHeld.size) _ rfl (fun gn cn Vn own hg hat hlt => ?_)
                      have hgN : N ≤ hc := (World.ownsRow.lt OWN.out hc rfl).1
                      have hb : Below N Wc Vn := hHeld.grown hg (Nat.le_trans (Nat.le_of_eq hN) hHeld.size) (fun q hq => ownN hq hgN)
                      have C6b := Lib.hid (show Vn.cell? ⟨h6, 0, none⟩ = some (.int .i64 (i : Int)) ∧ h6 < Vn.heap.size ∧ N ≤ h6 from ⟨hg.cell C6.out.1 (ownNe NE.out), Nat.lt_of_lt_of_le C6.out.2.1 hg.size, C6.out.2.2⟩)
                      have NEb := Lib.hid (show h6 ≠ gn by have h1 := C6.out.2.1; have h2 := NE.out; exact nehat h1 h2 hat)
                      clear C6 NE
                      have C6 := C6b
                      have NE := NEb
                      clear C6b NEb
                      simp only [Nat.zero_add, List.nil_append] at own ⊢
                      clear OWN hg hat hlt hgN
                      have OWN := Lib.hid own
                      clear own
                      refine hK.out _ _ hb (fun hHeld => ?_)
                      clear hK K hb
                      set_option linter.unusedSimpArgs false in try simp only [Act.put, List.setIfInBounds_toArray, List.set_cons_zero, List.set_cons_succ]
                      obtain ⟨hc, rfl⟩ : ∃ h, h = gn := ⟨_, rfl⟩
                      obtain ⟨cc, rfl⟩ : ∃ h, h = cn := ⟨_, rfl⟩
                      refine wpAnyH_ready (rs := [7]) (by kernel_rfl) (by simp) ?_
                      refine AllReadyH.cons rfl (fun K hK => ?_) ?_
                      · try rw [if_pos (by rfl)]
                        refine wp_append_lies _ (.tmp 52) (.tmp 54) 26 rfl N 3 i0 (.int .i64 0) 1 8 Tryd.underlying26 hi hz0 hz1 hz2 rfl (by decide) _ (j + 1) _ rfl OWN.out ⟨h6, 0, none⟩ 1 1 [.int .i64 (i : Int)] rfl (by first | (simp only [List.length_map, List.length_take, List.length_drop, List.length_cons, List.length_nil]; done) | (simp only [List.length_map, List.length_take, List.length_drop, List.length_cons, List.length_nil]; omega)) (fun j u hu => by rw [add_at]; exact newsO C6.out.1 hu) (fun u hu => oneI (L := [(i : Int)]) hu) (by omega) (by unfold maxLen; omega) (by omega) (Nat.le_trans (Nat.le_of_eq hN) hHeld.size) _ rfl (fun gn cn Vn own hg hat hlt => ?_)
                        have hgN : N ≤ hc := (World.ownsRow.lt OWN.out hc rfl).1
                        have hb : Below N Wc Vn := hHeld.grown hg (Nat.le_trans (Nat.le_of_eq hN) hHeld.size) (fun q hq => ownN hq hgN)
                        have C6b := Lib.hid (show Vn.cell? ⟨h6, 0, none⟩ = some (.int .i64 (i : Int)) ∧ h6 < Vn.heap.size ∧ N ≤ h6 from ⟨hg.cell C6.out.1 (ownNe NE.out), Nat.lt_of_lt_of_le C6.out.2.1 hg.size, C6.out.2.2⟩)
                        have NEb := Lib.hid (show h6 ≠ gn by have h1 := C6.out.2.1; have h2 := NE.out; exact nehat h1 h2 hat)
                        clear C6 NE
                        have C6 := C6b
                        have NE := NEb
                        clear C6b NEb
                        clear OWN hg hat hlt hgN
                        have OWN := Lib.hid own
                        clear own
                        refine hK.out _ _ hb (fun hHeld => ?_)
                        clear hK K hb
                        set_option linter.unusedSimpArgs false in try simp only [Act.put, List.setIfInBounds_toArray, List.set_cons_zero, List.set_cons_succ]
                        obtain ⟨hc, rfl⟩ : ∃ h, h = gn := ⟨_, rfl⟩
                        obtain ⟨cc, rfl⟩ : ∃ h, h = cn := ⟨_, rfl⟩
                        refine wpAnyH_ready (rs := [11]) (by kernel_rfl) (by simp) ?_
                        refine AllReadyH.cons rfl (fun K hK => ?_) ?_
                        · try rw [if_pos (by rfl)]
                          refine wp_append_none (.tmp 55) (.tmp 58) 26 rfl 3 i0 Tryd.underlying26 hi hc 0 _ _ rfl ad (i - (j + 1)) (cap0 - (j + 1)) (by first | rfl | (simp [Act.eval, Act.put]; done) | (simp [Act.eval, Act.put]; omega)) (by omega) (ownI_cap2 OWN.out) ?_
                          have hb := hHeld
                          refine hK.out _ _ hb (fun hHeld => ?_)
                          clear hK K hb
                          set_option linter.unusedSimpArgs false in try simp only [Act.put, List.setIfInBounds_toArray, List.set_cons_zero, List.set_cons_succ]
                          refine wpAnyH_take (i := 12) (oi := { dst := some 4, op := _, type := _, pos := _, after := _, guard := _ }) (v := ?_) rfl (by kernel_rfl) (by kernel_rfl) (by kernel_rfl) (fun _ _ _ h => h) (Or.inl ⟨by rfl, ?_⟩) hHeld ?_
                          rotate_left
                          · (intro w hSw; clear hSw; go_simp; first | done | with_reducible rfl | rfl | simp)
                          set_option linter.unusedSimpArgs false in try simp only [Act.put, List.setIfInBounds_toArray, List.set_cons_zero, List.set_cons_succ]
                          refine wpAnyH_done (by kernel_rfl) ?_ _
                          refine NoPanic.normal ?_
                          have hLs := sortL_succ X hlt
                          rw [HKP.out] at hLs
                          have hrow : Vn.ownsRow w.heap.size 3 1 (.slice (some ⟨hc, 0, none⟩) (i + 1) cc) (i + 1) ((sortL X n (i + 1)).map (Value.int .i64)) := by
                            have o := OWN.out
                            refine ownI_re o hwN ?_ ?_
                            · omega
                            · have hdn : (sortL X n i).drop i = [] := List.drop_of_length_le (by omega)
                              rw [hLs]; simp [hdn]
                              all_goals first | omega | exact List.length_eq_zero_iff.1 (by omega)
                          have hbW := Lib.hid (KQ.out.2.trans (hHeld.mono hwN))
                          have eL : ((j + 1) + 1) = i + 1 := by omega
                          try rw [eL]
                          have HR := Lib.hid hrow
                          clear hrow OWN hHeld HO C6 NE
                          go_wp2_with fail
                          go_roundw
                          case rel => exact ⟨i + 1, hc, cc, by omega, by go_num, by first | rfl | (congr 1; done) | (congr 1; omega), HR, HT2, hbW⟩
                          case measure => simp [Lib.intOf]; omega
                        exact AllReadyH.nil
                      exact AllReadyH.nil
                    exact AllReadyH.nil
                  exact AllReadyH.nil
                exact AllReadyH.nil
            · have HK2 : Hid (posP (ltA X) (sortN (ltA X) n i) i j = posP (ltA X) (sortN (ltA X) n i) i i) := Lib.hid (by rw [← HKP0.out, HK1.out, if_pos rfl])
              clear HKP0 HK1 hl
              go_wp2_with fail
              go_roundw
              case rel => exact ⟨j, by omega, by go_num, HK2, KQ⟩
              case measure => simp [Lib.intOf]
    · obtain rfl : i = n := by omega
      obtain rfl : r = true := by have := HT.out; rw [List.take_of_length_le (by have := HL.out; omega)] at this; exact HR.out.symm.trans this
      obtain rfl : LL = sortL X i i := HLL.out.symm.trans (if_pos rfl)
      go_wp2_with fail
      go_ret2
      refine ⟨some ⟨g0, 0, none⟩, cap0, ?_, ?_, HB.out⟩
      · rw [sortL_len]
        rfl
      · rw [sortL_len]; exact HOW.out
end Go.Proofs.YtgoelkgdjnhklaaDoor
