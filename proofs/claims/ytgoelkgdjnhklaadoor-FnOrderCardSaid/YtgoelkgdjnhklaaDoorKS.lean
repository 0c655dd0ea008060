/- Several small texts in one: RArmsText, ROrd, RArmsTx, STabs. -/
import Derived.Test.YtgoelkgdjnhklaaDoorKL
import Derived.Test.YtgoelkgdjnhklaaDoorKM
import Derived.Deep.LoopGhost
import Derived.Test.YtgoelkgdjnhklaaDoorKP
import Derived.Test.YtgoelkgdjnhklaaDoorKV
import Derived.Test.YtgoelkgdjnhklaaDoorK7
import Derived.Test.YtgoelkgdjnhklaaDoorK5
import Derived.Test.YtgoelkgdjnhklaaDoorKG
namespace Go.Proofs.YtgoelkgdjnhklaaDoor
open Go.RowKit

/-- The layers of arms, each with what connects it with the text before it. -/
def layersN (d l f s o n x c k a t c' k' a' t' : Int) : List (ByteArray × ByteArray) :=
  [(⟨#[]⟩, fN d l f s)] ++ (if 0 < o then [(⟨#[44, 32]⟩, oN o n x)] else []) ++ (if gNoB c k a t = true then [] else [(⟨#[32, 99, 104, 97, 114, 103, 101, 100, 32, 119, 105, 116, 104, 32]⟩, gN c k a t)]) ++ (if gNoB c' k' a' t' = true then [] else [(linkN o, gN c' k' a' t')])
def cellsL : List (ByteArray × ByteArray) → List Value
  | [] => []
  | p :: r => .string p.1 :: .string p.2 :: cellsL r
def flatL : List (ByteArray × ByteArray) → List UInt8
  | [] => []
  | p :: r => p.1.data.toList ++ p.2.data.toList ++ flatL r
theorem cellsL_at : ∀ {X : List (ByteArray × ByteArray)} {k : Nat} {p : ByteArray × ByteArray}, X[k]? = some p → (cellsL X)[k * 2]? = some (.string p.1) ∧ (cellsL X)[k * 2 + 1]? = some (.string p.2)
  | [], k, _, h => by simp at h
  | q :: r, 0, p, h => by simp at h; subst h; exact ⟨rfl, rfl⟩
  | q :: r, k + 1, p, h => by
    have := cellsL_at (X := r) (k := k) (p := p) (by simpa using h)
    rw [cellsL, show (k + 1) * 2 = k * 2 + 1 + 1 by omega]
    exact this
theorem flatL_snoc (X : List (ByteArray × ByteArray)) (p : ByteArray × ByteArray) : flatL (X ++ [p]) = flatL X ++ p.1.data.toList ++ p.2.data.toList := by
  induction X with
  | nil => simp [flatL]
  | cons q r ih => rw [List.cons_append, flatL, ih, flatL]; simp
theorem flatL_arms {d l f s o n x c k a t c' k' a' t' : Int} : flatL (layersN d l f s o n x c k a t c' k' a' t') = (armsN d l f s o n x c k a t c' k' a' t').data.toList := by
  unfold layersN armsN
  by_cases h1 : 0 < o <;> cases h2 : gNoB c k a t <;> cases h3 : gNoB c' k' a' t' <;> simp [h1, flatL]
theorem flat_take {X : List (ByteArray × ByteArray)} {k : Nat} {p : ByteArray × ByteArray} (h : X[k]? = some p) : flatL (X.take (k + 1)) = flatL (X.take k) ++ p.1.data.toList ++ p.2.data.toList := by
  rw [List.take_add_one, h]
  exact flatL_snoc _ _
/-- The slice's block holds these layers. -/
def LRow (w : World) (g o : Nat) (X : List (ByteArray × ByteArray)) : Prop := ∃ cur, w.heap[g]? = some (.cells cur 149 (0, 0)) ∧ ∀ k p, X[k]? = some p → w.cell? ⟨g, o + k * 2, none⟩ = some (.string p.1) ∧ w.cell? ⟨g, o + k * 2 + 1, none⟩ = some (.string p.2)
theorem LRow.heap {w w' : World} {g o : Nat} {X : List (ByteArray × ByteArray)} (h : LRow w g o X) (he : w'.heap[g]? = w.heap[g]?) : LRow w' g o X := by
  obtain ⟨cur, h1, h2⟩ := h
  have hc : ∀ i, w'.cell? ⟨g, i, none⟩ = w.cell? ⟨g, i, none⟩ := fun i => by simp only [World.cell?, he]
  exact ⟨cur, he.trans h1, fun k p hp => ⟨(hc _).trans (h2 k p hp).1, (hc _).trans (h2 k p hp).2⟩⟩
theorem LRow.lt {w : World} {g o : Nat} {X : List (ByteArray × ByteArray)} (h : LRow w g o X) : g < w.heap.size := by
  obtain ⟨cur, h1, _⟩ := h
  rcases Nat.lt_or_ge g w.heap.size with h2 | h2
  · exact h2
  · rw [Array.getElem?_eq_none h2] at h1; cases h1
theorem LRow.of {w : World} {B : Nat} {v : Value} {X : List (ByteArray × ByteArray)} (h : OwnL w B v X.length (cellsL X)) (h0 : 0 < X.length) : ∃ g o cap, v = .slice (some ⟨g, o, none⟩) X.length cap ∧ B ≤ g ∧ LRow w g o X := by
  rcases h.2 with ⟨_, h1⟩ | ⟨g, cap, cur, rfl, hB, hg, _⟩
  · omega
  · refine ⟨g, 0, cap, rfl, hB, cur, hg, fun k p hp => ?_⟩
    have hk : k < X.length := (List.getElem?_eq_some_iff.1 hp).1
    rw [Nat.zero_add, World.ownsRow.cellAt h (k * 2) (by omega), World.ownsRow.cellAt h (k * 2 + 1) (by omega)]
    exact cellsL_at hp
theorem Bd.keep {b : Nat} {l : List UInt8} {w w' : World} (h : Bd b l w) (hb : Below w.heap.size w w') : Bd b l w' := by
  have key : ∀ p, Lib.BuilderAt 145 5 b b p (Lib.byteCells l) w → Lib.BuilderAt 145 5 b b p (Lib.byteCells l) w' := fun p ⟨hB, v, hbk, hown, hne⟩ =>
    ⟨hB, v, (hb.block b (heap_lt hbk)).trans hbk, World.ownsRow.kept (row := none) hown ⟨hb.os, hb.tape, hb.output, hb.size, fun i hi _ => hb.block i hi⟩ (by cases h : v.ownBlock <;> simp), hne⟩
  rcases h with h | h
  · exact .inl (key _ h)
  · exact .inr (key _ h)
set_option maxRecDepth 100000 in
set_option maxHeartbeats 8000000 in
/-- The text of valid arms: the layers written one behind the other. -/
theorem armsText_walk (d l f s o n x c k a t c' k' a' t' : Int) (X : List (ByteArray × ByteArray)) (w : World) (hX : 0 < X.length ∧ X.length ≤ 4) (hs : ∀ p ∈ X, p.1.size ≤ 100 ∧ p.2.size ≤ 100)
    (hv : ∀ W, Below w.heap.size w W → Calls Tryd.prog 35 #[.agg #[.int .i64 d, .int .i64 l, .int .i64 f, .int .i64 s, .int .i64 o, .int .i64 n, .int .i64 x, .int .i64 c, .int .i64 k, .int .i64 a, .int .i64 t, .int .i64 c', .int .i64 k', .int .i64 a', .int .i64 t']] W fun e w' => e = .returned (.bool true) ∧ Below W.heap.size W w')
    (hl : ∀ W, Below w.heap.size w W → Calls Tryd.prog 120 #[.agg #[.int .i64 d, .int .i64 l, .int .i64 f, .int .i64 s, .int .i64 o, .int .i64 n, .int .i64 x, .int .i64 c, .int .i64 k, .int .i64 a, .int .i64 t, .int .i64 c', .int .i64 k', .int .i64 a', .int .i64 t']] W fun e w' => ∃ v, e = .returned v ∧ OwnL w' (W.heap.size + 1) v X.length (cellsL X) ∧ Below W.heap.size W w') :
    Calls Tryd.prog 66 #[.agg #[.int .i64 d, .int .i64 l, .int .i64 f, .int .i64 s, .int .i64 o, .int .i64 n, .int .i64 x, .int .i64 c, .int .i64 k, .int .i64 a, .int .i64 t, .int .i64 c', .int .i64 k', .int .i64 a', .int .i64 t']] w fun e w' => e = .returned (.tuple #[.string ⟨(flatL X).toArray⟩, .bool true]) ∧ Below w.heap.size w w' := by
  have HV := Lib.hid hv
  have HL := Lib.hid hl
  have HS := Lib.hid hs
  have K0 := Lib.hid (AK.new w [.int .i64 d, .int .i64 l, .int .i64 f, .int .i64 s, .int .i64 o, .int .i64 n, .int .i64 x, .int .i64 c, .int .i64 k, .int .i64 a, .int .i64 t, .int .i64 c', .int .i64 k', .int .i64 a', .int .i64 t'])
  have r0 := K0.out.1.range
  clear hv hl hs
  go_enter Tryd.func66, Tryd.ntmps66
  go_wp2_with (with_reducible refine isList ?_; refine ld15 1 w.heap.size [.int .i64 d, .int .i64 l, .int .i64 f, .int .i64 s, .int .i64 o, .int .i64 n, .int .i64 x, .int .i64 c, .int .i64 k, .int .i64 a, .int .i64 t, .int .i64 c', .int .i64 k', .int .i64 a', .int .i64 t'] rfl rfl rfl rfl ?_ ?_; exact r0)
  clear r0
  refine (HV.out _ K0.out.2).mono ?_
  rintro e w1 ⟨rfl, g1⟩
  have k1 := K0.out.below g1
  have K1 := Lib.hid (k1.alloc (.cells #[.pointer none, .slice none 0 0] 145))
  have hlt1 := k1.lt
  have hbd := bd_fresh w1
  have HBD := Lib.hid hbd
  clear g1 k1 K0 hbd
  have r1 := K1.out.1.range
  go_wp2_with (with_reducible refine isList ?_; refine ld15 1 w.heap.size [.int .i64 d, .int .i64 l, .int .i64 f, .int .i64 s, .int .i64 o, .int .i64 n, .int .i64 x, .int .i64 c, .int .i64 k, .int .i64 a, .int .i64 t, .int .i64 c', .int .i64 k', .int .i64 a', .int .i64 t'] rfl rfl rfl rfl ?_ ?_; exact r1)
  clear r1
  refine (HL.out _ K1.out.2).mono ?_
  rintro e w2 ⟨v, rfl, ho, g2⟩
  obtain ⟨g, o', cap, rfl, hgB, hrow⟩ := LRow.of ho hX.1
  have hb1 : w1.heap.size ≠ g := by simp at hgB; omega
  have hgw : w.heap.size ≤ g := by simp at hgB; omega
  have HR := Lib.hid hrow
  have hbd2 : Bd w1.heap.size [] w2 := by
    have h := HBD.out
    have hb : w2.heap[w1.heap.size]? = (w1.alloc (.cells #[.pointer none, .slice none 0 0] 145)).heap[w1.heap.size]? := g2.block _ (by simp)
    have e1 : w2.heap[w1.heap.size]? = some (.cells #[.pointer none, .slice none 0 0] 145 (0, 0)) := hb.trans (by show (w1.heap.push _)[w1.heap.size]? = _; exact Array.getElem?_push_size)
    refine .inl ⟨Nat.le_refl _, .slice none 0 0, e1, World.ownsRow_nil _ _ _ _, by simp [Value.ownBlock]⟩
  have HBD2 := Lib.hid hbd2
  have HB2 := Lib.hid (K1.out.2.trans (g2.mono K1.out.2.size))
  clear g2 ho hrow hgB hbd2 HBD K1 HL HV
  go_wp2_with fail
  go_loopg [13] X.length (fun gh i wr => ∃ q : Nat, q + gh = X.length ∧ i = .int .i64 (q : Int) ∧ Bd w1.heap.size (flatL (X.take q)) wr ∧ LRow wr g o' X ∧ Below w.heap.size w wr)
  case atStart => exact ⟨0, by omega, rfl, HBD2.out, HR.out, HB2.out⟩
  case round =>
    obtain ⟨q, hq, rfl, hbd, hr, hb⟩ := hrel
    have hlen4 : X.length ≤ 4 := hX.2
    by_cases hlt : q < X.length
    · obtain ⟨gh, rfl⟩ : ∃ gh, gk = gh + 1 := ⟨gk - 1, by omega⟩
      obtain ⟨p, hp⟩ : ∃ p, X[q]? = some p := ⟨X[q], List.getElem?_eq_getElem hlt⟩
      have hfl : (flatL (X.take q)).length ≤ 200 * q := by
        have : ∀ (Y : List (ByteArray × ByteArray)), (∀ p ∈ Y, p.1.size ≤ 100 ∧ p.2.size ≤ 100) → (flatL Y).length ≤ 200 * Y.length := by
          intro Y hY
          induction Y with
          | nil => simp [flatL]
          | cons y r ih =>
            have h1 := hY y (by simp)
            have h2 := ih (fun z hz => hY z (by simp [hz]))
            have e1 : y.1.data.toList.length = y.1.size := rfl
            have e2 : y.2.data.toList.length = y.2.size := rfl
            simp only [flatL, List.length_append, List.length_cons]
            omega
        refine Nat.le_trans (this _ (fun z hz => HS.out z (List.mem_of_mem_take hz))) ?_
        rw [List.length_take]; omega
      have hps := HS.out p (List.mem_of_getElem? hp)
      have hft := flat_take hp
      obtain ⟨cur, hcur, hcell⟩ := hr
      obtain ⟨c0, c1⟩ := hcell q p hp
      have hr : LRow wr g o' X := ⟨cur, hcur, hcell⟩
      have hgl := hr.lt
      have HP1 := Lib.hid (show Below wr.heap.size wr (wr.alloc (.cells #[.string p.1, .string p.2] 149 (0, 0))) from (Below.refl _ _).alloc (Nat.le_refl _) _)
      have HBX := Lib.hid (BoxF.new wr [.string p.1, .string p.2] 149)
      have HBd := Lib.hid (hbd.keep HP1.out)
      have HRw := Lib.hid (hr.heap (w' := wr.alloc (.cells #[.string p.1, .string p.2] 149 (0, 0))) (HP1.out.block g hgl))
      have HBl := Lib.hid (hb.alloc hb.size (.cells #[.string p.1, .string p.2] 149 (0, 0)))
      have hbl : w1.heap.size < wr.heap.size := by rcases hbd with ⟨_, v, hk, _⟩ | ⟨_, v, hk, _⟩ <;> exact heap_lt hk
      have x0 := HBX.out.at 0
      have HQ := Lib.hid hp
      clear hcur hcell hr hb hbd hp
      simp only [List.getElem?_cons_zero] at x0
      obtain ⟨s1, hs1⟩ : ∃ s, p.1 = s := ⟨_, rfl⟩
      obtain ⟨s2, hs2⟩ : ∃ s, p.2 = s := ⟨_, rfl⟩
      rw [hs1, hs2] at hft HP1 HBX HBd HRw HBl hps
      rw [hs1] at c0 x0
      rw [hs2] at c1 x0
      go_wp2_with fail
      refine (ws2 w1.heap.size _ s1 _ HBd.out (by omega) (by omega)).mono ?_
      rintro e w3 ⟨rfl, hbd, hb3, hf3⟩
      have bx := HBX.out
      unfold BoxF at bx
      have bx3 : BoxF w3 wr.heap.size [.string s1, .string s2] 149 := hf3 _ _ _ _ bx (by decide) (by omega)
      obtain ⟨cur3, hc3, _⟩ := HRw.out
      have HR3 := Lib.hid (HRw.out.heap ((hf3 _ _ _ _ hc3 (by decide) (fun e => hb1 e.symm)).trans hc3.symm))
      have HB3 := Lib.hid (HBl.out.trans (hb3.mono (by omega)))
      have HBd3 := Lib.hid hbd
      have x1 := bx3.at 1
      simp only [List.getElem?_cons_zero, List.getElem?_cons_succ] at x1
      clear hbd hb3 hf3 hc3 bx bx3 HBd HRw HBl x0 HBX
      go_wp2_with fail
      have hln : (flatL (X.take q) ++ s1.data.toList).length ≤ 1000 := by
        have e1 : s1.data.toList.length = s1.size := rfl
        rw [List.length_append]; omega
      refine (ws2 w1.heap.size _ s2 _ HBd3.out hln (by omega)).mono ?_
      rintro e w4 ⟨rfl, hbd, hb4, hf4⟩
      obtain ⟨cur4, hc4, _⟩ := HR3.out
      have HR4 := Lib.hid (HR3.out.heap ((hf4 _ _ _ _ hc4 (by decide) (fun e => hb1 e.symm)).trans hc4.symm))
      have HB4 := Lib.hid (HB3.out.trans (hb4.mono (by omega)))
      have HBd4 := Lib.hid hbd
      clear hbd hb4 hf4 hc4 HR3 HB3 HBd3 x1
      go_wp2_with fail
      go_roundg gh
      case measure => omega
      case rel => exact ⟨q + 1, by omega, by go_num, by rw [hft]; exact HBd4.out, HR4.out, HB4.out⟩
    · obtain rfl : q = X.length := by omega
      rw [List.take_length] at hbd
      have HBd := Lib.hid hbd
      have HB := Lib.hid hb
      have hwl : w.heap.size ≤ w1.heap.size := by omega
      clear hbd hb hr
      go_wp2_with fail
      refine (bstr _ _ _ HBd.out).mono ?_
      rintro e w3 ⟨rfl, h3⟩
      have HB3 := Lib.hid (HB.out.trans (h3.mono hwl))
      clear h3 HB
      go_wp2_with fail
      go_ret2
      exact ⟨rfl, HB3.out⟩
end Go.Proofs.YtgoelkgdjnhklaaDoor
namespace Go.Proofs.YtgoelkgdjnhklaaDoor
open Go.RowKit

def OrdsLie (w : World) : Prop := ∀ i, i < 7 → w.cell? ⟨0, i, none⟩ = some (.string (ordN (i + 1)))
theorem OrdsLie.below {w w' : World} (h : OrdsLie w) (hb : Below w.heap.size w w') : OrdsLie w' := fun i hi => (hb.cell (p := ⟨0, i, none⟩) (World.block_lt_of_cell? w _ (h i hi))).trans (h i hi)
theorem ords_of {rest : List (String × DataW Unit)} {w : World} (h : laidMet Tryd.prog (("loop.example/g00884/impl.ordinaryWords", Rows.laid_loop_example_g00884_impl_ordinaryWords) :: rest) w) : OrdsLie w := by
  obtain ⟨ps, ⟨g', t', cs, fuel, p, q, hg', ht', hvar, hd, _, _⟩, _⟩ := h
  have hg : Tryd.prog.globalNamed "loop.example/g00884/impl.ordinaryWords" = some 0 := by kernel_rfl
  have ht : (Tryd.prog.globals[0]?).map (·.type) = some 100 := by kernel_rfl
  obtain rfl := Option.some.inj (hg.symm.trans hg')
  obtain rfl := Option.some.inj (ht.symm.trans ht')
  have hcs : cs.toList = (ordL.drop 1).map Value.string := cells_of_words (n := 7) (e := 9) (ss := ordL.drop 1) Tryd.underlying100 Tryd.underlying9 (by kernel_rfl) (by kernel_rfl) hd
  intro i hi
  rw [World.var?_cell hg hvar i, ← Array.getElem?_toList, hcs]
  rcases (show i = 0 ∨ i = 1 ∨ i = 2 ∨ i = 3 ∨ i = 4 ∨ i = 5 ∨ i = 6 by omega) with rfl | rfl | rfl | rfl | rfl | rfl | rfl <;> rfl
/-- The tables that the texts of ordinaries are read from. -/
def OTabs (w : World) : Prop := WordsLie w ∧ LinesLie w ∧ OrdsLie w
theorem OTabs.below {w w' : World} (h : OTabs w) (hb : Below w.heap.size w w') : OTabs w' := ⟨h.1.below hb, h.2.1.below hb, h.2.2.below hb⟩
set_option maxRecDepth 100000 in
set_option maxHeartbeats 8000000 in
theorem ordText_straight (j i : Nat) (w : World) (hj : j < 7) (hi : i < 9) (hT : OTabs w) :
    Calls Tryd.prog 21 #[.int .i64 ((j : Int) + 1), .int .i64 0, .int .i64 ((i : Int) + 1)] w fun e w' => e = .returned (.tuple #[.string (⟨#[97, 32]⟩ ++ ordN (j + 1) ++ ⟨#[32]⟩ ++ wordN i), .bool true]) ∧ Below w.heap.size w w' := by
  have C1 := Lib.hid (fun W => isOrdinary_any ((j : Int) + 1) W true (decide_eq_true (by omega)))
  have C2 := Lib.hid (fun W => isLine_any 0 W true (decide_eq_true (by omega)))
  have C3 := Lib.hid (fun W => isT_any ((i : Int) + 1) W true (decide_eq_true (by omega)))
  have H1 := hT.2.2 j hj
  have H3 := hT.1 i hi
  have s1 : (ordN (j + 1)).size ≤ 100 := by have := ordN_size (i := j + 1) (by omega); omega
  have s3 : (wordN i).size ≤ 100 := by have := wordN_size hi; omega
  clear hT
  generalize ordN (j + 1) = T1 at *
  generalize wordN i = T3 at *
  have n1 : ¬ 9223372036854775807 < 2 + T1.size := by omega
  have n4 : ¬ 9223372036854775807 < 2 + T1.size + 1 := by omega
  have n5 : ¬ 9223372036854775807 < 2 + T1.size + 1 + T3.size := by omega
  go_enter Tryd.func21, Tryd.ntmps21
  go_wp2_with fail
  refine (C1.out _).mono ?_
  rintro e w_ ⟨rfl, rfl⟩
  go_wp2_with fail
  refine (C2.out _).mono ?_
  rintro e w_ ⟨rfl, rfl⟩
  go_wp2_with fail
  refine (C3.out _).mono ?_
  rintro e w_ ⟨rfl, rfl⟩
  go_wp2_with fail
  go_ret2
  exact ⟨rfl, Below.refl _ _⟩
set_option maxRecDepth 100000 in
set_option maxHeartbeats 8000000 in
theorem ordText_lined (j m i : Nat) (w : World) (hj : j < 7) (hm : m < 4) (hi : i < 9) (hT : OTabs w) :
    Calls Tryd.prog 21 #[.int .i64 ((j : Int) + 1), .int .i64 ((m : Int) + 1), .int .i64 ((i : Int) + 1)] w fun e w' => e = .returned (.tuple #[.string (⟨#[97, 32]⟩ ++ ordN (j + 1) ++ (⟨#[32]⟩ ++ lineN (m + 1)) ++ ⟨#[32]⟩ ++ wordN i), .bool true]) ∧ Below w.heap.size w w' := by
  have C1 := Lib.hid (fun W => isOrdinary_any ((j : Int) + 1) W true (decide_eq_true (by omega)))
  have C2 := Lib.hid (fun W => isLine_any ((m : Int) + 1) W true (decide_eq_true (by omega)))
  have C3 := Lib.hid (fun W => isT_any ((i : Int) + 1) W true (decide_eq_true (by omega)))
  have H1 := hT.2.2 j hj
  have H2 := hT.2.1 m hm
  have H3 := hT.1 i hi
  have s1 : (ordN (j + 1)).size ≤ 100 := by have := ordN_size (i := j + 1) (by omega); omega
  have s2 : (lineN (m + 1)).size ≤ 100 := by have := lineN_size (i := m + 1) (by omega); omega
  have s3 : (wordN i).size ≤ 100 := by have := wordN_size hi; omega
  clear hT
  generalize ordN (j + 1) = T1 at *
  generalize lineN (m + 1) = T2 at *
  generalize wordN i = T3 at *
  have n1 : ¬ 9223372036854775807 < 2 + T1.size := by omega
  have n2 : ¬ 9223372036854775807 < 1 + T2.size := by omega
  have n3 : ¬ 9223372036854775807 < 2 + T1.size + (1 + T2.size) := by omega
  have n4 : ¬ 9223372036854775807 < 2 + T1.size + (1 + T2.size) + 1 := by omega
  have n5 : ¬ 9223372036854775807 < 2 + T1.size + (1 + T2.size) + 1 + T3.size := by omega
  go_enter Tryd.func21, Tryd.ntmps21
  go_wp2_with fail
  refine (C1.out _).mono ?_
  rintro e w_ ⟨rfl, rfl⟩
  go_wp2_with fail
  refine (C2.out _).mono ?_
  rintro e w_ ⟨rfl, rfl⟩
  go_wp2_with fail
  refine (C3.out _).mono ?_
  rintro e w_ ⟨rfl, rfl⟩
  go_wp2_with fail
  go_ret2
  exact ⟨rfl, Below.refl _ _⟩
theorem ordText_impl_no (o n x : Int) (w : World) (h : (decide (1 ≤ o ∧ o ≤ 7) && (decide (0 ≤ n ∧ n ≤ 4) && decide (1 ≤ x ∧ x ≤ 9))) = false) :
    Calls Tryd.prog 21 #[.int .i64 o, .int .i64 n, .int .i64 x] w fun e w' => e = .returned (.tuple #[.string ByteArray.empty, .bool false]) ∧ Below w.heap.size w w' := by
  obtain ⟨p1, e1⟩ : ∃ p, decide (1 ≤ o ∧ o ≤ 7) = p := ⟨_, rfl⟩
  obtain ⟨p2, e2⟩ : ∃ p, decide (0 ≤ n ∧ n ≤ 4) = p := ⟨_, rfl⟩
  obtain ⟨p3, e3⟩ : ∃ p, decide (1 ≤ x ∧ x ≤ 9) = p := ⟨_, rfl⟩
  rw [e1, e2, e3] at h
  have C1 := Lib.hid (fun W => isOrdinary_any o W p1 e1)
  have C2 := Lib.hid (fun W => isLine_any n W p2 e2)
  have C3 := Lib.hid (fun W => isT_any x W p3 e3)
  clear e1 e2 e3
  cases p1
  · clear h
    go_enter Tryd.func21, Tryd.ntmps21
    go_wp2_with fail
    refine (C1.out _).mono ?_
    rintro e w1 ⟨rfl, rfl⟩
    go_wp2_with fail
    go_ret2
    exact ⟨rfl, Below.refl _ _⟩
  · cases p2
    · clear h
      go_enter Tryd.func21, Tryd.ntmps21
      go_wp2_with fail
      refine (C1.out _).mono ?_
      rintro e w1 ⟨rfl, rfl⟩
      go_wp2_with fail
      refine (C2.out _).mono ?_
      rintro e w1 ⟨rfl, rfl⟩
      go_wp2_with fail
      go_ret2
      exact ⟨rfl, Below.refl _ _⟩
    · cases p3
      · clear h
        go_enter Tryd.func21, Tryd.ntmps21
        go_wp2_with fail
        refine (C1.out _).mono ?_
        rintro e w1 ⟨rfl, rfl⟩
        go_wp2_with fail
        refine (C2.out _).mono ?_
        rintro e w1 ⟨rfl, rfl⟩
        go_wp2_with fail
        refine (C3.out _).mono ?_
        rintro e w1 ⟨rfl, rfl⟩
        go_wp2_with fail
        go_ret2
        exact ⟨rfl, Below.refl _ _⟩
      · exact absurd h (by decide)
/-- The program's text of an ordinary with valid numbers. -/
theorem ordText_impl {o n x : Int} (ho : 1 ≤ o ∧ o ≤ 7) (hn : 0 ≤ n ∧ n ≤ 4) (hx : 1 ≤ x ∧ x ≤ 9) (w : World) (hT : OTabs w) :
    Calls Tryd.prog 21 #[.int .i64 o, .int .i64 n, .int .i64 x] w fun e w' => e = .returned (.tuple #[.string (oN o n x), .bool true]) ∧ Below w.heap.size w w' := by
  obtain ⟨j, rfl⟩ : ∃ j : Nat, o = (j : Int) + 1 := ⟨(o - 1).toNat, by omega⟩
  obtain ⟨i, rfl⟩ : ∃ i : Nat, x = (i : Int) + 1 := ⟨(x - 1).toNat, by omega⟩
  unfold oN otextN oheadN
  rw [show ((j : Int) + 1).toNat = j + 1 by omega, show ((i : Int) + 1 - 1).toNat = i by omega]
  by_cases h0 : n = 0
  · subst h0
    rw [if_pos (by rfl)]
    exact ordText_straight j i w (by omega) (by omega) hT
  · obtain ⟨m, rfl⟩ : ∃ m : Nat, n = (m : Int) + 1 := ⟨(n - 1).toNat, by omega⟩
    rw [show ((m : Int) + 1).toNat = m + 1 by omega, if_neg (by omega), ByteArray.append_assoc (a := _ ++ _) (b := ⟨#[32]⟩) (c := lineN (m + 1))]
    exact ordText_lined j m i w (by omega) (by omega) (by omega) hT
end Go.Proofs.YtgoelkgdjnhklaaDoor
namespace Go.Proofs.YtgoelkgdjnhklaaDoor
open Go.RowKit

/-- The tables that the texts of arms are read from. -/
def STabs (w : World) : Prop := GTabs w ∧ TabsLie w ∧ OrdsLie w
theorem STabs.below {w w' : World} (h : STabs w) (hb : Below w.heap.size w w') : STabs w' := ⟨h.1.below hb, h.2.1.below hb, h.2.2.below hb⟩
theorem STabs.ord {w : World} (h : STabs w) : OTabs w := ⟨h.2.1.1, h.2.1.2.2, h.2.2⟩
theorem gNo_nok {c k a t : Int} (h : gNoB c k a t = true) : gOkB c k a t = false := by
  obtain ⟨rfl, rfl, rfl, rfl⟩ := gNo_zero4 h
  decide
theorem groupText_int {c k a t : Int} (h : gOkB c k a t = true) (w : World) (hT : GTabs w) :
    Calls Tryd.prog 150 #[.agg #[.int .i64 c, .int .i64 k, .int .i64 a, .int .i64 t]] w fun e w' => e = .returned (.tuple #[.string (gN c k a t), .bool true]) ∧ Below w.heap.size w w' := by
  have g := gOk_out h
  obtain ⟨i, rfl⟩ : ∃ i : Nat, t = (i : Int) + 1 := ⟨(t - 1).toNat, by omega⟩
  have := groupText_impl c k a i w (by omega) h hT
  unfold gN
  rwa [show ((i : Int) + 1 - 1).toNat = i by omega]
set_option maxHeartbeats 1000000 in
theorem linkOf_any (o : Int) (w : World) :
    Calls Tryd.prog 151 #[.int .i64 o] w fun e w' => e = .returned (.string (linkN o)) ∧ w = w' := by
  unfold linkN
  by_cases h0 : o = 0
  · have e0 : (o == 0) = true := by rw [beq_iff_eq]; exact h0
    rw [if_pos h0]
    clear h0
    go_enter Tryd.func151, Tryd.ntmps151
    go_wp2_with fail
    go_ret
    exact ⟨rfl, rfl⟩
  · have e0 : (o == 0) = false := by rw [beq_eq_false_iff_ne]; exact h0
    rw [if_neg h0]
    by_cases h7 : o = 7
    · have e7 : (o == 7) = true := by rw [beq_iff_eq]; exact h7
      rw [if_pos h7]
      clear h0 h7
      go_enter Tryd.func151, Tryd.ntmps151
      go_wp2_with fail
      go_ret
      exact ⟨rfl, rfl⟩
    · have e7 : (o == 7) = false := by rw [beq_eq_false_iff_ne]; exact h7
      rw [if_neg h7]
      clear h0 h7
      go_enter Tryd.func151, Tryd.ntmps151
      go_wp2_with fail
      go_ret
      exact ⟨rfl, rfl⟩
set_option linter.unusedSimpArgs false in
/-- The layers of valid arms. -/
theorem linkedTexts_any (d l f s o n x c k a t c' k' a' t' : Int) (w : World) (h : aOkB d l f s o n x c k a t c' k' a' t' = true) (hT : STabs w) :
    Calls Tryd.prog 120 #[.agg #[.int .i64 d, .int .i64 l, .int .i64 f, .int .i64 s, .int .i64 o, .int .i64 n, .int .i64 x, .int .i64 c, .int .i64 k, .int .i64 a, .int .i64 t, .int .i64 c', .int .i64 k', .int .i64 a', .int .i64 t']] w fun e w' => ∃ v, e = .returned v ∧ OwnL w' (w.heap.size + 1) v (layersN d l f s o n x c k a t c' k' a' t').length (cellsL (layersN d l f s o n x c k a t c' k' a' t')) ∧ Below w.heap.size w w' := by
  obtain ⟨hF, hA, hO⟩ := aOk_out h
  have cF := fun W (hb : Below w.heap.size w W) => fieldText_yes d l f s W hF (hT.below hb).2.1
  rcases hO with ⟨rfl, rfl, rfl, hg⟩ | ⟨ho, hn, hx, hg⟩
  · rcases hA with hA1 | ⟨hA1, hA2⟩
    · have q := linked_000 d l f s 0 0 0 c k a t c' k' a' t' _ _ _ _ w cF (fun W _ => ordText_impl_no 0 0 0 W (by decide)) (fun W hb => groupText_impl_no c k a t W (gNo_nok hg) (hT.below hb).1.2.2.2) (fun W hb => groupText_impl_no c' k' a' t' W (gNo_nok hA1) (hT.below hb).1.2.2.2)
      unfold layersN
      simp only [if_neg (show ¬ (0 : Int) < 0 by omega), hg, hA1, Bool.false_eq_true, if_true, if_false]
      exact q
    · have q := linked_001 d l f s 0 0 0 c k a t c' k' a' t' _ _ _ _ _ w cF (fun W _ => ordText_impl_no 0 0 0 W (by decide)) (fun W hb => groupText_impl_no c k a t W (gNo_nok hg) (hT.below hb).1.2.2.2) (fun W hb => groupText_int hA2 W (hT.below hb).1) (fun W => linkOf_any _ W)
      unfold layersN
      simp only [if_neg (show ¬ (0 : Int) < 0 by omega), hg, hA1, Bool.false_eq_true, if_true, if_false]
      exact q
  · rcases hg with hg1 | ⟨hg1, hg2⟩
    · rcases hA with hA1 | ⟨hA1, hA2⟩
      · have q := linked_100 d l f s o n x c k a t c' k' a' t' _ _ _ _ w cF (fun W hb => ordText_impl ho hn hx W (hT.below hb).ord) (fun W hb => groupText_impl_no c k a t W (gNo_nok hg1) (hT.below hb).1.2.2.2) (fun W hb => groupText_impl_no c' k' a' t' W (gNo_nok hA1) (hT.below hb).1.2.2.2)
        unfold layersN
        simp only [if_pos (show (0 : Int) < o by omega), hg1, hA1, Bool.false_eq_true, if_true, if_false]
        exact q
      · have q := linked_101 d l f s o n x c k a t c' k' a' t' _ _ _ _ _ w cF (fun W hb => ordText_impl ho hn hx W (hT.below hb).ord) (fun W hb => groupText_impl_no c k a t W (gNo_nok hg1) (hT.below hb).1.2.2.2) (fun W hb => groupText_int hA2 W (hT.below hb).1) (fun W => linkOf_any _ W)
        unfold layersN
        simp only [if_pos (show (0 : Int) < o by omega), hg1, hA1, Bool.false_eq_true, if_true, if_false]
        exact q
    · rcases hA with hA1 | ⟨hA1, hA2⟩
      · have q := linked_110 d l f s o n x c k a t c' k' a' t' _ _ _ _ w cF (fun W hb => ordText_impl ho hn hx W (hT.below hb).ord) (fun W hb => groupText_int hg2 W (hT.below hb).1) (fun W hb => groupText_impl_no c' k' a' t' W (gNo_nok hA1) (hT.below hb).1.2.2.2)
        unfold layersN
        simp only [if_pos (show (0 : Int) < o by omega), hg1, hA1, Bool.false_eq_true, if_true, if_false]
        exact q
      · have q := linked_111 d l f s o n x c k a t c' k' a' t' _ _ _ _ _ w cF (fun W hb => ordText_impl ho hn hx W (hT.below hb).ord) (fun W hb => groupText_int hg2 W (hT.below hb).1) (fun W hb => groupText_int hA2 W (hT.below hb).1) (fun W => linkOf_any _ W)
        unfold layersN
        simp only [if_pos (show (0 : Int) < o by omega), hg1, hA1, Bool.false_eq_true, if_true, if_false]
        exact q
theorem layers_len (d l f s o n x c k a t c' k' a' t' : Int) : 0 < (layersN d l f s o n x c k a t c' k' a' t').length ∧ (layersN d l f s o n x c k a t c' k' a' t').length ≤ 4 := by
  unfold layersN
  by_cases h1 : 0 < o <;> cases h2 : gNoB c k a t <;> cases h3 : gNoB c' k' a' t' <;> simp [h1]
theorem layers_size {d l f s o n x c k a t c' k' a' t' : Int} (h : aOkB d l f s o n x c k a t c' k' a' t' = true) : ∀ p ∈ layersN d l f s o n x c k a t c' k' a' t', p.1.size ≤ 100 ∧ p.2.size ≤ 100 := by
  obtain ⟨hF, hA, hO⟩ := aOk_out h
  have s1 := fN_size hF
  have e0 : (ByteArray.mk #[]).size = 0 := rfl
  have e1 : (ByteArray.mk #[44, 32]).size = 2 := rfl
  have e2 : (ByteArray.mk #[32, 99, 104, 97, 114, 103, 101, 100, 32, 119, 105, 116, 104, 32]).size = 14 := rfl
  have e3 := linkN_size o
  intro p hp
  unfold layersN at hp
  simp only [List.mem_append, List.mem_singleton] at hp
  rcases hp with ((hp | hp) | hp) | hp
  · subst hp; exact ⟨by dsimp only; omega, by dsimp only; omega⟩
  · split at hp
    · rename_i h0
      rcases hO with ⟨h1, _⟩ | ⟨ho, hn, hx, _⟩
      · omega
      · have := oN_size ho hn hx
        simp only [List.mem_singleton] at hp; subst hp; exact ⟨by dsimp only; omega, by dsimp only; omega⟩
    · cases hp
  · split at hp
    · cases hp
    · rename_i h0
      have hg : gOkB c k a t = true := by rcases hO with ⟨_, _, _, h1⟩ | ⟨_, _, _, h1 | ⟨_, h1⟩⟩ <;> first | exact absurd h1 h0 | exact h1
      have := gN_size hg
      simp only [List.mem_singleton] at hp; subst hp; exact ⟨by dsimp only; omega, by dsimp only; omega⟩
  · split at hp
    · cases hp
    · rename_i h0
      have hg : gOkB c' k' a' t' = true := by rcases hA with h1 | ⟨_, h1⟩ <;> first | exact absurd h1 h0 | exact h1
      have := gN_size hg
      simp only [List.mem_singleton] at hp; subst hp; exact ⟨by dsimp only; omega, by dsimp only; omega⟩
set_option maxRecDepth 100000 in
set_option maxHeartbeats 4000000 in
theorem armsText_impl (d l f s o n x c k a t c' k' a' t' : Int) (w : World) (r : Bool) (hr : aOkB d l f s o n x c k a t c' k' a' t' = r) (hT : STabs w) :
    Calls Tryd.prog 66 #[.agg #[.int .i64 d, .int .i64 l, .int .i64 f, .int .i64 s, .int .i64 o, .int .i64 n, .int .i64 x, .int .i64 c, .int .i64 k, .int .i64 a, .int .i64 t, .int .i64 c', .int .i64 k', .int .i64 a', .int .i64 t']] w fun e w' => e = .returned (.tuple #[.string (if r = true then armsN d l f s o n x c k a t c' k' a' t' else ByteArray.empty), .bool r]) ∧ Below w.heap.size w w' := by
  cases r
  · have HV := Lib.hid (fun W (hb : Below w.heap.size w W) => validArms_impl d l f s o n x c k a t c' k' a' t' W false hr (hT.below hb).1.2.2.2)
    have K0 := Lib.hid (AK.new w [.int .i64 d, .int .i64 l, .int .i64 f, .int .i64 s, .int .i64 o, .int .i64 n, .int .i64 x, .int .i64 c, .int .i64 k, .int .i64 a, .int .i64 t, .int .i64 c', .int .i64 k', .int .i64 a', .int .i64 t'])
    have r0 := K0.out.1.range
    clear hr hT
    go_enter Tryd.func66, Tryd.ntmps66
    go_wp2_with (with_reducible refine isList ?_; refine ld15 1 w.heap.size [.int .i64 d, .int .i64 l, .int .i64 f, .int .i64 s, .int .i64 o, .int .i64 n, .int .i64 x, .int .i64 c, .int .i64 k, .int .i64 a, .int .i64 t, .int .i64 c', .int .i64 k', .int .i64 a', .int .i64 t'] rfl rfl rfl rfl ?_ ?_; exact r0)
    clear r0
    refine (HV.out _ K0.out.2).mono ?_
    rintro e w1 ⟨rfl, g1⟩
    have K1 := Lib.hid (K0.out.below g1)
    clear g1
    go_wp2_with fail
    go_ret2
    exact ⟨rfl, K1.out.2⟩
  · have q := armsText_walk d l f s o n x c k a t c' k' a' t' (layersN d l f s o n x c k a t c' k' a' t') w (layers_len d l f s o n x c k a t c' k' a' t') (layers_size hr) (fun W hb => validArms_impl d l f s o n x c k a t c' k' a' t' W true hr (hT.below hb).1.2.2.2) (fun W hb => linkedTexts_any d l f s o n x c k a t c' k' a' t' W hr (hT.below hb))
    rw [flatL_arms] at q
    exact q
end Go.Proofs.YtgoelkgdjnhklaaDoor
namespace Go.Proofs.YtgoelkgdjnhklaaDoor
open Go.RowKit

theorem stabsH {w : World} (h : laidMetH Tryd.prog [("loop.example/g00884/impl.tinctureWords", Rows.laid_loop_example_g00884_impl_tinctureWords), ("loop.example/g00884/impl.divisionWords", Rows.laid_loop_example_g00884_impl_divisionWords), ("loop.example/g00884/impl.lineWords", Rows.laid_loop_example_g00884_impl_lineWords), ("loop.example/g00884/impl.countWords", Rows.laid_loop_example_g00884_impl_countWords), ("loop.example/g00884/impl.kindWords", Rows.laid_loop_example_g00884_impl_kindWords), ("loop.example/g00884/impl.attitudeWords", Rows.laid_loop_example_g00884_impl_attitudeWords), ("loop.example/g00884/impl.ordinaryWords", Rows.laid_loop_example_g00884_impl_ordinaryWords)] w) : STabs w := by
  rw [MakeChecks.laidMetH_plain _ _ _ (by kernel_rfl)] at h
  exact ⟨⟨words_of h, counts_of h.tail.tail.tail, kinds_of h.tail.tail.tail.tail, atts_of h.tail.tail.tail.tail.tail⟩, ⟨words_of h, divs_of h.tail, lines_of h.tail.tail⟩, ords_of h.tail.tail.tail.tail.tail.tail⟩
theorem otabsH {w : World} (h : laidMetH Tryd.prog [("loop.example/g00884/impl.tinctureWords", Rows.laid_loop_example_g00884_impl_tinctureWords), ("loop.example/g00884/impl.lineWords", Rows.laid_loop_example_g00884_impl_lineWords), ("loop.example/g00884/impl.ordinaryWords", Rows.laid_loop_example_g00884_impl_ordinaryWords)] w) : OTabs w := by
  rw [MakeChecks.laidMetH_plain _ _ _ (by kernel_rfl)] at h
  exact ⟨words_of h, lines_of h.tail, ords_of h.tail.tail⟩
end Go.Proofs.YtgoelkgdjnhklaaDoor
