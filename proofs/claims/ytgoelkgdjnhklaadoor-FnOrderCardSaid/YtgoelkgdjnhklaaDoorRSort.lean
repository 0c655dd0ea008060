/- Contract: the program's SortArms. -/
import Derived.Test.YtgoelkgdjnhklaaDoorSSort
import Derived.Test.YtgoelkgdjnhklaaDoorRStable
import Derived.Test.YtgoelkgdjnhklaaDoorKS
import Derived.Test.YtgoelkgdjnhklaaDoorK7
import Derived.Maps.AppendAt
import Derived.Deep.DeepCutAuto
namespace Go.Proofs.YtgoelkgdjnhklaaDoor
open Go.RowKit Go.Sort

def nums (i : Nat) : List Int := (List.range i).map (fun k : Nat => (k : Int))
theorem nums_len (i : Nat) : (nums i).length = i := by simp [nums]
theorem nums_succ (i : Nat) : (nums (i + 1)).map (Value.int .i64) = (nums i).map (Value.int .i64) ++ [.int .i64 (i : Int)] := by simp [nums, List.range_succ]
def texts (X : List Arm) (i : Nat) : List Value := (X.take i).map (fun A => Value.string A.text)
theorem texts_succ {X : List Arm} {i : Nat} {A : Arm} (h : X[i]? = some A) : texts X (i + 1) = texts X i ++ [.string A.text] := by
  unfold texts
  rw [List.take_add_one, h]; simp
/-- The two rows behind i rounds: the places, and the texts (their slice lies in a box). -/
def RK (w : World) (X : List Arm) (i : Nat) (v : Value) (W : World) : Prop :=
  (∃ tv, BoxF W w.heap.size [tv] 86 ∧ W.ownsRow (w.heap.size + 1) 9 1 tv i (texts X i)) ∧ W.ownsRow (w.heap.size + 1) 3 1 v i ((nums i).map (Value.int .i64)) ∧ Below w.heap.size w W
theorem RK.below {w W W' : World} {X : List Arm} {i : Nat} {v : Value} (h : RK w X i v W) (hb : Below W.heap.size W W') : RK w X i v W' := by
  obtain ⟨⟨tv, h1, h2⟩, h3, h4⟩ := h
  have g : W.grownBy W' none := ⟨hb.os, hb.tape, hb.output, hb.size, fun i hi _ => hb.block i hi⟩
  exact ⟨⟨tv, h1.below hb, h2.kept g (by cases h : tv.ownBlock <;> simp)⟩, h3.kept g (by cases h : v.ownBlock <;> simp), h4.trans (hb.mono h4.size)⟩
theorem ownsRow_downR {w : World} {b b2 : Nat} {e : TypeId} {size : Nat} {v : Value} {n : Nat} {xs : List Value} (h : w.ownsRow b e size v n xs) (hb : b2 ≤ b) : w.ownsRow b2 e size v n xs := by
  obtain ⟨h1, h2⟩ := h
  refine ⟨h1, ?_⟩
  rcases h2 with h2 | ⟨g, cap, cur, hv, hg, r⟩
  · exact .inl h2
  · exact .inr ⟨g, cap, cur, hv, by omega, r⟩
theorem rows_apart {w : World} {B B' : Nat} {e e' : TypeId} {size size' : Nat} {v v' : Value} {n n' : Nat} {xs xs' : List Value} (h : w.ownsRow B e size v n xs) (h' : w.ownsRow B' e' size' v' n' xs') (hne : e ≠ e') : v.ownBlock = none ∨ v.ownBlock ≠ v'.ownBlock := by
  rcases h.2 with ⟨rfl, _⟩ | ⟨g, cap, cur, rfl, _, hg, _⟩
  · exact .inl rfl
  · rcases h'.2 with ⟨rfl, _⟩ | ⟨g', cap', cur', rfl, _, hg', _⟩
    · exact .inr (by simp [Value.ownBlock])
    · refine .inr fun e0 => ?_
      simp only [Value.ownBlock, Option.some.injEq] at e0
      subst e0
      rw [hg] at hg'
      exact hne (by injection hg' with h1; injection h1)
theorem rkFar {w w' : World} {B b : Nat} {e : TypeId} {size : Nat} {v : Value} {n : Nat} {xs : List Value} (h : w.ownsRow B e size v n xs) (hg : w.grownBy w' (some b)) (hb : b < B) : w'.ownsRow B e size v n xs :=
  World.ownsRow.kept h hg (by
    rcases hv : v.ownBlock with _ | q
    · exact .inl rfl
    · have := (World.ownsRow.lt h q hv).1
      exact .inr (fun e => by simp at e; omega))
theorem row_form {w : World} {B : Nat} {e : TypeId} {size : Nat} {v : Value} {n : Nat} {xs : List Value} (h : w.ownsRow B e size v n xs) (hn : 0 < n) : ∃ g cap, v = .slice (some ⟨g, 0, none⟩) n cap ∧ B ≤ g ∧ g < w.heap.size := by
  have hl := World.ownsRow.lt h
  rcases h.2 with ⟨_, h0⟩ | ⟨g, cap, cur, rfl, hB, _⟩
  · omega
  · exact ⟨g, cap, rfl, hB, (hl g rfl).2⟩
theorem row_slice {w : World} {B : Nat} {e : TypeId} {size : Nat} {v : Value} {n : Nat} {xs : List Value} (h : w.ownsRow B e size v n xs) : ∃ a cap, v = .slice a n cap := by
  rcases h.2 with ⟨rfl, rfl⟩ | ⟨g, cap, cur, rfl, _⟩
  · exact ⟨_, _, rfl⟩
  · exact ⟨_, _, rfl⟩
/-- Behind the sort the row holds the sorted numbers; all else is as it was. -/
theorem sorted_own {w : World} {m g cap B q : Nat} {xs : List Value} (D : Array (Fin (m + 1))) (hD : D.size = m + 1) (h : w.ownsRow B 3 1 (.slice (some ⟨g, 0, none⟩) (m + 1) cap) (m + 1) xs) :
    ((Sort.putRow (encF (n := m + 1)) w g 0 D).drewN q).ownsRow B 3 1 (.slice (some ⟨g, 0, none⟩) (m + 1) cap) (m + 1) (D.toList.map encF) ∧ w.grownBy ((Sort.putRow (encF (n := m + 1)) w g 0 D).drewN q) (some g) := by
  rcases h.2 with ⟨h0, _⟩ | ⟨g', cap', cur, hv, hB, hg, hn, hm, hs, _⟩
  · cases h0
  · simp only [Value.slice.injEq, Option.some.injEq, Addr.mk.injEq, and_true, true_and] at hv
    obtain ⟨rfl, rfl⟩ := hv
    refine ⟨⟨by simp [hD], .inr ⟨g, cap, Sort.putCells encF 0 D cur, rfl, hB, ?_, hn, hm, by simp [Sort.putCells, hs], ?_⟩⟩, ⟨rfl, rfl, rfl, by simp [World.drewN], fun k _ hne => ?_⟩⟩
    · show (Sort.putRow encF w g 0 D).heap[g]? = _
      simp [Sort.putRow, Sort.mapBlock, Array.getElem?_modify, hg, Sort.onCells]
    · rw [Nat.mul_one]
      apply List.ext_getElem?
      intro j
      by_cases hj : j < m + 1
      · rw [List.getElem?_take_of_lt hj, Array.getElem?_toList]
        simp [Sort.putCells, hj, hD, show j < cur.size by omega]
      · rw [List.getElem?_take_eq_none (by omega), List.getElem?_eq_none (by simp [hD]; omega)]
    · have hk : g ≠ k := fun e => hne (by rw [e])
      show (Sort.putRow encF w g 0 D).heap[k]? = _
      simp [Sort.putRow, Sort.mapBlock, Array.getElem?_modify, hk]
set_option maxRecDepth 100000 in
set_option maxHeartbeats 8000000 in
theorem sortStable_of (blk cap n g : Nat) (cb : Array Value) (w : World) (Q : World → Prop)
    (h : Calls Tryd.prog 123 #[.slice (some ⟨blk, 0, none⟩) n cap, .int .i64 (n : Int), .func (.func g) #[] cb] w fun e w' => e = .returned (.tuple #[]) ∧ Q w') :
    Calls Tryd.prog 67 #[.slice (some ⟨blk, 0, none⟩) n cap, .func (.func g) #[] cb] w fun e w' => e = .returned (.tuple #[]) ∧ Q w' := by
  have H := Lib.hid h
  clear h
  go_enter Tryd.func67, Tryd.ntmps67
  go_wp2_with fail
  refine H.out.mono ?_
  rintro e w1 ⟨rfl, hq⟩
  have HQ := Lib.hid hq
  clear hq
  go_wp2_with fail
  refine bodyPost_end (results_none rfl _ _ _) rfl ?_
  exact ⟨by simp, HQ.out⟩
/-- The library's stable sort of the places 0 to m by the texts there. -/
theorem sortPlaces (T : Nat → ByteArray) (m tb tr c2 blk cap : Nat) (W : World) (h20 : m + 1 ≤ 20) (hb : W.cell? ⟨tb, 0, none⟩ = some (.slice (some ⟨tr, 0, none⟩) (m + 1 : Nat) c2)) (hT : ∀ p, p < m + 1 → W.cell? ⟨tr, p, none⟩ = some (.string (T p))) (hs1 : tb < W.heap.size) (hs2 : tr < W.heap.size) (n1 : tb ≠ blk) (n2 : tr ≠ blk)
    (hH : Sort.Holds (encF (n := m + 1)) W blk 0 (List.finRange (m + 1)).toArray) :
    ∃ D : Array (Fin (m + 1)), D.size = m + 1 ∧ D.toList.map Fin.val = sortN (fun x y => lessT (T x) (T y)) (m + 1) (m + 1) ∧
    Calls Tryd.prog 67 #[.slice (some ⟨blk, 0, none⟩) (m + 1 : Nat) cap, .func (.func 68) #[] #[.pointer (some ⟨tb, 0, none⟩)]] W fun e w' => e = .returned (.tuple #[]) ∧ ∃ q, w' = (Sort.putRow (encF (n := m + 1)) W blk 0 D).drewN q := by
  obtain ⟨D, hD⟩ : ∃ D, Sort.insertionSort (ltOf (fun x y : Fin (m + 1) => Lib.compareBytes (T x.val).data.toList (T y.val).data.toList)) (List.finRange (m + 1)).toArray 0 (m + 1) = D := ⟨_, rfl⟩
  have hS := sortedF T m
  rw [hD] at hS
  have hsz : D.size = m + 1 := by
    have := congrArg List.length hS
    rw [List.length_map, sortN_len] at this
    simpa using this
  refine ⟨D, hsz, hS, sortStable_of blk cap (m + 1) 68 _ W _ ?_⟩
  have eg : ∀ args w, (callFunc 68 args).run Tryd.prog w = .ok (.enter 68 args) w := fun args w => by kernel_rfl
  have hc := cmpReadsT (n := m + 1) T tb tr c2 blk W hb hT hs1 hs2 n1 n2
  rcases Nat.lt_or_ge (m + 1) 20 with h | h
  · have r := stable_lt (encF (n := m + 1)) encF_one _ 68 _ blk cap (m + 1) (List.finRange (m + 1)).toArray W (by simp) h eg hc hH
    rw [hD] at r
    exact r
  · obtain rfl : m = 19 := by omega
    have r := stable_20 (encF (n := 19 + 1)) encF_one _ 68 _ blk cap (List.finRange (19 + 1)).toArray W (by simp) eg hc hH
    rw [hD] at r
    refine (r (fun q => ⟨?_, ?_⟩) hsz).mono ?_
    · exact cmpReadsT (n := 19 + 1) T tb tr c2 blk _ ((Sort.cell?_putRow_other _ _ _ _ _ _ (Or.inl n1)).trans hb) (fun p hp => (Sort.cell?_putRow_other _ _ _ _ _ _ (Or.inl n2)).trans (hT p hp)) (by simpa [World.drewN] using hs1) (by simpa [World.drewN] using hs2) n1 n2
    · exact Sort.holds_putRow _ W blk 0 _ D hH (by simpa using hsz)
    · rintro e w' ⟨rfl, q, q', rfl⟩
      refine ⟨rfl, q + q', ?_⟩
      have e1 := Sort.putRow_putRow (encF (n := 19 + 1)) W blk 0 D D rfl
      show ((Sort.putRow encF (Sort.putRow encF W blk 0 D) blk 0 D).drewN q).drewN q' = _
      rw [e1, World.drewN_drewN]
set_option linter.unusedSimpArgs false in
set_option maxRecDepth 100000 in
set_option maxHeartbeats 8000000 in
theorem sortR_big (n : Nat) (a : Option Addr) (c : Nat) (w : World) (hn : 20 < n) :
    Calls Tryd.prog 16 #[.slice a n c] w (Ans w [] false) := by
  have e1 : decide ((20 : Int) < (n : Int)) = true := by simp; omega
  go_enter Tryd.func16, Tryd.ntmps16
  go_wp2_with fail
  go_ret2
  exact ⟨none, 0, rfl, World.ownsRow_nil _ _ _ _, Below.refl _ _⟩
set_option linter.unusedSimpArgs false in
set_option maxRecDepth 100000 in
set_option maxHeartbeats 8000000 in
theorem sortR_loop (X : List Arm) (n : Nat) (a : Option Addr) (c : Nat) (w : World) (h : RdA w a n X) (h1 : 0 < n) (h2 : n ≤ 20) (r : Bool) (hr : X.all Arm.ok = r) (hT : STabs w) :
    Calls Tryd.prog 16 #[.slice a n c] w (Ans w (if r = true then sortL X n n else []) r) := by
  obtain ⟨b, o, rfl, hbw, hc⟩ := h.2 h1
  have HL := Lib.hid h.1
  have HC := Lib.hid hc
  have HR := Lib.hid hr
  have HTB := Lib.hid hT
  have e1 : decide ((20 : Int) < (n : Int)) = false := by simp; omega
  obtain ⟨LL, hLL_⟩ : ∃ L, (if r = true then sortL X n n else []) = L := ⟨_, rfl⟩
  rw [hLL_]
  have HLL := Lib.hid hLL_
  obtain ⟨i0, hi, hz0, hz1, hz2⟩ := infoN
  obtain ⟨i1, hj, hy0, hy1, hy2⟩ := info_parts infoSt
  clear h hc hr hLL_ hT
  go_enter Tryd.func16, Tryd.ntmps16
  go_wp2_with fail
  go_loopw [4, 15] (fun v iv wr => ∃ i : Nat, i ≤ n ∧ iv = .int .i64 (i : Int) ∧ Hid (RK w X i v wr) ∧ Hid ((X.take i).all Arm.ok = true)) (fun _ iv _ => n - (Lib.intOf iv).toNat)
  case atStart => exact ⟨0, by omega, rfl, Lib.hid ⟨⟨_, BoxF.new w [.slice none 0 0] 86, World.ownsRow_nil _ _ _ _⟩, World.ownsRow_nil _ _ _ _, (Below.refl _ _).alloc (Nat.le_refl _) _⟩, Lib.hid (by simp)⟩
  case round =>
    obtain ⟨i, hin, rfl, HK, HT⟩ := hrel
    by_cases hlt : i < n
    · obtain ⟨A, hA, hm⟩ := atA_of_lt HL.out hlt
      have hAq := hA
      have rA := rowA (q := i) HK.out.2.2 hbw (HC.out i A hA)
      obtain ⟨p, hp⟩ : ∃ p, A.ok = p := ⟨_, rfl⟩
      have CP := Lib.hid (fun W (hb : Below w.heap.size w W) => armsText_impl A.d A.l A.f A.s A.o A.n A.x A.c A.k A.a A.t A.c' A.k' A.a' A.t' W p hp (HTB.out.below hb))
      obtain ⟨TX, hTX⟩ : ∃ T, armsN A.d A.l A.f A.s A.o A.n A.x A.c A.k A.a A.t A.c' A.k' A.a' A.t' = T := ⟨_, rfl⟩
      have HTX := Lib.hid (show A.text = TX from hTX)
      rw [hTX] at CP
      clear hTX
      have HP := Lib.hid hp
      have sz := HK.out.2.2.size
      have bl := (Below.refl wr.heap.size wr).alloc (Nat.le_refl _) (.cells #[.int .i64 A.d, .int .i64 A.l, .int .i64 A.f, .int .i64 A.s, .int .i64 A.o, .int .i64 A.n, .int .i64 A.x, .int .i64 A.c, .int .i64 A.k, .int .i64 A.a, .int .i64 A.t, .int .i64 A.c', .int .i64 A.k', .int .i64 A.a', .int .i64 A.t'] 37 (0, 0))
      clear hp hm
      go_wp2_with (with_reducible refine isList ?_; refine ldO 18 b (o + i * 15) [.int .i64 A.d, .int .i64 A.l, .int .i64 A.f, .int .i64 A.s, .int .i64 A.o, .int .i64 A.n, .int .i64 A.x, .int .i64 A.c, .int .i64 A.k, .int .i64 A.a, .int .i64 A.t, .int .i64 A.c', .int .i64 A.k', .int .i64 A.a', .int .i64 A.t'] rfl rfl rfl rfl ?_ ?_; exact rA)
      refine (CP.out _ (HK.out.2.2.alloc sz _)).mono ?_
      rintro e w1 ⟨rfl, g1⟩
      have HK1 := Lib.hid ((HK.out.below bl).below g1)
      clear g1 bl rA CP HK
      cases p
      · obtain rfl : r = false := HR.out.symm.trans (okA_bad hA HP.out)
        obtain rfl : LL = [] := HLL.out.symm.trans (if_neg (by decide))
        go_wp2_with fail
        go_ret2
        exact ⟨none, 0, rfl, World.ownsRow_nil _ _ _ _, HK1.out.2.2⟩
      · have HT2 : Hid ((X.take (i + 1)).all Arm.ok = true) := Lib.hid (okA_succ hA HT.out HP.out)
        obtain ⟨⟨tv, hbox, htx⟩, hnum, hbel⟩ := HK1.out
        have HX : Hid (texts X (i + 1) = texts X i ++ [.string TX]) := Lib.hid (by rw [← HTX.out]; exact texts_succ hAq)
        have hbs := hbel.size
        have hbl := hbox.lt
        clear hA hAq HP HK1
        go_upto_region 12 with (at_builtin; refine wpList_append_own_at _ rfl _ _ 26 rfl (w.heap.size + 1) 3 i0 (.int .i64 0) 1 8 Tryd.underlying26 hi hz0 hz1 hz2 rfl (by decide) _ _ _ rfl (World.ownsRow.alloc hnum _) ⟨w1.heap.size, 0, none⟩ 1 1 [.int .i64 (i : Int)] rfl rfl (cell_one_new _ _ _) (fun x hx => by simp at hx; subst hx; rfl) (by unfold maxLen; omega) (by omega) (by simp; omega) ?_; intro v3 w3 hown3 hgrow3 hnil3 hat3)
        have hbox3 := (hbox.alloc (.cells #[.int .i64 (i : Int)] 3 (0, 0))).kept hgrow3 (fun e => by have := (World.ownsRow.lt hnum _ e.symm).1; omega)
        have htx3 := World.ownsRow.kept (World.ownsRow.alloc htx (.cells #[.int .i64 (i : Int)] 3 (0, 0))) hgrow3 (rows_apart htx hnum (by decide))
        have hbel3 := (hbel.alloc hbs (.cells #[.int .i64 (i : Int)] 3 (0, 0))).grown hgrow3 (by simp; omega) (fun q hq => by have := (World.ownsRow.lt hnum q hq).1; omega)
        have hbs3 := hbel3.size
        have hbl3 := hbox3.lt
        have c3 := hbox3.at 0
        simp only [List.getElem?_cons_zero] at c3
        have HS := Lib.hid hbox3
        have HT3 := Lib.hid htx3
        have HN3 := Lib.hid hown3
        have HB3 := Lib.hid hbel3
        clear hbox3 htx3 hown3 hbel3 hgrow3 hnil3 hat3 hbox htx hnum hbel hbs hbl
        go_wp2_with (at_builtin; refine wpList_append_own_at _ rfl _ _ 86 rfl (w.heap.size + 1) 9 i1 (.string ByteArray.empty) 1 16 Tryd.underlying86 hj hy0 hy1 hy2 rfl (by decide) _ _ _ rfl (World.ownsRow.alloc HT3.out _) ⟨w3.heap.size, 0, none⟩ 1 1 [.string TX] rfl rfl (cell_one_new _ _ _) (fun x hx => by simp at hx; subst hx; rfl) (by unfold maxLen; omega) (by omega) (by simp; omega) ?_; intro v5 w5 hown5 hgrow5 hnil5 hat5; obtain ⟨a5, c5, rfl⟩ := row_slice hown5; have hbox5 := (HS.out.alloc (.cells #[.string TX] 9 (0, 0))).kept hgrow5 (fun e => by have := (World.ownsRow.lt HT3.out _ e.symm).1; omega); have c5_ := hbox5.at 0; have f5_ := hbox5.free 0; simp only [List.getElem?_cons_zero] at c5_; have hn5 := Lib.hid (World.ownsRow.kept (World.ownsRow.alloc HN3.out (.cells #[.string TX] 9 (0, 0))) hgrow5 (rows_apart HN3.out HT3.out (by decide))); have hbel5 := Lib.hid ((HB3.out.alloc hbs3 (.cells #[.string TX] 9 (0, 0))).grown hgrow5 (by simp; omega) (fun q hq => by have := (World.ownsRow.lt HT3.out q hq).1; omega)); have HO5 := Lib.hid hown5; have HX5 := Lib.hid hbox5; clear hgrow5 hown5 hbox5)
        have hg6 := grownBy_set w5 w.heap.size 0 (.slice a5 (i + 1 : Nat) c5)
        have hbox6 := HX5.out.set 0 (.slice a5 (i + 1 : Nat) c5)
        simp only [List.set_cons_zero] at hbox6
        have HK2 : Hid (RK w X (i + 1) v3 (w5.setCell ⟨w.heap.size, 0, none⟩ (.slice a5 (i + 1 : Nat) c5))) := Lib.hid ⟨⟨_, hbox6, by rw [HX.out]; exact rkFar HO5.out hg6 (by omega)⟩, by rw [nums_succ]; exact rkFar hn5.out hg6 (by omega), hbel5.out.grown hg6 hbel5.out.size (fun q hq => by cases hq; omega)⟩
        clear hn5 hbel5 hg6 hbox6 HX5 HO5 c5_ f5_ hnil5 hat5 HS HT3 HN3 HB3 c3
        go_roundw
        case rel => exact ⟨i + 1, by omega, by go_num, HK2, HT2⟩
        case measure => simp [Lib.intOf]; omega
    · obtain rfl : i = n := by omega
      obtain rfl : r = true := by
        have h1 := HT.out
        rw [List.take_of_length_le (by have := HL.out; omega), HR.out] at h1
        exact h1
      obtain ⟨m, rfl⟩ : ∃ m, i = m + 1 := ⟨i - 1, by omega⟩
      obtain ⟨⟨tv, hbox, htx⟩, hnum, hbel⟩ := HK.out
      obtain ⟨tr, c2, rfl, htr, htl⟩ := row_form htx (by omega)
      obtain ⟨g, cap, rfl, hgB, hgl⟩ := row_form hnum (by omega)
      have hne : tr ≠ g := fun e => by
        rcases rows_apart htx hnum (by decide) with h | h
        · simp [Value.ownBlock] at h
        · exact h (by rw [e]; rfl)
      obtain ⟨D, hD, hS, SF⟩ := sortPlaces (fun p => (X.getD p default).text) m w.heap.size tr c2 g cap wr h2 (hbox.at 0) (fun p hp => by
        rw [World.ownsRow.cellAt htx p (by omega)]
        have hpx : p < X.length := by have := HL.out; omega
        unfold texts
        rw [List.take_of_length_le (by have := HL.out; omega), List.getElem?_map, List.getElem?_eq_getElem hpx]
        simp [List.getD, List.getElem?_eq_getElem hpx]) hbox.lt htl (by omega) hne (fun j hj => by
          have hj' : j < m + 1 := by simpa using hj
          refine ⟨?_, ?_⟩
          · rw [Nat.zero_add, World.ownsRow.cellAt hnum j (by omega)]
            simp [nums, hj', encF]
          · rw [Nat.zero_add]; exact World.ownsRow.frozenAt hnum j)
      have hLL : LL = sortL X (m + 1) (m + 1) := HLL.out.symm.trans (if_pos rfl)
      have hlen : LL.length = m + 1 := by rw [hLL, sortL_len]
      have hDL : D.toList.map encF = LL.map (Value.int .i64) := by
        rw [hLL]
        unfold sortL
        rw [List.map_map, show ltA X = (fun x y => lessT (X.getD x default).text (X.getD y default).text) from rfl, ← hS, List.map_map]
        rfl
      have SO := Lib.hid (fun q => sorted_own (q := q) D hD hnum)
      have SF := Lib.hid SF
      have HB := Lib.hid hbel
      have HD := Lib.hid (And.intro hDL hlen)
      clear hbox htx hnum hbel hS hD hDL hLL
      go_wp2_with fail
      refine SF.out.mono ?_
      rintro e w5 ⟨rfl, q, rfl⟩
      have S2 := Lib.hid (SO.out q)
      clear SO SF
      generalize (Sort.putRow encF wr g 0 D).drewN q = W5 at *
      go_wp2_with fail
      go_ret2
      exact ⟨some ⟨g, 0, none⟩, cap, by rw [HD.out.2]; rfl, by unfold OwnI; rw [HD.out.2, ← HD.out.1]; exact ownsRow_downR S2.out.1 (by omega), HB.out.grown S2.out.2 HB.out.size (fun q hq => by cases hq; omega)⟩
set_option maxRecDepth 100000 in
set_option maxHeartbeats 8000000 in
theorem ins_zero (g : Nat) (cb : Array Value) (w : World) :
    Calls Tryd.prog 153 #[.slice none 0 0, .int .i64 0, .int .i64 0, .func (.func g) #[] cb] w fun e w' => e = .returned (.tuple #[]) ∧ w = w' := by
  go_enter Tryd.func153, Tryd.ntmps153
  go_wp2_with fail
  refine wp_loop_rounds 1 ?_
  rw [rounds_succ]
  go_wp2_with fail
  refine bodyPost_end (results_none rfl _ _ _) rfl ?_
  exact ⟨by simp, rfl⟩
set_option maxRecDepth 100000 in
set_option maxHeartbeats 8000000 in
theorem stable_zero (g : Nat) (cb : Array Value) (w : World) :
    Calls Tryd.prog 123 #[.slice none 0 0, .int .i64 0, .func (.func g) #[] cb] w fun e w' => e = .returned (.tuple #[]) ∧ w = w' := by
  go_enter Tryd.func123, Tryd.ntmps123
  go_wp2_with fail
  refine wp_loop_rounds 1 ?_
  rw [rounds_succ]
  go_wp2_with fail
  refine (ins_zero _ _ _).mono ?_
  rintro e w1 ⟨rfl, rfl⟩
  go_wp2_with fail
  refine wp_loop_rounds 1 ?_
  rw [rounds_succ]
  go_wp2_with fail
  refine bodyPost_end (results_none rfl _ _ _) rfl ?_
  exact ⟨by simp, rfl⟩
set_option maxRecDepth 100000 in
set_option maxHeartbeats 8000000 in
theorem sortFn_zero (g : Nat) (cb : Array Value) (w : World) :
    Calls Tryd.prog 67 #[.slice none 0 0, .func (.func g) #[] cb] w fun e w' => e = .returned (.tuple #[]) ∧ w = w' := by
  go_enter Tryd.func67, Tryd.ntmps67
  go_wp2_with fail
  refine (stable_zero _ _ _).mono ?_
  rintro e w1 ⟨rfl, rfl⟩
  go_wp2_with fail
  refine bodyPost_end (results_none rfl _ _ _) rfl ?_
  exact ⟨by simp, rfl⟩
set_option maxRecDepth 100000 in
set_option maxHeartbeats 8000000 in
theorem sortR_none (c : Nat) (a : Option Addr) (w : World) :
    Calls Tryd.prog 16 #[.slice a 0 c] w (Ans w [] true) := by
  go_enter Tryd.func16, Tryd.ntmps16
  go_wp2_with fail
  refine wp_loop_rounds 1 ?_
  rw [rounds_succ]
  go_wp2_with fail
  refine (sortFn_zero _ _ _).mono ?_
  rintro e w1 ⟨rfl, rfl⟩
  go_wp2_with fail
  go_ret2
  exact ⟨none, 0, rfl, World.ownsRow_nil _ _ _ _, (Below.refl _ _).alloc (Nat.le_refl _) _⟩
end Go.Proofs.YtgoelkgdjnhklaaDoor
