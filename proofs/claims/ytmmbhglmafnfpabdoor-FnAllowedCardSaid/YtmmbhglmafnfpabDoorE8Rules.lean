/- Contracts: what lies below a layer of arms, and whether the layer breaks the rule; the model's test over a field. -/
import Derived.Test.YtmmbhglmafnfpabDoorKD
import Derived.Test.YtmmbhglmafnfpabDoorKV
import Derived.Test.YtmmbhglmafnfpabDoorKC
namespace Go.Proofs.YtmmbhglmafnfpabDoor
open Go.RowKit

/-- Whether Clash answers true. -/
def clA (a b : Int) : Bool := (clashA a b).1
theorem clA_zero (b : Int) : clA 0 b = false := by simp [clA, clashA]
theorem clA_right (a : Int) : clA a 0 = false := by simp [clA, clashA]
theorem clA_in {a b : Int} (h0 : 1 ≤ a ∧ a ≤ 9) (h1 : 1 ≤ b ∧ b ≤ 9) : clA a b = clashB a b := by
  unfold clA clashA
  rw [if_pos ⟨h0.1, h0.2, h1.1, h1.2⟩]
/-- The layer with the tincture t clashes with all of these. -/
def brkL (t : Int) (L : List Int) : Bool := L.all (clA t)
theorem ownsRow_low8 {w : World} {b b2 : Nat} {e : TypeId} {size : Nat} {v : Value} {n : Nat} {xs : List Value} (h : w.ownsRow b e size v n xs) (hb : b2 ≤ b) : w.ownsRow b2 e size v n xs := by
  obtain ⟨h1, h2⟩ := h
  refine ⟨h1, ?_⟩
  rcases h2 with h2 | ⟨g, cap, cur, hv, hg, r⟩
  · exact .inl h2
  · exact .inr ⟨g, cap, cur, hv, by omega, r⟩
theorem all_hit {X : List Int} {p : Int → Bool} {k : Nat} {y : Int} (hx : X[k]? = some y) (h : p y = false) : X.all p = false := by
  rw [List.all_eq_false]
  exact ⟨y, List.mem_of_getElem? hx, by simp [h]⟩
theorem all_step {X : List Int} {p : Int → Bool} {k : Nat} {y : Int} (hx : X[k]? = some y) (h : (X.take k).all p = true) (hy : p y = true) : (X.take (k + 1)).all p = true := by
  rw [take_succ' hx, List.all_append, h]; simp [hy]
set_option maxHeartbeats 2000000 in
theorem fieldTin8 (d l f s : Int) (w : World) (h : FOk d l f s) :
    Calls Tryd.prog 81 #[.agg #[.int .i64 d, .int .i64 l, .int .i64 f, .int .i64 s]] w (Ans w (tincL d f s) true) := by
  have c := fun W => validField_yes d l f s W h
  clear h
  by_cases h0 : d = 0
  · rw [tincL_0 h0]
    have e0 : (d == 0) = true := by rw [beq_iff_eq]; exact h0
    clear h0
    go_enter Tryd.func81, Tryd.ntmps81
    go_wp2_with fail
    refine (c _).mono ?_
    rintro e w1 ⟨rfl, hb⟩
    obtain ⟨hc, hf⟩ := bcell hb
    have B := Lib.hid (((Below.refl _ w).alloc (Nat.le_refl _) _).trans (hb.mono (by simp)))
    clear hb c
    go_wp2_with fail
    go_ret2
    exact ans_at true [f] (by simp) B.out rfl
  · rw [tincL_1 h0]
    have e0 : (d == 0) = false := by rw [beq_eq_false_iff_ne]; exact h0
    clear h0
    go_enter Tryd.func81, Tryd.ntmps81
    go_wp2_with fail
    refine (c _).mono ?_
    rintro e w1 ⟨rfl, hb⟩
    obtain ⟨hc, hf⟩ := bcell hb
    have B := Lib.hid (((Below.refl _ w).alloc (Nat.le_refl _) _).trans (hb.mono (by simp)))
    clear hb c
    go_wp2_with fail
    go_ret2
    exact ans_at true [f, s] (by simp) B.out rfl
theorem as_field (v : Value) (W : World) : (Instr.typeAssert (.iface 25 v) 20 25 true).run Tryd.prog W = .ok (.tuple #[v, .bool true]) W := by kernel_rfl
theorem as_band_field (v : Value) (W : World) : (Instr.typeAssert (.iface 110 v) 20 25 true).run Tryd.prog W = .ok (.tuple #[.agg #[.int .i64 0, .int .i64 0, .int .i64 0, .int .i64 0], .bool false]) W := by kernel_rfl
theorem as_band (v : Value) (W : World) : (Instr.typeAssert (.iface 110 v) 20 110 true).run Tryd.prog W = .ok (.tuple #[v, .bool true]) W := by kernel_rfl
set_option maxHeartbeats 2000000 in
theorem below_field (t d l f s : Int) (w : World) (h : FOk d l f s) :
    Calls Tryd.prog 44 #[.agg #[.int .i64 t, .iface 25 (.agg #[.int .i64 d, .int .i64 l, .int .i64 f, .int .i64 s])]] w (AnsL w (tincL d f s)) := by
  have a1 := as_field (.agg #[.int .i64 d, .int .i64 l, .int .i64 f, .int .i64 s])
  have CT := Lib.hid (fun W => fieldTin8 d l f s W h)
  clear h
  go_enter Tryd.func44, Tryd.ntmps44
  go_wp2_with fail
  refine (CT.out _).mono ?_
  rintro e w1 ⟨a, cap, rfl, ho, hb⟩
  have HO := Lib.hid (OwnI.low ho (B' := w.heap.size) (by simp; omega))
  have B := Lib.hid ((((Below.refl _ w).alloc (Nat.le_refl _) _).alloc (by simp) _).trans (hb.mono (by simp; omega)))
  clear ho hb
  go_wp2_with fail
  go_ret
  exact ⟨a, cap, rfl, HO.out, B.out⟩
set_option maxHeartbeats 2000000 in
theorem below_band (t x : Int) (w : World) :
    Calls Tryd.prog 44 #[.agg #[.int .i64 t, .iface 110 (.int .i64 x)]] w (AnsL w [x]) := by
  have a1 := as_band_field (.int .i64 x)
  have a2 := as_band (.int .i64 x)
  go_enter Tryd.func44, Tryd.ntmps44
  go_wp2_with fail
  go_ret
  exact ansL_at [x] (by simp) ((Below.refl _ w).alloc (Nat.le_refl _) _) (by simp)
set_option maxHeartbeats 2000000 in
theorem breaks_any (L : List Int) (t : Int) (I : Value) (w : World) (hL : L.length ≤ 1000)
    (hT : ∀ W, Below w.heap.size w W → Calls Tryd.prog 44 #[.agg #[.int .i64 t, I]] W (AnsL W L)) :
    Calls Tryd.prog 38 #[.agg #[.int .i64 t, I]] w fun e w' => e = .returned (.bool (brkL t L)) ∧ Below w.heap.size w w' := by
  obtain ⟨r, hr⟩ : ∃ r, brkL t L = r := ⟨_, rfl⟩
  rw [hr]
  have HR := Lib.hid hr
  have CT := Lib.hid hT
  have X0 := Lib.hid (Box.new w [.int .i64 t, I] 72)
  have B0 := Lib.hid ((Below.refl _ w).alloc (Nat.le_refl _) (.cells #[.int .i64 t, I] 72 (0, 0)))
  clear hr hT
  go_enter Tryd.func38, Tryd.ntmps38
  go_wp2_with fail
  refine (CT.out _ B0.out).mono ?_
  rintro e w1 ⟨a, cap, rfl, ho, hb⟩
  have X1 := Lib.hid (X0.out.below hb)
  have B1 := Lib.hid (B0.out.trans (hb.mono B0.out.size))
  have RD := Lib.hid ho.rd
  have c0 := X1.out.2 0 _ rfl
  clear ho hb X0 B0 CT
  go_wp2_with fail
  go_loopw [10] (fun i wr => ∃ k : Nat, k ≤ L.length ∧ i = .int .i64 k ∧ Hid ((L.take k).all (clA t) = true) ∧ w1 = wr) (fun i _ => L.length - (intOf i).toNat)
  case atStart => exact ⟨0, Nat.zero_le _, rfl, by show _ = _; simp, rfl⟩
  case round =>
    obtain ⟨k, hk, rfl, HT, rfl⟩ := hrel
    by_cases hlt : k < L.length
    · obtain ⟨b, o, rfl, _, hc⟩ := RD.out.2 (by omega)
      obtain ⟨y, hy, _⟩ := atI_of_lt RD.out.1 hlt
      have hcell := rdI_at hc hlt hy
      have HY := Lib.hid hy
      have CC := Lib.hid (fun W => clash_impl t y W)
      obtain ⟨q, hq⟩ : ∃ q, (clashA t y).2 = q := ⟨_, rfl⟩
      obtain ⟨p, hp⟩ : ∃ p, clA t y = p := ⟨_, rfl⟩
      have HP := Lib.hid hp
      have CC := Lib.hid (show ∀ W, Calls Tryd.prog 51 #[.int .i64 t, .int .i64 y] W fun e w' => e = .returned (.tuple #[.bool p, .bool q]) ∧ W = w' from by
        intro W
        rw [← hp, ← hq]
        exact CC.out W)
      clear hy hp hq hc
      cases p
      · have HF := Lib.hid (HR.out.symm.trans (all_hit HY.out HP.out))
        go_wp2_with fail
        refine (CC.out _).mono ?_
        rintro e w2 ⟨rfl, rfl⟩
        go_wp2_with fail
        go_ret
        exact ⟨ret_bool HF.out.symm, B1.out⟩
      · have HT2 := Lib.hid (all_step HY.out HT.out HP.out)
        go_wp2_with fail
        refine (CC.out _).mono ?_
        rintro e w2 ⟨rfl, rfl⟩
        go_wp2_with fail
        go_roundw
        case rel => exact ⟨k + 1, by omega, by go_num, HT2, trivial⟩
        case measure => simp [intOf]; omega
    · have HF := Lib.hid (show r = true by
        have h1 := HT.out
        rw [List.take_of_length_le (by omega)] at h1
        exact HR.out.symm.trans h1)
      go_wp2_with fail
      go_ret
      exact ⟨ret_bool HF.out.symm, B1.out⟩
/-- The model's test. -/
def onL (x : Int) (L : List Int) : Bool := L.all (clashB x)
set_option maxHeartbeats 2000000 in
theorem l8OnField_any (d l f s x : Int) (w : World) :
    Calls Tryd.prog 42 #[.agg #[.int .i64 d, .int .i64 l, .int .i64 f, .int .i64 s], .int .i64 x] w fun e w' => e = .returned (.bool (onL x (tincL d f s))) ∧ Below w.heap.size w w' := by
  have ct := Lib.hid (fun W => l3Tinctures_any d l f s W)
  have hl2 : (tincL d f s).length ≤ 2 := by unfold tincL; split <;> simp
  generalize tincL d f s = L at *
  obtain ⟨r, hr⟩ : ∃ r, onL x L = r := ⟨_, rfl⟩
  rw [hr]
  have HR := Lib.hid hr
  clear hr
  go_enter Tryd.func42, Tryd.ntmps42
  go_wp2_with fail
  refine (ct.out _).mono ?_
  rintro e w1 ⟨a, cap, rfl, ho, hb⟩
  have B1 := Lib.hid (((Below.refl _ w).alloc (Nat.le_refl _) _).trans (hb.mono (by simp)))
  have RD := Lib.hid ho.rd
  clear ho hb ct
  go_wp2_with fail
  go_loopw [6] (fun i wr => ∃ k : Nat, k ≤ L.length ∧ i = .int .i64 k ∧ Hid ((L.take k).all (clashB x) = true) ∧ w1 = wr) (fun i _ => L.length - (intOf i).toNat)
  case atStart => exact ⟨0, Nat.zero_le _, rfl, by show _ = _; simp, rfl⟩
  case round =>
    obtain ⟨k, hk, rfl, HT, rfl⟩ := hrel
    by_cases hlt : k < L.length
    · obtain ⟨b, o, rfl, _, hc⟩ := RD.out.2 (by omega)
      obtain ⟨y, hy, _⟩ := atI_of_lt RD.out.1 hlt
      have hcell := rdI_at hc hlt hy
      have HY := Lib.hid hy
      obtain ⟨p, hp⟩ : ∃ p, clashB x y = p := ⟨_, rfl⟩
      have HP := Lib.hid hp
      have CC := Lib.hid (show ∀ W, Calls Tryd.prog 43 #[.int .i64 x, .int .i64 y] W fun e w' => e = .returned (.bool p) ∧ W = w' from by
        intro W
        rw [← hp]
        exact l2Clash_any x y W)
      clear hy hp hc
      cases p
      · have HF := Lib.hid (HR.out.symm.trans (all_hit HY.out HP.out))
        go_wp2_with fail
        refine (CC.out _).mono ?_
        rintro e w2 ⟨rfl, rfl⟩
        go_wp2_with fail
        go_ret
        exact ⟨ret_bool HF.out.symm, B1.out⟩
      · have HT2 := Lib.hid (all_step HY.out HT.out HP.out)
        go_wp2_with fail
        refine (CC.out _).mono ?_
        rintro e w2 ⟨rfl, rfl⟩
        go_wp2_with fail
        go_roundw
        case rel => exact ⟨k + 1, by omega, by go_num, HT2, trivial⟩
        case measure => simp [intOf]; omega
    · have HF := Lib.hid (show r = true by
        have h1 := HT.out
        rw [List.take_of_length_le (by omega)] at h1
        exact HR.out.symm.trans h1)
      go_wp2_with fail
      go_ret
      exact ⟨ret_bool HF.out.symm, B1.out⟩
end Go.Proofs.YtmmbhglmafnfpabDoor
