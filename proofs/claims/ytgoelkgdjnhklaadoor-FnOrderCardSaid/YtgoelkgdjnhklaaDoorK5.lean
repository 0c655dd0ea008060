/- Several small texts in one: AText. -/
import Derived.Test.YtgoelkgdjnhklaaDoorKP
import Derived.Test.YtgoelkgdjnhklaaDoorKR
import Derived.Test.YtgoelkgdjnhklaaDoorKT
import Derived.Test.YtgoelkgdjnhklaaDoorKE
import Derived.Deep.RegionWith
import Derived.Deep.RegionHeld3
namespace Go.Proofs.YtgoelkgdjnhklaaDoor
open Go.RowKit

/-- What connects the group around with the text before it. -/
def linkN (o : Int) : ByteArray := if o = 0 then ⟨#[44, 32]⟩ else if o = 7 then ⟨#[32, 97, 98, 111, 118, 101, 32]⟩ else ⟨#[32, 98, 101, 116, 119, 101, 101, 110, 32]⟩
theorem linkN_size (o : Int) : (linkN o).size ≤ 9 := by
  unfold linkN
  split
  · decide
  · split <;> decide
def fN (d l f s : Int) : ByteArray := textN d.toNat l.toNat (f - 1).toNat (s - 1).toNat
def oN (o n x : Int) : ByteArray := otextN o.toNat n.toNat (x - 1).toNat
def gN (c k a t : Int) : ByteArray := gtextN c.toNat k.toNat a.toNat (t - 1).toNat
/-- The text of arms. -/
def armsN (d l f s o n x c k a t c' k' a' t' : Int) : ByteArray :=
  let s0 := fN d l f s
  let s1 := if 0 < o then s0 ++ ⟨#[44, 32]⟩ ++ oN o n x else s0
  let s2 := if gNoB c k a t = true then s1 else s1 ++ ⟨#[32, 99, 104, 97, 114, 103, 101, 100, 32, 119, 105, 116, 104, 32]⟩ ++ gN c k a t
  if gNoB c' k' a' t' = true then s2 else s2 ++ linkN o ++ gN c' k' a' t'
theorem fN_size {d l f s : Int} (h : FOk d l f s) : (fN d l f s).size ≤ 40 := by
  have h1 := headN_size (d := d.toNat) (l := l.toNat) (by have := h.1; omega) (by have := h.2.1; omega)
  have h2 := wordN_size (i := (f - 1).toNat) (by have := h.2.2.1; omega)
  have h3 := wordN_size (i := (s - 1).toNat) (by rcases h.2.2.2 with h | h <;> omega)
  have e2 : (ByteArray.mk #[32]).size = 1 := rfl
  have e3 : (ByteArray.mk #[32, 97, 110, 100, 32]).size = 5 := rfl
  unfold fN textN
  split
  · omega
  · simp only [ByteArray.size_append]; omega
theorem oN_size {o n x : Int} (h : 1 ≤ o ∧ o ≤ 7) (hn : 0 ≤ n ∧ n ≤ 4) (hx : 1 ≤ x ∧ x ≤ 9) : (oN o n x).size ≤ 26 := otextN_size (by omega) (by omega) (by omega)
theorem gN_size {c k a t : Int} (h : gOkB c k a t = true) : (gN c k a t).size ≤ 29 := by
  have g := gOk_out h
  have h1 := bareN_size (c := c.toNat) (k := k.toNat) (a := a.toNat) (by omega) (by omega) (by omega) (by omega) (by omega) (by omega)
  have h2 := wordN_size (i := (t - 1).toNat) (by omega)
  have e2 : (ByteArray.mk #[32]).size = 1 := rfl
  unfold gN gtextN
  simp only [ByteArray.size_append]; omega
/-- What stays over a drawn region: the box of the arms, and all that was there. -/
def AK (w : World) (L : List Value) (W : World) : Prop := BoxF W w.heap.size L 37 ∧ Below w.heap.size w W
theorem AK.below {w W W' : World} {L : List Value} (h : AK w L W) (hb : Below W.heap.size W W') : AK w L W' := ⟨h.1.below hb, h.2.trans (hb.mono h.2.size)⟩
theorem AK.drew {w W : World} {L : List Value} (h : AK w L W) : AK w L W.drew := h.below (Below.refl _ _).drew
theorem AK.new (w : World) (L : List Value) : AK w L (w.alloc (.cells L.toArray 37 (0, 0))) := ⟨BoxF.new w L _, (Below.refl _ w).alloc (Nat.le_refl _) _⟩
theorem l6Ordinary_int {o n : Int} (ho : 1 ≤ o ∧ o ≤ 7) (hn : 0 ≤ n ∧ n ≤ 4) (w : World) :
    Calls Tryd.prog 84 #[.int .i64 o, .int .i64 n] w fun e w' => e = .returned (.string (oheadN o.toNat n.toNat)) ∧ Below w.heap.size w w' := by
  have := l6Ordinary_any o.toNat n.toNat w (by omega) (by omega)
  rwa [show ((o.toNat : Nat) : Int) = o by omega, show ((n.toNat : Nat) : Int) = n by omega] at this
theorem l2Word_int {x : Int} (h : 1 ≤ x ∧ x ≤ 9) (w : World) :
    Calls Tryd.prog 85 #[.int .i64 x] w fun e w' => e = .returned (.string (wordN (x - 1).toNat)) ∧ Below w.heap.size w w' := by
  have := l2Word_any (x - 1).toNat w (by omega)
  rwa [show (((x - 1).toNat : Nat) : Int) + 1 = x by omega] at this
theorem l4Text_int {c k a t : Int} (h : gOkB c k a t = true) (w : World) :
    Calls Tryd.prog 127 #[.agg #[.int .i64 c, .int .i64 k, .int .i64 a, .int .i64 t]] w fun e w' => e = .returned (.string (gN c k a t)) ∧ Below w.heap.size w w' := by
  have g := gOk_out h
  obtain ⟨i, rfl⟩ : ∃ i : Nat, t = (i : Int) + 1 := ⟨(t - 1).toNat, by omega⟩
  have := l4Text_any c k a i w (by omega) h
  unfold gN
  rwa [show ((i : Int) + 1 - 1).toNat = i by omega]
set_option maxHeartbeats 1000000 in
theorem l6Join_any (o : Int) (w : World) :
    Calls Tryd.prog 128 #[.int .i64 o] w fun e w' => e = .returned (.string (linkN o)) ∧ w = w' := by
  unfold linkN
  by_cases h0 : o = 0
  · have e0 : (o == 0) = true := by rw [beq_iff_eq]; exact h0
    rw [if_pos h0]
    clear h0
    go_enter Tryd.func128, Tryd.ntmps128
    go_wp2_with fail
    go_ret
    exact ⟨rfl, rfl⟩
  · have e0 : (o == 0) = false := by rw [beq_eq_false_iff_ne]; exact h0
    rw [if_neg h0]
    by_cases h7 : o = 7
    · have e7 : (o == 7) = true := by rw [beq_iff_eq]; exact h7
      rw [if_pos h7]
      clear h0 h7
      go_enter Tryd.func128, Tryd.ntmps128
      go_wp2_with fail
      go_ret
      exact ⟨rfl, rfl⟩
    · have e7 : (o == 7) = false := by rw [beq_eq_false_iff_ne]; exact h7
      rw [if_neg h7]
      clear h0 h7
      go_enter Tryd.func128, Tryd.ntmps128
      go_wp2_with fail
      go_ret
      exact ⟨rfl, rfl⟩
set_option maxRecDepth 100000 in
set_option maxHeartbeats 8000000 in
theorem l6Text_011 (d l f s n x c k a t c' k' a' t' : Int) (F : ByteArray) (w : World) (_sF : F.size ≤ 40) (hF : ∀ W, Calls Tryd.prog 126 #[.agg #[.int .i64 d, .int .i64 l, .int .i64 f, .int .i64 s]] W fun e w' => e = .returned (.string F) ∧ Below W.heap.size W w') (hN : ∀ W, Calls Tryd.prog 97 #[.agg #[.int .i64 c, .int .i64 k, .int .i64 a, .int .i64 t]] W fun e w' => e = .returned (.bool true) ∧ Below W.heap.size W w') (hN' : ∀ W, Calls Tryd.prog 97 #[.agg #[.int .i64 c', .int .i64 k', .int .i64 a', .int .i64 t']] W fun e w' => e = .returned (.bool true) ∧ Below W.heap.size W w') :
    Calls Tryd.prog 71 #[.agg #[.int .i64 d, .int .i64 l, .int .i64 f, .int .i64 s, .int .i64 0, .int .i64 n, .int .i64 x, .int .i64 c, .int .i64 k, .int .i64 a, .int .i64 t, .int .i64 c', .int .i64 k', .int .i64 a', .int .i64 t']] w fun e w' => e = .returned (.string (F)) ∧ Below w.heap.size w w' := by
  have K0 := Lib.hid (AK.new w [.int .i64 d, .int .i64 l, .int .i64 f, .int .i64 s, .int .i64 0, .int .i64 n, .int .i64 x, .int .i64 c, .int .i64 k, .int .i64 a, .int .i64 t, .int .i64 c', .int .i64 k', .int .i64 a', .int .i64 t'])
  have HF := Lib.hid hF
  have HN := Lib.hid hN
  have HN' := Lib.hid hN'
  clear hF  hN  hN' 
  have kx := K0.out.1.fifteen
  obtain ⟨x0, x1, x2, x3, x4, x5, x6, x7, x8, x9, x10, x11, x12, x13, x14, xf⟩ := kx
  go_enter Tryd.func71, Tryd.ntmps71
  go_wp2_with fail
  refine (HF.out _).mono ?_
  rintro e w1 ⟨rfl, g1⟩
  clear x0 x1 x2 x3 x4 x5 x6 x7 x8 x9 x10 x11 x12 x13 x14 xf
  have K1 := Lib.hid (K0.out.below g1)
  clear g1
  have kx := K1.out.1.fifteen
  obtain ⟨x0, x1, x2, x3, x4, x5, x6, x7, x8, x9, x10, x11, x12, x13, x14, xf⟩ := kx
  go_wp2_with fail
  refine (HN.out _).mono ?_
  rintro e w2 ⟨rfl, g1⟩
  clear x0 x1 x2 x3 x4 x5 x6 x7 x8 x9 x10 x11 x12 x13 x14 xf
  have K2 := Lib.hid (K1.out.below g1)
  clear g1
  have kx := K2.out.1.fifteen
  obtain ⟨x0, x1, x2, x3, x4, x5, x6, x7, x8, x9, x10, x11, x12, x13, x14, xf⟩ := kx
  go_wp2_with fail
  refine (HN'.out _).mono ?_
  rintro e w3 ⟨rfl, g1⟩
  clear x0 x1 x2 x3 x4 x5 x6 x7 x8 x9 x10 x11 x12 x13 x14 xf
  have K3 := Lib.hid (K2.out.below g1)
  clear g1
  have kx := K3.out.1.fifteen
  obtain ⟨x0, x1, x2, x3, x4, x5, x6, x7, x8, x9, x10, x11, x12, x13, x14, xf⟩ := kx
  go_wp2_with fail
  go_ret
  exact ⟨rfl, K3.out.2⟩
set_option maxRecDepth 100000 in
set_option maxHeartbeats 8000000 in
theorem l6Text_010 (d l f s n x c k a t c' k' a' t' : Int) (F J G' : ByteArray) (w : World) (sF : F.size ≤ 40) (sJ : J.size ≤ 9) (sG' : G'.size ≤ 29) (hF : ∀ W, Calls Tryd.prog 126 #[.agg #[.int .i64 d, .int .i64 l, .int .i64 f, .int .i64 s]] W fun e w' => e = .returned (.string F) ∧ Below W.heap.size W w') (hN : ∀ W, Calls Tryd.prog 97 #[.agg #[.int .i64 c, .int .i64 k, .int .i64 a, .int .i64 t]] W fun e w' => e = .returned (.bool true) ∧ Below W.heap.size W w') (hN' : ∀ W, Calls Tryd.prog 97 #[.agg #[.int .i64 c', .int .i64 k', .int .i64 a', .int .i64 t']] W fun e w' => e = .returned (.bool false) ∧ Below W.heap.size W w') (hJ : ∀ W, Calls Tryd.prog 128 #[.int .i64 0] W fun e w' => e = .returned (.string J) ∧ W = w') (hG' : ∀ W, Calls Tryd.prog 127 #[.agg #[.int .i64 c', .int .i64 k', .int .i64 a', .int .i64 t']] W fun e w' => e = .returned (.string G') ∧ Below W.heap.size W w') :
    Calls Tryd.prog 71 #[.agg #[.int .i64 d, .int .i64 l, .int .i64 f, .int .i64 s, .int .i64 0, .int .i64 n, .int .i64 x, .int .i64 c, .int .i64 k, .int .i64 a, .int .i64 t, .int .i64 c', .int .i64 k', .int .i64 a', .int .i64 t']] w fun e w' => e = .returned (.string (F ++ J ++ G')) ∧ Below w.heap.size w w' := by
  have n0 : ¬ 9223372036854775807 < F.size + J.size := by omega
  have n1 : ¬ 9223372036854775807 < F.size + J.size + G'.size := by omega
  have K0 := Lib.hid (AK.new w [.int .i64 d, .int .i64 l, .int .i64 f, .int .i64 s, .int .i64 0, .int .i64 n, .int .i64 x, .int .i64 c, .int .i64 k, .int .i64 a, .int .i64 t, .int .i64 c', .int .i64 k', .int .i64 a', .int .i64 t'])
  have HF := Lib.hid hF
  have HN := Lib.hid hN
  have HN' := Lib.hid hN'
  have HJ := Lib.hid hJ
  have HG' := Lib.hid hG'
  clear hF  hN  hN' hJ hG'
  have kx := K0.out.1.fifteen
  obtain ⟨x0, x1, x2, x3, x4, x5, x6, x7, x8, x9, x10, x11, x12, x13, x14, xf⟩ := kx
  go_enter Tryd.func71, Tryd.ntmps71
  go_wp2_with fail
  refine (HF.out _).mono ?_
  rintro e w1 ⟨rfl, g1⟩
  clear x0 x1 x2 x3 x4 x5 x6 x7 x8 x9 x10 x11 x12 x13 x14 xf
  have K1 := Lib.hid (K0.out.below g1)
  clear g1
  have kx := K1.out.1.fifteen
  obtain ⟨x0, x1, x2, x3, x4, x5, x6, x7, x8, x9, x10, x11, x12, x13, x14, xf⟩ := kx
  go_wp2_with fail
  refine (HN.out _).mono ?_
  rintro e w2 ⟨rfl, g1⟩
  clear x0 x1 x2 x3 x4 x5 x6 x7 x8 x9 x10 x11 x12 x13 x14 xf
  have K2 := Lib.hid (K1.out.below g1)
  clear g1
  have kx := K2.out.1.fifteen
  obtain ⟨x0, x1, x2, x3, x4, x5, x6, x7, x8, x9, x10, x11, x12, x13, x14, xf⟩ := kx
  go_wp2_with fail
  refine (HN'.out _).mono ?_
  rintro e w3 ⟨rfl, g1⟩
  clear x0 x1 x2 x3 x4 x5 x6 x7 x8 x9 x10 x11 x12 x13 x14 xf
  have K3 := Lib.hid (K2.out.below g1)
  clear g1
  have kx := K3.out.1.fifteen
  obtain ⟨x0, x1, x2, x3, x4, x5, x6, x7, x8, x9, x10, x11, x12, x13, x14, xf⟩ := kx
  go_wp2_with fail
  clear x0 x1 x2 x3 x4 x5 x6 x7 x8 x9 x10 x11 x12 x13 x14 xf
  have KD := Lib.hid (K3.out.drew)
  have q_ : ∀ W, AK w [.int .i64 d, .int .i64 l, .int .i64 f, .int .i64 s, .int .i64 0, .int .i64 n, .int .i64 x, .int .i64 c, .int .i64 k, .int .i64 a, .int .i64 t, .int .i64 c', .int .i64 k', .int .i64 a', .int .i64 t'] W → W.cell? ⟨w.heap.size, 4, none⟩ = some (.int .i64 0) ∧ W.cell? ⟨w.heap.size, 11, none⟩ = some (.int .i64 c') ∧ W.cell? ⟨w.heap.size, 12, none⟩ = some (.int .i64 k') ∧ W.cell? ⟨w.heap.size, 13, none⟩ = some (.int .i64 a') ∧ W.cell? ⟨w.heap.size, 14, none⟩ = some (.int .i64 t') ∧ AK w [.int .i64 d, .int .i64 l, .int .i64 f, .int .i64 s, .int .i64 0, .int .i64 n, .int .i64 x, .int .i64 c, .int .i64 k, .int .i64 a, .int .i64 t, .int .i64 c', .int .i64 k', .int .i64 a', .int .i64 t'] W := fun W h => ⟨h.1.at 4, h.1.at 11, h.1.at 12, h.1.at 13, h.1.at 14, h⟩
  have HS0 := q_ _ KD.out
  have HJK := Lib.hid (fun W (h : W.cell? ⟨w.heap.size, 4, none⟩ = some (.int .i64 0) ∧ W.cell? ⟨w.heap.size, 11, none⟩ = some (.int .i64 c') ∧ W.cell? ⟨w.heap.size, 12, none⟩ = some (.int .i64 k') ∧ W.cell? ⟨w.heap.size, 13, none⟩ = some (.int .i64 a') ∧ W.cell? ⟨w.heap.size, 14, none⟩ = some (.int .i64 t') ∧ AK w [.int .i64 d, .int .i64 l, .int .i64 f, .int .i64 s, .int .i64 0, .int .i64 n, .int .i64 x, .int .i64 c, .int .i64 k, .int .i64 a, .int .i64 t, .int .i64 c', .int .i64 k', .int .i64 a', .int .i64 t'] W) => (HJ.out W).mono (fun e w' hh => And.intro hh.1 (hh.2 ▸ h)))
  have HG_K := Lib.hid (fun W (h : W.cell? ⟨w.heap.size, 4, none⟩ = some (.int .i64 0) ∧ W.cell? ⟨w.heap.size, 11, none⟩ = some (.int .i64 c') ∧ W.cell? ⟨w.heap.size, 12, none⟩ = some (.int .i64 k') ∧ W.cell? ⟨w.heap.size, 13, none⟩ = some (.int .i64 a') ∧ W.cell? ⟨w.heap.size, 14, none⟩ = some (.int .i64 t') ∧ AK w [.int .i64 d, .int .i64 l, .int .i64 f, .int .i64 s, .int .i64 0, .int .i64 n, .int .i64 x, .int .i64 c, .int .i64 k, .int .i64 a, .int .i64 t, .int .i64 c', .int .i64 k', .int .i64 a', .int .i64 t'] W) => (HG'.out W).mono (fun e w' hh => And.intro hh.1 (q_ _ (AK.below h.2.2.2.2.2 hh.2))))
  clear q_
  go_region_held3 (fun w' => w'.cell? ⟨w.heap.size, 4, none⟩ = some (.int .i64 0) ∧ w'.cell? ⟨w.heap.size, 11, none⟩ = some (.int .i64 c') ∧ w'.cell? ⟨w.heap.size, 12, none⟩ = some (.int .i64 k') ∧ w'.cell? ⟨w.heap.size, 13, none⟩ = some (.int .i64 a') ∧ w'.cell? ⟨w.heap.size, 14, none⟩ = some (.int .i64 t') ∧ AK w [.int .i64 d, .int .i64 l, .int .i64 f, .int .i64 s, .int .i64 0, .int .i64 n, .int .i64 x, .int .i64 c, .int .i64 k, .int .i64 a, .int .i64 t, .int .i64 c', .int .i64 k', .int .i64 a', .int .i64 t'] w')
    (first | go_keep | exact HS0 | exact ⟨h0, h1, h2, h3, h4, hh⟩ | exact ⟨k0, k1, k2, k3, k4, kk⟩)
    (first
      | (go_at_call 128; (with_reducible refine (HJK.out _ ?_).mono ?_); (first | assumption | simp [*]); rintro e whh ⟨rfl, h0, h1, h2, h3, h4, hh⟩)
      | (go_at_call 127; (with_reducible refine (HG_K.out _ ?_).mono ?_); (first | assumption | simp [*]); rintro e wkk ⟨rfl, k0, k1, k2, k3, k4, kk⟩))
  all_goals
    rename_i hlast
    have K4 := Lib.hid hlast.2.2.2.2.2
    go_wp2_with fail
    go_ret
    exact ⟨rfl, K4.out.2⟩
set_option maxRecDepth 100000 in
set_option maxHeartbeats 8000000 in
theorem l6Text_111 (d l f s o n x c k a t c' k' a' t' : Int) (F O X : ByteArray) (w : World) (sF : F.size ≤ 40) (sO : O.size ≤ 19) (sX : X.size ≤ 6) (e0 : (0 : Int) < o) (hF : ∀ W, Calls Tryd.prog 126 #[.agg #[.int .i64 d, .int .i64 l, .int .i64 f, .int .i64 s]] W fun e w' => e = .returned (.string F) ∧ Below W.heap.size W w') (hO : ∀ W, Calls Tryd.prog 84 #[.int .i64 o, .int .i64 n] W fun e w' => e = .returned (.string O) ∧ Below W.heap.size W w') (hX : ∀ W, Calls Tryd.prog 85 #[.int .i64 x] W fun e w' => e = .returned (.string X) ∧ Below W.heap.size W w') (hN : ∀ W, Calls Tryd.prog 97 #[.agg #[.int .i64 c, .int .i64 k, .int .i64 a, .int .i64 t]] W fun e w' => e = .returned (.bool true) ∧ Below W.heap.size W w') (hN' : ∀ W, Calls Tryd.prog 97 #[.agg #[.int .i64 c', .int .i64 k', .int .i64 a', .int .i64 t']] W fun e w' => e = .returned (.bool true) ∧ Below W.heap.size W w') :
    Calls Tryd.prog 71 #[.agg #[.int .i64 d, .int .i64 l, .int .i64 f, .int .i64 s, .int .i64 o, .int .i64 n, .int .i64 x, .int .i64 c, .int .i64 k, .int .i64 a, .int .i64 t, .int .i64 c', .int .i64 k', .int .i64 a', .int .i64 t']] w fun e w' => e = .returned (.string (F ++ ⟨#[44, 32]⟩ ++ O ++ ⟨#[32]⟩ ++ X)) ∧ Below w.heap.size w w' := by
  have n0 : ¬ 9223372036854775807 < F.size + 2 := by omega
  have n1 : ¬ 9223372036854775807 < F.size + 2 + O.size := by omega
  have n2 : ¬ 9223372036854775807 < F.size + 2 + O.size + 1 := by omega
  have n3 : ¬ 9223372036854775807 < F.size + 2 + O.size + 1 + X.size := by omega
  have K0 := Lib.hid (AK.new w [.int .i64 d, .int .i64 l, .int .i64 f, .int .i64 s, .int .i64 o, .int .i64 n, .int .i64 x, .int .i64 c, .int .i64 k, .int .i64 a, .int .i64 t, .int .i64 c', .int .i64 k', .int .i64 a', .int .i64 t'])
  have HF := Lib.hid hF
  have HO := Lib.hid hO
  have HX := Lib.hid hX
  have HN := Lib.hid hN
  have HN' := Lib.hid hN'
  clear hF hO hX hN  hN' 
  have kx := K0.out.1.fifteen
  obtain ⟨x0, x1, x2, x3, x4, x5, x6, x7, x8, x9, x10, x11, x12, x13, x14, xf⟩ := kx
  go_enter Tryd.func71, Tryd.ntmps71
  go_wp2_with fail
  refine (HF.out _).mono ?_
  rintro e w1 ⟨rfl, g1⟩
  clear x0 x1 x2 x3 x4 x5 x6 x7 x8 x9 x10 x11 x12 x13 x14 xf
  have K1 := Lib.hid (K0.out.below g1)
  clear g1
  have kx := K1.out.1.fifteen
  obtain ⟨x0, x1, x2, x3, x4, x5, x6, x7, x8, x9, x10, x11, x12, x13, x14, xf⟩ := kx
  go_wp2_with fail
  clear x0 x1 x2 x3 x4 x5 x6 x7 x8 x9 x10 x11 x12 x13 x14 xf
  have KD := Lib.hid (K1.out.drew)
  have q_ : ∀ W, AK w [.int .i64 d, .int .i64 l, .int .i64 f, .int .i64 s, .int .i64 o, .int .i64 n, .int .i64 x, .int .i64 c, .int .i64 k, .int .i64 a, .int .i64 t, .int .i64 c', .int .i64 k', .int .i64 a', .int .i64 t'] W → W.cell? ⟨w.heap.size, 4, none⟩ = some (.int .i64 o) ∧ W.cell? ⟨w.heap.size, 5, none⟩ = some (.int .i64 n) ∧ W.cell? ⟨w.heap.size, 6, none⟩ = some (.int .i64 x) ∧ AK w [.int .i64 d, .int .i64 l, .int .i64 f, .int .i64 s, .int .i64 o, .int .i64 n, .int .i64 x, .int .i64 c, .int .i64 k, .int .i64 a, .int .i64 t, .int .i64 c', .int .i64 k', .int .i64 a', .int .i64 t'] W := fun W h => ⟨h.1.at 4, h.1.at 5, h.1.at 6, h⟩
  have HS0 := q_ _ KD.out
  have HOK := Lib.hid (fun W (h : W.cell? ⟨w.heap.size, 4, none⟩ = some (.int .i64 o) ∧ W.cell? ⟨w.heap.size, 5, none⟩ = some (.int .i64 n) ∧ W.cell? ⟨w.heap.size, 6, none⟩ = some (.int .i64 x) ∧ AK w [.int .i64 d, .int .i64 l, .int .i64 f, .int .i64 s, .int .i64 o, .int .i64 n, .int .i64 x, .int .i64 c, .int .i64 k, .int .i64 a, .int .i64 t, .int .i64 c', .int .i64 k', .int .i64 a', .int .i64 t'] W) => (HO.out W).mono (fun e w' hh => And.intro hh.1 (q_ _ (AK.below h.2.2.2 hh.2))))
  have HXK := Lib.hid (fun W (h : W.cell? ⟨w.heap.size, 4, none⟩ = some (.int .i64 o) ∧ W.cell? ⟨w.heap.size, 5, none⟩ = some (.int .i64 n) ∧ W.cell? ⟨w.heap.size, 6, none⟩ = some (.int .i64 x) ∧ AK w [.int .i64 d, .int .i64 l, .int .i64 f, .int .i64 s, .int .i64 o, .int .i64 n, .int .i64 x, .int .i64 c, .int .i64 k, .int .i64 a, .int .i64 t, .int .i64 c', .int .i64 k', .int .i64 a', .int .i64 t'] W) => (HX.out W).mono (fun e w' hh => And.intro hh.1 (q_ _ (AK.below h.2.2.2 hh.2))))
  clear q_
  go_region_held3 (fun w' => w'.cell? ⟨w.heap.size, 4, none⟩ = some (.int .i64 o) ∧ w'.cell? ⟨w.heap.size, 5, none⟩ = some (.int .i64 n) ∧ w'.cell? ⟨w.heap.size, 6, none⟩ = some (.int .i64 x) ∧ AK w [.int .i64 d, .int .i64 l, .int .i64 f, .int .i64 s, .int .i64 o, .int .i64 n, .int .i64 x, .int .i64 c, .int .i64 k, .int .i64 a, .int .i64 t, .int .i64 c', .int .i64 k', .int .i64 a', .int .i64 t'] w')
    (first | go_keep | exact HS0 | exact ⟨h0, h1, h2, hh⟩ | exact ⟨k0, k1, k2, kk⟩)
    (first
      | (go_at_call 84; (with_reducible refine (HOK.out _ ?_).mono ?_); (first | assumption | simp [*]); rintro e whh ⟨rfl, h0, h1, h2, hh⟩)
      | (go_at_call 85; (with_reducible refine (HXK.out _ ?_).mono ?_); (first | assumption | simp [*]); rintro e wkk ⟨rfl, k0, k1, k2, kk⟩))
  all_goals
    rename_i hlast
    have K2 := Lib.hid hlast.2.2.2
    have kx := K2.out.1.fifteen
    obtain ⟨x0, x1, x2, x3, x4, x5, x6, x7, x8, x9, x10, x11, x12, x13, x14, xf⟩ := kx
    go_wp2_with fail
    refine (HN.out _).mono ?_
    rintro e w3 ⟨rfl, g1⟩
    clear x0 x1 x2 x3 x4 x5 x6 x7 x8 x9 x10 x11 x12 x13 x14 xf
    have K3 := Lib.hid (K2.out.below g1)
    clear g1
    have kx := K3.out.1.fifteen
    obtain ⟨x0, x1, x2, x3, x4, x5, x6, x7, x8, x9, x10, x11, x12, x13, x14, xf⟩ := kx
    go_wp2_with fail
    refine (HN'.out _).mono ?_
    rintro e w4 ⟨rfl, g1⟩
    clear x0 x1 x2 x3 x4 x5 x6 x7 x8 x9 x10 x11 x12 x13 x14 xf
    have K4 := Lib.hid (K3.out.below g1)
    clear g1
    have kx := K4.out.1.fifteen
    obtain ⟨x0, x1, x2, x3, x4, x5, x6, x7, x8, x9, x10, x11, x12, x13, x14, xf⟩ := kx
    go_wp2_with fail
    go_ret
    exact ⟨rfl, K4.out.2⟩
set_option maxRecDepth 100000 in
set_option maxHeartbeats 8000000 in
theorem l6Text_110 (d l f s o n x c k a t c' k' a' t' : Int) (F O X J G' : ByteArray) (w : World) (sF : F.size ≤ 40) (sO : O.size ≤ 19) (sX : X.size ≤ 6) (e0 : (0 : Int) < o) (sJ : J.size ≤ 9) (sG' : G'.size ≤ 29) (hF : ∀ W, Calls Tryd.prog 126 #[.agg #[.int .i64 d, .int .i64 l, .int .i64 f, .int .i64 s]] W fun e w' => e = .returned (.string F) ∧ Below W.heap.size W w') (hO : ∀ W, Calls Tryd.prog 84 #[.int .i64 o, .int .i64 n] W fun e w' => e = .returned (.string O) ∧ Below W.heap.size W w') (hX : ∀ W, Calls Tryd.prog 85 #[.int .i64 x] W fun e w' => e = .returned (.string X) ∧ Below W.heap.size W w') (hN : ∀ W, Calls Tryd.prog 97 #[.agg #[.int .i64 c, .int .i64 k, .int .i64 a, .int .i64 t]] W fun e w' => e = .returned (.bool true) ∧ Below W.heap.size W w') (hN' : ∀ W, Calls Tryd.prog 97 #[.agg #[.int .i64 c', .int .i64 k', .int .i64 a', .int .i64 t']] W fun e w' => e = .returned (.bool false) ∧ Below W.heap.size W w') (hJ : ∀ W, Calls Tryd.prog 128 #[.int .i64 o] W fun e w' => e = .returned (.string J) ∧ W = w') (hG' : ∀ W, Calls Tryd.prog 127 #[.agg #[.int .i64 c', .int .i64 k', .int .i64 a', .int .i64 t']] W fun e w' => e = .returned (.string G') ∧ Below W.heap.size W w') :
    Calls Tryd.prog 71 #[.agg #[.int .i64 d, .int .i64 l, .int .i64 f, .int .i64 s, .int .i64 o, .int .i64 n, .int .i64 x, .int .i64 c, .int .i64 k, .int .i64 a, .int .i64 t, .int .i64 c', .int .i64 k', .int .i64 a', .int .i64 t']] w fun e w' => e = .returned (.string (F ++ ⟨#[44, 32]⟩ ++ O ++ ⟨#[32]⟩ ++ X ++ J ++ G')) ∧ Below w.heap.size w w' := by
  have n0 : ¬ 9223372036854775807 < F.size + 2 := by omega
  have n1 : ¬ 9223372036854775807 < F.size + 2 + O.size := by omega
  have n2 : ¬ 9223372036854775807 < F.size + 2 + O.size + 1 := by omega
  have n3 : ¬ 9223372036854775807 < F.size + 2 + O.size + 1 + X.size := by omega
  have n4 : ¬ 9223372036854775807 < F.size + 2 + O.size + 1 + X.size + J.size := by omega
  have n5 : ¬ 9223372036854775807 < F.size + 2 + O.size + 1 + X.size + J.size + G'.size := by omega
  have K0 := Lib.hid (AK.new w [.int .i64 d, .int .i64 l, .int .i64 f, .int .i64 s, .int .i64 o, .int .i64 n, .int .i64 x, .int .i64 c, .int .i64 k, .int .i64 a, .int .i64 t, .int .i64 c', .int .i64 k', .int .i64 a', .int .i64 t'])
  have HF := Lib.hid hF
  have HO := Lib.hid hO
  have HX := Lib.hid hX
  have HN := Lib.hid hN
  have HN' := Lib.hid hN'
  have HJ := Lib.hid hJ
  have HG' := Lib.hid hG'
  clear hF hO hX hN  hN' hJ hG'
  have kx := K0.out.1.fifteen
  obtain ⟨x0, x1, x2, x3, x4, x5, x6, x7, x8, x9, x10, x11, x12, x13, x14, xf⟩ := kx
  go_enter Tryd.func71, Tryd.ntmps71
  go_wp2_with fail
  refine (HF.out _).mono ?_
  rintro e w1 ⟨rfl, g1⟩
  clear x0 x1 x2 x3 x4 x5 x6 x7 x8 x9 x10 x11 x12 x13 x14 xf
  have K1 := Lib.hid (K0.out.below g1)
  clear g1
  have kx := K1.out.1.fifteen
  obtain ⟨x0, x1, x2, x3, x4, x5, x6, x7, x8, x9, x10, x11, x12, x13, x14, xf⟩ := kx
  go_wp2_with fail
  clear x0 x1 x2 x3 x4 x5 x6 x7 x8 x9 x10 x11 x12 x13 x14 xf
  have KD := Lib.hid (K1.out.drew)
  have q_ : ∀ W, AK w [.int .i64 d, .int .i64 l, .int .i64 f, .int .i64 s, .int .i64 o, .int .i64 n, .int .i64 x, .int .i64 c, .int .i64 k, .int .i64 a, .int .i64 t, .int .i64 c', .int .i64 k', .int .i64 a', .int .i64 t'] W → W.cell? ⟨w.heap.size, 4, none⟩ = some (.int .i64 o) ∧ W.cell? ⟨w.heap.size, 5, none⟩ = some (.int .i64 n) ∧ W.cell? ⟨w.heap.size, 6, none⟩ = some (.int .i64 x) ∧ AK w [.int .i64 d, .int .i64 l, .int .i64 f, .int .i64 s, .int .i64 o, .int .i64 n, .int .i64 x, .int .i64 c, .int .i64 k, .int .i64 a, .int .i64 t, .int .i64 c', .int .i64 k', .int .i64 a', .int .i64 t'] W := fun W h => ⟨h.1.at 4, h.1.at 5, h.1.at 6, h⟩
  have HS0 := q_ _ KD.out
  have HOK := Lib.hid (fun W (h : W.cell? ⟨w.heap.size, 4, none⟩ = some (.int .i64 o) ∧ W.cell? ⟨w.heap.size, 5, none⟩ = some (.int .i64 n) ∧ W.cell? ⟨w.heap.size, 6, none⟩ = some (.int .i64 x) ∧ AK w [.int .i64 d, .int .i64 l, .int .i64 f, .int .i64 s, .int .i64 o, .int .i64 n, .int .i64 x, .int .i64 c, .int .i64 k, .int .i64 a, .int .i64 t, .int .i64 c', .int .i64 k', .int .i64 a', .int .i64 t'] W) => (HO.out W).mono (fun e w' hh => And.intro hh.1 (q_ _ (AK.below h.2.2.2 hh.2))))
  have HXK := Lib.hid (fun W (h : W.cell? ⟨w.heap.size, 4, none⟩ = some (.int .i64 o) ∧ W.cell? ⟨w.heap.size, 5, none⟩ = some (.int .i64 n) ∧ W.cell? ⟨w.heap.size, 6, none⟩ = some (.int .i64 x) ∧ AK w [.int .i64 d, .int .i64 l, .int .i64 f, .int .i64 s, .int .i64 o, .int .i64 n, .int .i64 x, .int .i64 c, .int .i64 k, .int .i64 a, .int .i64 t, .int .i64 c', .int .i64 k', .int .i64 a', .int .i64 t'] W) => (HX.out W).mono (fun e w' hh => And.intro hh.1 (q_ _ (AK.below h.2.2.2 hh.2))))
  clear q_
  go_region_held3 (fun w' => w'.cell? ⟨w.heap.size, 4, none⟩ = some (.int .i64 o) ∧ w'.cell? ⟨w.heap.size, 5, none⟩ = some (.int .i64 n) ∧ w'.cell? ⟨w.heap.size, 6, none⟩ = some (.int .i64 x) ∧ AK w [.int .i64 d, .int .i64 l, .int .i64 f, .int .i64 s, .int .i64 o, .int .i64 n, .int .i64 x, .int .i64 c, .int .i64 k, .int .i64 a, .int .i64 t, .int .i64 c', .int .i64 k', .int .i64 a', .int .i64 t'] w')
    (first | go_keep | exact HS0 | exact ⟨h0, h1, h2, hh⟩ | exact ⟨k0, k1, k2, kk⟩)
    (first
      | (go_at_call 84; (with_reducible refine (HOK.out _ ?_).mono ?_); (first | assumption | simp [*]); rintro e whh ⟨rfl, h0, h1, h2, hh⟩)
      | (go_at_call 85; (with_reducible refine (HXK.out _ ?_).mono ?_); (first | assumption | simp [*]); rintro e wkk ⟨rfl, k0, k1, k2, kk⟩))
  all_goals
    rename_i hlast
    have K2 := Lib.hid hlast.2.2.2
    have kx := K2.out.1.fifteen
    obtain ⟨x0, x1, x2, x3, x4, x5, x6, x7, x8, x9, x10, x11, x12, x13, x14, xf⟩ := kx
    go_wp2_with fail
    refine (HN.out _).mono ?_
    rintro e w3 ⟨rfl, g1⟩
    clear x0 x1 x2 x3 x4 x5 x6 x7 x8 x9 x10 x11 x12 x13 x14 xf
    have K3 := Lib.hid (K2.out.below g1)
    clear g1
    have kx := K3.out.1.fifteen
    obtain ⟨x0, x1, x2, x3, x4, x5, x6, x7, x8, x9, x10, x11, x12, x13, x14, xf⟩ := kx
    go_wp2_with fail
    refine (HN'.out _).mono ?_
    rintro e w4 ⟨rfl, g1⟩
    clear x0 x1 x2 x3 x4 x5 x6 x7 x8 x9 x10 x11 x12 x13 x14 xf
    have K4 := Lib.hid (K3.out.below g1)
    clear g1
    have kx := K4.out.1.fifteen
    obtain ⟨x0, x1, x2, x3, x4, x5, x6, x7, x8, x9, x10, x11, x12, x13, x14, xf⟩ := kx
    go_wp2_with fail
    clear x0 x1 x2 x3 x4 x5 x6 x7 x8 x9 x10 x11 x12 x13 x14 xf
    have KD := Lib.hid (K4.out.drew)
    have q_ : ∀ W, AK w [.int .i64 d, .int .i64 l, .int .i64 f, .int .i64 s, .int .i64 o, .int .i64 n, .int .i64 x, .int .i64 c, .int .i64 k, .int .i64 a, .int .i64 t, .int .i64 c', .int .i64 k', .int .i64 a', .int .i64 t'] W → W.cell? ⟨w.heap.size, 4, none⟩ = some (.int .i64 o) ∧ W.cell? ⟨w.heap.size, 11, none⟩ = some (.int .i64 c') ∧ W.cell? ⟨w.heap.size, 12, none⟩ = some (.int .i64 k') ∧ W.cell? ⟨w.heap.size, 13, none⟩ = some (.int .i64 a') ∧ W.cell? ⟨w.heap.size, 14, none⟩ = some (.int .i64 t') ∧ AK w [.int .i64 d, .int .i64 l, .int .i64 f, .int .i64 s, .int .i64 o, .int .i64 n, .int .i64 x, .int .i64 c, .int .i64 k, .int .i64 a, .int .i64 t, .int .i64 c', .int .i64 k', .int .i64 a', .int .i64 t'] W := fun W h => ⟨h.1.at 4, h.1.at 11, h.1.at 12, h.1.at 13, h.1.at 14, h⟩
    have HS0 := q_ _ KD.out
    have HJK := Lib.hid (fun W (h : W.cell? ⟨w.heap.size, 4, none⟩ = some (.int .i64 o) ∧ W.cell? ⟨w.heap.size, 11, none⟩ = some (.int .i64 c') ∧ W.cell? ⟨w.heap.size, 12, none⟩ = some (.int .i64 k') ∧ W.cell? ⟨w.heap.size, 13, none⟩ = some (.int .i64 a') ∧ W.cell? ⟨w.heap.size, 14, none⟩ = some (.int .i64 t') ∧ AK w [.int .i64 d, .int .i64 l, .int .i64 f, .int .i64 s, .int .i64 o, .int .i64 n, .int .i64 x, .int .i64 c, .int .i64 k, .int .i64 a, .int .i64 t, .int .i64 c', .int .i64 k', .int .i64 a', .int .i64 t'] W) => (HJ.out W).mono (fun e w' hh => And.intro hh.1 (hh.2 ▸ h)))
    have HG_K := Lib.hid (fun W (h : W.cell? ⟨w.heap.size, 4, none⟩ = some (.int .i64 o) ∧ W.cell? ⟨w.heap.size, 11, none⟩ = some (.int .i64 c') ∧ W.cell? ⟨w.heap.size, 12, none⟩ = some (.int .i64 k') ∧ W.cell? ⟨w.heap.size, 13, none⟩ = some (.int .i64 a') ∧ W.cell? ⟨w.heap.size, 14, none⟩ = some (.int .i64 t') ∧ AK w [.int .i64 d, .int .i64 l, .int .i64 f, .int .i64 s, .int .i64 o, .int .i64 n, .int .i64 x, .int .i64 c, .int .i64 k, .int .i64 a, .int .i64 t, .int .i64 c', .int .i64 k', .int .i64 a', .int .i64 t'] W) => (HG'.out W).mono (fun e w' hh => And.intro hh.1 (q_ _ (AK.below h.2.2.2.2.2 hh.2))))
    clear q_
    go_region_held3 (fun w' => w'.cell? ⟨w.heap.size, 4, none⟩ = some (.int .i64 o) ∧ w'.cell? ⟨w.heap.size, 11, none⟩ = some (.int .i64 c') ∧ w'.cell? ⟨w.heap.size, 12, none⟩ = some (.int .i64 k') ∧ w'.cell? ⟨w.heap.size, 13, none⟩ = some (.int .i64 a') ∧ w'.cell? ⟨w.heap.size, 14, none⟩ = some (.int .i64 t') ∧ AK w [.int .i64 d, .int .i64 l, .int .i64 f, .int .i64 s, .int .i64 o, .int .i64 n, .int .i64 x, .int .i64 c, .int .i64 k, .int .i64 a, .int .i64 t, .int .i64 c', .int .i64 k', .int .i64 a', .int .i64 t'] w')
      (first | go_keep | exact HS0 | exact ⟨h0, h1, h2, h3, h4, hh⟩ | exact ⟨k0, k1, k2, k3, k4, kk⟩)
      (first
        | (go_at_call 128; (with_reducible refine (HJK.out _ ?_).mono ?_); (first | assumption | simp [*]); rintro e whh ⟨rfl, h0, h1, h2, h3, h4, hh⟩)
        | (go_at_call 127; (with_reducible refine (HG_K.out _ ?_).mono ?_); (first | assumption | simp [*]); rintro e wkk ⟨rfl, k0, k1, k2, k3, k4, kk⟩))
    all_goals
      rename_i hlast
      have K5 := Lib.hid hlast.2.2.2.2.2
      go_wp2_with fail
      go_ret
      exact ⟨rfl, K5.out.2⟩
set_option maxRecDepth 100000 in
set_option maxHeartbeats 8000000 in
theorem l6Text_101 (d l f s o n x c k a t c' k' a' t' : Int) (F O X G : ByteArray) (w : World) (sF : F.size ≤ 40) (sO : O.size ≤ 19) (sX : X.size ≤ 6) (e0 : (0 : Int) < o) (sG : G.size ≤ 29) (hF : ∀ W, Calls Tryd.prog 126 #[.agg #[.int .i64 d, .int .i64 l, .int .i64 f, .int .i64 s]] W fun e w' => e = .returned (.string F) ∧ Below W.heap.size W w') (hO : ∀ W, Calls Tryd.prog 84 #[.int .i64 o, .int .i64 n] W fun e w' => e = .returned (.string O) ∧ Below W.heap.size W w') (hX : ∀ W, Calls Tryd.prog 85 #[.int .i64 x] W fun e w' => e = .returned (.string X) ∧ Below W.heap.size W w') (hN : ∀ W, Calls Tryd.prog 97 #[.agg #[.int .i64 c, .int .i64 k, .int .i64 a, .int .i64 t]] W fun e w' => e = .returned (.bool false) ∧ Below W.heap.size W w') (hG : ∀ W, Calls Tryd.prog 127 #[.agg #[.int .i64 c, .int .i64 k, .int .i64 a, .int .i64 t]] W fun e w' => e = .returned (.string G) ∧ Below W.heap.size W w') (hN' : ∀ W, Calls Tryd.prog 97 #[.agg #[.int .i64 c', .int .i64 k', .int .i64 a', .int .i64 t']] W fun e w' => e = .returned (.bool true) ∧ Below W.heap.size W w') :
    Calls Tryd.prog 71 #[.agg #[.int .i64 d, .int .i64 l, .int .i64 f, .int .i64 s, .int .i64 o, .int .i64 n, .int .i64 x, .int .i64 c, .int .i64 k, .int .i64 a, .int .i64 t, .int .i64 c', .int .i64 k', .int .i64 a', .int .i64 t']] w fun e w' => e = .returned (.string (F ++ ⟨#[44, 32]⟩ ++ O ++ ⟨#[32]⟩ ++ X ++ ⟨#[32, 99, 104, 97, 114, 103, 101, 100, 32, 119, 105, 116, 104, 32]⟩ ++ G)) ∧ Below w.heap.size w w' := by
  have n0 : ¬ 9223372036854775807 < F.size + 2 := by omega
  have n1 : ¬ 9223372036854775807 < F.size + 2 + O.size := by omega
  have n2 : ¬ 9223372036854775807 < F.size + 2 + O.size + 1 := by omega
  have n3 : ¬ 9223372036854775807 < F.size + 2 + O.size + 1 + X.size := by omega
  have n4 : ¬ 9223372036854775807 < F.size + 2 + O.size + 1 + X.size + 14 := by omega
  have n5 : ¬ 9223372036854775807 < F.size + 2 + O.size + 1 + X.size + 14 + G.size := by omega
  have K0 := Lib.hid (AK.new w [.int .i64 d, .int .i64 l, .int .i64 f, .int .i64 s, .int .i64 o, .int .i64 n, .int .i64 x, .int .i64 c, .int .i64 k, .int .i64 a, .int .i64 t, .int .i64 c', .int .i64 k', .int .i64 a', .int .i64 t'])
  have HF := Lib.hid hF
  have HO := Lib.hid hO
  have HX := Lib.hid hX
  have HN := Lib.hid hN
  have HG := Lib.hid hG
  have HN' := Lib.hid hN'
  clear hF hO hX hN hG hN' 
  have kx := K0.out.1.fifteen
  obtain ⟨x0, x1, x2, x3, x4, x5, x6, x7, x8, x9, x10, x11, x12, x13, x14, xf⟩ := kx
  go_enter Tryd.func71, Tryd.ntmps71
  go_wp2_with fail
  refine (HF.out _).mono ?_
  rintro e w1 ⟨rfl, g1⟩
  clear x0 x1 x2 x3 x4 x5 x6 x7 x8 x9 x10 x11 x12 x13 x14 xf
  have K1 := Lib.hid (K0.out.below g1)
  clear g1
  have kx := K1.out.1.fifteen
  obtain ⟨x0, x1, x2, x3, x4, x5, x6, x7, x8, x9, x10, x11, x12, x13, x14, xf⟩ := kx
  go_wp2_with fail
  clear x0 x1 x2 x3 x4 x5 x6 x7 x8 x9 x10 x11 x12 x13 x14 xf
  have KD := Lib.hid (K1.out.drew)
  have q_ : ∀ W, AK w [.int .i64 d, .int .i64 l, .int .i64 f, .int .i64 s, .int .i64 o, .int .i64 n, .int .i64 x, .int .i64 c, .int .i64 k, .int .i64 a, .int .i64 t, .int .i64 c', .int .i64 k', .int .i64 a', .int .i64 t'] W → W.cell? ⟨w.heap.size, 4, none⟩ = some (.int .i64 o) ∧ W.cell? ⟨w.heap.size, 5, none⟩ = some (.int .i64 n) ∧ W.cell? ⟨w.heap.size, 6, none⟩ = some (.int .i64 x) ∧ AK w [.int .i64 d, .int .i64 l, .int .i64 f, .int .i64 s, .int .i64 o, .int .i64 n, .int .i64 x, .int .i64 c, .int .i64 k, .int .i64 a, .int .i64 t, .int .i64 c', .int .i64 k', .int .i64 a', .int .i64 t'] W := fun W h => ⟨h.1.at 4, h.1.at 5, h.1.at 6, h⟩
  have HS0 := q_ _ KD.out
  have HOK := Lib.hid (fun W (h : W.cell? ⟨w.heap.size, 4, none⟩ = some (.int .i64 o) ∧ W.cell? ⟨w.heap.size, 5, none⟩ = some (.int .i64 n) ∧ W.cell? ⟨w.heap.size, 6, none⟩ = some (.int .i64 x) ∧ AK w [.int .i64 d, .int .i64 l, .int .i64 f, .int .i64 s, .int .i64 o, .int .i64 n, .int .i64 x, .int .i64 c, .int .i64 k, .int .i64 a, .int .i64 t, .int .i64 c', .int .i64 k', .int .i64 a', .int .i64 t'] W) => (HO.out W).mono (fun e w' hh => And.intro hh.1 (q_ _ (AK.below h.2.2.2 hh.2))))
  have HXK := Lib.hid (fun W (h : W.cell? ⟨w.heap.size, 4, none⟩ = some (.int .i64 o) ∧ W.cell? ⟨w.heap.size, 5, none⟩ = some (.int .i64 n) ∧ W.cell? ⟨w.heap.size, 6, none⟩ = some (.int .i64 x) ∧ AK w [.int .i64 d, .int .i64 l, .int .i64 f, .int .i64 s, .int .i64 o, .int .i64 n, .int .i64 x, .int .i64 c, .int .i64 k, .int .i64 a, .int .i64 t, .int .i64 c', .int .i64 k', .int .i64 a', .int .i64 t'] W) => (HX.out W).mono (fun e w' hh => And.intro hh.1 (q_ _ (AK.below h.2.2.2 hh.2))))
  clear q_
  go_region_held3 (fun w' => w'.cell? ⟨w.heap.size, 4, none⟩ = some (.int .i64 o) ∧ w'.cell? ⟨w.heap.size, 5, none⟩ = some (.int .i64 n) ∧ w'.cell? ⟨w.heap.size, 6, none⟩ = some (.int .i64 x) ∧ AK w [.int .i64 d, .int .i64 l, .int .i64 f, .int .i64 s, .int .i64 o, .int .i64 n, .int .i64 x, .int .i64 c, .int .i64 k, .int .i64 a, .int .i64 t, .int .i64 c', .int .i64 k', .int .i64 a', .int .i64 t'] w')
    (first | go_keep | exact HS0 | exact ⟨h0, h1, h2, hh⟩ | exact ⟨k0, k1, k2, kk⟩)
    (first
      | (go_at_call 84; (with_reducible refine (HOK.out _ ?_).mono ?_); (first | assumption | simp [*]); rintro e whh ⟨rfl, h0, h1, h2, hh⟩)
      | (go_at_call 85; (with_reducible refine (HXK.out _ ?_).mono ?_); (first | assumption | simp [*]); rintro e wkk ⟨rfl, k0, k1, k2, kk⟩))
  all_goals
    rename_i hlast
    have K2 := Lib.hid hlast.2.2.2
    have kx := K2.out.1.fifteen
    obtain ⟨x0, x1, x2, x3, x4, x5, x6, x7, x8, x9, x10, x11, x12, x13, x14, xf⟩ := kx
    go_wp2_with fail
    refine (HN.out _).mono ?_
    rintro e w3 ⟨rfl, g1⟩
    clear x0 x1 x2 x3 x4 x5 x6 x7 x8 x9 x10 x11 x12 x13 x14 xf
    have K3 := Lib.hid (K2.out.below g1)
    clear g1
    have kx := K3.out.1.fifteen
    obtain ⟨x0, x1, x2, x3, x4, x5, x6, x7, x8, x9, x10, x11, x12, x13, x14, xf⟩ := kx
    go_wp2_with fail
    refine (HG.out _).mono ?_
    rintro e w4 ⟨rfl, g1⟩
    clear x0 x1 x2 x3 x4 x5 x6 x7 x8 x9 x10 x11 x12 x13 x14 xf
    have K4 := Lib.hid (K3.out.below g1)
    clear g1
    have kx := K4.out.1.fifteen
    obtain ⟨x0, x1, x2, x3, x4, x5, x6, x7, x8, x9, x10, x11, x12, x13, x14, xf⟩ := kx
    go_wp2_with fail
    refine (HN'.out _).mono ?_
    rintro e w5 ⟨rfl, g1⟩
    clear x0 x1 x2 x3 x4 x5 x6 x7 x8 x9 x10 x11 x12 x13 x14 xf
    have K5 := Lib.hid (K4.out.below g1)
    clear g1
    have kx := K5.out.1.fifteen
    obtain ⟨x0, x1, x2, x3, x4, x5, x6, x7, x8, x9, x10, x11, x12, x13, x14, xf⟩ := kx
    go_wp2_with fail
    go_ret
    exact ⟨rfl, K5.out.2⟩
set_option maxRecDepth 100000 in
set_option maxHeartbeats 8000000 in
theorem l6Text_100 (d l f s o n x c k a t c' k' a' t' : Int) (F O X G J G' : ByteArray) (w : World) (sF : F.size ≤ 40) (sO : O.size ≤ 19) (sX : X.size ≤ 6) (e0 : (0 : Int) < o) (sG : G.size ≤ 29) (sJ : J.size ≤ 9) (sG' : G'.size ≤ 29) (hF : ∀ W, Calls Tryd.prog 126 #[.agg #[.int .i64 d, .int .i64 l, .int .i64 f, .int .i64 s]] W fun e w' => e = .returned (.string F) ∧ Below W.heap.size W w') (hO : ∀ W, Calls Tryd.prog 84 #[.int .i64 o, .int .i64 n] W fun e w' => e = .returned (.string O) ∧ Below W.heap.size W w') (hX : ∀ W, Calls Tryd.prog 85 #[.int .i64 x] W fun e w' => e = .returned (.string X) ∧ Below W.heap.size W w') (hN : ∀ W, Calls Tryd.prog 97 #[.agg #[.int .i64 c, .int .i64 k, .int .i64 a, .int .i64 t]] W fun e w' => e = .returned (.bool false) ∧ Below W.heap.size W w') (hG : ∀ W, Calls Tryd.prog 127 #[.agg #[.int .i64 c, .int .i64 k, .int .i64 a, .int .i64 t]] W fun e w' => e = .returned (.string G) ∧ Below W.heap.size W w') (hN' : ∀ W, Calls Tryd.prog 97 #[.agg #[.int .i64 c', .int .i64 k', .int .i64 a', .int .i64 t']] W fun e w' => e = .returned (.bool false) ∧ Below W.heap.size W w') (hJ : ∀ W, Calls Tryd.prog 128 #[.int .i64 o] W fun e w' => e = .returned (.string J) ∧ W = w') (hG' : ∀ W, Calls Tryd.prog 127 #[.agg #[.int .i64 c', .int .i64 k', .int .i64 a', .int .i64 t']] W fun e w' => e = .returned (.string G') ∧ Below W.heap.size W w') :
    Calls Tryd.prog 71 #[.agg #[.int .i64 d, .int .i64 l, .int .i64 f, .int .i64 s, .int .i64 o, .int .i64 n, .int .i64 x, .int .i64 c, .int .i64 k, .int .i64 a, .int .i64 t, .int .i64 c', .int .i64 k', .int .i64 a', .int .i64 t']] w fun e w' => e = .returned (.string (F ++ ⟨#[44, 32]⟩ ++ O ++ ⟨#[32]⟩ ++ X ++ ⟨#[32, 99, 104, 97, 114, 103, 101, 100, 32, 119, 105, 116, 104, 32]⟩ ++ G ++ J ++ G')) ∧ Below w.heap.size w w' := by
  have n0 : ¬ 9223372036854775807 < F.size + 2 := by omega
  have n1 : ¬ 9223372036854775807 < F.size + 2 + O.size := by omega
  have n2 : ¬ 9223372036854775807 < F.size + 2 + O.size + 1 := by omega
  have n3 : ¬ 9223372036854775807 < F.size + 2 + O.size + 1 + X.size := by omega
  have n4 : ¬ 9223372036854775807 < F.size + 2 + O.size + 1 + X.size + 14 := by omega
  have n5 : ¬ 9223372036854775807 < F.size + 2 + O.size + 1 + X.size + 14 + G.size := by omega
  have n6 : ¬ 9223372036854775807 < F.size + 2 + O.size + 1 + X.size + 14 + G.size + J.size := by omega
  have n7 : ¬ 9223372036854775807 < F.size + 2 + O.size + 1 + X.size + 14 + G.size + J.size + G'.size := by omega
  have K0 := Lib.hid (AK.new w [.int .i64 d, .int .i64 l, .int .i64 f, .int .i64 s, .int .i64 o, .int .i64 n, .int .i64 x, .int .i64 c, .int .i64 k, .int .i64 a, .int .i64 t, .int .i64 c', .int .i64 k', .int .i64 a', .int .i64 t'])
  have HF := Lib.hid hF
  have HO := Lib.hid hO
  have HX := Lib.hid hX
  have HN := Lib.hid hN
  have HG := Lib.hid hG
  have HN' := Lib.hid hN'
  have HJ := Lib.hid hJ
  have HG' := Lib.hid hG'
  clear hF hO hX hN hG hN' hJ hG'
  have kx := K0.out.1.fifteen
  obtain ⟨x0, x1, x2, x3, x4, x5, x6, x7, x8, x9, x10, x11, x12, x13, x14, xf⟩ := kx
  go_enter Tryd.func71, Tryd.ntmps71
  go_wp2_with fail
  refine (HF.out _).mono ?_
  rintro e w1 ⟨rfl, g1⟩
  clear x0 x1 x2 x3 x4 x5 x6 x7 x8 x9 x10 x11 x12 x13 x14 xf
  have K1 := Lib.hid (K0.out.below g1)
  clear g1
  have kx := K1.out.1.fifteen
  obtain ⟨x0, x1, x2, x3, x4, x5, x6, x7, x8, x9, x10, x11, x12, x13, x14, xf⟩ := kx
  go_wp2_with fail
  clear x0 x1 x2 x3 x4 x5 x6 x7 x8 x9 x10 x11 x12 x13 x14 xf
  have KD := Lib.hid (K1.out.drew)
  have q_ : ∀ W, AK w [.int .i64 d, .int .i64 l, .int .i64 f, .int .i64 s, .int .i64 o, .int .i64 n, .int .i64 x, .int .i64 c, .int .i64 k, .int .i64 a, .int .i64 t, .int .i64 c', .int .i64 k', .int .i64 a', .int .i64 t'] W → W.cell? ⟨w.heap.size, 4, none⟩ = some (.int .i64 o) ∧ W.cell? ⟨w.heap.size, 5, none⟩ = some (.int .i64 n) ∧ W.cell? ⟨w.heap.size, 6, none⟩ = some (.int .i64 x) ∧ AK w [.int .i64 d, .int .i64 l, .int .i64 f, .int .i64 s, .int .i64 o, .int .i64 n, .int .i64 x, .int .i64 c, .int .i64 k, .int .i64 a, .int .i64 t, .int .i64 c', .int .i64 k', .int .i64 a', .int .i64 t'] W := fun W h => ⟨h.1.at 4, h.1.at 5, h.1.at 6, h⟩
  have HS0 := q_ _ KD.out
  have HOK := Lib.hid (fun W (h : W.cell? ⟨w.heap.size, 4, none⟩ = some (.int .i64 o) ∧ W.cell? ⟨w.heap.size, 5, none⟩ = some (.int .i64 n) ∧ W.cell? ⟨w.heap.size, 6, none⟩ = some (.int .i64 x) ∧ AK w [.int .i64 d, .int .i64 l, .int .i64 f, .int .i64 s, .int .i64 o, .int .i64 n, .int .i64 x, .int .i64 c, .int .i64 k, .int .i64 a, .int .i64 t, .int .i64 c', .int .i64 k', .int .i64 a', .int .i64 t'] W) => (HO.out W).mono (fun e w' hh => And.intro hh.1 (q_ _ (AK.below h.2.2.2 hh.2))))
  have HXK := Lib.hid (fun W (h : W.cell? ⟨w.heap.size, 4, none⟩ = some (.int .i64 o) ∧ W.cell? ⟨w.heap.size, 5, none⟩ = some (.int .i64 n) ∧ W.cell? ⟨w.heap.size, 6, none⟩ = some (.int .i64 x) ∧ AK w [.int .i64 d, .int .i64 l, .int .i64 f, .int .i64 s, .int .i64 o, .int .i64 n, .int .i64 x, .int .i64 c, .int .i64 k, .int .i64 a, .int .i64 t, .int .i64 c', .int .i64 k', .int .i64 a', .int .i64 t'] W) => (HX.out W).mono (fun e w' hh => And.intro hh.1 (q_ _ (AK.below h.2.2.2 hh.2))))
  clear q_
  go_region_held3 (fun w' => w'.cell? ⟨w.heap.size, 4, none⟩ = some (.int .i64 o) ∧ w'.cell? ⟨w.heap.size, 5, none⟩ = some (.int .i64 n) ∧ w'.cell? ⟨w.heap.size, 6, none⟩ = some (.int .i64 x) ∧ AK w [.int .i64 d, .int .i64 l, .int .i64 f, .int .i64 s, .int .i64 o, .int .i64 n, .int .i64 x, .int .i64 c, .int .i64 k, .int .i64 a, .int .i64 t, .int .i64 c', .int .i64 k', .int .i64 a', .int .i64 t'] w')
    (first | go_keep | exact HS0 | exact ⟨h0, h1, h2, hh⟩ | exact ⟨k0, k1, k2, kk⟩)
    (first
      | (go_at_call 84; (with_reducible refine (HOK.out _ ?_).mono ?_); (first | assumption | simp [*]); rintro e whh ⟨rfl, h0, h1, h2, hh⟩)
      | (go_at_call 85; (with_reducible refine (HXK.out _ ?_).mono ?_); (first | assumption | simp [*]); rintro e wkk ⟨rfl, k0, k1, k2, kk⟩))
  all_goals
    rename_i hlast
    have K2 := Lib.hid hlast.2.2.2
    have kx := K2.out.1.fifteen
    obtain ⟨x0, x1, x2, x3, x4, x5, x6, x7, x8, x9, x10, x11, x12, x13, x14, xf⟩ := kx
    go_wp2_with fail
    refine (HN.out _).mono ?_
    rintro e w3 ⟨rfl, g1⟩
    clear x0 x1 x2 x3 x4 x5 x6 x7 x8 x9 x10 x11 x12 x13 x14 xf
    have K3 := Lib.hid (K2.out.below g1)
    clear g1
    have kx := K3.out.1.fifteen
    obtain ⟨x0, x1, x2, x3, x4, x5, x6, x7, x8, x9, x10, x11, x12, x13, x14, xf⟩ := kx
    go_wp2_with fail
    refine (HG.out _).mono ?_
    rintro e w4 ⟨rfl, g1⟩
    clear x0 x1 x2 x3 x4 x5 x6 x7 x8 x9 x10 x11 x12 x13 x14 xf
    have K4 := Lib.hid (K3.out.below g1)
    clear g1
    have kx := K4.out.1.fifteen
    obtain ⟨x0, x1, x2, x3, x4, x5, x6, x7, x8, x9, x10, x11, x12, x13, x14, xf⟩ := kx
    go_wp2_with fail
    refine (HN'.out _).mono ?_
    rintro e w5 ⟨rfl, g1⟩
    clear x0 x1 x2 x3 x4 x5 x6 x7 x8 x9 x10 x11 x12 x13 x14 xf
    have K5 := Lib.hid (K4.out.below g1)
    clear g1
    have kx := K5.out.1.fifteen
    obtain ⟨x0, x1, x2, x3, x4, x5, x6, x7, x8, x9, x10, x11, x12, x13, x14, xf⟩ := kx
    go_wp2_with fail
    clear x0 x1 x2 x3 x4 x5 x6 x7 x8 x9 x10 x11 x12 x13 x14 xf
    have KD := Lib.hid (K5.out.drew)
    have q_ : ∀ W, AK w [.int .i64 d, .int .i64 l, .int .i64 f, .int .i64 s, .int .i64 o, .int .i64 n, .int .i64 x, .int .i64 c, .int .i64 k, .int .i64 a, .int .i64 t, .int .i64 c', .int .i64 k', .int .i64 a', .int .i64 t'] W → W.cell? ⟨w.heap.size, 4, none⟩ = some (.int .i64 o) ∧ W.cell? ⟨w.heap.size, 11, none⟩ = some (.int .i64 c') ∧ W.cell? ⟨w.heap.size, 12, none⟩ = some (.int .i64 k') ∧ W.cell? ⟨w.heap.size, 13, none⟩ = some (.int .i64 a') ∧ W.cell? ⟨w.heap.size, 14, none⟩ = some (.int .i64 t') ∧ AK w [.int .i64 d, .int .i64 l, .int .i64 f, .int .i64 s, .int .i64 o, .int .i64 n, .int .i64 x, .int .i64 c, .int .i64 k, .int .i64 a, .int .i64 t, .int .i64 c', .int .i64 k', .int .i64 a', .int .i64 t'] W := fun W h => ⟨h.1.at 4, h.1.at 11, h.1.at 12, h.1.at 13, h.1.at 14, h⟩
    have HS0 := q_ _ KD.out
    have HJK := Lib.hid (fun W (h : W.cell? ⟨w.heap.size, 4, none⟩ = some (.int .i64 o) ∧ W.cell? ⟨w.heap.size, 11, none⟩ = some (.int .i64 c') ∧ W.cell? ⟨w.heap.size, 12, none⟩ = some (.int .i64 k') ∧ W.cell? ⟨w.heap.size, 13, none⟩ = some (.int .i64 a') ∧ W.cell? ⟨w.heap.size, 14, none⟩ = some (.int .i64 t') ∧ AK w [.int .i64 d, .int .i64 l, .int .i64 f, .int .i64 s, .int .i64 o, .int .i64 n, .int .i64 x, .int .i64 c, .int .i64 k, .int .i64 a, .int .i64 t, .int .i64 c', .int .i64 k', .int .i64 a', .int .i64 t'] W) => (HJ.out W).mono (fun e w' hh => And.intro hh.1 (hh.2 ▸ h)))
    have HG_K := Lib.hid (fun W (h : W.cell? ⟨w.heap.size, 4, none⟩ = some (.int .i64 o) ∧ W.cell? ⟨w.heap.size, 11, none⟩ = some (.int .i64 c') ∧ W.cell? ⟨w.heap.size, 12, none⟩ = some (.int .i64 k') ∧ W.cell? ⟨w.heap.size, 13, none⟩ = some (.int .i64 a') ∧ W.cell? ⟨w.heap.size, 14, none⟩ = some (.int .i64 t') ∧ AK w [.int .i64 d, .int .i64 l, .int .i64 f, .int .i64 s, .int .i64 o, .int .i64 n, .int .i64 x, .int .i64 c, .int .i64 k, .int .i64 a, .int .i64 t, .int .i64 c', .int .i64 k', .int .i64 a', .int .i64 t'] W) => (HG'.out W).mono (fun e w' hh => And.intro hh.1 (q_ _ (AK.below h.2.2.2.2.2 hh.2))))
    clear q_
    go_region_held3 (fun w' => w'.cell? ⟨w.heap.size, 4, none⟩ = some (.int .i64 o) ∧ w'.cell? ⟨w.heap.size, 11, none⟩ = some (.int .i64 c') ∧ w'.cell? ⟨w.heap.size, 12, none⟩ = some (.int .i64 k') ∧ w'.cell? ⟨w.heap.size, 13, none⟩ = some (.int .i64 a') ∧ w'.cell? ⟨w.heap.size, 14, none⟩ = some (.int .i64 t') ∧ AK w [.int .i64 d, .int .i64 l, .int .i64 f, .int .i64 s, .int .i64 o, .int .i64 n, .int .i64 x, .int .i64 c, .int .i64 k, .int .i64 a, .int .i64 t, .int .i64 c', .int .i64 k', .int .i64 a', .int .i64 t'] w')
      (first | go_keep | exact HS0 | exact ⟨h0, h1, h2, h3, h4, hh⟩ | exact ⟨k0, k1, k2, k3, k4, kk⟩)
      (first
        | (go_at_call 128; (with_reducible refine (HJK.out _ ?_).mono ?_); (first | assumption | simp [*]); rintro e whh ⟨rfl, h0, h1, h2, h3, h4, hh⟩)
        | (go_at_call 127; (with_reducible refine (HG_K.out _ ?_).mono ?_); (first | assumption | simp [*]); rintro e wkk ⟨rfl, k0, k1, k2, k3, k4, kk⟩))
    all_goals
      rename_i hlast
      have K6 := Lib.hid hlast.2.2.2.2.2
      go_wp2_with fail
      go_ret
      exact ⟨rfl, K6.out.2⟩
set_option linter.unusedSimpArgs false in
theorem l6Text_any (d l f s o n x c k a t c' k' a' t' : Int) (w : World) (h : aOkB d l f s o n x c k a t c' k' a' t' = true) :
    Calls Tryd.prog 71 #[.agg #[.int .i64 d, .int .i64 l, .int .i64 f, .int .i64 s, .int .i64 o, .int .i64 n, .int .i64 x, .int .i64 c, .int .i64 k, .int .i64 a, .int .i64 t, .int .i64 c', .int .i64 k', .int .i64 a', .int .i64 t']] w fun e w' => e = .returned (.string (armsN d l f s o n x c k a t c' k' a' t')) ∧ Below w.heap.size w w' := by
  obtain ⟨hF, hA, hO⟩ := aOk_out h
  have cF := fun W => l3Text_valid d l f s W hF
  have sF := fN_size hF
  rcases hO with ⟨rfl, rfl, rfl, hg⟩ | ⟨ho, hn, hx, hg⟩
  · rcases hA with hA1 | ⟨hA1, hA2⟩
    · have q := l6Text_011 d l f s 0 0 c k a t c' k' a' t' (fN d l f s) w sF cF (fun W => l4None_any c k a t W true hg) (fun W => l4None_any c' k' a' t' W true hA1)
      unfold armsN
      simp only [if_neg (show ¬ (0 : Int) < 0 by omega), hg, hA1, Bool.false_eq_true, if_true, if_false]
      exact q
    · have q := l6Text_010 d l f s 0 0 c k a t c' k' a' t' (fN d l f s) (linkN 0) (gN c' k' a' t') w sF (linkN_size _) (gN_size hA2) cF (fun W => l4None_any c k a t W true hg) (fun W => l4None_any c' k' a' t' W false hA1) (fun W => l6Join_any _ W) (fun W => l4Text_int hA2 W)
      unfold armsN
      simp only [if_neg (show ¬ (0 : Int) < 0 by omega), hg, hA1, Bool.false_eq_true, if_true, if_false]
      exact q
  · rcases hg with hg1 | ⟨hg1, hg2⟩
    · rcases hA with hA1 | ⟨hA1, hA2⟩
      · have q := l6Text_111 d l f s o n x c k a t c' k' a' t' (fN d l f s) (oheadN o.toNat n.toNat) (wordN (x - 1).toNat) w sF (oheadN_size (by omega) (by omega)) (wordN_size (by omega)) (by omega) cF (fun W => l6Ordinary_int ho hn W) (fun W => l2Word_int hx W) (fun W => l4None_any c k a t W true hg1) (fun W => l4None_any c' k' a' t' W true hA1)
        unfold armsN
        simp only [if_pos (show (0 : Int) < o by omega), hg1, hA1, Bool.false_eq_true, if_true, if_false]
        unfold oN otextN
        simp only [← ByteArray.append_assoc] at q ⊢
        exact q
      · have q := l6Text_110 d l f s o n x c k a t c' k' a' t' (fN d l f s) (oheadN o.toNat n.toNat) (wordN (x - 1).toNat) (linkN o) (gN c' k' a' t') w sF (oheadN_size (by omega) (by omega)) (wordN_size (by omega)) (by omega) (linkN_size _) (gN_size hA2) cF (fun W => l6Ordinary_int ho hn W) (fun W => l2Word_int hx W) (fun W => l4None_any c k a t W true hg1) (fun W => l4None_any c' k' a' t' W false hA1) (fun W => l6Join_any _ W) (fun W => l4Text_int hA2 W)
        unfold armsN
        simp only [if_pos (show (0 : Int) < o by omega), hg1, hA1, Bool.false_eq_true, if_true, if_false]
        unfold oN otextN
        simp only [← ByteArray.append_assoc] at q ⊢
        exact q
    · rcases hA with hA1 | ⟨hA1, hA2⟩
      · have q := l6Text_101 d l f s o n x c k a t c' k' a' t' (fN d l f s) (oheadN o.toNat n.toNat) (wordN (x - 1).toNat) (gN c k a t) w sF (oheadN_size (by omega) (by omega)) (wordN_size (by omega)) (by omega) (gN_size hg2) cF (fun W => l6Ordinary_int ho hn W) (fun W => l2Word_int hx W) (fun W => l4None_any c k a t W false hg1) (fun W => l4Text_int hg2 W) (fun W => l4None_any c' k' a' t' W true hA1)
        unfold armsN
        simp only [if_pos (show (0 : Int) < o by omega), hg1, hA1, Bool.false_eq_true, if_true, if_false]
        unfold oN otextN
        simp only [← ByteArray.append_assoc] at q ⊢
        exact q
      · have q := l6Text_100 d l f s o n x c k a t c' k' a' t' (fN d l f s) (oheadN o.toNat n.toNat) (wordN (x - 1).toNat) (gN c k a t) (linkN o) (gN c' k' a' t') w sF (oheadN_size (by omega) (by omega)) (wordN_size (by omega)) (by omega) (gN_size hg2) (linkN_size _) (gN_size hA2) cF (fun W => l6Ordinary_int ho hn W) (fun W => l2Word_int hx W) (fun W => l4None_any c k a t W false hg1) (fun W => l4Text_int hg2 W) (fun W => l4None_any c' k' a' t' W false hA1) (fun W => l6Join_any _ W) (fun W => l4Text_int hA2 W)
        unfold armsN
        simp only [if_pos (show (0 : Int) < o by omega), hg1, hA1, Bool.false_eq_true, if_true, if_false]
        unfold oN otextN
        simp only [← ByteArray.append_assoc] at q ⊢
        exact q
end Go.Proofs.YtgoelkgdjnhklaaDoor
