/- Contracts: the model's parts, swapping, plain fields, differences and same parts. -/
import Derived.Test.YtmogabnngphfgaaFields
import Derived.Test.YtmogabnngphfgaaLists
namespace Go.Proofs.Ytmogabnngphfgaa
open Go.RowKit

def partL (d f s : Int) : List Int := if d = 0 then [f] else if d ≤ 3 then [f, s] else if d ≤ 5 then [f, s, s, f] else [f, s, f, s, f, s]
theorem partL_len (d f s : Int) : (partL d f s).length ≤ 6 := by unfold partL; split; simp; split; simp; split <;> simp
theorem ansL_at {w W : World} {n : Nat} (X : List Int) (hX : X.length ≤ 1000) (hb : Below w.heap.size w W) (hn : n = W.heap.size) : AnsL w X (.returned (.slice (some ⟨n, 0, none⟩) X.length X.length)) (W.alloc (.cells (X.map (Value.int .i64)).toArray 3 (0, 0))) := by
  subst hn; exact ansL_below (ansL_lit W X hX) hb
theorem ans_at {w W : World} {n : Nat} (ok : Bool) (X : List Int) (hX : X.length ≤ 1000) (hb : Below w.heap.size w W) (hn : n = W.heap.size) : Ans w X ok (.returned (.tuple #[.slice (some ⟨n, 0, none⟩) X.length X.length, .bool ok])) (W.alloc (.cells (X.map (Value.int .i64)).toArray 3 (0, 0))) := by
  subst hn; exact ans_below (ans_lit W ok X hX) hb
set_option maxHeartbeats 1000000 in
theorem l3Parts_any (d l f s : Int) (w : World) (h0 : 0 ≤ d) (h7 : d ≤ 7) :
    Calls Try.prog 41 #[.agg #[.int .i64 d, .int .i64 l, .int .i64 f, .int .i64 s]] w (AnsL w (partL d f s)) := by
  rcases (show d = 0 ∨ d = 1 ∨ d = 2 ∨ d = 3 ∨ d = 4 ∨ d = 5 ∨ d = 6 ∨ d = 7 by omega) with rfl | rfl | rfl | rfl | rfl | rfl | rfl | rfl
  all_goals
    clear h0 h7
    go_enter Try.func41, Try.ntmps41
    go_wp2_with fail
    go_quiet (fail)
    go_wp2_with fail
    go_ret
    first
      | exact ansL_at [f] (by simp) (below_drewN' ((Below.refl _ w).alloc (Nat.le_refl _) _) _) (by simp)
      | exact ansL_at [f, s] (by simp) (below_drewN' ((Below.refl _ w).alloc (Nat.le_refl _) _) _) (by simp)
      | exact ansL_at [f, s, s, f] (by simp) (below_drewN' ((Below.refl _ w).alloc (Nat.le_refl _) _) _) (by simp)
      | exact ansL_at [f, s, f, s, f, s] (by simp) (below_drewN' ((Below.refl _ w).alloc (Nat.le_refl _) _) _) (by simp)
theorem fieldParts_spec (d l f s : Int) (w : World) (h : FOk d l f s) :
    Calls Try.prog 28 #[.agg #[.int .i64 d, .int .i64 l, .int .i64 f, .int .i64 s]] w (Ans w (partL d f s) true) := by
  have c := fun W => l3Good_yes d l f s W h
  have ct := fun W => l3Parts_any d l f s W h.1.1 h.1.2
  clear h
  go_enter Try.func28, Try.ntmps28
  go_wp2_with fail
  refine (c _).mono ?_
  rintro e w1 ⟨rfl, hb⟩
  obtain ⟨hc, hf⟩ := bcell hb
  have B := Lib.hid (((Below.refl _ w).alloc (Nat.le_refl _) _).trans (hb.mono (by simp)))
  clear hb c
  go_wp2_with fail
  refine (ct _).mono ?_
  rintro e w2 ⟨a, cap, rfl, ho, hb2⟩
  have HO := Lib.hid ho
  have HB2 := Lib.hid hb2
  clear ho hb2 ct hc hf
  go_wp2_with fail
  go_ret2
  exact ans_below ⟨a, cap, rfl, HO.out, HB2.out⟩ B.out
theorem fieldParts_spec_no (d l f s : Int) (w : World) (h : ¬ FOk d l f s) :
    Calls Try.prog 28 #[.agg #[.int .i64 d, .int .i64 l, .int .i64 f, .int .i64 s]] w (Ans w [] false) := by
  have c := fun W => l3Good_no d l f s W h
  clear h
  go_enter Try.func28, Try.ntmps28
  go_wp2_with fail
  refine (c _).mono ?_
  rintro e w1 ⟨rfl, hb⟩
  have B := Lib.hid (((Below.refl _ w).alloc (Nat.le_refl _) _).trans (hb.mono (by simp)))
  clear hb c
  go_wp2_with fail
  go_ret2
  exact ans_below (ans_lit _ false [] (by decide)) B.out
/-- The answer: this field and this boolean. -/
def AnsF (w : World) (d l f s : Int) (ok : Bool) (e : Ending) (w' : World) : Prop := e = .returned (.tuple #[.agg #[.int .i64 d, .int .i64 l, .int .i64 f, .int .i64 s], .bool ok]) ∧ Below w.heap.size w w'
theorem box2 {w w1 : World} {o o' : Obj} (hb : Below ((w.alloc o).alloc o').heap.size ((w.alloc o).alloc o') w1) : Below w.heap.size w w1 :=
  (((Below.refl w.heap.size w).alloc (Nat.le_refl _) o).alloc (by simp) o').trans (hb.mono (by simp; omega))
/-- Block b holds these cells. -/
def Box (w : World) (b : Nat) (L : List Value) : Prop := b < w.heap.size ∧ ∀ i v, L[i]? = some v → w.cell? ⟨b, i, none⟩ = some v
theorem Box.below {w w' : World} {b : Nat} {L : List Value} (h : Box w b L) (hb : Below w.heap.size w w') : Box w' b L :=
  ⟨Nat.lt_of_lt_of_le h.1 hb.size, fun i v hv => (hb.cell (p := ⟨b, i, none⟩) h.1).trans (h.2 i v hv)⟩
theorem Box.alloc {w : World} {b : Nat} {L : List Value} (h : Box w b L) (o : Obj) : Box (w.alloc o) b L := h.below ((Below.refl _ w).alloc (Nat.le_refl _) o)
theorem Box.new (w : World) (L : List Value) (t : TypeId) : Box (w.alloc (.cells L.toArray t (0, 0))) w.heap.size L := by
  refine ⟨by simp, fun i v hv => ?_⟩
  have e : (w.alloc (.cells L.toArray t (0, 0))).heap[w.heap.size]? = some (.cells L.toArray t (0, 0)) := by show (w.heap.push _)[w.heap.size]? = _; exact Array.getElem?_push_size
  simp only [World.cell?, e]
  simpa using hv
set_option maxHeartbeats 1000000 in
theorem swap_spec0 (d l f s : Int) (w : World) (h : FOk d l f s) (h0 : d = 0) :
    Calls Try.prog 23 #[.agg #[.int .i64 d, .int .i64 l, .int .i64 f, .int .i64 s]] w (AnsF w d l f s true) := by
  have c := fun W => l3Good_yes d l f s W h
  have e0 : (d == 0) = true := by rw [beq_iff_eq]; exact h0
  clear h0 h
  go_enter Try.func23, Try.ntmps23
  go_wp2_with fail
  refine (c _).mono ?_
  rintro e w1 ⟨rfl, hb⟩
  obtain ⟨hc, hf⟩ := bcell hb
  have hz := hb.size
  simp only [World.size_alloc] at hz
  have B := Lib.hid (box2 hb)
  clear hb c
  go_wp2_with fail
  exact bodyPost_ret (v := .tuple #[.agg #[.int .i64 d, .int .i64 l, .int .i64 f, .int .i64 s], .bool true]) (by simp [results, Try.results23, go_sem, hc]) rfl ⟨rfl, (((B.out.setCell (by simp) _).setCell (by simp) _).setCell (by simp) _).setCell (by simp) _⟩
set_option maxHeartbeats 1000000 in
theorem swap_spec1 (d l f s : Int) (w : World) (h : FOk d l f s) (h0 : d ≠ 0) :
    Calls Try.prog 23 #[.agg #[.int .i64 d, .int .i64 l, .int .i64 f, .int .i64 s]] w (AnsF w d l s f true) := by
  have c := fun W => l3Good_yes d l f s W h
  have e0 : (d == 0) = false := by rw [beq_eq_false_iff_ne]; exact h0
  clear h0 h
  go_enter Try.func23, Try.ntmps23
  go_wp2_with fail
  refine (c _).mono ?_
  rintro e w1 ⟨rfl, hb⟩
  obtain ⟨hc, hf⟩ := bcell hb
  have hz := hb.size
  simp only [World.size_alloc] at hz
  have B := Lib.hid (box2 hb)
  clear hb c
  go_wp2_with fail
  exact bodyPost_ret (v := .tuple #[.agg #[.int .i64 d, .int .i64 l, .int .i64 s, .int .i64 f], .bool true]) (by simp [results, Try.results23, go_sem, hc]) rfl ⟨rfl, (((B.out.setCell (by simp) _).setCell (by simp) _).setCell (by simp) _).setCell (by simp) _⟩
set_option maxHeartbeats 1000000 in
theorem swap_spec_no (d l f s : Int) (w : World) (h : ¬ FOk d l f s) :
    Calls Try.prog 23 #[.agg #[.int .i64 d, .int .i64 l, .int .i64 f, .int .i64 s]] w (AnsF w 0 0 0 0 false) := by
  have c := fun W => l3Good_no d l f s W h
  clear h
  go_enter Try.func23, Try.ntmps23
  go_wp2_with fail
  refine (c _).mono ?_
  rintro e w1 ⟨rfl, hb⟩
  obtain ⟨hc, hf⟩ := bcell hb
  have hz := hb.size
  simp only [World.size_alloc] at hz
  have B := Lib.hid (box2 hb)
  clear hb c
  go_wp2_with fail
  exact bodyPost_ret (v := .tuple #[.agg #[.int .i64 0, .int .i64 0, .int .i64 0, .int .i64 0], .bool false]) (by simp [results, Try.results23, go_sem, hc]) rfl ⟨rfl, (((B.out.setCell (by simp) _).setCell (by simp) _).setCell (by simp) _).setCell (by simp) _⟩
theorem plain_spec (x : Int) (w : World) (h0 : 1 ≤ x) (h1 : x ≤ 9) :
    Calls Try.prog 26 #[.int .i64 x] w (AnsF w 0 0 x 0 true) := by
  have c := fun W => l2Good_yes x W h0 h1
  clear h0 h1
  go_enter Try.func26, Try.ntmps26
  go_wp2_with fail
  refine (c _).mono ?_
  rintro e w1 ⟨rfl, rfl⟩
  go_wp2_with fail
  exact bodyPost_ret (v := .tuple #[.agg #[.int .i64 0, .int .i64 0, .int .i64 x, .int .i64 0], .bool true]) (by simp [results, Try.results26, go_sem]) rfl ⟨rfl, (Below.refl _ _).alloc (Nat.le_refl _) _⟩
theorem plain_spec_no (x : Int) (w : World) (h : x < 1 ∨ 9 < x) :
    Calls Try.prog 26 #[.int .i64 x] w (AnsF w 0 0 0 0 false) := by
  have c := fun W => l2Good_no x W h
  clear h
  go_enter Try.func26, Try.ntmps26
  go_wp2_with fail
  refine (c _).mono ?_
  rintro e w1 ⟨rfl, rfl⟩
  go_wp2_with fail
  exact bodyPost_ret (v := .tuple #[.agg #[.int .i64 0, .int .i64 0, .int .i64 0, .int .i64 0], .bool false]) (by simp [results, Try.results26, go_sem]) rfl ⟨rfl, (Below.refl _ _).alloc (Nat.le_refl _) _⟩
theorem take_same {X Y : List Int} {k : Nat} {x : Int} (hx : X[k]? = some x) (hy : Y[k]? = some x) (h : X.take k = Y.take k) : X.take (k + 1) = Y.take (k + 1) := by rw [take_succ' hx, take_succ' hy, h]
set_option maxHeartbeats 1000000 in
theorem l1Same_any (X Y : List Int) (n m : Nat) (a1 a2 : Option Addr) (c1 c2 : Nat) (w : World) (h1 : RdI w a1 n X) (h2 : RdI w a2 m Y) (hn : n ≤ 1048577) (hm : m ≤ 1048577) (r : Bool) (hr : decide (X = Y) = r) :
    Calls Try.prog 50 #[.slice a1 n c1, .slice a2 m c2] w fun e w' => e = .returned (.bool r) ∧ ∃ q, w' = w.drewN q := by
  have HR := Lib.hid hr
  by_cases hnm : n = m
  · subst hnm
    rcases Nat.eq_zero_or_pos n with h0 | h0
    · have HX := Lib.hid (show true = r by
        rw [← hr, List.eq_nil_of_length_eq_zero (show X.length = 0 by have := h1.1; omega), List.eq_nil_of_length_eq_zero (show Y.length = 0 by have := h2.1; omega)]; rfl)
      subst h0
      clear h1 h2 hr
      go_enter Try.func50, Try.ntmps50
      go_wp2
      refine wp_loop_rounds 1 ?_
      rw [rounds_succ]
      go_wp2
      go_ret
      exact ⟨ret_bool HX.out, 0, rfl⟩
    · obtain ⟨b1, o1, rfl, _, hc1⟩ := h1.2 h0
      obtain ⟨b2, o2, rfl, _, hc2⟩ := h2.2 h0
      have HL := Lib.hid h1.1
      have HL2 := Lib.hid h2.1
      clear h1 h2 hr
      have H1 := Lib.hid hc1
      have H2 := Lib.hid hc2
      clear hc1 hc2
      go_enter Try.func50, Try.ntmps50
      go_wp2
      go_loopw [5] (fun i wr => ∃ k q : Nat, k ≤ n ∧ i = .int .i64 k ∧ Hid (X.take k = Y.take k) ∧ wr = w.drewN q) (fun i _ => n - (intOf i).toNat)
      case atStart => exact ⟨0, 0, Nat.zero_le _, rfl, by show _ = _; rfl, rfl⟩
      case round =>
        obtain ⟨k, q, hk, rfl, HT, rfl⟩ := hrel
        by_cases hlt : k < n
        · obtain ⟨x, hx, _⟩ := atI_of_lt HL.out hlt
          obtain ⟨y, hy, _⟩ := atI_of_lt HL2.out hlt
          have g1 := rdI_at H1.out hlt hx
          have g2 := rdI_at H2.out hlt hy
          by_cases hxy : x = y
          · subst hxy
            have HT2 := Lib.hid (take_same hx hy HT.out)
            have e1 : (x != x) = false := by simp
            clear hx hy
            go_wp2
            go_quiet (fail)
            go_wp2
            go_roundw
            case rel => exact ⟨k + 1, _, by omega, by go_num, HT2, rfl⟩
            case measure => simp [intOf]; omega
          · have e1 : (x != y) = true := by rw [bne_iff_ne]; exact hxy
            have HF := Lib.hid (show false = r from (decide_eq_false (fun e => hxy (by rw [e, hy] at hx; exact (Option.some.inj hx).symm))).symm.trans HR.out)
            clear hx hy hxy
            go_wp2
            go_quiet (fail)
            go_wp2
            go_ret
            exact ⟨ret_bool HF.out, _, World.drewN_drewN ..⟩
        · have HF := Lib.hid (show true = r from (decide_eq_true (by
            have h3 := HT.out
            rw [List.take_of_length_le (by have := HL.out; omega), List.take_of_length_le (by have := HL2.out; omega)] at h3
            exact h3)).symm.trans HR.out)
          go_wp2
          go_ret
          exact ⟨ret_bool HF.out, q, rfl⟩
  · have HF := Lib.hid (show false = r from (decide_eq_false (fun e => hnm (by rw [← h1.1, ← h2.1, e]))).symm.trans hr)
    have e1 : ((n : Int) != (m : Int)) = true := by rw [bne_iff_ne]; omega
    clear h1 h2 hr
    go_enter Try.func50, Try.ntmps50
    go_wp2
    go_ret
    exact ⟨ret_bool HF.out, 0, rfl⟩
end Go.Proofs.Ytmogabnngphfgaa
