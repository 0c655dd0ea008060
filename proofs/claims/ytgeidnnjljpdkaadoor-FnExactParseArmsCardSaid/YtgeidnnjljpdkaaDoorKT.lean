/- Several small texts in one: GText3, GUnbare. -/
import Derived.Test.YtgeidnnjljpdkaaDoorK4
import Derived.Test.YtgeidnnjljpdkaaDoorKD
namespace Go.Proofs.YtgeidnnjljpdkaaDoor
open Go.RowKit

theorem l4Bare_any (c k a t : Int) (w : World) (h : gOkB c k a t = true ∨ (gOkB c k a 1 = true)) :
    Calls Tryd.prog 122 #[.agg #[.int .i64 c, .int .i64 k, .int .i64 a, .int .i64 t]] w fun e w' => e = .returned (.string (bareN c.toNat k.toNat a.toNat)) ∧ Below w.heap.size w w' := by
  have h1 : (1 ≤ c ∧ c ≤ 6) ∧ (1 ≤ k ∧ k ≤ 8) ∧ ((k ≤ 3 ∧ 1 ≤ a ∧ a ≤ 2) ∨ (3 < k ∧ a = 0)) := by
    rcases h with h | h
    · have := gOk_out h; exact ⟨this.1, this.2.1, this.2.2.2⟩
    · have := gOk_out h; exact ⟨this.1, this.2.1, this.2.2.2⟩
  obtain ⟨hc, hk, hka⟩ := h1
  obtain ⟨kk, rfl⟩ : ∃ kk : Nat, k = (kk : Int) := ⟨k.toNat, by omega⟩
  rw [show (kk : Int).toNat = kk by omega]
  rcases hka with ⟨h3, ha⟩ | ⟨h3, rfl⟩
  · obtain ⟨n, rfl⟩ : ∃ n : Nat, c = (n : Int) + 1 := ⟨(c - 1).toNat, by omega⟩
    obtain ⟨m, rfl⟩ : ∃ m : Nat, a = (m : Int) + 1 := ⟨(a - 1).toNat, by omega⟩
    rw [show ((n : Int) + 1).toNat = n + 1 by omega, show ((m : Int) + 1).toNat = m + 1 by omega]
    exact l4Bare_beast n kk m t w (by omega) (by omega) (by omega) (by omega)
  · obtain ⟨cc, rfl⟩ : ∃ cc : Nat, c = (cc : Int) := ⟨c.toNat, by omega⟩
    rw [show (cc : Int).toNat = cc by omega]
    exact l4Bare_plain cc kk t w (by omega) (by omega) (by omega) (by omega)
set_option maxHeartbeats 4000000 in
theorem l4Text_any (c k a : Int) (i : Nat) (w : World) (hi : i < 9) (h : gOkB c k a ((i : Int) + 1) = true) :
    Calls Tryd.prog 86 #[.agg #[.int .i64 c, .int .i64 k, .int .i64 a, .int .i64 ((i : Int) + 1)]] w fun e w' => e = .returned (.string (gtextN c.toNat k.toNat a.toNat i)) ∧ Below w.heap.size w w' := by
  have ca := fun W => l4Bare_any c k a ((i : Int) + 1) W (.inl h)
  have cb := fun W => l2Word_any i W hi
  have s1 : (bareN c.toNat k.toNat a.toNat).size ≤ 22 := by
    have := gOk_out h
    exact bareN_size (by omega) (by omega) (by omega) (by omega) (by omega) (by omega)
  have s2 := wordN_size hi
  unfold gtextN
  generalize bareN c.toNat k.toNat a.toNat = tB at *
  generalize wordN i = tI at *
  have keep : ∀ (W w1 : World), Below W.heap.size W w1 → W.cell? ⟨w.heap.size, 3, none⟩ = some (.int .i64 ((i : Int) + 1)) ∧ Below w.heap.size w W → w1.cell? ⟨w.heap.size, 3, none⟩ = some (.int .i64 ((i : Int) + 1)) ∧ Below w.heap.size w w1 := fun W w1 hb h =>
    ⟨(hb.cell (p := ⟨w.heap.size, 3, none⟩) (World.block_lt_of_cell? W _ h.1)).trans h.1, h.2.trans (hb.mono h.2.size)⟩
  have CA := Lib.hid (fun W h => (ca W).mono (fun e w' (hh : e = Ending.returned (.string tB) ∧ Below W.heap.size W w') => (⟨hh.1, keep W w' hh.2 h⟩ : e = Ending.returned (.string tB) ∧ _)))
  have CB := Lib.hid (fun W h => (cb W).mono (fun e w' (hh : e = Ending.returned (.string tI) ∧ Below W.heap.size W w') => (⟨hh.1, keep W w' hh.2 h⟩ : e = Ending.returned (.string tI) ∧ _)))
  clear ca cb keep h
  have n1 : ¬ 9223372036854775807 < tB.size + 1 := by omega
  have n2 : ¬ 9223372036854775807 < tB.size + 1 + tI.size := by omega
  have gB := ((Below.refl w.heap.size w).alloc (Nat.le_refl _) (.cells #[.int .i64 c, .int .i64 k, .int .i64 a, .int .i64 ((i : Int) + 1)] 35 (0, 0))).drew
  go_enter Tryd.func86, Tryd.ntmps86
  go_wp2_with fail
  go_region_with (first
    | (go_at_call 122; (refine (CA.out ((w.alloc (.cells #[.int .i64 c, .int .i64 k, .int .i64 a, .int .i64 ((i : Int) + 1)] 35 (0, 0))).drew) ⟨by show (w.alloc _).cell? _ = _; simp, gB⟩).mono ?_); rintro e w1 ⟨rfl, h3, hb⟩)
    | (go_at_call 66; (refine (CB.out _ ⟨h3, hb⟩).mono ?_); rintro e w2 ⟨rfl, k3, kb⟩))
  all_goals
    clear CA CB
    go_wp2_with fail
    go_ret
    exact ⟨rfl, kb⟩
end Go.Proofs.YtgeidnnjljpdkaaDoor
namespace Go.Proofs.YtgeidnnjljpdkaaDoor
open Go.RowKit Go.Lib

/-- What the rounds keep: the result's box, and all that was there. -/
def UK (w W : World) : Prop := BoxF W w.heap.size [.int .i64 0, .int .i64 0, .int .i64 0, .int .i64 0] 35 ∧ Below w.heap.size w W
theorem UK.below {w W W' : World} (h : UK w W) (hb : Below W.heap.size W W') : UK w W' := ⟨h.1.below hb, h.2.trans (hb.mono h.2.size)⟩
/-- Is this the group? -/
def HitG (s : ByteArray) (c k a : Nat) : Prop := gOkB (c : Int) (k : Int) (a : Int) 1 = true ∧ bareN c k a = s
def UAns (w : World) (ct kt at_ : Nat) (e : Ending) (w' : World) : Prop := if ct < 7 then AnsF w ct kt at_ 1 true e w' else AnsF w 0 0 0 0 false e w'
theorem uAns_hit {w w' : World} {ct kt at_ : Nat} {e : Ending} (hd : ct < 7) (h : AnsF w ct kt at_ 1 true e w') : UAns w ct kt at_ e w' := by unfold UAns; rw [if_pos hd]; exact h
theorem uAns_miss {w w' : World} {ct kt at_ : Nat} {e : Ending} (hd : ¬ ct < 7) (h : AnsF w 0 0 0 0 false e w') : UAns w ct kt at_ e w' := by unfold UAns; rw [if_neg hd]; exact h
set_option maxRecDepth 100000 in
set_option maxHeartbeats 8000000 in
theorem l4Unbare_loop (s : ByteArray) (ct kt at_ : Nat) (hc1 : 1 ≤ ct) (hk1 : 1 ≤ kt) (hk8 : kt ≤ 8) (ha2 : at_ ≤ 2) (hT : ∀ c k a, 1 ≤ c → c < 7 → 1 ≤ k → k < 9 → a < 3 → (HitG s c k a ↔ (c = ct ∧ k = kt ∧ a = at_))) (w : World) :
    Calls Tryd.prog 141 #[.string s] w (UAns w ct kt at_) := by
  have HT := Lib.hid hT
  clear hT
  have u0 : UK w (w.alloc (.cells #[.int .i64 0, .int .i64 0, .int .i64 0, .int .i64 0] 35 (0, 0))) := ⟨BoxF.new w [.int .i64 0, .int .i64 0, .int .i64 0, .int .i64 0] 35, (Below.refl _ _).alloc (Nat.le_refl _) _⟩
  have HU := Lib.hid u0
  clear u0
  go_enter Tryd.func141, Tryd.ntmps141
  go_wp2_with fail
  go_loopw [4] (fun x wr => ∃ c : Nat, 1 ≤ c ∧ c ≤ 7 ∧ c ≤ ct ∧ x = .int .i64 c ∧ Hid (UK w wr)) (fun x _ => 8 - (intOf x).toNat)
  case atStart => exact ⟨1, by omega, by omega, hc1, rfl, HU⟩
  case round =>
    obtain ⟨c, hc1', hc7, hct, rfl, HK⟩ := hrel
    clear HU
    by_cases hlt : c < 7
    · have e9 : decide ((c : Int) ≤ 6) = true := decide_eq_true (by omega)
      go_wp2_with fail
      go_loopw [5] (fun x wr => ∃ k : Nat, 1 ≤ k ∧ k ≤ 9 ∧ (c < ct ∨ k ≤ kt) ∧ x = .int .i64 k ∧ Hid (UK w wr)) (fun x _ => 10 - (intOf x).toNat)
      case atStart => exact ⟨1, by omega, by omega, by omega, rfl, HK⟩
      case round =>
        obtain ⟨k, hk1', hk9, hkt, rfl, HK2⟩ := hrel
        clear HK
        by_cases hklt : k < 9
        · have e13 : decide ((k : Int) ≤ 8) = true := decide_eq_true (by omega)
          go_wp2_with fail
          go_loopw [6] (fun x wr => ∃ a : Nat, a ≤ 3 ∧ (c < ct ∨ k < kt ∨ a ≤ at_) ∧ x = .int .i64 a ∧ Hid (UK w wr)) (fun x _ => 3 - (intOf x).toNat)
          case atStart => exact ⟨0, by omega, by omega, rfl, HK2⟩
          case round =>
            clear HK2
            obtain ⟨a, ha3, hat, rfl, HM⟩ := hrel
            by_cases hal : a < 3
            · have X1 := Lib.hid (BoxF.new wr [.int .i64 (c : Int), .int .i64 (k : Int), .int .i64 (a : Int), .int .i64 1] 35)
              have P1 := Lib.hid (HM.out.below ((Below.refl _ wr).alloc (Nat.le_refl _) (.cells #[.int .i64 (c : Int), .int .i64 (k : Int), .int .i64 (a : Int), .int .i64 1] 35 (0, 0))))
              have e17 : decide ((a : Int) ≤ 2) = true := decide_eq_true (by omega)
              obtain ⟨g, hg⟩ : ∃ g, gOkB (c : Int) (k : Int) (a : Int) 1 = g := ⟨_, rfl⟩
              have cg := fun W => l4Group_any (c : Int) (k : Int) (a : Int) 1 W g hg
              have CG := Lib.hid cg
              clear cg
              cases g
              · have hno := Lib.hid (show ¬ (c = ct ∧ k = kt ∧ a = at_) from fun e => by
                  have := ((HT.out c k a hc1' hlt hk1' hklt hal).2 e).1
                  rw [hg] at this
                  cases this)
                clear hg
                go_wp2_with fail
                refine (CG.out _).mono ?_
                rintro e w5 ⟨rfl, hb5⟩
                have P5 := Lib.hid (P1.out.below hb5)
                clear hb5 X1 P1 CG
                go_wp2_with fail
                go_roundw
                case rel => exact ⟨a + 1, by omega, by have := hno.out; omega, by go_num, P5⟩
                case measure => simp [intOf]; omega
              · have cb := fun W => l4Bare_any (c : Int) (k : Int) (a : Int) 1 W (.inl hg)
                rw [show (c : Int).toNat = c by omega, show (k : Int).toNat = k by omega, show (a : Int).toNat = a by omega] at cb
                by_cases hts : bareN c k a = s
                · have he := (HT.out c k a hc1' hlt hk1' hklt hal).1 ⟨hg, hts⟩
                  rw [hts] at cb
                  have CB := Lib.hid cb
                  have HE := Lib.hid he
                  clear cb hts hg he
                  go_wp2_with fail
                  refine (CG.out _).mono ?_
                  rintro e w5 ⟨rfl, hb5⟩
                  have X5 := Lib.hid (X1.out.below hb5)
                  have P5 := Lib.hid (P1.out.below hb5)
                  obtain ⟨y0, y1, y2, y3, yf⟩ := X5.out.four
                  clear hb5 X1 P1
                  go_wp2_with fail
                  refine (CB.out _).mono ?_
                  rintro e w6 ⟨rfl, hb6⟩
                  have X6 := X5.out.below hb6
                  have P6 := Lib.hid (P5.out.below hb6)
                  clear hb6 y0 y1 y2 y3 yf X5 P5
                  obtain ⟨y0, y1, y2, y3, yf⟩ := X6.four
                  obtain ⟨r0, r1, r2, r3, rf⟩ := P6.out.1.four
                  clear X6
                  go_wp2_with fail
                  refine bodyPost_ret (v := .tuple #[.agg #[.int .i64 (c : Int), .int .i64 (k : Int), .int .i64 (a : Int), .int .i64 1], .bool true]) (by simp [results, Tryd.results141, go_sem, r0, r1, r2, r3]) rfl ?_
                  obtain ⟨rfl, rfl, rfl⟩ := HE.out
                  exact uAns_hit hlt ⟨rfl, P6.out.2.grown (grown4 w6 w.heap.size _ _ _ _) P6.out.2.size (fun k hk => by cases hk; exact Nat.le_refl _)⟩
                · have hno := Lib.hid (show ¬ (c = ct ∧ k = kt ∧ a = at_) from fun e => hts ((HT.out c k a hc1' hlt hk1' hklt hal).2 e).2)
                  have hne := str_ne hts
                  generalize bareN c k a = t at *
                  have CB := Lib.hid cb
                  clear cb hts hg
                  go_wp2_with fail
                  refine (CG.out _).mono ?_
                  rintro e w5 ⟨rfl, hb5⟩
                  have X5 := Lib.hid (X1.out.below hb5)
                  have P5 := Lib.hid (P1.out.below hb5)
                  obtain ⟨y0, y1, y2, y3, yf⟩ := X5.out.four
                  clear hb5 X1 P1
                  go_wp2_with fail
                  refine (CB.out _).mono ?_
                  rintro e w6 ⟨rfl, hb6⟩
                  have P6 := Lib.hid (P5.out.below hb6)
                  clear hb6 y0 y1 y2 y3 yf X5 P5
                  go_wp2_with fail
                  go_roundw
                  case rel => exact ⟨a + 1, by omega, by have := hno.out; omega, by go_num, P6⟩
                  case measure => simp [intOf]; omega
            · have hk' : c < ct ∨ k < kt := by omega
              obtain rfl : a = 3 := by omega
              go_wp2_with fail
              go_roundw
              case rel => exact ⟨k + 1, by omega, by omega, by omega, by go_num, HM⟩
              case measure => simp [intOf]; omega
        · have hc' : c < ct := by omega
          obtain rfl : k = 9 := by omega
          go_wp2_with fail
          go_roundw
          case rel => exact ⟨c + 1, by omega, by omega, by omega, by go_num, HK2⟩
          case measure => simp [intOf]; omega
    · obtain rfl : c = 7 := by omega
      obtain ⟨r0, r1, r2, r3, rf⟩ := HK.out.1.four
      go_wp2_with fail
      refine bodyPost_ret (v := .tuple #[.agg #[.int .i64 0, .int .i64 0, .int .i64 0, .int .i64 0], .bool false]) (by simp [results, Tryd.results141, go_sem, r0, r1, r2, r3]) rfl ?_
      exact uAns_miss (by omega) ⟨rfl, HK.out.2.grown (grown4 wr w.heap.size _ _ _ _) HK.out.2.size (fun k hk => by cases hk; exact Nat.le_refl _)⟩
end Go.Proofs.YtgeidnnjljpdkaaDoor
