/- Contracts: the program's ParseInt and the model's l1Read, at every string. -/
import Derived.Test.YtacpacllpjddlaaDoorBase
import Derived.Test.YtacpacllpjddlaaDoorFmt
import Derived.Test.YtacpacllpjddlaaDoorPMath
import Derived.Deep.LoopGhost
import Derived.Tactics2
namespace Go.Proofs.YtacpacllpjddlaaDoor
open Go.RowKit


/-- Both answers, told by the numeral: a number whose numeral the string is, or none. -/
def PI (s : ByteArray) (e : Ending) : Prop :=
  (∃ n : Int, -999999 ≤ n ∧ n ≤ 999999 ∧ s = strOf (Lib.itoa n) ∧ e = .returned (.tuple #[.int .i64 n, .bool true])) ∨
  ((∀ n : Int, -999999 ≤ n → n ≤ 999999 → s ≠ strOf (Lib.itoa n)) ∧ e = .returned (.tuple #[.int .i64 0, .bool false]))

def RdIs (s : ByteArray) (k : Nat) (sg : Int) (n : Nat) : Prop :=
  (sg = 1 ∨ sg = -1) ∧ n < 10 ^ k ∧ rd true false 0 s.data.toList = rd (k == 0) (sg == -1) n (s.data.toList.drop k)

theorem rdis_minus {s : ByteArray} {z : Int} {m : Nat} (h : 0 < s.size) (hc : s[0].toNat = 45) (H : RdIs s 0 z m) : RdIs s 1 (-1) m := by
  obtain ⟨_, hm, hr⟩ := H
  refine ⟨.inr rfl, by simp at hm ⊢; omega, hr.trans ?_⟩
  rw [drop_cons s 0 h, rd, if_pos ⟨hc, rfl⟩]; rfl
theorem rdis_digit {s : ByteArray} {k m : Nat} {z : Int} (h : k < s.size) (h0 : 48 ≤ s[k].toNat) (h1 : s[k].toNat ≤ 57) (H : RdIs s k z m) :
    RdIs s (k + 1) z (10 * m + (s[k].toNat - 48)) := by
  obtain ⟨hz, hm, hr⟩ := H
  refine ⟨hz, by rw [Nat.pow_succ]; omega, hr.trans ?_⟩
  rw [drop_cons s k h, rd, if_neg (by omega), if_pos ⟨h0, h1⟩]; rfl
theorem rdis_stop {s : ByteArray} {k m : Nat} {z : Int} (h : k < s.size) (hn : ¬ (s[k].toNat = 45 ∧ k = 0)) (hd : ¬ (48 ≤ s[k].toNat ∧ s[k].toNat ≤ 57)) (H : RdIs s k z m) :
    (z = 1 ∨ z = -1) ∧ rd true false 0 s.data.toList = (m, z == -1) := by
  obtain ⟨hz, _, hr⟩ := H
  refine ⟨hz, hr.trans ?_⟩
  rw [drop_cons s k h, rd, if_neg (by simpa using hn), if_neg hd]
theorem rdis_end {s : ByteArray} {k m : Nat} {z : Int} (h : k = s.size) (H : RdIs s k z m) : (z = 1 ∨ z = -1) ∧ rd true false 0 s.data.toList = (m, z == -1) := by
  obtain ⟨hz, _, hr⟩ := H
  refine ⟨hz, hr.trans ?_⟩
  rw [List.drop_eq_nil_of_le (by simp; omega)]; rfl
/-- What the digits and the sign say of the numeral that the string may be. -/
theorem only_itoa {s : ByteArray} {m : Nat} {z : Int} (H : (z = 1 ∨ z = -1) ∧ rd true false 0 s.data.toList = (m, z == -1)) (n : Int) (e : s = strOf (Lib.itoa n)) : n = m * z := by
  obtain ⟨hz, hr⟩ := H
  have h1 := valP_itoa n
  have e1 : s.data.toList = Lib.itoa n := by rw [e]; rfl
  rw [← e1, hr] at h1
  rcases hz with rfl | rfl
  · simp [valP] at h1; omega
  · simp [valP] at h1; omega
theorem m_lt {s : ByteArray} {k m : Nat} {z : Int} (H : RdIs s k z m) (hk : k ≤ 7) : m < 10000000 := by
  have h := H.2.1
  have : 10 ^ k ≤ 10 ^ 7 := Nat.pow_le_pow_right (by omega) hk
  omega

set_option maxHeartbeats 1000000 in
theorem parseInt_impl (s : ByteArray) (w : World) (hs : s.size ≤ maxLen) (hT : Lib.TabIs Tryd.prog w "internal/strconv.uint64pow10" .u64 Lib.pow10Tab) :
    Calls Tryd.prog 13 #[.string s] w fun e w' => PI s e ∧ Below w.heap.size w w' := by
  unfold maxLen at hs
  by_cases h7 : (7 : Int) < (s.size : Int)
  · have hno : ∀ n : Int, -999999 ≤ n → n ≤ 999999 → s ≠ strOf (Lib.itoa n) := fun n h0 h1 e => by
      have := itoa_len n h0 h1
      rw [e, size_strOf] at h7; omega
    have H := Lib.hid hno
    clear hno hT
    go_enter Tryd.func13, Tryd.ntmps13
    go_wp2
    go_step3
    go_wp2
    rw [Exit.noGoto_ret]
    go_ret2
    exact ⟨.inr ⟨H.out, rfl⟩, Below.refl _ _⟩
  · have H := Lib.hid hT
    clear hT
    go_enter Tryd.func13, Tryd.ntmps13
    go_wp2_with fail
    go_step3
    go_wp2_with fail
    go_step3
    go_wp2_with fail
    go_loopg [4, 5, 15] s.size (fun g n sg i wr => ∃ (k m : Nat) (z : Int), k + g = s.size ∧ k ≤ 7 ∧ i = .int .i64 k ∧ n = .int .i64 m ∧ sg = .int .i64 z ∧ m < 10000000 ∧ Hid (RdIs s k z m) ∧ wr = w)
    case atStart => exact ⟨0, 0, 1, by omega, by omega, rfl, rfl, rfl, by omega, ⟨.inl rfl, by simp, rfl⟩, rfl⟩
    case round =>
      obtain ⟨k, m, z, hkg, hk7, rfl, rfl, rfl, hm, HR, rfl⟩ := hrel
      by_cases hlt : k < s.size
      · by_cases h45 : s[k].toNat = 45 ∧ k = 0
        · obtain ⟨h45a, rfl⟩ := h45
          have e1 : ((s[0].toNat : Int) == 45) = true := by simp [h45a]
          obtain ⟨g, rfl⟩ : ∃ g, gk = g + 1 := ⟨gk - 1, by omega⟩
          have HR1 : Hid (RdIs s 1 (-1) m) := rdis_minus hlt h45a HR.out
          clear h45a HR
          go_wp2
          go_roundg g
          case measure => omega
          case rel => exact ⟨1, m, -1, by omega, by omega, rfl, rfl, rfl, m_lt HR1.out (by omega), HR1, rfl⟩
        · by_cases hd : 48 ≤ s[k].toNat ∧ s[k].toNat ≤ 57
          · obtain ⟨hd1, hd2⟩ := hd
            obtain ⟨g, rfl⟩ : ∃ g, gk = g + 1 := ⟨gk - 1, by omega⟩
            have e1 : ((s[k].toNat : Int) == 45) = false := by simp; omega
            have e2 : decide ((48 : Int) ≤ (s[k].toNat : Int)) = true := by simp; omega
            have e3 : decide ((s[k].toNat : Int) ≤ 57) = true := by simp; omega
            have HR1 : Hid (RdIs s (k + 1) z (10 * m + (s[k].toNat - 48))) := rdis_digit hlt hd1 hd2 HR.out
            clear h45 HR
            go_wp2
            go_roundg g
            case measure => omega
            case rel => exact ⟨k + 1, _, z, by omega, by omega, by go_num, by go_num, rfl, m_lt HR1.out (by omega), HR1, rfl⟩
          · have HE : Hid ((z = 1 ∨ z = -1) ∧ rd true false 0 s.data.toList = (m, z == -1)) := rdis_stop hlt h45 hd HR.out
            have hcase : (((s[k].toNat : Int) == 45) = true ∧ ((k : Int) == 0) = false ∧ decide ((48 : Int) ≤ (s[k].toNat : Int)) = false) ∨
                (((s[k].toNat : Int) == 45) = false ∧ decide ((48 : Int) ≤ (s[k].toNat : Int)) = false) ∨
                (((s[k].toNat : Int) == 45) = false ∧ decide ((48 : Int) ≤ (s[k].toNat : Int)) = true ∧ decide ((s[k].toNat : Int) ≤ 57) = false) := by
              simp; omega
            clear h45 hd HR
            rcases hcase with ⟨e1, e2, e3⟩ | ⟨e1, e3⟩ | ⟨e1, e2, e3⟩
            all_goals
              obtain ⟨M, hM⟩ : ∃ M, wrap64 ((m : Int) * z) = M := ⟨_, rfl⟩
              have hno : Hid (∀ n : Int, s = strOf (Lib.itoa n) → n = M) := fun n e => by
                have h1 := only_itoa HE.out n e
                have h2 : wrap64 ((m : Int) * z) = m * z := IntWalk.wrap64_in _ (by rcases HE.out.1 with h | h <;> subst h <;> omega)
                rw [h1, ← hM, h2]
              by_cases hr : -999999 ≤ M ∧ M ≤ 999999
              · obtain ⟨hr0, hr1⟩ := hr
                have c := formatInt_impl M wr hr0 hr1 H.out
                by_cases heq : strOf (Lib.itoa M) = s
                · have hb := str_eq heq
                  have Hq := Lib.hid heq
                  clear heq
                  go_wp2_with (go_at_call 10; refine c.mono ?_; rintro e w' ⟨rfl, hb1⟩)
                  rw [Exit.noGoto_ret]
                  go_ret2
                  exact ⟨.inl ⟨M, hr0, hr1, Hq.out.symm, rfl⟩, hb1⟩
                · have hb := str_ne heq
                  have Hq := Lib.hid heq
                  clear heq
                  go_wp2_with (go_at_call 10; refine c.mono ?_; rintro e w' ⟨rfl, hb1⟩)
                  rw [Exit.noGoto_ret]
                  go_ret2
                  exact ⟨.inr ⟨fun n _ _ e => Hq.out (by rw [← hno.out n e]; exact e.symm), rfl⟩, hb1⟩
              · have c := formatInt_impl_out M wr (by omega)
                have Hr := Lib.hid hr
                clear hr
                go_wp2_with (go_at_call 10; refine c.mono ?_; rintro e w' ⟨rfl, rfl⟩)
                rw [Exit.noGoto_ret]
                go_ret2
                exact ⟨.inr ⟨fun n h0 h1 e => Hr.out (by rw [← hno.out n e]; exact ⟨h0, h1⟩), rfl⟩, Below.refl _ _⟩
      · have HE : Hid ((z = 1 ∨ z = -1) ∧ rd true false 0 s.data.toList = (m, z == -1)) := rdis_end (by omega) HR.out
        clear HR
        obtain ⟨M, hM⟩ : ∃ M, wrap64 ((m : Int) * z) = M := ⟨_, rfl⟩
        have hno : Hid (∀ n : Int, s = strOf (Lib.itoa n) → n = M) := fun n e => by
          have h1 := only_itoa HE.out n e
          have h2 : wrap64 ((m : Int) * z) = m * z := IntWalk.wrap64_in _ (by rcases HE.out.1 with h | h <;> subst h <;> omega)
          rw [h1, ← hM, h2]
        by_cases hr : -999999 ≤ M ∧ M ≤ 999999
        · obtain ⟨hr0, hr1⟩ := hr
          have c := formatInt_impl M wr hr0 hr1 H.out
          by_cases heq : strOf (Lib.itoa M) = s
          · have hb := str_eq heq
            have Hq := Lib.hid heq
            clear heq
            go_wp2_with (go_at_call 10; refine c.mono ?_; rintro e w' ⟨rfl, hb1⟩)
            rw [Exit.noGoto_ret]
            go_ret2
            exact ⟨.inl ⟨M, hr0, hr1, Hq.out.symm, rfl⟩, hb1⟩
          · have hb := str_ne heq
            have Hq := Lib.hid heq
            clear heq
            go_wp2_with (go_at_call 10; refine c.mono ?_; rintro e w' ⟨rfl, hb1⟩)
            rw [Exit.noGoto_ret]
            go_ret2
            exact ⟨.inr ⟨fun n _ _ e => Hq.out (by rw [← hno.out n e]; exact e.symm), rfl⟩, hb1⟩
        · have c := formatInt_impl_out M wr (by omega)
          have Hr := Lib.hid hr
          clear hr
          go_wp2_with (go_at_call 10; refine c.mono ?_; rintro e w' ⟨rfl, rfl⟩)
          rw [Exit.noGoto_ret]
          go_ret2
          exact ⟨.inr ⟨fun n h0 h1 e => Hr.out (by rw [← hno.out n e]; exact ⟨h0, h1⟩), rfl⟩, Below.refl _ _⟩
end Go.Proofs.YtacpacllpjddlaaDoor
