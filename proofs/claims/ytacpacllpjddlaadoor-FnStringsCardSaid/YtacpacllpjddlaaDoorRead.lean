/- Contracts: the model's l1Read and ParseInt, at every string. -/
import Derived.Test.YtacpacllpjddlaaDoorParse
namespace Go.Proofs.YtacpacllpjddlaaDoor
open Go.RowKit

theorem sp_eq {s : ByteArray} {n : Int} (e : s = strOf (Lib.itoa n)) : s.data.toList = Lib.itoa n := by rw [e]; rfl
theorem sp_dig {s : ByteArray} {n : Int} (e : s = strOf (Lib.itoa n)) : ∀ c ∈ strip s.data.toList, IsDig c := by
  rw [sp_eq e, (strip_itoa n).1]; exact dec_isDig _
theorem sp_val {s : ByteArray} {n : Int} (e : s = strOf (Lib.itoa n)) : valOf 0 (strip s.data.toList) = n.natAbs := by
  rw [sp_eq e, (strip_itoa n).1]; exact val_dec _
theorem sp_neg {s : ByteArray} {n : Int} (e : s = strOf (Lib.itoa n)) : (strip s.data.toList).length < s.size ↔ n < 0 := by
  have h := (strip_itoa n).2
  rw [← sp_eq e] at h
  exact h
theorem sp_len {s : ByteArray} {n : Int} (e : s = strOf (Lib.itoa n)) (h0 : -999999 ≤ n) (h1 : n ≤ 999999) : 1 ≤ (strip s.data.toList).length ∧ (strip s.data.toList).length ≤ 6 := by
  rw [sp_eq e, (strip_itoa n).1]
  exact ⟨dec_len_pos _, dec_len_le _ (by omega)⟩
theorem strip_yes (s : ByteArray) (h : 1 < s.size) (hc : s[0].toNat = 45) : strip s.data.toList = s.data.toList.drop 1 := by
  have h0 := drop_cons s 0 (by omega)
  have h1 := drop_cons s 1 h
  rw [List.drop_zero] at h0
  rw [h0, h1, strip, if_pos hc]
  simp only [List.drop_succ_cons, List.drop_zero]
theorem strip_no (s : ByteArray) (h : s.size ≤ 1 ∨ ∃ h : 0 < s.size, s[0].toNat ≠ 45) : strip s.data.toList = s.data.toList := by
  rcases h with h | ⟨h, hc⟩
  · cases hx : s.data.toList with
    | nil => rfl
    | cons c r =>
      cases r with
      | nil => rfl
      | cons d r =>
        have : s.data.toList.length = s.size := by simp
        rw [hx] at this; simp at this; omega
  · have h0 := drop_cons s 0 h
    rw [List.drop_zero] at h0
    rw [h0]
    cases s.data.toList.drop 1 with
    | nil => rfl
    | cons d r => rw [strip, if_neg hc]

set_option maxHeartbeats 2000000 in
theorem l1Read_any (s : ByteArray) (w : World) (hs : s.size ≤ maxLen) :
    Calls Tryd.prog 28 #[.string s] w fun e w' => PI s e ∧ ∃ q, w' = w.drewN q := by
  unfold maxLen at hs
  by_cases hneg : ∃ h : 1 < s.size, s[0].toNat = 45
  · obtain ⟨h1, hc⟩ := hneg
    have HS0 := Lib.hid (strip_yes s h1 hc)
    have e0 : ((s[0].toNat : Int) == 45) = true := by simp [hc]
    clear hc
    obtain ⟨T, hx⟩ : ∃ T, s.extract 1 s.size = T := ⟨_, rfl⟩
    have hT1 : T.size + 1 ≤ s.size := by rw [← hx, ByteArray.size_extract]; omega
    have hT2 : s.size ≤ T.size + 1 := by rw [← hx, ByteArray.size_extract]; omega
    have HT : Hid (strip s.data.toList = T.data.toList) := by
      show _ = _
      rw [HS0.out, ← hx, ByteArray.data_extract]
      simp
      rw [List.take_of_length_le (by simp)]
    have hl1 : T.size ≤ s.size := by omega
    by_cases hin : 1 ≤ T.size ∧ T.size ≤ 6
    · obtain ⟨hin1, hin2⟩ := hin
      have cin := l1In_yes (T.size : Int) 1 6 w (by omega) (by omega)
      go_enter Tryd.func28, Tryd.ntmps28
      go_wp2_with (go_at_call 24; refine cin.mono ?_; rintro e w' ⟨rfl, rfl⟩)
      go_loop [5, 6] (fun n i => ∃ k : Nat, k ≤ T.size ∧ i = .int .i64 k ∧ n = .int .i64 (valOf 0 (T.data.toList.take k)) ∧ valOf 0 (T.data.toList.take k) ≤ 999999 ∧ Hid (∀ c ∈ T.data.toList.take k, IsDig c)) (fun _ i => T.size - (intOf i).toNat)
      case atStart => exact ⟨0, Nat.zero_le _, rfl, rfl, by simp [valOf], by show ∀ c ∈ _, _; simp⟩
      case round =>
        obtain ⟨k, hk, rfl, rfl, hv, HD⟩ := hrel
        by_cases hlt : k < T.size
        · by_cases hd : 48 ≤ T[k].toNat ∧ T[k].toNat ≤ 57
          · obtain ⟨hd1, hd2⟩ := hd
            have e2 : decide ((T[k].toNat : Int) < 48) = false := by simp; omega
            have e3 : decide ((57 : Int) < (T[k].toNat : Int)) = false := by simp; omega
            have HS : Hid (valOf 0 (T.data.toList.take (k + 1)) = 10 * valOf 0 (T.data.toList.take k) + (T[k].toNat - 48)) := by
              rw [take_snoc T k hlt]; exact valOf_snoc _ _ _
            have HD1 : Hid (∀ c ∈ T.data.toList.take (k + 1), IsDig c) := by
              rw [take_snoc T k hlt]
              intro c hc
              rcases List.mem_append.1 hc with hc | hc
              · exact HD.out c hc
              · simp only [List.mem_singleton] at hc; subst hc; exact ⟨hd1, hd2⟩
            have hv1 : valOf 0 (T.data.toList.take (k + 1)) ≤ 999999 := by
              have h1 := valOf_lt _ HD1.out 0 0 (by omega)
              have h2 : (T.data.toList.take (k + 1)).length ≤ 6 := by
                have := List.length_take_le (k + 1) T.data.toList; omega
              have h3 : 10 ^ (0 + (T.data.toList.take (k + 1)).length) ≤ 10 ^ 6 := Nat.pow_le_pow_right (by omega) (by omega)
              omega
            go_wp2
            go_round
            case rel => exact ⟨k + 1, by omega, by go_num, by rw [HS.out]; go_num, hv1, HD1⟩
            case measure => simp [intOf]; omega
          · have Hno : Hid (∀ n : Int, -999999 ≤ n → n ≤ 999999 → s ≠ strOf (Lib.itoa n)) := fun n _ _ e => by
              have h1 := sp_dig e
              rw [HT.out] at h1
              exact hd (h1 T[k] (by
                have : T[k] = T.data.toList[k]'(by simpa using hlt) := rfl
                rw [this]; exact List.getElem_mem _))
            have hcase : decide ((T[k].toNat : Int) < 48) = true ∨ (decide ((T[k].toNat : Int) < 48) = false ∧ decide ((57 : Int) < (T[k].toNat : Int)) = true) := by
              simp; omega
            clear hd HD
            rcases hcase with e1 | ⟨e1, e2⟩
            all_goals
              go_wp2
              go_ret2
              exact ⟨.inr ⟨Hno.out, rfl⟩, 0, rfl⟩
        · have HA : Hid (T.data.toList.take k = T.data.toList) := take_all T k (by omega)
          obtain ⟨V, hV⟩ : ∃ V, valOf 0 (T.data.toList.take k) = V := ⟨_, rfl⟩
          have hV9 : V ≤ 999999 := by rw [← hV]; exact hv
          have Hval : Hid (∀ n : Int, s = strOf (Lib.itoa n) → n = (-(V : Int))) := fun n e => by
            have h1 := sp_val e
            have h2 := sp_neg e
            rw [HT.out] at h1 h2
            have h3 := HA.out
            rw [h3] at hV
            have h4 : T.data.toList.length = T.size := by simp
            rw [h4] at h2
            omega
          have c := fun wx => l1Num_any (-(V : Int)) wx (by omega) (by omega)
          have HV := Lib.hid hV
          rw [hV] at *
          clear hv hV HD HA HT HS0
          by_cases heq : strOf (Lib.itoa ((-(V : Int)))) = s
          · have hb := str_eq heq
            have Hq := Lib.hid heq
            clear heq
            go_wp2_with (go_at_call 25; refine (c _).mono ?_; rintro e w' ⟨rfl, q, rfl⟩)
            go_ret2
            exact ⟨.inl ⟨(-(V : Int)), by omega, by omega, Hq.out.symm, rfl⟩, q, rfl⟩
          · have hb := str_ne heq
            have Hq := Lib.hid heq
            clear heq
            go_wp2_with (go_at_call 25; refine (c _).mono ?_; rintro e w' ⟨rfl, q, rfl⟩)
            go_ret2
            exact ⟨.inr ⟨fun n _ _ e => Hq.out (by rw [← Hval.out n e]; exact e.symm), rfl⟩, q, rfl⟩
    · have Hno : Hid (∀ n : Int, -999999 ≤ n → n ≤ 999999 → s ≠ strOf (Lib.itoa n)) := fun n h0 h1 e => by
        have h1 := sp_len e h0 h1
        rw [HT.out] at h1
        have h4 : T.data.toList.length = T.size := by simp
        rw [h4] at h1
        exact hin h1
      have cin := l1In_no (T.size : Int) 1 6 w (by omega)
      clear hin HT
      go_enter Tryd.func28, Tryd.ntmps28
      go_wp2_with (go_at_call 24; refine cin.mono ?_; rintro e w' ⟨rfl, rfl⟩)
      go_ret2
      exact ⟨.inr ⟨Hno.out, rfl⟩, 0, rfl⟩
  · have HS0 := Lib.hid (strip_no s (by
      by_cases h1 : 1 < s.size
      · exact .inr ⟨by omega, fun h => hneg ⟨h1, h⟩⟩
      · exact .inl (by omega)))
    have HT := HS0
    have hcase : (decide ((1 : Int) < (s.size : Int)) = false ∧ True) ∨ (decide ((1 : Int) < (s.size : Int)) = true ∧ ∃ h : 0 < s.size, ((s[0].toNat : Int) == 45) = false) := by
      by_cases h1 : 1 < s.size
      · exact .inr ⟨by simp; omega, by omega, by simp; intro h; exact hneg ⟨h1, by omega⟩⟩
      · exact .inl ⟨by simp; omega, trivial⟩
    clear hneg
    rcases hcase with ⟨e0, _⟩ | ⟨e0, h0, e1⟩
    all_goals
      by_cases hin : 1 ≤ s.size ∧ s.size ≤ 6
      · obtain ⟨hin1, hin2⟩ := hin
        have cin := l1In_yes (s.size : Int) 1 6 w (by omega) (by omega)
        go_enter Tryd.func28, Tryd.ntmps28
        go_wp2_with (go_at_call 24; refine cin.mono ?_; rintro e w' ⟨rfl, rfl⟩)
        go_loop [5, 6] (fun n i => ∃ k : Nat, k ≤ s.size ∧ i = .int .i64 k ∧ n = .int .i64 (valOf 0 (s.data.toList.take k)) ∧ valOf 0 (s.data.toList.take k) ≤ 999999 ∧ Hid (∀ c ∈ s.data.toList.take k, IsDig c)) (fun _ i => s.size - (intOf i).toNat)
        case atStart => exact ⟨0, Nat.zero_le _, rfl, rfl, by simp [valOf], by show ∀ c ∈ _, _; simp⟩
        case round =>
          obtain ⟨k, hk, rfl, rfl, hv, HD⟩ := hrel
          by_cases hlt : k < s.size
          · by_cases hd : 48 ≤ s[k].toNat ∧ s[k].toNat ≤ 57
            · obtain ⟨hd1, hd2⟩ := hd
              have e2 : decide ((s[k].toNat : Int) < 48) = false := by simp; omega
              have e3 : decide ((57 : Int) < (s[k].toNat : Int)) = false := by simp; omega
              have HS : Hid (valOf 0 (s.data.toList.take (k + 1)) = 10 * valOf 0 (s.data.toList.take k) + (s[k].toNat - 48)) := by
                rw [take_snoc s k hlt]; exact valOf_snoc _ _ _
              have HD1 : Hid (∀ c ∈ s.data.toList.take (k + 1), IsDig c) := by
                rw [take_snoc s k hlt]
                intro c hc
                rcases List.mem_append.1 hc with hc | hc
                · exact HD.out c hc
                · simp only [List.mem_singleton] at hc; subst hc; exact ⟨hd1, hd2⟩
              have hv1 : valOf 0 (s.data.toList.take (k + 1)) ≤ 999999 := by
                have h1 := valOf_lt _ HD1.out 0 0 (by omega)
                have h2 : (s.data.toList.take (k + 1)).length ≤ 6 := by
                  have := List.length_take_le (k + 1) s.data.toList; omega
                have h3 : 10 ^ (0 + (s.data.toList.take (k + 1)).length) ≤ 10 ^ 6 := Nat.pow_le_pow_right (by omega) (by omega)
                omega
              go_wp2
              go_round
              case rel => exact ⟨k + 1, by omega, by go_num, by rw [HS.out]; go_num, hv1, HD1⟩
              case measure => simp [intOf]; omega
            · have Hno : Hid (∀ n : Int, -999999 ≤ n → n ≤ 999999 → s ≠ strOf (Lib.itoa n)) := fun n _ _ e => by
                have h1 := sp_dig e
                rw [HT.out] at h1
                exact hd (h1 s[k] (by
                  have : s[k] = s.data.toList[k]'(by simpa using hlt) := rfl
                  rw [this]; exact List.getElem_mem _))
              have hcase : decide ((s[k].toNat : Int) < 48) = true ∨ (decide ((s[k].toNat : Int) < 48) = false ∧ decide ((57 : Int) < (s[k].toNat : Int)) = true) := by
                simp; omega
              clear hd HD
              rcases hcase with e1 | ⟨e1, e2⟩
              all_goals
                go_wp2
                go_ret2
                exact ⟨.inr ⟨Hno.out, rfl⟩, 0, rfl⟩
          · have HA : Hid (s.data.toList.take k = s.data.toList) := take_all s k (by omega)
            obtain ⟨V, hV⟩ : ∃ V, valOf 0 (s.data.toList.take k) = V := ⟨_, rfl⟩
            have hV9 : V ≤ 999999 := by rw [← hV]; exact hv
            have Hval : Hid (∀ n : Int, s = strOf (Lib.itoa n) → n = (V : Int)) := fun n e => by
              have h1 := sp_val e
              have h2 := sp_neg e
              rw [HT.out] at h1 h2
              have h3 := HA.out
              rw [h3] at hV
              have h4 : s.data.toList.length = s.size := by simp
              rw [h4] at h2
              omega
            have c := fun wx => l1Num_any (V : Int) wx (by omega) (by omega)
            have HV := Lib.hid hV
            rw [hV] at *
            clear hv hV HD HA HT HS0
            by_cases heq : strOf (Lib.itoa ((V : Int))) = s
            · have hb := str_eq heq
              have Hq := Lib.hid heq
              clear heq
              go_wp2_with (go_at_call 25; refine (c _).mono ?_; rintro e w' ⟨rfl, q, rfl⟩)
              go_ret2
              exact ⟨.inl ⟨(V : Int), by omega, by omega, Hq.out.symm, rfl⟩, q, rfl⟩
            · have hb := str_ne heq
              have Hq := Lib.hid heq
              clear heq
              go_wp2_with (go_at_call 25; refine (c _).mono ?_; rintro e w' ⟨rfl, q, rfl⟩)
              go_ret2
              exact ⟨.inr ⟨fun n _ _ e => Hq.out (by rw [← Hval.out n e]; exact e.symm), rfl⟩, q, rfl⟩
      · have Hno : Hid (∀ n : Int, -999999 ≤ n → n ≤ 999999 → s ≠ strOf (Lib.itoa n)) := fun n h0 h1 e => by
          have h1 := sp_len e h0 h1
          rw [HT.out] at h1
          have h4 : s.data.toList.length = s.size := by simp
          rw [h4] at h1
          exact hin h1
        have cin := l1In_no (s.size : Int) 1 6 w (by omega)
        clear hin HT
        go_enter Tryd.func28, Tryd.ntmps28
        go_wp2_with (go_at_call 24; refine cin.mono ?_; rintro e w' ⟨rfl, rfl⟩)
        go_ret2
        exact ⟨.inr ⟨Hno.out, rfl⟩, 0, rfl⟩

theorem pi_yes {s : ByteArray} {e : Ending} (h : PI s e) {n : Int} (h0 : -999999 ≤ n) (h1 : n ≤ 999999) (hs : s = strOf (Lib.itoa n)) : e = .returned (.tuple #[.int .i64 n, .bool true]) := by
  rcases h with ⟨m, _, _, hm, he⟩ | ⟨hno, _⟩
  · obtain rfl : m = n := itoa_inj (strOf_inj (hm.symm.trans hs))
    exact he
  · exact absurd hs (hno n h0 h1)
theorem pi_no {s : ByteArray} {e : Ending} (h : PI s e) (hno : ∀ n : Int, -999999 ≤ n → n ≤ 999999 → s ≠ strOf (Lib.itoa n)) : e = .returned (.tuple #[.int .i64 0, .bool false]) := by
  rcases h with ⟨m, h0, h1, hm, _⟩ | ⟨_, he⟩
  · exact absurd hm (hno m h0 h1)
  · exact he
theorem pi_cases (s : ByteArray) : (∃ n : Int, -999999 ≤ n ∧ n ≤ 999999 ∧ s = strOf (Lib.itoa n)) ∨ (∀ n : Int, -999999 ≤ n → n ≤ 999999 → s ≠ strOf (Lib.itoa n)) := by
  by_cases h : ∃ n : Int, -999999 ≤ n ∧ n ≤ 999999 ∧ s = strOf (Lib.itoa n)
  · exact .inl h
  · exact .inr fun n h0 h1 e => h ⟨n, h0, h1, e⟩

theorem parseInt_spec (s : ByteArray) (w : World) (hs : s.size ≤ maxLen) :
    Calls Tryd.prog 14 #[.string s] w fun e w' => PI s e ∧ ∃ q, w' = w.drewN q := by
  have c := l1Read_any s w hs
  rcases pi_cases s with ⟨n, h0, h1, h⟩ | hno
  · have c' := c.mono fun e w' ⟨hp, q, hw⟩ => (⟨pi_yes hp h0 h1 h, q, hw⟩ : e = Ending.returned (.tuple #[.int .i64 n, .bool true]) ∧ ∃ q, w' = w.drewN q)
    have H := Lib.hid h
    clear h c hs
    go_enter Tryd.func14, Tryd.ntmps14
    go_wp2_with (go_at_call 28; refine c'.mono ?_; rintro e w' ⟨rfl, q, rfl⟩)
    go_ret2
    exact ⟨.inl ⟨n, h0, h1, H.out, rfl⟩, q, rfl⟩
  · have c' := c.mono fun e w' ⟨hp, q, hw⟩ => (⟨pi_no hp hno, q, hw⟩ : e = Ending.returned (.tuple #[.int .i64 0, .bool false]) ∧ ∃ q, w' = w.drewN q)
    have H := Lib.hid hno
    clear hno c hs
    go_enter Tryd.func14, Tryd.ntmps14
    go_wp2_with (go_at_call 28; refine c'.mono ?_; rintro e w' ⟨rfl, q, rfl⟩)
    go_ret2
    exact ⟨.inr ⟨H.out, rfl⟩, q, rfl⟩
end Go.Proofs.YtacpacllpjddlaaDoor
