/- Contracts: JoinStrings of the program and of the model, at slices of at most 2^20 bytes in all and a separator of one byte or not. -/
import Derived.Test.YtacpacllpjddlaaJHelp
import Derived.Test.YtacpacllpjddlaaSplitCalls
namespace Go.Proofs.Ytacpacllpjddlaa
open Go.RowKit

theorem quiet_l {P : Program} {f : FuncId} {args : Array Value} {w : World} {n : Nat} {v : Value}
    (h : Calls P f args (w.drewN n) fun e w' => e = .returned v ∧ w.drewN n = w') : Calls P f args (w.drewN n) fun e w'' => e = .returned v ∧ ∃ m, w'' = w.drewN m :=
  h.mono fun _ _ ⟨he, hm⟩ => ⟨he, n, hm.symm⟩

theorem join_no_impl (n : Nat) (a : Option Addr) (c : Nat) (sep : ByteArray) (w : World) (h : n = 0 ∨ sep.size ≠ 1) :
    Calls Try.prog 12 #[.slice a n c, .string sep] w fun e w' => e = .returned (.tuple #[.string ByteArray.empty, .bool false]) ∧ w = w' := by
  by_cases h0 : n = 0
  · subst h0
    clear h
    go_enter Try.func12, Try.ntmps12
    go_wp2
    go_ret2
    exact ⟨rfl, rfl⟩
  · have e0 : ((n : Int) == 0) = false := by simp; omega
    have e1 : ((sep.size : Int) == 1) = false := by simp; omega
    have e2 : ((sep.size : Int) != 1) = true := by simp; omega
    clear h h0
    go_enter Try.func12, Try.ntmps12
    go_wp2
    go_ret2
    exact ⟨rfl, rfl⟩
theorem join_no_spec (n : Nat) (a : Option Addr) (c : Nat) (sep : ByteArray) (w : World) (h : n = 0 ∨ sep.size ≠ 1) :
    Calls Try.prog 13 #[.slice a n c, .string sep] w fun e w' => e = .returned (.tuple #[.string ByteArray.empty, .bool false]) ∧ w = w' := by
  by_cases h1 : sep.size = 1
  · obtain ⟨d, rfl⟩ := one_byte h1
    have h0 : n = 0 := by
      rcases h with h | h
      · exact h
      · exact absurd h1 h
    subst h0
    clear h
    go_enter Try.func13, Try.ntmps13
    go_wp2
    go_ret2
    exact ⟨rfl, rfl⟩
  · have e1 : ((sep.size : Int) == 1) = false := by simp; omega
    have e2 : ((sep.size : Int) != 1) = true := by simp; omega
    clear h h1
    go_enter Try.func13, Try.ntmps13
    go_wp2
    go_ret2
    exact ⟨rfl, rfl⟩

def NoneTo (X : List ByteArray) (c : UInt8) (k : Nat) : Prop := ∀ x ∈ X.take k, has x.data.toList c = false
theorem noneTo_succ {X : List ByteArray} {c : UInt8} {k : Nat} {x : ByteArray} (h : NoneTo X c k) (hx : X[k]? = some x) (hh : has x.data.toList c = false) : NoneTo X c (k + 1) := by
  intro y hy
  rw [List.take_add_one, hx] at hy
  rcases List.mem_append.1 hy with hy | hy
  · exact h y hy
  · simp at hy; subst hy; exact hh

set_option maxHeartbeats 2000000 in
theorem join_spec (X : List ByteArray) (n : Nat) (b o cp : Nat) (c : UInt8) (w : World) (hXl : X.length = n) (hn : 0 < n) (hc : ∀ k, k < n → w.cell? ⟨b, o + k, none⟩ = some (.string (X.getD k ByteArray.empty))) (hlt0 : b < w.heap.size) (hbl : n + blen X ≤ 1048576) :
    Calls Try.prog 13 #[.slice (some ⟨b, o, none⟩) n cp, .string ⟨#[c]⟩] w fun e w' => JP X c e ∧ Below w.heap.size w w' := by
  have hcc : (({ data := #[c] } : ByteArray)[0]'(Nat.zero_lt_one)).toNat = c.toNat := rfl
  have e0 : ((n : Int) == 0) = false := by simp; omega
  have hz1 : ({ data := #[c] } : ByteArray).size = 1 := rfl
  have HC := Lib.hid hc
  have HXl := Lib.hid hXl
  have HX0 := Lib.hid (show X ≠ [] by rintro rfl; simp at hXl; omega)
  clear hc hXl
  go_enter Try.func13, Try.ntmps13
  go_wp2_with fail
  go_loopg [6, 7] n (fun g out i wr => ∃ k : Nat, k + g = n ∧ i = .int .i64 k ∧ out = .string (strOf (jn (X.take k) c)) ∧ Hid (NoneTo X c k) ∧ (jn (X.take k) c).length ≤ 4000 ∧ Below w.heap.size w wr)
  case atStart => exact ⟨0, by omega, rfl, rfl, by show NoneTo X c 0; intro x hx; simp at hx, by simp [jn_nil], Below.refl _ _⟩
  case round =>
    obtain ⟨k, hk, rfl, rfl, HN, hlen, hb⟩ := hrel
    by_cases hlt : k < n
    · obtain ⟨g, rfl⟩ : ∃ g, gk = g + 1 := ⟨gk - 1, by omega⟩
      obtain ⟨x, hx, hmem⟩ := at_of_lt HXl.out hlt
      have hcell : wr.cell? ⟨b, o + k, none⟩ = some (.string x) := (hb.cell (p := ⟨b, o + k, none⟩) hlt0).trans (rd_at HC.out hlt hx)
      have hbt := blen_take_succ hx
      have hbt2 := blen_take_le X (k + 1)
      have hxs : x.size ≤ 1048576 := by omega
      have cst := fun wx => l1Stands_any x c wx (by unfold maxLen; omega)
      have HX := Lib.hid hx
      have HM := Lib.hid hmem
      clear hx hmem hbt hbt2
      by_cases hh : has x.data.toList c = true
      · have HB : Hid (¬ JGood X c) := fun hg => by have := hg.2.1 x HM.out; rw [hh] at this; cases this
        simp only [hh] at cst
        go_wp2_with fail
        go_quiet ((go_at_call 32; exact quiet_l (cst _)))
        go_wp2_with fail
        go_ret2
        exact ⟨.inr ⟨HB.out, rfl⟩, below_drewN' hb _⟩
      · have hh' : has x.data.toList c = false := by simpa using hh
        have HN1 := Lib.hid (noneTo_succ HN.out HX.out hh')
        simp only [hh'] at cst
        clear hh
        have HLE := Lib.hid (jn_take_le (X := X) (k := k + 1) (by omega) (by have := HXl.out; omega) c)
        have hzo : (strOf (jn (X.take k) c)).size ≤ 4000 := hlen
        rcases Nat.eq_zero_or_pos k with hk0 | hk0
        · subst hk0
          rw [Nat.add_zero] at hcell
          have hz00 : (strOf (jn [] c)).size ≤ 4000 := hzo
          obtain ⟨V, hV⟩ : ∃ V, strOf (jn [] c) ++ x = V := ⟨_, rfl⟩
          have hV1 : V = strOf (jn (X.take (0 + 1)) c) := by
            rw [← hV, jn_nil, jn_take_one HX.out, ← strOf_data x, strOf_append]; rfl
          have hVs : V.size = (jn (X.take (0 + 1)) c).length := by rw [hV1]; exact size_strOf _
          have HV1 := Lib.hid hV1
          have HVs := Lib.hid hVs
          by_cases hbig : (4000 : Int) < (V.size : Int)
          · have HB : Hid (¬ JGood X c) := fun hg => by
              have h1 := hg.2.2
              have h2 := HLE.out
              have h3 := HVs.out
              omega
            clear hV1 hVs
            go_wp2_with fail
            go_quiet ((go_at_call 32; exact quiet_l (cst _)))
            go_wp2_with fail
            go_ret2
            exact ⟨.inr ⟨HB.out, rfl⟩, below_drewN' hb _⟩
          · have hsm : (jn (X.take (0 + 1)) c).length ≤ 4000 := by omega
            have HSM := Lib.hid hsm
            clear hV1 hVs hsm
            go_wp2_with fail
            go_quiet ((go_at_call 32; exact quiet_l (cst _)))
            go_wp2_with fail
            go_roundg g
            case measure => omega
            case rel => exact ⟨0 + 1, by omega, by go_num, by rw [← HV1.out], HN1, HSM.out, below_drewN' hb _⟩
        · have hkp : decide ((0 : Int) < (k : Int)) = true := by simp; omega
          obtain ⟨V, hV⟩ : ∃ V, strOf (jn (X.take k) c) ++ { data := #[c] } ++ x = V := ⟨_, rfl⟩
          have hV1 : V = strOf (jn (X.take (k + 1)) c) := by
            rw [← hV, jn_take_succ hk0 HX.out]
            show strOf (jn (X.take k) c) ++ strOf [c] ++ strOf x.data.toList = _
            rw [strOf_append, strOf_append]
          have hVs : V.size = (jn (X.take (k + 1)) c).length := by rw [hV1]; exact size_strOf _
          have HV1 := Lib.hid hV1
          have HVs := Lib.hid hVs
          by_cases hbig : (4000 : Int) < (V.size : Int)
          · have HB : Hid (¬ JGood X c) := fun hg => by
              have h1 := hg.2.2
              have h2 := HLE.out
              have h3 := HVs.out
              omega
            clear hV1 hVs
            go_wp2_with fail
            go_quiet ((go_at_call 32; exact quiet_l (cst _)))
            go_wp2_with fail
            go_ret2
            exact ⟨.inr ⟨HB.out, rfl⟩, below_drewN' hb _⟩
          · have hsm : (jn (X.take (k + 1)) c).length ≤ 4000 := by omega
            have HSM := Lib.hid hsm
            clear hV1 hVs hsm
            go_wp2_with fail
            go_quiet ((go_at_call 32; exact quiet_l (cst _)))
            go_wp2_with fail
            go_roundg g
            case measure => omega
            case rel => exact ⟨k + 1, by omega, by go_num, by rw [← HV1.out], HN1, HSM.out, below_drewN' hb _⟩
    · obtain rfl : k = n := by omega
      have ht : X.take k = X := List.take_of_length_le (by have := HXl.out; omega)
      have HG : Hid (JGood X c) := ⟨HX0.out, by have h := HN.out; unfold NoneTo at h; rw [ht] at h; exact h, by rw [ht] at hlen; exact hlen⟩
      have HT := Lib.hid ht
      clear ht
      go_wp2_with fail
      go_ret2
      exact ⟨.inl ⟨HG.out, by show Ending.returned (.tuple #[.string (strOf (jn (X.take k) c)), .bool true]) = _; rw [HT.out]⟩, hb⟩
end Go.Proofs.Ytacpacllpjddlaa
