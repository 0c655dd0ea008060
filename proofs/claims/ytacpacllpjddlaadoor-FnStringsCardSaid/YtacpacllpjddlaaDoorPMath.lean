/- Plain facts on decimal numerals: reading back what Lib.itoa writes. Nothing here speaks of the program. -/
import Derived.Lib.ItoaNum
import Derived.Lib.ItoaLen
namespace Go.Proofs.YtacpacllpjddlaaDoor

def IsDig (c : UInt8) : Prop := 48 ≤ c.toNat ∧ c.toNat ≤ 57
def dval (a : Nat) (c : UInt8) : Nat := 10 * a + (c.toNat - 48)
def valOf (a : Nat) (l : List UInt8) : Nat := l.foldl dval a
theorem valOf_snoc (a : Nat) (l : List UInt8) (c : UInt8) : valOf a (l ++ [c]) = 10 * valOf a l + (c.toNat - 48) := by
  unfold valOf; rw [List.foldl_append]; rfl
theorem digit_toNat (d : Nat) (h : d < 10) : (UInt8.ofNat (48 + d)).toNat = 48 + d := by
  rw [UInt8.toNat_ofNat']; omega
theorem dec_isDig (u : Nat) : ∀ c ∈ Lib.decDigits u, IsDig c := by
  induction u using Nat.strongRecOn with
  | ind u ih =>
    intro c hc
    rw [Lib.decDigits] at hc
    split at hc
    · rename_i h
      simp only [List.mem_singleton] at hc; subst hc
      unfold IsDig; rw [digit_toNat u h]; omega
    · rename_i h
      rcases List.mem_append.1 hc with hc | hc
      · exact ih (u / 10) (by omega) c hc
      · simp only [List.mem_singleton] at hc; subst hc
        unfold IsDig; rw [digit_toNat _ (by omega)]; omega
theorem val_dec (u : Nat) : valOf 0 (Lib.decDigits u) = u := by
  induction u using Nat.strongRecOn with
  | ind u ih =>
    rw [Lib.decDigits]
    split
    · rename_i h
      show dval 0 _ = u
      unfold dval; rw [digit_toNat u h]; omega
    · rename_i h
      rw [valOf_snoc, ih (u / 10) (by omega), digit_toNat _ (by omega)]; omega
theorem dec_len_le (u : Nat) (h : u ≤ 999999) : (Lib.decDigits u).length ≤ 6 := by
  rw [Lib.decDigits_length]
  have a : ∀ v, Lib.nDigits v = if v < 10 then 1 else Lib.nDigits (v / 10) + 1 := fun v => by
    by_cases hv : v < 10
    · rw [if_pos hv, Lib.nDigits_small hv]
    · rw [if_neg hv, Lib.nDigits_big hv]
  rw [a u]; split; · omega
  rw [a (u / 10)]; split; · omega
  rw [a (u / 10 / 10)]; split; · omega
  rw [a (u / 10 / 10 / 10)]; split; · omega
  rw [a (u / 10 / 10 / 10 / 10)]; split; · omega
  rw [a (u / 10 / 10 / 10 / 10 / 10)]; split; · omega
  omega
theorem dec_len_pos (u : Nat) : 1 ≤ (Lib.decDigits u).length := by rw [Lib.decDigits_length]; exact Lib.nDigits_pos u
theorem valOf_lt (l : List UInt8) (h : ∀ c ∈ l, IsDig c) : ∀ a k, a < 10 ^ k → valOf a l < 10 ^ (k + l.length) := by
  induction l with
  | nil => intro a k ha; simpa [valOf] using ha
  | cons c r ih =>
    intro a k ha
    have hc := h c (by simp)
    have h1 : dval a c < 10 ^ (k + 1) := by unfold dval; unfold IsDig at hc; rw [Nat.pow_succ]; omega
    have := ih (fun x hx => h x (by simp [hx])) (dval a c) (k + 1) h1
    show valOf (dval a c) r < _
    rw [List.length_cons, show k + (r.length + 1) = k + 1 + r.length from by omega]
    exact this

/-- What the program's ParseInt reads: a minus sign only at the first place, digits, up to the first other byte. -/
def rd (first neg : Bool) (n : Nat) : List UInt8 → Nat × Bool
  | [] => (n, neg)
  | c :: r => if c.toNat = 45 ∧ first = true then rd false true n r else if 48 ≤ c.toNat ∧ c.toNat ≤ 57 then rd false neg (dval n c) r else (n, neg)
def valP (x : Nat × Bool) : Int := if x.2 then -(x.1 : Int) else x.1
theorem rd_digits (l : List UInt8) (h : ∀ c ∈ l, IsDig c) : ∀ f neg n, rd f neg n l = (valOf n l, neg) := by
  induction l with
  | nil => intro f neg n; rfl
  | cons c r ih =>
    intro f neg n
    have hc := h c (by simp)
    unfold IsDig at hc
    rw [rd, if_neg (by omega), if_pos hc, ih (fun x hx => h x (by simp [hx]))]
    rfl
theorem valP_itoa (n : Int) : valP (rd true false 0 (Lib.itoa n)) = n := by
  unfold Lib.itoa
  split
  · rename_i h
    rw [rd, if_pos ⟨rfl, rfl⟩, rd_digits _ (dec_isDig _), val_dec]
    show -((n.natAbs : Nat) : Int) = n
    omega
  · rename_i h
    rw [rd_digits _ (dec_isDig _), val_dec]
    show ((n.toNat : Nat) : Int) = n
    omega
theorem itoa_inj {a b : Int} (h : Lib.itoa a = Lib.itoa b) : a = b := by
  have := congrArg (fun l => valP (rd true false 0 l)) h
  simpa only [valP_itoa] using this
theorem itoa_len (n : Int) (h0 : -999999 ≤ n) (h1 : n ≤ 999999) : (Lib.itoa n).length ≤ 7 := by
  unfold Lib.itoa
  split
  · have := dec_len_le n.natAbs (by omega); rw [List.length_cons]; omega
  · have := dec_len_le n.toNat (by omega); omega

/-- Without a leading minus sign that something follows. -/
def strip : List UInt8 → List UInt8
  | c :: d :: r => if c.toNat = 45 then d :: r else c :: d :: r
  | l => l
theorem strip_itoa (n : Int) : strip (Lib.itoa n) = Lib.decDigits n.natAbs ∧ ((strip (Lib.itoa n)).length < (Lib.itoa n).length ↔ n < 0) := by
  unfold Lib.itoa
  split
  · rename_i h
    have hl := dec_len_pos n.natAbs
    obtain ⟨d, r, e⟩ : ∃ d r, Lib.decDigits n.natAbs = d :: r := by
      cases hx : Lib.decDigits n.natAbs with
      | nil => rw [hx] at hl; simp at hl
      | cons d r => exact ⟨d, r, rfl⟩
    rw [e]
    refine ⟨by rw [strip, if_pos (show UInt8.toNat 45 = 45 from rfl)], ?_⟩
    rw [strip, if_pos (show UInt8.toNat 45 = 45 from rfl)]; simp [h]
  · rename_i h
    have e0 : n.toNat = n.natAbs := by omega
    rw [e0]
    have hd := dec_isDig n.natAbs
    have e : strip (Lib.decDigits n.natAbs) = Lib.decDigits n.natAbs := by
      cases hx : Lib.decDigits n.natAbs with
      | nil => rfl
      | cons c r =>
        cases r with
        | nil => rfl
        | cons d r =>
          have hc := hd c (by rw [hx]; simp)
          unfold IsDig at hc
          rw [strip, if_neg (by omega)]
    rw [e]
    exact ⟨rfl, by constructor <;> intro hh <;> omega⟩
end Go.Proofs.YtacpacllpjddlaaDoor
