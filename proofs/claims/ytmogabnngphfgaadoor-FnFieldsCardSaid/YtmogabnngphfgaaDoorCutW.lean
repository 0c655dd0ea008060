/- Contract: the program's cutWord, over a table of words. -/
import Derived.Test.YtmogabnngphfgaaDoorWords3
import Derived.Test.YtmogabnngphfgaaDoorShelf
namespace Go.Proofs.YtmogabnngphfgaaDoor
open Go.RowKit

/-- The first word that stands, with a space, at the front of s: its number, counted from k + 1, and what follows; or 0 and s. -/
def cutFrom (s : List UInt8) : List (List UInt8) → Nat → Nat × List UInt8
  | [], _ => (0, s)
  | t :: r, k => if Lib.hasPrefix s (t ++ [32]) = true then (k + 1, s.drop (t.length + 1)) else cutFrom s r (k + 1)
def bytesOfL (T : List ByteArray) : List (List UInt8) := T.map fun t => t.data.toList
theorem drop_at {T : List ByteArray} {k : Nat} {t : ByteArray} (h : T[k]? = some t) : (bytesOfL T).drop k = t.data.toList :: (bytesOfL T).drop (k + 1) := by
  have h1 : (bytesOfL T)[k]? = some t.data.toList := by unfold bytesOfL; rw [List.getElem?_map, h]; rfl
  obtain ⟨hk, e⟩ := List.getElem?_eq_some_iff.1 h1
  rw [List.drop_eq_getElem_cons hk, e]
set_option maxHeartbeats 2000000 in
theorem cutWord_any (T : List ByteArray) (g n : Nat) (s : ByteArray) (w : World) (hn : T.length = n) (hn7 : n ≤ 7) (hsz : ∀ t ∈ T, t.size ≤ 20) (hT : ∀ i t, T[i]? = some t → w.cell? ⟨g, i, none⟩ = some (.string t)) :
    Calls Tryd.prog 24 #[.string s, .slice (some ⟨g, 0, none⟩) n n] w fun e w' => e = .returned (.tuple #[.int .i64 ((cutFrom s.data.toList (bytesOfL T) 0).1 : Int), .string ⟨(cutFrom s.data.toList (bytesOfL T) 0).2.toArray⟩]) ∧ ∃ q, w' = w.drewN q := by
  obtain ⟨R, hR⟩ : ∃ R, cutFrom s.data.toList (bytesOfL T) 0 = R := ⟨_, rfl⟩
  rw [hR]
  have HT := Lib.hid hT
  have HS := Lib.hid hsz
  have HR := Lib.hid hR
  clear hT hsz hR
  go_enter Tryd.func24, Tryd.ntmps24
  go_wp2_with fail
  go_loopw [12] (fun x wr => ∃ k q : Nat, k ≤ n ∧ x = .int .i64 (k : Int) ∧ Hid (cutFrom s.data.toList ((bytesOfL T).drop k) k = R) ∧ wr = w.drewN q) (fun x _ => 10 - (Lib.intOf x).toNat)
  case atStart => exact ⟨0, 0, by omega, rfl, HR.out, rfl⟩
  case round =>
    obtain ⟨k, q, hk, rfl, HK, rfl⟩ := hrel
    by_cases hlt : k < n
    · obtain ⟨t, ht⟩ : ∃ t, T[k]? = some t := ⟨T[k]'(by omega), List.getElem?_eq_getElem (by omega)⟩
      have ct : (w.drewN q).cell? ⟨g, k, none⟩ = some (.string t) := HT.out k t ht
      have st := HS.out t (List.mem_of_getElem? ht)
      have hd := HK.out
      rw [drop_at ht, cutFrom] at hd
      have n1 : ¬ 9223372036854775807 < t.size + 1 := by omega
      have cp := fun W => Tryd.strings_CutPrefix s (t ++ ⟨#[32]⟩) W
      have ep : (t ++ (⟨#[32]⟩ : ByteArray)).data.toList = t.data.toList ++ [32] := by simp
      rw [ep] at cp
      cases hb : Lib.hasPrefix s.data.toList (t.data.toList ++ [32])
      · rw [hb] at cp
        rw [if_neg (by rw [hb]; decide)] at hd
        have HD := Lib.hid hd
        have CP := Lib.hid cp
        clear hd cp ep hb ht HK
        go_wp2_with fail
        refine (CP.out _).mono ?_
        rintro e w' ⟨rfl, rfl⟩
        go_wp2_with fail
        go_roundw
        case rel => exact ⟨k + 1, _, by omega, by go_num, HD, rfl⟩
        case measure => simp [Lib.intOf]; omega
      · rw [hb] at cp
        rw [if_pos hb] at hd
        have e3 : Lib.trimPrefix s.data.toList (t.data.toList ++ [32]) = s.data.toList.drop (t.data.toList.length + 1) := by
          unfold Lib.trimPrefix
          rw [if_pos hb]
          simp
        rw [e3] at cp
        have e4 : R.1 = k + 1 := by rw [← hd]
        have e5 : R.2 = s.data.toList.drop (t.data.toList.length + 1) := by rw [← hd]
        rw [← e5] at cp
        have HE := Lib.hid e4
        have CP := Lib.hid cp
        clear hd cp ep hb ht HK e3 e4 e5
        go_wp2_with fail
        refine (CP.out _).mono ?_
        rintro e w' ⟨rfl, rfl⟩
        go_wp2_with fail
        go_ret2
        exact ⟨by rw [HE.out]; simp, _, rfl⟩
    · obtain rfl : k = n := by omega
      have hd := HK.out
      have e0 : (bytesOfL T).drop k = [] := List.drop_eq_nil_of_le (by unfold bytesOfL; simp; omega)
      rw [e0, cutFrom] at hd
      have HD := Lib.hid hd
      clear hd e0 HK
      go_wp2_with fail
      go_ret2
      exact ⟨by rw [← HD.out]; show Ending.returned (Value.tuple #[Value.int .i64 0, Value.string s]) = _; simp, _, rfl⟩
end Go.Proofs.YtmogabnngphfgaaDoor
