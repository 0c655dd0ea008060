/- The model's ParseGroup: the group with this text, or none. -/
import Derived.Test.YtklfkdmmclomoaaDoorGUnbare
import Derived.Test.YtklfkdmmclomoaaDoorGLast
import Derived.Test.YtklfkdmmclomoaaDoorPWords
namespace Go.Proofs.YtklfkdmmclomoaaDoor
open Go.RowKit

theorem sp_unique {x b y d : List UInt8} (hy : noSp y = true) (hd : noSp d = true) (h : x ++ 32 :: y = b ++ 32 :: d) : x = b ∧ y = d := by
  have key : ∀ (x y : List UInt8), noSp y = true → ((x ++ 32 :: y).reverse.takeWhile fun c => c != 32) = y.reverse := fun x y hy => by
    have e : (x ++ 32 :: y).reverse = y.reverse ++ (32 :: x.reverse) := by simp
    rw [e, List.takeWhile_append_of_pos (fun a ha => by
      have := List.all_eq_true.1 hy a (by simpa using ha)
      exact this)]
    simp
  have e1 := key x y hy
  rw [h, key b d hd] at e1
  have e2 : y = d := (List.reverse_inj.1 e1).symm
  subst e2
  exact ⟨List.append_cancel_right h, rfl⟩
theorem wordN_noSp {i : Nat} (h : i < 9) : noSp (wordN i).data.toList = true := by
  rcases (show i = 0 ∨ i = 1 ∨ i = 2 ∨ i = 3 ∨ i = 4 ∨ i = 5 ∨ i = 6 ∨ i = 7 ∨ i = 8 by omega) with rfl | rfl | rfl | rfl | rfl | rfl | rfl | rfl | rfl <;> decide
def bValid (n : Nat) : Bool := gOkB ((n / 24 + 1 : Nat) : Int) ((n / 3 % 8 + 1 : Nat) : Int) ((n % 3 : Nat) : Int) 1
def bText (n : Nat) : List UInt8 := (bareN (n / 24 + 1) (n / 3 % 8 + 1) (n % 3)).data.toList
set_option maxRecDepth 100000 in
theorem bare_all : ((List.range 144).all fun n => !bValid n || (List.range 144).find? (fun m => bValid m && bText m == bText n) == some n) = true := by decide +kernel
theorem bare_one {c k a c' k' a' : Nat} (h : gOkB (c : Int) (k : Int) (a : Int) 1 = true) (h' : gOkB (c' : Int) (k' : Int) (a' : Int) 1 = true) (he : bareN c k a = bareN c' k' a') : c = c' ∧ k = k' ∧ a = a' := by
  have code : ∀ {c k a : Nat}, gOkB (c : Int) (k : Int) (a : Int) 1 = true → ∃ n, n < 144 ∧ n / 24 + 1 = c ∧ n / 3 % 8 + 1 = k ∧ n % 3 = a := fun {c k a} h => by
    have g := gOk_out h
    exact ⟨((c - 1) * 8 + (k - 1)) * 3 + a, by omega, by omega, by omega, by omega⟩
  obtain ⟨n, hn, e1, e2, e3⟩ := code h
  obtain ⟨m, hm, e1', e2', e3'⟩ := code h'
  have find : ∀ n, n < 144 → bValid n = true → (List.range 144).find? (fun m => bValid m && bText m == bText n) = some n := fun n hn hv => by
    have := List.all_eq_true.1 bare_all n (List.mem_range.2 hn)
    rw [hv] at this
    simpa using this
  have v1 : bValid n = true := by unfold bValid; rw [e1, e2, e3]; exact h
  have v2 : bValid m = true := by unfold bValid; rw [e1', e2', e3']; exact h'
  have t : bText n = bText m := by unfold bText; rw [e1, e2, e3, e1', e2', e3', he]
  have f1 := find n hn v1
  rw [t, find m hm v2] at f1
  have := Option.some.inj f1
  subst this
  exact ⟨e1.symm.trans e1', e2.symm.trans e2', e3.symm.trans e3'⟩
theorem gOk_any {c k a t t' : Int} (h : gOkB c k a t = true) (h1 : 1 ≤ t') (h9 : t' ≤ 9) : gOkB c k a t' = true := by
  have := gOk_out h
  exact gOk_in ⟨this.1, this.2.1, ⟨h1, h9⟩, this.2.2.2⟩
/-- What ParseGroup answers. -/
def GAns (s : ByteArray) (c k a t : Int) (ok : Bool) : Prop := (ok = true ∧ gOkB c k a t = true ∧ gtextN c.toNat k.toNat a.toNat (t - 1).toNat = s) ∨ (ok = false ∧ (c = 0 ∧ k = 0 ∧ a = 0 ∧ t = 0) ∧ ∀ c k a t : Int, gOkB c k a t = true → gtextN c.toNat k.toNat a.toNat (t - 1).toNat ≠ s)
/-- Where a text's last space is. -/
theorem pLast_text {s b d : ByteArray} (h : PLast s b d) {c k a t : Int} (hg : gOkB c k a t = true) (ht : gtextN c.toNat k.toNat a.toNat (t - 1).toNat = s) : b = bareN c.toNat k.toNat a.toNat ∧ d = wordN (t - 1).toNat := by
  have g := gOk_out hg
  have hi : (t - 1).toNat < 9 := by omega
  have e0 : s.data.toList = (bareN c.toNat k.toNat a.toNat).data.toList ++ 32 :: (wordN (t - 1).toNat).data.toList := by rw [← ht]; unfold gtextN; simp
  rcases h with ⟨h1, h2⟩ | ⟨h1, _, _⟩
  · have e1 : s.data.toList = b.data.toList ++ 32 :: d.data.toList := by rw [h1]; simp
    rw [e0] at e1
    have := sp_unique (wordN_noSp hi) h2 e1
    exact ⟨ByteArray.ext (Array.toList_inj.1 this.1.symm), ByteArray.ext (Array.toList_inj.1 this.2.symm)⟩
  · exfalso
    rw [e0] at h1
    unfold noSp at h1
    simp at h1
theorem bareN_ne {c k a : Nat} : bareN c k a ≠ ⟨#[]⟩ := by
  intro e
  have := congrArg ByteArray.size e
  have e1 : (ByteArray.mk #[32]).size = 1 := rfl
  have e2 : (ByteArray.mk #[]).size = 0 := rfl
  unfold bareN at this
  split at this <;> simp only [ByteArray.size_append] at this <;> omega
set_option maxHeartbeats 4000000 in
theorem l4Parse_same (s : ByteArray) (hs : s.size ≤ 1048576) {c k a t : Int} {ok : Bool} (h : GAns s c k a t ok) (w : World) :
    Calls Tryd.prog 68 #[.string s] w (AnsF w c k a t ok) := by
  have cl := fun W => l4Last_any s hs W
  have HH := Lib.hid h
  have CL := Lib.hid cl
  have b0 := Lib.hid (BoxF.new w [.int .i64 0, .int .i64 0, .int .i64 0, .int .i64 0] 25)
  clear h cl
  go_enter Tryd.func68, Tryd.ntmps68
  go_wp2_with fail
  refine (CL.out _).mono ?_
  rintro e w1 ⟨b, d, rfl, hP, q, rfl⟩
  have b1 := Lib.hid (show BoxF ((w.alloc (.cells #[.int .i64 0, .int .i64 0, .int .i64 0, .int .i64 0] 25 (0, 0))).drewN q) w.heap.size [.int .i64 0, .int .i64 0, .int .i64 0, .int .i64 0] 25 from b0.out)
  have B1 := Lib.hid (below_drewN' ((Below.refl w.heap.size w).alloc (Nat.le_refl _) (.cells #[.int .i64 0, .int .i64 0, .int .i64 0, .int .i64 0] 25 (0, 0))) q)
  have HP := Lib.hid hP
  obtain ⟨p, hp⟩ := isParse_ex d 9
  have cp := fun W => l2Parse_any d p hp W
  have CP := Lib.hid cp
  have HPP := Lib.hid hp
  clear hP cp hp b0 CL
  by_cases hit : ∃ c k a : Nat, HitG b c k a
  · obtain ⟨c', k', a', hg, hbare⟩ := hit
    have gg := gOk_out hg
    have cu := fun W => l4Unbare_loop b c' k' a' (by omega) (by omega) (by omega) (by omega) (fun x y z _ _ _ _ _ => ⟨fun ⟨h1, h2⟩ => bare_one h1 hg (h2.trans hbare.symm), fun ⟨e1, e2, e3⟩ => by rw [e1, e2, e3]; exact ⟨hg, hbare⟩⟩) W
    have HG := Lib.hid hg
    have HBR := Lib.hid hbare
    have CU := Lib.hid (fun W => (cu W).mono (fun e w' hh => (show AnsF W c' k' a' 1 true e w' by unfold UAns at hh; rw [if_pos (by omega)] at hh; exact hh)))
    clear cu gg hg hbare
    go_wp2_with fail
    refine (CU.out _).mono ?_
    rintro e w2 ⟨rfl, h2⟩
    have b2 := Lib.hid (b1.out.below h2)
    have B2 := Lib.hid (B1.out.trans (h2.mono B1.out.size))
    have x2 := Lib.hid (BoxF.new w2 [.int .i64 (c' : Int), .int .i64 (k' : Int), .int .i64 (a' : Int), .int .i64 1] 25)
    have W2 := Lib.hid B2.out.size
    clear h2 b1 B1 CU
    go_wp2_with fail
    refine (CP.out _).mono ?_
    rintro e w3 ⟨rfl, h3⟩
    have b3 := Lib.hid ((b2.out.alloc _).below h3)
    have B3 := Lib.hid ((B2.out.alloc B2.out.size _).trans (h3.mono (by have := B2.out.size; simp; omega)))
    have x3 := Lib.hid (x2.out.below h3)
    clear h3 b2 B2 x2
    rcases Nat.eq_zero_or_pos p with hp0 | hp0
    · -- no tincture
      have hn : ok = false ∧ c = 0 ∧ k = 0 ∧ a = 0 ∧ t = 0 := by
        rcases HH.out with ⟨_, h1, h2⟩ | ⟨h1, h2, _⟩
        · exfalso
          have e := (pLast_text HP.out h1 h2).2
          have g := gOk_out h1
          have := isParse_hit (by omega) HPP.out (i := (t - 1).toNat) (by omega) e.symm
          omega
        · exact ⟨h1, h2⟩
      obtain ⟨rfl, rfl, rfl, rfl, rfl⟩ := hn
      obtain ⟨k0, k1, k2, k3, kf⟩ := b3.out.four
      subst hp0
      go_wp2_with fail
      exact bodyPost_ret (v := .tuple #[.agg #[.int .i64 0, .int .i64 0, .int .i64 0, .int .i64 0], .bool false]) (by simp [results, Tryd.results68, go_sem, k0, k1, k2, k3]) rfl ⟨rfl, B3.out.grown (grown4 w3 w.heap.size _ _ _ _) B3.out.size (fun k hk => by cases hk; exact Nat.le_refl _)⟩
    · have e0 : ((p : Int) == 0) = false := by rw [beq_eq_false_iff_ne]; omega
      have hp9 := isParse_le HPP.out
      have hn : ok = true ∧ c = c' ∧ k = k' ∧ a = a' ∧ t = p := by
        have hw : wordN (p - 1) = d := by
          rcases HPP.out with ⟨e, _⟩ | ⟨_, _, e⟩
          · omega
          · exact e
        have hs' : s = b ++ ⟨#[32]⟩ ++ d := by
          rcases HP.out with ⟨e, _⟩ | ⟨_, e, _⟩
          · exact e
          · exact absurd (HBR.out.trans e) bareN_ne
        have hv : gOkB (c' : Int) (k' : Int) (a' : Int) (p : Int) = true := gOk_any HG.out (by omega) (by omega)
        have htx : gtextN (c' : Int).toNat (k' : Int).toNat (a' : Int).toNat ((p : Int) - 1).toNat = s := by
          rw [show (c' : Int).toNat = c' by omega, show (k' : Int).toNat = k' by omega, show (a' : Int).toNat = a' by omega, show ((p : Int) - 1).toNat = p - 1 by omega]
          unfold gtextN
          rw [HBR.out, hw, hs']
        rcases HH.out with ⟨h0, h1, h2⟩ | ⟨_, _, h3⟩
        · have e1 := pLast_text HP.out h1 h2
          have e2 := pLast_text HP.out hv htx
          have g := gOk_out h1
          have gb := gOk_out hv
          have eb := e1.1.symm.trans e2.1
          have ew := e1.2.symm.trans e2.2
          have v1 : gOkB ((c.toNat : Nat) : Int) ((k.toNat : Nat) : Int) ((a.toNat : Nat) : Int) 1 = true := by
            rw [show ((c.toNat : Nat) : Int) = c by omega, show ((k.toNat : Nat) : Int) = k by omega, show ((a.toNat : Nat) : Int) = a by omega]
            exact gOk_any h1 (by omega) (by omega)
          have v2 : gOkB (((c' : Int).toNat : Nat) : Int) (((k' : Int).toNat : Nat) : Int) (((a' : Int).toNat : Nat) : Int) 1 = true := by
            rw [show (((c' : Int).toNat : Nat) : Int) = c' by omega, show (((k' : Int).toNat : Nat) : Int) = k' by omega, show (((a' : Int).toNat : Nat) : Int) = a' by omega]
            exact HG.out
          have eq := bare_one v1 v2 eb
          have et := wordN_inj (by omega) (by omega) ew
          exact ⟨h0, by omega, by omega, by omega, by omega⟩
        · exact absurd htx (h3 _ _ _ _ hv)
      obtain ⟨rfl, rfl, rfl, rfl, rfl⟩ := hn
      clear HH HG HBR HP HPP
      go_wp2_with fail
      refine (CP.out _).mono ?_
      rintro e w4 ⟨rfl, h4⟩
      have b4 := b3.out.below h4
      have B4 := B3.out.trans (h4.mono B3.out.size)
      have x4 := x3.out.below h4
      have hz4 := h4.size
      have hxb : w2.heap.size ≠ w.heap.size := fun e => by
        have e1 := x4
        rw [e] at e1
        unfold BoxF at e1 b4
        rw [b4] at e1
        simp at e1
      have gs := grownBy_set w4 w2.heap.size 3 (.int .i64 (p : Int))
      have x5 := x4.set 3 (.int .i64 (p : Int))
      have b5 := Lib.hid (b4.kept gs (by simp; omega))
      simp only [List.set_cons_succ, List.set_cons_zero] at x5
      have B5 := Lib.hid (B4.grown gs B4.size (fun q hq => by cases hq; exact W2.out))
      obtain ⟨m0, m1, m2, m3, mf⟩ := x4.four
      obtain ⟨q0, q1, q2, q3, qf⟩ := x5.four
      obtain ⟨k0, k1, k2, k3, kf⟩ := b5.out.four
      clear b4 B4 x4 gs x5 h4 b3 B3 x3
      generalize hW5 : w4.setCell ⟨w2.heap.size, 3, none⟩ (.int .i64 (p : Int)) = w5 at *
      go_wp2_with fail
      exact bodyPost_ret (v := .tuple #[.agg #[.int .i64 c', .int .i64 k', .int .i64 a', .int .i64 p], .bool true]) (by simp [results, Tryd.results68, go_sem, k0, k1, k2, k3]) rfl ⟨rfl, B5.out.grown (grown4 w5 w.heap.size _ _ _ _) B5.out.size (fun k hk => by cases hk; exact Nat.le_refl _)⟩
  · have cu := fun W => l4Unbare_loop b 7 1 0 (by omega) (by omega) (by omega) (by omega) (fun x y z _ h1 _ _ _ => ⟨fun h => absurd ⟨x, y, z, h⟩ hit, fun h => by omega⟩) W
    have hn : ok = false ∧ c = 0 ∧ k = 0 ∧ a = 0 ∧ t = 0 := by
      rcases HH.out with ⟨_, h1, h2⟩ | ⟨h1, h2, _⟩
      · exfalso
        have e := (pLast_text HP.out h1 h2).1
        have g := gOk_out h1
        have v := gOk_any h1 (t' := 1) (by omega) (by omega)
        refine hit ⟨c.toNat, k.toNat, a.toNat, ?_, e.symm⟩
        rw [show ((c.toNat : Nat) : Int) = c by omega, show ((k.toNat : Nat) : Int) = k by omega, show ((a.toNat : Nat) : Int) = a by omega]
        exact v
      · exact ⟨h1, h2⟩
    obtain ⟨rfl, rfl, rfl, rfl, rfl⟩ := hn
    have CU := Lib.hid (fun W => (cu W).mono (fun e w' hh => (show AnsF W 0 0 0 0 false e w' by unfold UAns at hh; rw [if_neg (by omega)] at hh; exact hh)))
    clear cu HH HP HPP
    go_wp2_with fail
    refine (CU.out _).mono ?_
    rintro e w2 ⟨rfl, h2⟩
    have b2 := Lib.hid ((b1.out.below h2).alloc (.cells #[.int .i64 0, .int .i64 0, .int .i64 0, .int .i64 0] 25 (0, 0)))
    have B2 := Lib.hid ((B1.out.trans (h2.mono B1.out.size)).alloc (B1.out.trans (h2.mono B1.out.size)).size (.cells #[.int .i64 0, .int .i64 0, .int .i64 0, .int .i64 0] 25 (0, 0)))
    obtain ⟨k0, k1, k2, k3, kf⟩ := b2.out.four
    clear h2 b1 B1 CU CP
    go_wp2_with fail
    exact bodyPost_ret (v := .tuple #[.agg #[.int .i64 0, .int .i64 0, .int .i64 0, .int .i64 0], .bool false]) (by simp [results, Tryd.results68, go_sem, k0, k1, k2, k3]) rfl ⟨rfl, B2.out.grown (grown4 _ w.heap.size _ _ _ _) B2.out.size (fun k hk => by cases hk; exact Nat.le_refl _)⟩
end Go.Proofs.YtklfkdmmclomoaaDoor
