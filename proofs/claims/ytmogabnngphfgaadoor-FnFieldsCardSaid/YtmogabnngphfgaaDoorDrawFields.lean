/- Contracts: the draws of chapter 3: a field, a text of a field. -/
import Derived.Test.YtmogabnngphfgaaDoorDrawAny
import Derived.Test.YtmogabnngphfgaaDoorFText
import Derived.Test.YtmogabnngphfgaaDoorSpoilt
namespace Go.Proofs.YtmogabnngphfgaaDoor
open Go.RowKit

theorem drawn_below {w w' : World} {a : Option Addr} {n cap : Nat} (hg : (w.alloc (.cells #[.slice a n cap, .int .i64 0, .int .u64 0] 67 (0, 0))).grownBy w' (some w.heap.size)) : Below w.heap.size w w' :=
  ((Below.refl w.heap.size w).alloc (Nat.le_refl _) _).grown hg (by simp) (fun q hq => by cases hq; exact Nat.le_refl _)
/-- Some field was drawn. -/
def AField (w : World) (e : Ending) (w' : World) : Prop := (∃ d l f s : Int, e = .returned (.agg #[.int .i64 d, .int .i64 l, .int .i64 f, .int .i64 s])) ∧ Below w.heap.size w w'
theorem sets_below {w W : World} (h : Below w.heap.size w W) {b : Nat} (hb : w.heap.size ≤ b) (v0 v1 v2 v3 : Value) : Below w.heap.size w ((((W.setCell ⟨b, 0, none⟩ v0).setCell ⟨b, 1, none⟩ v1).setCell ⟨b, 2, none⟩ v2).setCell ⟨b, 3, none⟩ v3) :=
  h.grown (grown4 W b v0 v1 v2 v3) h.size (fun k hk => by cases hk; exact hb)
set_option maxHeartbeats 1000000 in
theorem drawValid_any (a : Option Addr) (n cap : Nat) (w : World) (h : RdB w w.heap.size a n) (hn : n ≤ 65536) :
    Calls Tryd.prog 20 #[.slice a n cap] w (AField w) := by
  have b0 := Lib.hid (BoxF.new w [.int .i64 0, .int .i64 0, .int .i64 0, .int .i64 0] 25)
  have hB0 : Below w.heap.size w (w.alloc (.cells #[.int .i64 0, .int .i64 0, .int .i64 0, .int .i64 0] 25 (0, 0))) := (Below.refl _ w).alloc (Nat.le_refl _) _
  have hc := isCur_new cap (h.on hB0)
  rw [World.size_alloc] at hc
  have hc0 := Lib.hid hc
  clear h hc
  go_enter Tryd.func20, Tryd.ntmps20
  go_wp2_with fail
  refine (anyField_any (w.heap.size + 1) (w.heap.size + 1) a n cap 0 _ hc0.out (by omega) hn).mono ?_
  rintro e w1 ⟨⟨d, l, f, s, rfl⟩, hc1, hg1⟩
  have b1 := (b0.out.alloc _).kept hg1 (by simp)
  obtain ⟨k0, k1, k2, k3, kf⟩ := b1.four
  have HB := Lib.hid ((hB0.alloc (by simp) (.cells #[.slice a n cap, .int .i64 0, .int .u64 0] 67 (0, 0))).grown hg1 (by simp; omega) (fun q hq => by cases hq; omega))
  clear hc1 hg1 hc0 b0 b1 hB0
  go_wp2_with fail
  exact bodyPost_ret (v := .agg #[.int .i64 d, .int .i64 l, .int .i64 f, .int .i64 s]) (by simp [results, Tryd.results20, go_sem, k0, k1, k2, k3]) rfl ⟨⟨_, _, _, _, rfl⟩, sets_below HB.out (Nat.le_refl _) _ _ _ _⟩
set_option maxHeartbeats 1000000 in
theorem drawText_any (a : Option Addr) (n cap : Nat) (w : World) (h : RdB w w.heap.size a n) (hn : n ≤ 65536) :
    Calls Tryd.prog 7 #[.slice a n cap] w (AField w) := by
  have b0 := Lib.hid (BoxF.new w [.int .i64 0, .int .i64 0, .int .i64 0, .int .i64 0] 25)
  have hB0 : Below w.heap.size w (w.alloc (.cells #[.int .i64 0, .int .i64 0, .int .i64 0, .int .i64 0] 25 (0, 0))) := (Below.refl _ w).alloc (Nat.le_refl _) _
  have cc := drawValid_any a n cap (w.alloc (.cells #[.int .i64 0, .int .i64 0, .int .i64 0, .int .i64 0] 25 (0, 0))) (h.on hB0) hn
  clear h
  go_enter Tryd.func7, Tryd.ntmps7
  go_wp2_with fail
  refine cc.mono ?_
  rintro e w1 ⟨⟨d, l, f, s, rfl⟩, hb1⟩
  have b1 := b0.out.kept (row := none) ⟨hb1.os, hb1.tape, hb1.output, hb1.size, fun i hi _ => hb1.block i hi⟩ (by simp)
  obtain ⟨k0, k1, k2, k3, kf⟩ := b1.four
  have HB := Lib.hid (hB0.trans (hb1.mono (by simp)))
  clear hb1 b0 b1 hB0 cc
  go_wp2_with fail
  exact bodyPost_ret (v := .agg #[.int .i64 d, .int .i64 l, .int .i64 f, .int .i64 s]) (by simp [results, Tryd.results7, go_sem, k0, k1, k2, k3]) rfl ⟨⟨_, _, _, _, rfl⟩, sets_below HB.out (Nat.le_refl _) _ _ _ _⟩
theorem textN_max {d l i j : Nat} (h8 : d < 8) (hl : l < 5) (hi : i < 9) (hj : j < 9) : (textN d l i j).size ≤ 60 := by
  by_cases hd : d = 0
  · unfold textN; rw [if_pos hd]; have := wordN_size hi; omega
  · have h1 := headN_size h8 hl
    have h2 := wordN_size hi
    have h3 := wordN_size hj
    unfold textN
    rw [if_neg hd]
    simp only [ByteArray.size_append]
    have e1 : (ByteArray.mk #[32]).size = 1 := rfl
    have e2 : (ByteArray.mk #[32, 97, 110, 100, 32]).size = 5 := rfl
    omega
theorem l3Text_ok (d l f s : Int) (w : World) (h : FOk d l f s) :
    Calls Tryd.prog 29 #[.agg #[.int .i64 d, .int .i64 l, .int .i64 f, .int .i64 s]] w fun e w' => e = .returned (.string (textN d.toNat l.toNat (f - 1).toNat (s - 1).toNat)) ∧ Below w.heap.size w w' := by
  obtain ⟨hd, hl, hf, hs⟩ := h
  obtain ⟨i, rfl⟩ : ∃ i : Nat, f = (i : Int) + 1 := ⟨(f - 1).toNat, by omega⟩
  rcases hs with ⟨rfl, rfl, rfl⟩ | ⟨h0, hs, _⟩
  · have e : textN (0 : Int).toNat (0 : Int).toNat ((i : Int) + 1 - 1).toNat ((0 : Int) - 1).toNat = wordN i := by
      rw [show ((i : Int) + 1 - 1).toNat = i by omega]; rfl
    rw [e]
    exact l3Text_plain 0 0 i w (by omega)
  · obtain ⟨j, rfl⟩ : ∃ j : Nat, s = (j : Int) + 1 := ⟨(s - 1).toNat, by omega⟩
    obtain ⟨d, rfl⟩ : ∃ k : Nat, d = (k : Int) := ⟨d.toNat, by omega⟩
    obtain ⟨l, rfl⟩ : ∃ k : Nat, l = (k : Int) := ⟨l.toNat, by omega⟩
    have e : textN (d : Int).toNat (l : Int).toNat ((i : Int) + 1 - 1).toNat ((j : Int) + 1 - 1).toNat = textN d l i j := by
      rw [show ((i : Int) + 1 - 1).toNat = i by omega, show ((j : Int) + 1 - 1).toNat = j by omega]; rfl
    rw [e]
    exact l3Text_any d l i j w (by omega) (by omega) (by omega) (by omega) (by omega)
theorem drawParse_any (a : Option Addr) (n cap : Nat) (w : World) (h : RdB w w.heap.size a n) (hn : n ≤ 65536) :
    Calls Tryd.prog 12 #[.slice a n cap] w fun e w' => (∃ s : ByteArray, e = .returned (.string s) ∧ s.size ≤ 100) ∧ Below w.heap.size w w' := by
  have hc0 := Lib.hid (isCur_new cap h)
  clear h
  go_enter Tryd.func12, Tryd.ntmps12
  go_wp2_with fail
  refine (field_any w.heap.size w.heap.size a n cap 0 _ hc0.out (by omega) hn).mono ?_
  rintro e w1 ⟨⟨d, l, f, s, rfl, hF⟩, hc1, hg1⟩
  have ct := fun W => l3Text_ok d l f s W hF
  have htm := textN_max (d := d.toNat) (l := l.toNat) (i := (f - 1).toNat) (j := (s - 1).toNat) (by have := hF.1; omega) (by have := hF.2.1; omega) (by have := hF.2.2.1; omega) (by have := hF.2.2.2; omega)
  generalize textN d.toNat l.toNat (f - 1).toNat (s - 1).toNat = t at *
  have HC1 := Lib.hid hc1
  have HG1 := Lib.hid hg1
  clear hc1 hg1 hF
  go_wp2_with fail
  refine (ct _).mono ?_
  rintro e w2 ⟨rfl, hb2⟩
  have HC2 := Lib.hid (HC1.out.kept (row := none) ⟨hb2.os, hb2.tape, hb2.output, hb2.size, fun i hi _ => hb2.block i hi⟩ (by simp))
  have HG2 := Lib.hid (HG1.out.trans (c := w2) ⟨hb2.os, hb2.tape, hb2.output, hb2.size, fun i hi _ => hb2.block i hi⟩)
  clear hb2 HC1 HG1 ct
  go_wp2_with fail
  refine (one_any w.heap.size w.heap.size a n cap _ _ HC2.out (by omega) hn 4 (by omega) (by omega)).mono ?_
  rintro e w3 ⟨⟨b, rfl⟩, hc3, hg3⟩
  have HC3 := Lib.hid hc3
  have HG3 := Lib.hid (HG2.out.trans hg3)
  clear hc3 hg3 HC2 HG2
  cases b
  · go_wp2_with fail
    go_ret
    exact ⟨⟨t, rfl, by omega⟩, drawn_below HG3.out⟩
  · go_wp2_with fail
    refine (spoilt_any w.heap.size w.heap.size a n cap _ _ HC3.out (by omega) hn t ⟨#[112, 101, 114, 32, 97, 110, 100, 32]⟩ (by omega) (by decide) (by decide)).mono ?_
    rintro e w4 ⟨⟨u, rfl, hu⟩, hc4, hg4⟩
    have HG4 := Lib.hid (HG3.out.trans hg4)
    clear hc4 hg4 HC3 HG3
    go_wp2_with fail
    go_ret
    exact ⟨⟨u, rfl, by omega⟩, drawn_below HG4.out⟩
end Go.Proofs.YtmogabnngphfgaaDoor
