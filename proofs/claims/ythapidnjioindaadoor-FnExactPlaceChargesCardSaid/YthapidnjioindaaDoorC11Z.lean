/- Contracts: PlaceCharges of the model; the marks of boxes from any number on. -/
import Derived.Test.YthapidnjioindaaDoorC11Y
import Derived.Test.YthapidnjioindaaDoorC11T
namespace Go.Proofs.YthapidnjioindaaDoor
open Go.RowKit

set_option maxRecDepth 100000 in
set_option maxHeartbeats 8000000 in
theorem place_spec (i0 i1 i2 i3 i4 i5 i6 i7 i8 i9 i10 i11 i12 i13 i14 : Int) (w : World) (r : Bool) (hr : aOkB i0 i1 i2 i3 i4 i5 i6 i7 i8 i9 i10 i11 i12 i13 i14 = r) : Calls Tryd.prog 33 #[.agg #[.int .i64 i0, .int .i64 i1, .int .i64 i2, .int .i64 i3, .int .i64 i4, .int .i64 i5, .int .i64 i6, .int .i64 i7, .int .i64 i8, .int .i64 i9, .int .i64 i10, .int .i64 i11, .int .i64 i12, .int .i64 i13, .int .i64 i14]] w (AnsP w (plO r i4 i5 i7 i8 i9 i10 i11 i12 i13 i14)) := by
  have CG := Lib.hid (fun W => l5Good_any i0 i1 i2 i3 i4 i5 i6 i7 i8 i9 i10 i11 i12 i13 i14 W r hr)
  have XA0 := BoxF.new w [.int .i64 i0, .int .i64 i1, .int .i64 i2, .int .i64 i3, .int .i64 i4, .int .i64 i5, .int .i64 i6, .int .i64 i7, .int .i64 i8, .int .i64 i9, .int .i64 i10, .int .i64 i11, .int .i64 i12, .int .i64 i13, .int .i64 i14] 60
  have HB0 := Lib.hid ((Below.refl w.heap.size w).alloc (Nat.le_refl _) (.cells #[.int .i64 i0, .int .i64 i1, .int .i64 i2, .int .i64 i3, .int .i64 i4, .int .i64 i5, .int .i64 i6, .int .i64 i7, .int .i64 i8, .int .i64 i9, .int .i64 i10, .int .i64 i11, .int .i64 i12, .int .i64 i13, .int .i64 i14] 60 (0, 0)))
  have r0 := rangeB XA0
  have XA := Lib.hid XA0
  clear XA0
  cases r
  · clear hr
    go_enter Tryd.func33, Tryd.ntmps33
    go_wp2_with (with_reducible refine aList ?_; refine ldA 1 w.heap.size [.int .i64 i0, .int .i64 i1, .int .i64 i2, .int .i64 i3, .int .i64 i4, .int .i64 i5, .int .i64 i6, .int .i64 i7, .int .i64 i8, .int .i64 i9, .int .i64 i10, .int .i64 i11, .int .i64 i12, .int .i64 i13, .int .i64 i14] rfl rfl rfl rfl ?_ ?_; exact r0)
    refine (CG.out _).mono ?_
    rintro e w1 ⟨rfl, hb⟩
    have HB1 := Lib.hid (HB0.out.trans (hb.mono HB0.out.size))
    clear hb HB0 r0
    go_wp2_with fail
    go_ret3
    exact ansP_lit HB1.out
  · have CP := Lib.hid (fun W => l11Place_any i0 i1 i2 i3 i4 i5 i6 i7 i8 i9 i10 i11 i12 i13 i14 W hr)
    clear hr
    generalize plO true i4 i5 i7 i8 i9 i10 i11 i12 i13 i14 = P at *
    go_enter Tryd.func33, Tryd.ntmps33
    go_wp2_with (with_reducible refine aList ?_; refine ldA 1 w.heap.size [.int .i64 i0, .int .i64 i1, .int .i64 i2, .int .i64 i3, .int .i64 i4, .int .i64 i5, .int .i64 i6, .int .i64 i7, .int .i64 i8, .int .i64 i9, .int .i64 i10, .int .i64 i11, .int .i64 i12, .int .i64 i13, .int .i64 i14] rfl rfl rfl rfl ?_ ?_; exact r0)
    refine (CG.out _).mono ?_
    rintro e w1 ⟨rfl, hb⟩
    have HB1 := Lib.hid (HB0.out.trans (hb.mono HB0.out.size))
    have r0 := rangeB (XA.out.below hb)
    clear hb HB0
    go_wp2_with (with_reducible refine aList ?_; refine ldA 1 w.heap.size [.int .i64 i0, .int .i64 i1, .int .i64 i2, .int .i64 i3, .int .i64 i4, .int .i64 i5, .int .i64 i6, .int .i64 i7, .int .i64 i8, .int .i64 i9, .int .i64 i10, .int .i64 i11, .int .i64 i12, .int .i64 i13, .int .i64 i14] rfl rfl rfl rfl ?_ ?_; exact r0)
    refine (CP.out _).mono ?_
    rintro e w2 ⟨a1, c1, a2, c2, rfl, h1, h2, h3, hb⟩
    have H := Lib.hid (And.intro (h1.low HB1.out.size) (And.intro (h2.low HB1.out.size) (And.intro h3 (HB1.out.trans (hb.mono HB1.out.size)))))
    clear h1 h2 h3 hb r0
    go_wp2_with fail
    go_ret3
    exact ⟨a1, c1, a2, c2, rfl, H.out.1, H.out.2.1, H.out.2.2.1, H.out.2.2.2⟩
theorem placeG_le {X : List Int} {c k a t : Int} {L : List Bx} (h : placeG X c k a t = some L) : L.length ≤ 40 := by
  unfold placeG at h
  split at h
  · cases h; simp
  · have := largR_le X c
    rw [h] at this
    exact this
theorem plO_le (r : Bool) (i4 i5 i7 i8 i9 i10 i11 i12 i13 i14 : Int) : ((plO r i4 i5 i7 i8 i9 i10 i11 i12 i13 i14).getD ([], [])).1.length ≤ 40 ∧ ((plO r i4 i5 i7 i8 i9 i10 i11 i12 i13 i14).getD ([], [])).2.length ≤ 40 := by
  unfold plO
  split
  · cases h1 : placeG (rowsOfR (regN (partO false i4 i5))) i7 i8 i9 i10 with
    | none => simp
    | some X =>
      cases h2 : placeG (rowsOfR (regN (partO true i4 i5))) i11 i12 i13 i14 with
      | none => simp
      | some Y => exact ⟨placeG_le h1, placeG_le h2⟩
  · simp
theorem HeldBx.kept {w w' : World} {a : Option Addr} {n k0 : Nat} {row : Option Nat} (h : HeldBx w a n k0) (hg : w.grownBy w' row) (hne : ∀ b o, a = some ⟨b, o, none⟩ → some b ≠ row) : HeldBx w' a n k0 := fun hn => by
  obtain ⟨b, o, e, hlt, hc⟩ := h hn
  exact ⟨b, o, e, Nat.lt_of_lt_of_le hlt hg.size, fun i hi => hg.cell (hc i hi) (hne b o e)⟩
theorem markB_at (X : List Bx) (B cap : Nat) (a : Option Addr) (m : Int) (w : World) (hown : OwnBx w B (.slice a X.length cap) X) (hn : X.length ≤ 1000) (h0 : 0 ≤ m) (h1 : m ≤ 5000) :
    Calls Tryd.prog 25 #[.slice a X.length cap, .int .i64 m] w fun e w' => e = .returned (.int .i64 (m + (X.length : Int) * 3)) ∧ HeldBx w' a X.length m.toNat ∧ w.grownBy w' (Value.slice a X.length cap).ownBlock := by
  have := markB1 X X.length B cap m.toNat a w rfl hown hn (by omega)
  rwa [show ((m.toNat : Nat) : Int) = m by omega] at this
theorem heldB_at (n : Nat) (a : Option Addr) (c : Nat) (m : Int) (w : World) (h : HeldBx w a n m.toNat) (hn : n ≤ 1000) (h0 : 0 ≤ m) (h1 : m ≤ 5000) :
    Calls Tryd.prog 26 #[.slice a n c, .int .i64 m] w fun e w' => e = .returned (.int .i64 (m + (n : Int) * 3)) ∧ Below w.heap.size w w' := by
  have := heldB1 n m.toNat a c w h hn (by omega)
  rw [show ((m.toNat : Nat) : Int) = m by omega] at this
  exact this.mono fun _ _ ⟨he, q, hw⟩ => ⟨he, by rw [hw]; exact below_drewN' (Below.refl _ _) q⟩
end Go.Proofs.YthapidnjioindaaDoor
