/- Contract: the model's ParseGroup. -/
import Derived.Test.YtklfkdmmclomoaaDoorGParse
namespace Go.Proofs.YtklfkdmmclomoaaDoor
open Go.RowKit

theorem specGParse_same (s : ByteArray) (hs : s.size ≤ 1048576) {c k a t : Int} {ok : Bool} (h : GAns s c k a t ok) (w : World) :
    Calls Tryd.prog 30 #[.string s] w (AnsF w c k a t ok) := by
  have cl := fun W => l4Parse_same s hs h W
  clear h
  have b0 := BoxF.new w [.int .i64 0, .int .i64 0, .int .i64 0, .int .i64 0] 25
  go_enter Tryd.func30, Tryd.ntmps30
  go_wp2_with fail
  refine (cl _).mono ?_
  rintro e w1 ⟨rfl, hb⟩
  obtain ⟨x0, x1, x2, x3, xf⟩ := (b0.below hb).four
  have B1 := Lib.hid (((Below.refl _ w).alloc (Nat.le_refl _) _).trans (hb.mono (by simp)))
  clear hb b0 cl
  go_wp2_with fail
  exact bodyPost_ret (v := .tuple #[.agg #[.int .i64 c, .int .i64 k, .int .i64 a, .int .i64 t], .bool ok]) (by simp [results, Tryd.results30, go_sem, x0, x1, x2, x3]) rfl ⟨rfl, B1.out.grown (grown4 w1 w.heap.size _ _ _ _) B1.out.size (fun k hk => by cases hk; exact Nat.le_refl _)⟩
end Go.Proofs.YtklfkdmmclomoaaDoor
