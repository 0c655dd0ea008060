/- Contracts: the draws of tinctures and of lists of tinctures. -/
import Derived.Test.YtkhpgggaaldhhaaDoorDraw
import Derived.Test.YtkhpgggaaldhhaaDoorAgainst
namespace Go.Proofs.YtkhpgggaaldhhaaDoor
open Go.RowKit

theorem grownBy_own {w w2 w3 : World} {o row : Option Nat} (h : w.grownBy w2 o) (h' : w2.grownBy w3 row) (hr : ∀ q, row = some q → w.heap.size ≤ q) : w.grownBy w3 o :=
  ⟨h'.os.trans h.os, h'.tape.trans h.tape, h'.output.trans h.output, Nat.le_trans h.size h'.size, fun k hk hne => (h'.block k (Nat.lt_of_lt_of_le hk h.size) (fun e => by have := hr k e.symm; omega)).trans (h.block k hk hne)⟩

theorem tincture_any (B p : Nat) (a : Option Addr) (n cap M : Nat) (w : World) (h : IsCur w B p a n cap M) (hM : M ≤ 999990) (hn : n ≤ 65536) :
    Calls Tryd.prog 98 #[.pointer (some ⟨p, 0, none⟩)] w fun e w' => (∃ x : Int, e = .returned (.int .i64 x) ∧ 1 ≤ x ∧ x ≤ 9) ∧ IsCur w' B p a n cap (M + 2) ∧ w.grownBy w' (some p) := by
  have c1 := pick_any B p a n cap M w h hM hn 9 (by omega) (by omega)
  clear h
  go_enter Tryd.func98, Tryd.ntmps98
  go_wp2_with fail
  refine c1.mono ?_
  rintro e w1 ⟨⟨x, rfl, hx0, hx1⟩, hc1, hg1⟩
  have HC := Lib.hid hc1
  clear hc1 c1
  go_wp2_with fail
  go_ret
  exact ⟨⟨_, rfl, by omega, by omega⟩, HC.out, hg1⟩

end Go.Proofs.YtkhpgggaaldhhaaDoor
