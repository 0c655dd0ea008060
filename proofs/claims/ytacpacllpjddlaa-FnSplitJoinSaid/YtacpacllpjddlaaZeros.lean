/- A new row of zero bytes as a string. -/
import Derived.Test.YtacpacllpjddlaaBase
import Derived.Test.YtacpacllpjddlaaProg
import Derived.OwnWalk
import Derived.Laws.OwnMore
import Derived.Laws.BytesArg
import Derived.Laws.IdiomStrings
namespace Go.Proofs.Ytacpacllpjddlaa
open Go.RowKit

theorem infoU : (Try.prog.info? 5).map (fun i => (i.zero, i.size, i.bytes)) = some (some (.int .u8 0), 1, 1) := by kernel_rfl
theorem conv_zeros {w : World} {B g N : Nat} (h : w.ownsRow B 5 1 (.slice (some ⟨g, 0, none⟩) N N) N (madeCells (Value.int .u8 0).cells (N * 1)).toList) :
    ∃ s : ByteArray, s.size = N ∧ (convert (22 : Nat) (9 : Nat) (.slice (some ⟨g, 0, none⟩) N N)).run Try.prog w = .ok (.string s) w := by
  refine ⟨strOfNums (List.replicate N 0), ?_, run_convert_bytes_arg (P := Try.prog) w 22 5 Try.underlying22 Try.underlying5 g 0 N N (List.replicate N 0) (by simp) (fun i hi => ?_) 9 Try.underlying9⟩
  · simp [strOfNums, ByteArray.size]
  · rw [Nat.zero_add, h.cellAt i (by omega), Nat.mul_one, show (Value.int .u8 0).cells = #[.int .u8 0] from rfl, toList_madeCells_one]
    simp [hi, List.getD]
end Go.Proofs.Ytacpacllpjddlaa
