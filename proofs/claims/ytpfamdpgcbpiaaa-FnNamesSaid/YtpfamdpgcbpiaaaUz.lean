import Derived.Test.YtpfamdpgcbpiaaaMm
import Derived.Laws.BytesString
import Derived.Laws.BytesArg
namespace Go.Proofs.Ytpfamdpgcbpiaaa
open Go.RowKit
set_option linter.unusedVariables false
set_option linter.unusedSimpArgs false

theorem Blk.three' {w : World} {n : Nat} {a b c : Value} {t : TypeId} (h : Blk w n #[a, b, c] t) : w.cell? ⟨n, 0, none⟩ = some a ∧ w.cell? ⟨n, 1, none⟩ = some b ∧ w.cell? ⟨n, 2, none⟩ = some c ∧ ∀ o, w.frozen? ⟨n, o, none⟩ = false := ⟨h.cell 0, h.cell 1, h.cell 2, h.frozen⟩
theorem one_byte (w : World) (c : Int) : (convert 22 9 (.slice (some ⟨w.heap.size, 0, none⟩) 1 1)).run Try.prog (w.alloc (.cells #[.int .u8 c] 5)) = .ok (.string (ByteArray.empty.push (UInt8.ofNat c.toNat))) (w.alloc (.cells #[.int .u8 c] 5)) := by
  rw [run_convert_bytes_string _ _ _ _ _ _ _ Try.underlying22 Try.underlying5 Try.underlying9]
  rw [run_bytesToString _ _ 1 1 [c] (by simp [go_sem])]
  rfl
end Go.Proofs.Ytpfamdpgcbpiaaa
