import Derived.Test.YtpfamdpgcbpiaaaDa
import Derived.Test.YtpfamdpgcbpiaaaEo
namespace Go.Proofs.Ytpfamdpgcbpiaaa
open Go.RowKit
set_option linter.unusedVariables false
set_option linter.unusedSimpArgs false

theorem ints_two {w : World} {pb : Nat} {a b : Int} (h : Blk w pb #[.int .i64 a, .int .i64 b] 3) : Ints w (some ⟨pb, 0, none⟩) [a, b] := by
  right
  refine ⟨pb, 0, rfl, h.lt, fun j hj => ?_⟩
  match j, hj with
  | 0, _ => exact h.cell 0
  | 1, _ => exact h.cell 1
set_option maxHeartbeats 2000000 in
theorem l1PickInt_any (n : Nat) (pb po c : Nat) (L : List Int) (w : World) (hC : Cur n w) (hL : Ints w (some ⟨pb, po, none⟩) L) (h0 : 0 < L.length) (hl : L.length ≤ 1048576) (hp : ¬ pb = n) :
    Calls Try.prog 29 #[.pointer (some ⟨n, 0, none⟩), .slice (some ⟨pb, po, none⟩) L.length c] w fun e w' => ∃ r : Int, e = .returned (.int .i64 r) ∧ r ∈ L ∧ Keep n w w' ∧ Cur n w' := by
  have hcell : ∀ j, j < L.length → w.cell? ⟨pb, po + j, none⟩ = some (.int .i64 (L[j]?.getD 0)) := by
    rcases hL with h | ⟨pb', po', h, _, hc⟩
    · rw [h] at h0; simp at h0
    · simp only [Option.some.injEq, Addr.mk.injEq, and_true] at h
      obtain ⟨rfl, rfl⟩ := h
      exact hc
  go_enter Try.func29, Try.ntmps29
  go_wp2_with (go_at_call 27; refine (l1Below_any n (L.length : Int) _ hC (by omega)).mono ?_; rintro e w1 ⟨r, rfl, r1, r2, hK, hC1⟩; obtain ⟨q, rfl⟩ : ∃ q : Nat, r = (q : Int) := ⟨r.toNat, by omega⟩; have hq : q < L.length := (by omega); have hc1 := hK.cell hp (hcell q hq); have hqI : (q : Int) < (L.length : Int) := (by omega); clear hcell r2)
  go_ret
  exact ⟨_, rfl, by first | exact getD_mem hq | exact List.getElem_mem hq, hK, hC1⟩

end Go.Proofs.Ytpfamdpgcbpiaaa
