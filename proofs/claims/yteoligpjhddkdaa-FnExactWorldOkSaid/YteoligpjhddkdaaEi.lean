import Derived.Test.YteoligpjhddkdaaEh
import Derived.Deep.QuietTactic
import Derived.BigQuiet
namespace Go.Proofs.Yteoligpjhddkdaa
open Go.RowKit
set_option linter.unusedVariables false

/-- is a thing live, of right things. -/
def l2B (G F : List Int) (at0 gen : Int) : Bool := decide (0 ≤ at0 ∧ at0 < G.length ∧ G[at0.toNat]?.getD 0 = gen ∧ ¬ at0 ∈ F)

theorem Blk.one {w : World} {n : Nat} {a b : Value} {t : TypeId} (h : Blk w n #[a, b] t) : w.cell? ⟨n, 0, none⟩ = some a ∧ w.cell? ⟨n, 1, none⟩ = some b := ⟨h.cell 0, h.cell 1⟩

set_option maxHeartbeats 1000000 in
theorem toEnt_any (a g : Int) (w : World) :
    Calls Try.prog 57 #[.agg #[.int .i64 a, .int .i64 g]] w fun e w' => e = .returned (.agg #[.int .i64 a, .int .i64 g]) ∧ Below w.heap.size w w' := by
  go_enter Try.func57, Try.ntmps57
  go_wp2_with fail
  refine bodyPost_ret (v := .agg #[.int .i64 a, .int .i64 g]) (by simp [results, Try.results57, go_sem]) rfl ⟨rfl, ?_⟩
  (repeat (first | with_reducible exact Below.refl _ _ | with_reducible refine bl_alloc ?_ _ | with_reducible refine bl_drewN ?_ _ | with_reducible refine bl_drew ?_ | with_reducible refine bl_setCell ?_ (by first | exact Nat.le_refl _ | (dsimp only; omega) | (simp <;> omega)) _ | with_reducible refine bl_trans ?_ (by with_reducible assumption)))

theorem mem_take_false {F : List Int} {k : Nat} {v : Int} (hk : k < F.length) (h : ¬ v ∈ F.take k) (hx : ¬ F[k]?.getD 0 = v) : ¬ v ∈ F.take (k + 1) := by
  rw [take_succ' F k hk, List.mem_append]
  rintro (h1 | h1)
  · exact h h1
  · simp at h1; exact hx h1.symm

set_option maxHeartbeats 1000000 in
theorem index_any (s : Option Addr) (c : Nat) (F : List Int) (v : Int) (w : World) (h : Ints w s F) (hl : F.length ≤ 1048576) :
    Calls Try.prog 137 #[.slice s F.length c, .int .i64 v] w fun e w' => ∃ r : Int, e = .returned (.int .i64 r) ∧ (decide (0 ≤ r) = decide (v ∈ F)) ∧ Below w.heap.size w w' := by
  go_enter Try.func137, Try.ntmps137
  go_wp2_with fail
  go_loop [8] (fun i => ∃ k : Nat, k ≤ F.length ∧ i = .int .i64 k ∧ Hid (¬ v ∈ F.take k)) (fun i => F.length - (intOf i).toNat)
  case atStart => exact ⟨0, Nat.zero_le _, rfl, by simp [Hid]⟩
  case round =>
    obtain ⟨k, hk, rfl, hall⟩ := hrel
    by_cases hlt : k < F.length
    · obtain ⟨pb, po, rfl, hp, hc⟩ := h.get hlt
      obtain ⟨x, hx⟩ : ∃ x, Hid (F[k]?.getD 0 = x) := ⟨_, rfl⟩
      have d1 : w.cell? ⟨pb, po + k, none⟩ = some (.int .i64 x) := by rw [← hx.out]; exact hc k hlt
      by_cases he : v = x
      · have g : (v == x) = true := by simp [he]
        have hmem : Hid (v ∈ F) := by rw [he, ← hx.out]; exact getD_mem hlt
        clear hc h he
        go_wp2_with fail
        go_ret
        refine ⟨_, rfl, ?_, Below.refl _ _⟩
        simp [hmem.out]
      · have g : (v == x) = false := by simp [he]
        have hstep : Hid (¬ v ∈ F.take (k + 1)) := mem_take_false hlt hall.out (by rw [hx.out]; exact fun h => he h.symm)
        clear hc h he
        go_wp2_with fail
        go_round
        case rel => exact ⟨k + 1, by omega, by go_num, hstep⟩
        case measure => simp [intOf]; omega
    · have hno : Hid (¬ v ∈ F) := by
        have := hall.out
        rw [List.take_of_length_le (by omega)] at this
        exact this
      go_wp2_with fail
      go_ret
      refine ⟨_, rfl, ?_, Below.refl _ _⟩
      simp [hno.out]

set_option maxHeartbeats 1000000 in
theorem contains_any (s : Option Addr) (c : Nat) (F : List Int) (v : Int) (w : World) (h : Ints w s F) (hl : F.length ≤ 1048576) :
    Calls Try.prog 135 #[.slice s F.length c, .int .i64 v] w fun e w' => e = .returned (.bool (decide (v ∈ F))) ∧ Below w.heap.size w w' := by
  go_enter Try.func135, Try.ntmps135
  go_wp2_with fail
  refine (index_any s c F v _ h hl).mono ?_
  rintro e w1 ⟨r, rfl, hr, hb1⟩
  have E : Hid (decide (0 ≤ r) = decide (v ∈ F)) := hr
  clear hr
  go_wp2_with fail
  go_ret
  exact ⟨ret_bool' E.out, hb1⟩

theorem l1In_is (x lo hi : Int) (w : World) (b : Bool) (h : (decide (lo ≤ x) && decide (x ≤ hi)) = b) :
    Calls Try.prog 34 #[.int .i64 x, .int .i64 lo, .int .i64 hi] w fun e w' => e = .returned (.bool b) ∧ w' = w := by
  subst h; exact l1In_any x lo hi w

end Go.Proofs.Yteoligpjhddkdaa
