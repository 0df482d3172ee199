import Derived.Test.YtpfamdpgcbpiaaaRk
import Derived.Test.YtpfamdpgcbpiaaaRe
import Derived.Test.YtpfamdpgcbpiaaaWf
namespace Go.Proofs.Ytpfamdpgcbpiaaa
open Go.RowKit
set_option linter.unusedVariables false
set_option linter.unusedSimpArgs false

/-- bytes that can be read. -/
def Code (w : World) (sl : Option Addr) (len : Nat) : Prop :=
  len = 0 ∨ ∃ pb po, sl = some ⟨pb, po, none⟩ ∧ pb < w.heap.size ∧ ∀ j, j < len → ∃ c : Int, 0 ≤ c ∧ c ≤ 255 ∧ w.cell? ⟨pb, po + j, none⟩ = some (.int .u8 c)
set_option maxHeartbeats 1000000 in
theorem big_any (sl : Option Addr) (len cap : Nat) (w : World) :
    Calls Try.prog 8 #[.slice sl len cap] w fun e w' => e = .returned (.bool (decide (1048576 < (len : Int)))) ∧ w' = w := by
  go_enter Try.func8, Try.ntmps8
  go_wp2
  go_ret
  exact ⟨rfl, rfl⟩
set_option maxHeartbeats 4000000 in
theorem sameVals_self (s t : Option Addr) (c d : Nat) (L : List V4) (B C : Nat) (w : World) (hs : Els 4 cVal w B s L) (ht : Els 4 cVal w C t L) (hl : L.length ≤ 1048576) :
    Calls Try.prog 12 #[.slice s L.length c, .slice t L.length d] w fun e w' => e = .returned (.bool true) ∧ Below w.heap.size w w' := by
  have hal := alloc_old
  have haf := alloc_oldf
  go_enter Try.func12, Try.ntmps12
  go_wp2_with fail
  go_loopw [5] (fun i wr => ∃ k : Nat, k ≤ L.length ∧ i = .int .i64 k ∧ Below w.heap.size w wr) (fun i _ => L.length - (intOf i).toNat)
  case atStart => exact ⟨0, Nat.zero_le _, rfl, Below.refl _ _⟩
  case round =>
    obtain ⟨k, hk, rfl, hb⟩ := hrel
    by_cases hlt : k < L.length
    · obtain ⟨a, ha⟩ := get_some hlt
      obtain ⟨b, o, rfl, _, hp, hok, e1, e2, e3, e4⟩ := eVal_cells (hs.later cVal_keeps hb) ha
      obtain ⟨b', o', rfl, _, hp', _, f1, f2, f3, f4⟩ := eVal_cells (ht.later cVal_keeps hb) ha
      obtain ⟨p1, p2, p3, p4⟩ := a
      have HX : Hid (p3 < 18446744073709551616) := hok.2.1
      have HY : Hid (p4 < 18446744073709551616) := hok.2.2
      clear hs ht ha hok
      go_wp2_with fail
      go_region_with (first
        | (go_at_call 33; refine (specSame_any p1 p2 p3 p4 p1 p2 p3 p4 _ HX.out HY.out HX.out HY.out).mono ?_; rintro e w2 ⟨rfl, hq⟩; have hb2 : Below wr.heap.size wr w2 := (by rw [hq]; (repeat (first | with_reducible exact Below.refl _ _ | with_reducible refine bl_alloc ?_ _ | with_reducible refine bl_drewN ?_ _ | with_reducible refine bl_drew ?_ | with_reducible refine bl_setCell ?_ (by first | exact Nat.le_refl _ | (dsimp only; omega) | (simp <;> omega)) _ | with_reducible refine bl_trans ?_ (by with_reducible assumption)))); clear hq; rw [eqB_self]))
      all_goals
        go_wp2_with fail
        go_roundw
        case rel =>
          refine ⟨k + 1, by omega, by go_num, ?_⟩
          (repeat (first | with_reducible exact Below.refl _ _ | with_reducible refine bl_alloc ?_ _ | with_reducible refine bl_drewN ?_ _ | with_reducible refine bl_drew ?_ | with_reducible refine bl_setCell ?_ (by first | exact Nat.le_refl _ | (dsimp only; omega) | (simp <;> omega)) _ | with_reducible refine bl_trans ?_ (by with_reducible assumption)))
        case measure => simp [intOf]; omega
    · go_wp2_with fail
      go_ret
      exact ⟨rfl, hb⟩

theorem run_append_nilv (w : World) (ty : TypeId) (b : Option Addr) (l c : Nat) (h : l ≤ c) : (Builtin.append_ #[24, 24] ty #[.slice b l c, .slice none 0 0]).run Try.prog w = .ok (.slice b l c) w := by
  obtain ⟨i0, hi, hz0, hz1, hz2⟩ := info_parts Try.infoV
  cases b with
  | none => simp [Builtin.append_, run_underlying Try.underlying24, sizeOf, typeInfo, hi, Builtin.lenOf, h, run_firstCells_none]
  | some a => simp [Builtin.append_, run_underlying Try.underlying24, sizeOf, typeInfo, hi, Builtin.lenOf, h, run_firstCells_none, storeCells]
theorem OV.cap {w : World} {B : Nat} {s : Option Addr} {n c : Nat} {L : List V4} (h : OV w B (.slice s n c) L) : n ≤ c := by
  rcases h.2 with ⟨h1, _⟩ | ⟨g, cap, cur, h1, _, _, h2, _⟩
  · simp only [Value.slice.injEq] at h1; omega
  · simp only [Value.slice.injEq] at h1
    obtain ⟨_, rfl, rfl⟩ := h1
    exact h2
/-- where an append leaves the list: where it was, or in the next block. -/
def Near (w : World) (v v' : Value) : Prop := ∀ g, v'.ownBlock = some g → v.ownBlock = some g ∨ g = w.heap.size
theorem append_run (w : World) (ty : TypeId) (Bs : Nat) (s : Option Addr) (c : Nat) (L : List V4) (hv : OV w Bs (.slice s L.length c) L) (Bu : Nat) (t : Option Addr) (d : Nat) (M : List V4) (hu : OV w Bu (.slice t M.length d) M) (okM : ∀ v ∈ M, okV v) (hl : L.length + M.length ≤ 4194304) (hB : Bs ≤ w.heap.size) :
    ∃ s' c' w', (Builtin.append_ #[24, 24] ty #[.slice s L.length c, .slice t M.length d]).run Try.prog w = .ok (.slice s' (L ++ M).length c') w' ∧ OV w' Bs (.slice s' (L ++ M).length c') (L ++ M) ∧ w.grownBy w' (Value.slice s L.length c).ownBlock ∧ Near w (.slice s L.length c) (.slice s' (L ++ M).length c') := by
  rcases hu.form with ⟨e, rfl⟩ | ⟨g, cap, e, _, hr⟩
  · simp only [Value.slice.injEq] at e
    obtain ⟨rfl, _, rfl⟩ := e
    refine ⟨s, c, w, ?_, ?_, grown_refl _ _, ?_⟩
    · rw [List.append_nil]; exact run_append_nilv w ty s L.length c hv.cap
    · rw [List.append_nil]; exact hv
    · intro g hg; rw [List.append_nil] at hg; exact Or.inl hg
  · simp only [Value.slice.injEq] at e
    obtain ⟨rfl, _, rfl⟩ := e
    obtain ⟨i0, hi, hz0, hz1, hz2⟩ := info_parts Try.infoV
    obtain ⟨v', w', hrun, h2, h3, _, h5⟩ := run_append_own_at (P := Try.prog) w Bs 24 ty 64 i0 (.agg #[.int .i64 0, .int .i64 0, .float .f64 0, .float .f64 0]) 4 32 Try.underlying24 hi hz0 hz1 hz2 rfl (by decide) (.slice s L.length c) L.length (L.flatMap vcells) hv ⟨g, 0, none⟩ M.length d (M.flatMap vcells) (flat_len vcells_len M) (els_some (hu.els okM)) (vcells_one M) (by unfold maxLen; omega) (by omega) hB
    have hO : OV w' Bs v' (L ++ M) := by
      unfold OV
      rw [List.length_append, List.flatMap_append]
      exact h2
    obtain ⟨s', c', rfl⟩ := hO.shape
    refine ⟨s', c', w', hrun, hO, h3, ?_⟩
    intro q hq
    rcases h5 with h5 | h5
    · left; rw [← h5]; exact hq
    · right; rw [h5] at hq; cases hq; rfl
end Go.Proofs.Ytpfamdpgcbpiaaa
