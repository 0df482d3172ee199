import Derived.Test.YtigllpegaljkmaaDoorG5j
namespace Go.Proofs.YtigllpegaljkmaaDoor
open Go.RowKit
set_option linter.unusedVariables false
set_option linter.unusedSimpArgs false

/-- who is linked with whom, as 16 words. -/
def lk (R : Nat → Nat → Bool) : Array Value := ((List.range 16).map fun i => Value.int .u16 (nb (R i))).toArray
theorem lk_size (R : Nat → Nat → Bool) : (lk R).size = 16 := by simp [lk]
theorem lk_one (R : Nat → Nat → Bool) : (lk R).all (·.oneCell') = true := by
  rw [Array.all_eq_true_iff_forall_mem]
  intro v hv
  simp only [lk, List.mem_toArray, List.mem_map] at hv
  obtain ⟨x, _, rfl⟩ := hv
  rfl
theorem lk_cell (R : Nat → Nat → Bool) {i : Nat} (hi : i < 16) : (lk R)[i]? = some (.int .u16 (nb (R i))) := by simp [lk, hi]
theorem lk_congr {R Q : Nat → Nat → Bool} (h : ∀ i j, i < 16 → j < 16 → R i j = Q i j) : lk R = lk Q := by
  unfold lk
  refine congrArg List.toArray (List.map_congr_left fun i hi => ?_)
  rw [nb_congr fun j hj => h i j (by simpa using hi) hj]
theorem lk_set (R : Nat → Nat → Bool) (i : Nat) (hi : i < 16) (f : Nat → Bool) : (lk R).setIfInBounds i (.int .u16 (nb f)) = lk fun j => if j = i then f else R j := by
  apply Array.ext_getElem?
  intro j
  by_cases hj : j < 16
  · rw [lk_cell _ hj, Array.getElem?_setIfInBounds]
    by_cases e : i = j
    · subst e; simp [lk_size, hi]
    · rw [if_neg e, lk_cell _ hj, if_neg (Ne.symm e)]
  · rw [Array.getElem?_eq_none (by rw [Array.size_setIfInBounds, lk_size]; omega), Array.getElem?_eq_none (by rw [lk_size]; omega)]
theorem lk_zero : lk (fun _ _ => false) = #[.int .u16 0, .int .u16 0, .int .u16 0, .int .u16 0, .int .u16 0, .int .u16 0, .int .u16 0, .int .u16 0, .int .u16 0, .int .u16 0, .int .u16 0, .int .u16 0, .int .u16 0, .int .u16 0, .int .u16 0, .int .u16 0] := by
  unfold lk; simp only [nb_zero]; rfl
theorem Tryd.infoLk : (Tryd.prog.info? 49).map (·.size) = some 16 := by kernel_rfl
theorem load_lk (R : Nat → Nat → Bool) (w : World) (n : Nat) (h : Blk w n (lk R) 49) :
    (loadVar 49 ⟨n, 0, none⟩).run Tryd.prog w = .ok (.agg (lk R)) w :=
  run_loadVar_row w n _ _ _ _ _ h Tryd.underlying49 rfl (by rw [Tryd.infoLk, lk_size])
theorem Blk.lkSet {w : World} {n i : Nat} {R : Nat → Nat → Bool} {t : TypeId} (h : Blk w n (lk R) t) (hi : i < 16) (f : Nat → Bool) : Blk (w.setCell ⟨n, i, none⟩ (.int .u16 (nb f))) n (lk fun j => if j = i then f else R j) t := by
  rw [← lk_set R i hi f]; exact h.set i _

/-- which numbers, of those that do not stand yet, wait for nobody. -/
def rdy (R : Nat → Nat → Bool) (n : Nat) (S : Nat → Bool) (x : Nat) : Bool := decide (x < n) && (!S x && (List.range 16).all fun i => !(R x i && !S i))

set_option maxHeartbeats 2000000 in
theorem ready_any (R : Nat → Nat → Bool) (n : Nat) (S : Nat → Bool) (w : World) (hn : n ≤ 16) :
    Calls Tryd.prog 42 #[.agg (lk R), .int .i64 n, .int .u16 (nb S)] w fun e w' => e = .returned (.int .u16 (nb (rdy R n S))) ∧ Below w.heap.size w w' := by
  have hal := alloc_old
  have haf := alloc_oldf
  go_enter Tryd.func42, Tryd.ntmps42
  go_wp2_with fail
  go_loop [7, 10] (fun s i => ∃ k : Nat, k ≤ n ∧ i = .int .i64 k ∧ s = .int .u16 (nb fun x => decide (x < k) && rdy R n S x)) (fun _ i => n - (intOf i).toNat)
  case atStart => exact ⟨0, Nat.zero_le _, rfl, by rw [nb_congr (g := fun _ => false) (fun i _ => by simp), nb_zero]⟩
  case round =>
    obtain ⟨k, hk, rfl, rfl⟩ := hrel
    by_cases hlt : k < n
    · have hk16 : k < 16 := by omega
      have c0 := ((Blk.new w (lk R) 49).cell k).trans (lk_cell R hk16)
      have f0 := (Blk.new w (lk R) 49).frozen k
      have g1 := andNot16 (R k) S
      have g2 := nb_is_zero (fun i => R k i && !S i)
      have g3 := or16 (fun x => decide (x < k) && rdy R n S x) (fun j => decide (j = k))
      have hk' : (k : Int) < 16 := by omega
      have hstep : Hid (nb (fun x => decide (x < k + 1) && rdy R n S x) = if rdy R n S k then nb (fun i => (decide (i < k) && rdy R n S i) || decide (i = k)) else nb (fun x => decide (x < k) && rdy R n S x)) := by
        show _ = _
        split
        · rename_i h
          refine nb_congr fun i hi => ?_
          by_cases e : i = k
          · subst e; simp [h]
          · have : decide (i < k + 1) = decide (i < k) := by simp; omega
            simp [e, this]
        · rename_i h
          refine nb_congr fun i hi => ?_
          by_cases e : i = k
          · subst e; simp [h]
          · have : decide (i < k + 1) = decide (i < k) := by simp; omega
            simp [e, this]
      have hr : Hid (rdy R n S k = (!S k && (List.range 16).all fun i => !(R k i && !S i))) := by simp [Hid, rdy, hlt]
      cases hs : S k
      · rw [hs] at hr
        cases ha : (List.range 16).all fun i => !(R k i && !S i)
        · rw [ha] at hr g2
          have hst2 := hstep.out
          rw [hr.out] at hst2
          go_wp2_with (first
            | (go_at_call 45; refine (has_any _ _ _ (by omega)).mono ?_; rintro e w' ⟨rfl, rfl⟩; rw [hs]))
          go_round
          case rel => exact ⟨k + 1, by omega, by go_num, by rw [hst2]; rfl⟩
          case measure => simp [intOf]; omega
        · rw [ha] at hr g2
          have hst2 := hstep.out
          rw [hr.out] at hst2
          go_wp2_with (first
            | (go_at_call 45; refine (has_any _ _ _ (by omega)).mono ?_; rintro e w' ⟨rfl, rfl⟩; rw [hs])
            | (go_at_call 21; refine (bitOf_any _ _ (by omega)).mono ?_; rintro e w' ⟨rfl, rfl⟩))
          go_round
          case rel => exact ⟨k + 1, by omega, by go_num, by rw [hst2]; rfl⟩
          case measure => simp [intOf]; omega
      · rw [hs] at hr
        have hst2 := hstep.out
        rw [hr.out] at hst2
        go_wp2_with (first
          | (go_at_call 45; refine (has_any _ _ _ (by omega)).mono ?_; rintro e w' ⟨rfl, rfl⟩; rw [hs]))
        go_round
        case rel => exact ⟨k + 1, by omega, by go_num, by rw [hst2]; rfl⟩
        case measure => simp [intOf]; omega
    · have hkn : k = n := by omega
      subst hkn
      go_wp2_with fail
      go_ret
      refine ⟨?_, ?_⟩
      · show Ending.returned (.int .u16 _) = _
        rw [nb_congr (g := rdy R k S) (fun i hi => by unfold rdy; cases h : decide (i < k) <;> simp)]
      · (repeat (first | with_reducible exact Below.refl _ _ | with_reducible refine bl_alloc ?_ _ | with_reducible refine bl_drewN ?_ _ | with_reducible refine bl_drew ?_ | with_reducible refine bl_setCell ?_ (by first | exact Nat.le_refl _ | (dsimp only; omega) | (simp <;> omega)) _ | with_reducible refine bl_trans ?_ (by with_reducible assumption)))
end Go.Proofs.YtigllpegaljkmaaDoor
