import Derived.Test.YtigllpegaljkmaaDoorN13j
import Derived.Great.BuildSlice
namespace Go.Proofs.YtigllpegaljkmaaDoor
open Go.RowKit
set_option linter.unusedVariables false
set_option linter.unusedSimpArgs false

theorem pl_zero : pl 0 (fun _ _ => false) 0 = #[.int .i64 0, .int .u16 0, .int .u16 0, .int .u16 0, .int .u16 0, .int .u16 0, .int .u16 0, .int .u16 0, .int .u16 0, .int .u16 0, .int .u16 0, .int .u16 0, .int .u16 0, .int .u16 0, .int .u16 0, .int .u16 0, .int .u16 0, .int .i64 0] := by
  unfold pl; rw [lk_zero]; rfl
theorem built_pl (n : Int) (R : Nat → Nat → Bool) (wk : Int) : Tryd.prog.built 51 [(0, .int .i64 n), (1, .agg (lk R)), (2, .int .i64 wk)] = some (pl n R wk) := by kernel_rfl

theorem built_zero : Tryd.prog.built 51 [] = some (pl 0 (fun _ _ => false) 0) := by rw [pl_zero]; kernel_rfl
set_option maxHeartbeats 4000000 in
theorem newPool_bad (n wk : Int) (s : Option Addr) (c : Nat) (L : List (Int × Int)) (w : World) (hL : Eds w s L) (hl : L.length ≤ 1048576) (hg : (gOk n L && wkOk wk) = false) :
    Calls Tryd.prog 18 #[.int .i64 n, .slice s L.length c, .int .i64 wk] w fun e w' => e = .returned (.tuple #[.agg (pl 0 (fun _ _ => false) 0), .bool false]) ∧ Below w.heap.size w w' := by
  have k0 := Blk.new w (pl 0 (fun _ _ => false) 0) 51
  have l0 : Below w.heap.size w (w.alloc (.cells (pl 0 (fun _ _ => false) 0) 51)) := bl_alloc (Below.refl _ w) _
  obtain ⟨X, hX⟩ : ∃ X, w.alloc (.cells (pl 0 (fun _ _ => false) 0) 51) = X := ⟨_, rfl⟩
  rw [hX] at k0 l0
  rw [pl_zero] at hX
  cases h1 : gOk n L
  · go_enter Tryd.func18, Tryd.ntmps18
    go_wp2_with fail
    try rw [hX]
    refine (implGraphOk_any n s c L X (hL.later l0) hl).mono ?_
    rintro e w1 ⟨rfl, hb1⟩
    rw [h1]
    have k1 := k0.later hb1
    have l1 := bl_trans l0 hb1
    have k2 : Blk (w1.setRow w.heap.size (pl 0 (fun _ _ => false) 0)) w.heap.size (pl 0 (fun _ _ => false) 0) 51 := setRow_heap _ _ _ _ _ _ k1
    have l2 : Below w.heap.size w (w1.setRow w.heap.size (pl 0 (fun _ _ => false) 0)) := below_setRow l1 (Nat.le_refl _) _
    have hld := load_pl _ _ _ _ _ k2
    clear k2
    go_wp2_with (first
      | refine wpList_buildTo rfl 51 _ rfl (some 22) rfl (pl 0 (fun _ _ => false) 0) built_zero ?_
      | refine wpList_store_row rfl 51 (.tmp 6) (.tmp 22) rfl w.heap.size (pl 0 (fun _ _ => false) 0) rfl rfl _ _ k1 (by rw [Tryd.infoPl, pl_size]) (by rw [pl_size]) (pl_one _ _ _) ?_)
    refine bodyPost_ret (v := .tuple #[.agg (pl 0 (fun _ _ => false) 0), .bool false]) (by simp [results, Tryd.results18, asAddr, hld]) rfl ⟨rfl, l2⟩
  · have hk : wkOk wk = false := by simpa [h1] using hg
    by_cases hw : wk < 1
    · have t1 : decide (wk < 1) = true := by simp [hw]
      go_enter Tryd.func18, Tryd.ntmps18
      go_wp2_with fail
      try rw [hX]
      refine (implGraphOk_any n s c L X (hL.later l0) hl).mono ?_
      rintro e w1 ⟨rfl, hb1⟩
      rw [h1]
      have k1 := k0.later hb1
      have l1 := bl_trans l0 hb1
      have k2 : Blk (w1.setRow w.heap.size (pl 0 (fun _ _ => false) 0)) w.heap.size (pl 0 (fun _ _ => false) 0) 51 := setRow_heap _ _ _ _ _ _ k1
      have l2 : Below w.heap.size w (w1.setRow w.heap.size (pl 0 (fun _ _ => false) 0)) := below_setRow l1 (Nat.le_refl _) _
      have hld := load_pl _ _ _ _ _ k2
      clear k2
      go_wp2_with (first
      | refine wpList_buildTo rfl 51 _ rfl (some 22) rfl (pl 0 (fun _ _ => false) 0) built_zero ?_
      | refine wpList_store_row rfl 51 (.tmp 6) (.tmp 22) rfl w.heap.size (pl 0 (fun _ _ => false) 0) rfl rfl _ _ k1 (by rw [Tryd.infoPl, pl_size]) (by rw [pl_size]) (pl_one _ _ _) ?_)
      refine bodyPost_ret (v := .tuple #[.agg (pl 0 (fun _ _ => false) 0), .bool false]) (by simp [results, Tryd.results18, asAddr, hld]) rfl ⟨rfl, l2⟩
    · have t1 : decide (wk < 1) = false := by simp; omega
      have t2 : decide (8 < wk) = true := by
        unfold wkOk at hk
        simp only [decide_eq_false_iff_not] at hk
        simp; omega
      go_enter Tryd.func18, Tryd.ntmps18
      go_wp2_with fail
      try rw [hX]
      refine (implGraphOk_any n s c L X (hL.later l0) hl).mono ?_
      rintro e w1 ⟨rfl, hb1⟩
      rw [h1]
      have k1 := k0.later hb1
      have l1 := bl_trans l0 hb1
      have k2 : Blk (w1.setRow w.heap.size (pl 0 (fun _ _ => false) 0)) w.heap.size (pl 0 (fun _ _ => false) 0) 51 := setRow_heap _ _ _ _ _ _ k1
      have l2 : Below w.heap.size w (w1.setRow w.heap.size (pl 0 (fun _ _ => false) 0)) := below_setRow l1 (Nat.le_refl _) _
      have hld := load_pl _ _ _ _ _ k2
      clear k2
      go_wp2_with (first
      | refine wpList_buildTo rfl 51 _ rfl (some 22) rfl (pl 0 (fun _ _ => false) 0) built_zero ?_
      | refine wpList_store_row rfl 51 (.tmp 6) (.tmp 22) rfl w.heap.size (pl 0 (fun _ _ => false) 0) rfl rfl _ _ k1 (by rw [Tryd.infoPl, pl_size]) (by rw [pl_size]) (pl_one _ _ _) ?_)
      refine bodyPost_ret (v := .tuple #[.agg (pl 0 (fun _ _ => false) 0), .bool false]) (by simp [results, Tryd.results18, asAddr, hld]) rfl ⟨rfl, l2⟩

set_option maxHeartbeats 4000000 in
theorem newPool_ok (m : Nat) (wk : Int) (s : Option Addr) (c : Nat) (L : List (Int × Int)) (w : World) (hL : Eds w s L) (hl : L.length ≤ 1048576) (hg : gOk m L = true) (hk : wkOk wk = true) (h16 : In16 L) :
    Calls Tryd.prog 18 #[.int .i64 m, .slice s L.length c, .int .i64 wk] w fun e w' => e = .returned (.tuple #[.agg (pl m (eF L) wk), .bool true]) ∧ Below w.heap.size w w' := by
  have k0 := Blk.new w (pl 0 (fun _ _ => false) 0) 51
  have l0 : Below w.heap.size w (w.alloc (.cells (pl 0 (fun _ _ => false) 0) 51)) := bl_alloc (Below.refl _ w) _
  obtain ⟨X, hX⟩ : ∃ X, w.alloc (.cells (pl 0 (fun _ _ => false) 0) 51) = X := ⟨_, rfl⟩
  rw [hX] at k0 l0
  rw [pl_zero] at hX
  have t1 : decide (wk < 1) = false := by unfold wkOk at hk; simp at hk ⊢; omega
  have t2 : decide (8 < wk) = false := by unfold wkOk at hk; simp at hk ⊢; omega
  go_enter Tryd.func18, Tryd.ntmps18
  go_wp2_with fail
  try rw [hX]
  refine (implGraphOk_any m s c L X (hL.later l0) hl).mono ?_
  rintro e w1 ⟨rfl, hb1⟩
  rw [hg]
  have l1 := bl_trans l0 hb1
  go_wp2_with fail
  refine (linksOf_any s c L w1 (hL.later l1) hl h16).mono ?_
  rintro e w2 ⟨rfl, hb2⟩
  have k2 := k0.later (bl_trans hb1 hb2)
  have l2 := bl_trans l1 hb2
  go_upto_region 4 with (first
    | refine wpList_store_row rfl 49 (.tmp 8) (.tmp 26) rfl w2.heap.size (lk (eR L)) rfl rfl _ _ (blk2 w2 _ _ _ _).1 (by rw [Tryd.infoLk, lk_size]) (by rw [lk_size]; rfl) (lk_one _) ?_
    | refine wpList_store_row rfl 49 (.tmp 9) (.tmp 27) rfl (w2.heap.size + 1) (lk (eF L)) rfl rfl _ _ ((setRow_other _ _ _ _ (by omega)).trans (blk2 w2 _ _ _ _).2) (by rw [Tryd.infoLk, lk_size]) (by rw [lk_size]; rfl) (lk_one _) ?_)
  rw [← lk_zero]
  obtain ⟨j0, j1, l3⟩ := two_lk w2 (eR L) (eF L)
  have k3 := k2.later l3
  have l4 := bl_trans l2 l3
  change Code.wp _ _ _ _ (twoW w2 (eR L) (eF L))
  generalize twoW w2 (eR L) (eF L) = Y at j0 j1 l3 k3 l4 ⊢
  have kz : Blk (Y.setRow w.heap.size (pl m (eF L) wk)) w.heap.size (pl m (eF L) wk) 51 := setRow_heap _ _ _ _ _ _ k3
  have lz : Below w.heap.size w (Y.setRow w.heap.size (pl m (eF L) wk)) := below_setRow l4 (Nat.le_refl _) _
  have hld := load_pl _ _ _ _ _ kz
  clear kz
  go_wp2_with (first
    | refine wpList_load_row rfl 49 (.tmp 9) rfl (w2.heap.size + 1) rfl _ _ _ _ j1 Tryd.underlying49 rfl (by rw [Tryd.infoLk, lk_size]) ?_
    | refine wpList_buildTo rfl 51 _ rfl (some 31) rfl (pl m (eF L) wk) (by kernel_rfl) ?_
    | refine wpList_store_row rfl 51 (.tmp 6) (.tmp 31) rfl w.heap.size (pl m (eF L) wk) rfl rfl _ _ k3 (by rw [Tryd.infoPl, pl_size]) (by rw [pl_size, pl_size]) (pl_one _ _ _) ?_)
  refine bodyPost_ret (v := .tuple #[.agg (pl m (eF L) wk), .bool true]) (by simp [results, Tryd.results18, asAddr, hld]) rfl ⟨rfl, lz⟩
end Go.Proofs.YtigllpegaljkmaaDoor
