import Derived.Test.YtigllpegaljkmaaDoorN43j
import Derived.Test.YtigllpegaljkmaaDoorN16j
namespace Go.Proofs.YtigllpegaljkmaaDoor
open Go.RowKit Go.Maps Go.WideMaps
set_option linter.unusedVariables false
set_option linter.unusedSimpArgs false
set_option maxRecDepth 100000

set_option maxHeartbeats 8000000 in
theorem implMeet_bad (n wk a b : Int) (s : Option Addr) (c : Nat) (L : List (Int × Int)) (w : World) (hL : Eds w s L) (hl : L.length ≤ 1048576) (hno : meOk n L wk a b = false) :
    Calls Tryd.prog 6 #[.int .i64 n, .slice s L.length c, .int .i64 wk, .int .i64 a, .int .i64 b] w fun e w' => PlS w (meB n L wk a b) e w' := by
  have hA : Hid (meB n L wk a b = none) := by simp [Hid, meB, hno]
  cases hgk : (gOk n L && wkOk wk)
  · go_enter Tryd.func6, Tryd.ntmps6
    go_wp2_with fail
    refine (newPool_bad n wk s c L w hL hl hgk).mono ?_
    rintro e w1 ⟨rfl, hb1⟩
    have k1 : Blk (w1.alloc (.cells (pl 0 (fun _ _ => false) 0) 51)) w1.heap.size (pl 0 (fun _ _ => false) 0) 51 := Blk.new _ _ _
    rw [show Obj.cells (pl 0 (fun _ _ => false) 0) 51 (0, 0) = Obj.cells #[.int .i64 0, .int .u16 0, .int .u16 0, .int .u16 0, .int .u16 0, .int .u16 0, .int .u16 0, .int .u16 0, .int .u16 0, .int .u16 0, .int .u16 0, .int .u16 0, .int .u16 0, .int .u16 0, .int .u16 0, .int .u16 0, .int .u16 0, .int .i64 0] 51 (0, 0) by rw [pl_zero]] at k1
    have l1 := bl_alloc hb1 (.cells #[.int .i64 0, .int .u16 0, .int .u16 0, .int .u16 0, .int .u16 0, .int .u16 0, .int .u16 0, .int .u16 0, .int .u16 0, .int .u16 0, .int .u16 0, .int .u16 0, .int .u16 0, .int .u16 0, .int .u16 0, .int .u16 0, .int .u16 0, .int .i64 0] 51)
    generalize hP : pl 0 (fun _ _ => false) 0 = P0 at k1 ⊢
    have hP1 : (P0.all (·.oneCell')) = true := by rw [← hP]; exact pl_one _ _ _
    have hP2 : P0.size = 18 := by rw [← hP]; exact pl_size _ _ _
    go_wp2_with (refine wpList_store_row rfl 51 (.tmp 12) (.tmp 19) rfl w1.heap.size P0 rfl rfl _ _ k1 (by rw [Tryd.infoPl, hP2]) (by rw [hP2]) hP1 ?_)
    refine bodyPost_ret (v := .tuple #[.slice none 0 0, .bool false]) (by simp [results, Tryd.results6]) rfl ?_
    rw [hA.out]
    exact PlS.none (below_setRow l1 hb1.size _)
  have hgk2 := hgk
  simp only [Bool.and_eq_true] at hgk
  obtain ⟨hg, hk⟩ := hgk
  obtain ⟨m, rfl, hm, hl2, hin, h16⟩ := gOk_open hg
  have hca : (decide ((6 : Int) < (m : Int)) || (a == b) || !decide (0 ≤ a ∧ a < (m : Int)) || !decide (0 ≤ b ∧ b < (m : Int))) = true := by
    simp only [meOk, hg, hk, Bool.true_and] at hno
    cases h1 : decide ((6 : Int) < (m : Int))
    · have h1' : decide ((m : Int) ≤ 6) = true := by simp at h1 ⊢; omega
      rw [h1', Bool.true_and] at hno
      cases h2 : (a == b)
      · have h2' : decide (¬ a = b) = true := by simpa using h2
        rw [h2', Bool.true_and] at hno
        cases h3 : decide (0 ≤ a ∧ a < (m : Int))
        · rfl
        · rw [h3, Bool.true_and] at hno
          rw [hno]; rfl
      · rfl
    · rfl
  have k1 : ∀ w1 : World, Blk (w1.alloc (.cells (pl 0 (fun _ _ => false) 0) 51)) w1.heap.size (pl 0 (fun _ _ => false) 0) 51 := fun w1 => Blk.new _ _ _
  rw [pl_zero] at k1
  cases h1 : decide ((6 : Int) < (m : Int))
  · cases h2 : (a == b)
    · cases h3 : decide (0 ≤ a ∧ a < (m : Int))
      · go_enter Tryd.func6, Tryd.ntmps6
        go_wp2_with fail
        refine (newPool_ok m wk s c L w hL hl hg hk h16).mono ?_
        rintro e w1 ⟨rfl, hb1⟩
        have k2 := k1 w1
        have l1 := bl_alloc hb1 (.cells #[.int .i64 0, .int .u16 0, .int .u16 0, .int .u16 0, .int .u16 0, .int .u16 0, .int .u16 0, .int .u16 0, .int .u16 0, .int .u16 0, .int .u16 0, .int .u16 0, .int .u16 0, .int .u16 0, .int .u16 0, .int .u16 0, .int .u16 0, .int .i64 0] 51)
        go_wp2_with (first
          | refine wpList_store_row rfl 51 (.tmp 12) (.tmp 19) rfl w1.heap.size (pl m (eF L) wk) rfl rfl _ _ k2 (by rw [Tryd.infoPl, pl_size]) (by rw [pl_size]; rfl) (pl_one _ _ _) ?_
          | (go_at_call 19; refine (isBelow_any _ _ _).mono ?_; rintro e w' ⟨rfl, hq⟩; subst hq; rw [h3]))
        refine bodyPost_ret (v := .tuple #[.slice none 0 0, .bool false]) (by simp [results, Tryd.results6]) rfl ?_
        rw [hA.out]
        exact PlS.none (below_setRow l1 hb1.size _)
      · have h4 : decide (0 ≤ b ∧ b < (m : Int)) = false := by
          cases h4 : decide (0 ≤ b ∧ b < (m : Int))
          · rfl
          · rw [h1, h2, h3, h4] at hca; exact absurd hca (by decide)
        go_enter Tryd.func6, Tryd.ntmps6
        go_wp2_with fail
        refine (newPool_ok m wk s c L w hL hl hg hk h16).mono ?_
        rintro e w1 ⟨rfl, hb1⟩
        have k2 := k1 w1
        have l1 := bl_alloc hb1 (.cells #[.int .i64 0, .int .u16 0, .int .u16 0, .int .u16 0, .int .u16 0, .int .u16 0, .int .u16 0, .int .u16 0, .int .u16 0, .int .u16 0, .int .u16 0, .int .u16 0, .int .u16 0, .int .u16 0, .int .u16 0, .int .u16 0, .int .u16 0, .int .i64 0] 51)
        go_wp2_with (first
          | refine wpList_store_row rfl 51 (.tmp 12) (.tmp 19) rfl w1.heap.size (pl m (eF L) wk) rfl rfl _ _ k2 (by rw [Tryd.infoPl, pl_size]) (by rw [pl_size]; rfl) (pl_one _ _ _) ?_
          | (go_at_call 19; refine (isBelow_any _ _ _).mono ?_; rintro e w' ⟨rfl, hq⟩; subst hq; first | rw [h3] | rw [h4]))
        refine bodyPost_ret (v := .tuple #[.slice none 0 0, .bool false]) (by simp [results, Tryd.results6]) rfl ?_
        rw [hA.out]
        exact PlS.none (below_setRow l1 hb1.size _)
    · go_enter Tryd.func6, Tryd.ntmps6
      go_wp2_with fail
      refine (newPool_ok m wk s c L w hL hl hg hk h16).mono ?_
      rintro e w1 ⟨rfl, hb1⟩
      have k2 := k1 w1
      have l1 := bl_alloc hb1 (.cells #[.int .i64 0, .int .u16 0, .int .u16 0, .int .u16 0, .int .u16 0, .int .u16 0, .int .u16 0, .int .u16 0, .int .u16 0, .int .u16 0, .int .u16 0, .int .u16 0, .int .u16 0, .int .u16 0, .int .u16 0, .int .u16 0, .int .u16 0, .int .i64 0] 51)
      go_wp2_with (refine wpList_store_row rfl 51 (.tmp 12) (.tmp 19) rfl w1.heap.size (pl m (eF L) wk) rfl rfl _ _ k2 (by rw [Tryd.infoPl, pl_size]) (by rw [pl_size]; rfl) (pl_one _ _ _) ?_)
      refine bodyPost_ret (v := .tuple #[.slice none 0 0, .bool false]) (by simp [results, Tryd.results6]) rfl ?_
      rw [hA.out]
      exact PlS.none (below_setRow l1 hb1.size _)
  · go_enter Tryd.func6, Tryd.ntmps6
    go_wp2_with fail
    refine (newPool_ok m wk s c L w hL hl hg hk h16).mono ?_
    rintro e w1 ⟨rfl, hb1⟩
    have k2 := k1 w1
    have l1 := bl_alloc hb1 (.cells #[.int .i64 0, .int .u16 0, .int .u16 0, .int .u16 0, .int .u16 0, .int .u16 0, .int .u16 0, .int .u16 0, .int .u16 0, .int .u16 0, .int .u16 0, .int .u16 0, .int .u16 0, .int .u16 0, .int .u16 0, .int .u16 0, .int .u16 0, .int .i64 0] 51)
    go_wp2_with (refine wpList_store_row rfl 51 (.tmp 12) (.tmp 19) rfl w1.heap.size (pl m (eF L) wk) rfl rfl _ _ k2 (by rw [Tryd.infoPl, pl_size]) (by rw [pl_size]; rfl) (pl_one _ _ _) ?_)
    refine bodyPost_ret (v := .tuple #[.slice none 0 0, .bool false]) (by simp [results, Tryd.results6]) rfl ?_
    rw [hA.out]
    exact PlS.none (below_setRow l1 hb1.size _)

set_option maxHeartbeats 8000000 in
theorem implMeet_any (n wk a b : Int) (s : Option Addr) (c : Nat) (L : List (Int × Int)) (w : World) (hL : Eds w s L) (hl : L.length ≤ 1048576) (hT : DbT w) :
    Calls Tryd.prog 6 #[.int .i64 n, .slice s L.length c, .int .i64 wk, .int .i64 a, .int .i64 b] w fun e w' => PlS w (meB n L wk a b) e w' := by
  cases hok : meOk n L wk a b
  · exact implMeet_bad n wk a b s c L w hL hl hok
  have hok' := hok
  simp only [meOk, Bool.and_eq_true, decide_eq_true_eq] at hok'
  obtain ⟨⟨⟨⟨⟨hg, hk⟩, h6⟩, hab⟩, ha⟩, hb⟩ := hok'
  obtain ⟨m, rfl, hm, hl2, hin, h16⟩ := gOk_open hg
  obtain ⟨x, rfl⟩ : ∃ x : Nat, a = (x : Int) := ⟨a.toNat, by omega⟩
  obtain ⟨y, rfl⟩ : ∃ y : Nat, b = (y : Int) := ⟨b.toNat, by omega⟩
  have hx : x < m := by omega
  have hy : y < m := by omega
  have hm6 : m ≤ 6 := by omega
  have HA : Hid (meB m L wk x y = bfs L wk x y 1000 [(List.replicate m 0, [])] 0) := by simp [Hid, meB, hok]
  have HI : Hid (Inn m L) := hin
  have HT : Hid (DbT w) := hT
  have t6 : decide ((6 : Int) < (m : Int)) = false := by simp; omega
  have tab : ((x : Int) == (y : Int)) = false := by simpa using hab
  have h3 : decide (0 ≤ (x : Int) ∧ (x : Int) < (m : Int)) = true := by simp; omega
  have h4 : decide (0 ≤ (y : Int) ∧ (y : Int) < (m : Int)) = true := by simp; omega
  have g1 := or16 (fun i => decide (i = x)) (fun i => decide (i = y))
  go_enter Tryd.func6, Tryd.ntmps6
  go_wp2_with fail
  refine (newPool_ok m wk s c L w hL hl hg hk h16).mono ?_
  rintro e w1 ⟨rfl, hb1⟩
  have k2 : Blk (w1.alloc (.cells (pl 0 (fun _ _ => false) 0) 51)) w1.heap.size (pl 0 (fun _ _ => false) 0) 51 := Blk.new _ _ _
  have k3 : Blk ((w1.alloc (.cells (pl 0 (fun _ _ => false) 0) 51)).setRow w1.heap.size (pl m (eF L) wk)) w1.heap.size (pl m (eF L) wk) 51 := setRow_heap _ _ _ _ _ _ k2
  have l1 := bl_alloc hb1 (.cells (pl 0 (fun _ _ => false) 0) 51)
  have l2 : Below w.heap.size w ((w1.alloc (.cells (pl 0 (fun _ _ => false) 0) 51)).setRow w1.heap.size (pl m (eF L) wk)) := below_setRow l1 hb1.size _
  obtain ⟨Y, hY⟩ : ∃ Y, (w1.alloc (.cells (pl 0 (fun _ _ => false) 0) 51)).setRow w1.heap.size (pl m (eF L) wk) = Y := ⟨_, rfl⟩
  rw [hY] at k3 l2
  rw [pl_zero] at k2 hY
  have HY : Hid ((w1.alloc (.cells #[.int .i64 0, .int .u16 0, .int .u16 0, .int .u16 0, .int .u16 0, .int .u16 0, .int .u16 0, .int .u16 0, .int .u16 0, .int .u16 0, .int .u16 0, .int .u16 0, .int .u16 0, .int .u16 0, .int .u16 0, .int .u16 0, .int .u16 0, .int .i64 0] 51)).setRow w1.heap.size (pl m (eF L) wk) = Y) := hY
  have K3 : Hid (Blk Y w1.heap.size (pl m (eF L) wk) 51) := k3
  have L2 : Hid (Below w.heap.size w Y) := l2
  clear hY k3 l2 l1 hT hin hL
  go_wp2_with (first
          | (refine wpList_store_row rfl 51 (.tmp 12) (.tmp 19) rfl w1.heap.size (pl m (eF L) wk) rfl rfl _ _ k2 (by rw [Tryd.infoPl, pl_size]) (by rw [pl_size]; rfl) (pl_one _ _ _) ?_; rw [HY.out])
          | (go_at_call 19; refine (isBelow_any _ _ _).mono ?_; rintro e w' ⟨rfl, hq⟩; rw [hq]; clear hq w'; first | rw [h3] | rw [h4]))
  refine wp_region_held_drew (S := fun W => Blk W w1.heap.size (pl m (eF L) wk) 51) (by kernel_rfl) ?_ (fun hHeld => ?_)
  · exact K3.out
  refine wpAnyH_one (i := 0) (d := 44) (v := .agg (pl m (eF L) wk)) rfl rfl (by kernel_rfl) (by kernel_rfl) (by kernel_rfl) (fun _ _ _ h => h) (by rfl) (by assumption) ?_ ?_
  · intro w hSw; exact run_load rfl rfl (load_pl _ _ _ _ _ hSw)
  simp only [List.foldl, Act.put, List.setIfInBounds_toArray, List.set_cons_zero, List.set_cons_succ]
  refine wpAnyH_one (i := 1) (d := 45) (v := ?_) rfl rfl (by kernel_rfl) (by kernel_rfl) (by kernel_rfl) (fun _ _ _ h => h) (by rfl) (by assumption) ?_ ?_
  rotate_left 1
  · intro w hSw; clear hSw; go_simp <;> with_reducible rfl
  simp only [List.foldl, Act.put, List.setIfInBounds_toArray, List.set_cons_zero, List.set_cons_succ]
  refine wpAnyH_one (i := 3) (d := 47) (v := ?_) rfl rfl (by kernel_rfl) (by kernel_rfl) (by kernel_rfl) (fun _ _ _ h => h) (by rfl) (by assumption) ?_ ?_
  rotate_left 1
  · intro w hSw; clear hSw; go_simp <;> with_reducible rfl
  simp only [List.foldl, Act.put, List.setIfInBounds_toArray, List.set_cons_zero, List.set_cons_succ]
  refine wpAnyH_ready (rs := [2]) (by kernel_rfl) (by simp) ?_
  refine AllReadyH.cons rfl (fun K hK => ?_) AllReadyH.nil
  go_simp
  refine (bitOf_any x _ (by omega)).mono ?_
  rintro z w4 ⟨rfl, hq⟩
  rw [hq]
  clear hq w4
  refine hK.out _ _ hHeld (fun hHeld => ?_)
  clear hK K
  try simp only [List.foldl, Act.put, List.setIfInBounds_toArray, List.set_cons_zero, List.set_cons_succ]
  refine wpAnyH_ready (rs := [4]) (by kernel_rfl) (by simp) ?_
  refine AllReadyH.cons rfl (fun K hK => ?_) AllReadyH.nil
  go_simp
  refine (bitOf_any y _ (by omega)).mono ?_
  rintro z w5 ⟨rfl, hq⟩
  rw [hq]
  clear hq w5
  refine hK.out _ _ hHeld (fun hHeld => ?_)
  clear hK K
  try simp only [List.foldl, Act.put, List.setIfInBounds_toArray, List.set_cons_zero, List.set_cons_succ]
  refine wpAnyH_one (i := 5) (d := 49) (v := ?_) rfl rfl (by kernel_rfl) (by kernel_rfl) (by kernel_rfl) (fun _ _ _ h => h) (by rfl) (by assumption) ?_ ?_
  rotate_left 1
  · intro w hSw; clear hSw; go_simp <;> with_reducible rfl
  simp only [List.foldl, Act.put, List.setIfInBounds_toArray, List.set_cons_zero, List.set_cons_succ]
  refine wpAnyH_ready (rs := [6]) (by kernel_rfl) (by simp) ?_
  refine AllReadyH.cons rfl (fun K hK => ?_) AllReadyH.nil
  go_simp
  refine (wayTo_any wk m x y L _ (HT.out.later (bl_trans L2.out (bl_drew (Below.refl _ _)))) HI.out hm6 hx hy).mono ?_
  rintro z w6 ⟨v, rfl, hv, hb6⟩
  have b6 : Below Y.heap.size Y w6 := bl_trans (bl_drew (Below.refl _ _)) hb6
  refine hK.out _ _ (K3.out.later b6) (fun hHeld => ?_)
  clear hK K
  try simp only [List.foldl, Act.put, List.setIfInBounds_toArray, List.set_cons_zero, List.set_cons_succ]
  refine wpAnyH_one (i := 7) (d := 51) (v := ?_) rfl rfl (by kernel_rfl) (by kernel_rfl) (by kernel_rfl) (fun _ _ _ h => h) (by rfl) (by assumption) ?_ ?_
  rotate_left 1
  · intro w hSw; clear hSw; go_simp <;> with_reducible rfl
  simp only [List.foldl, Act.put, List.setIfInBounds_toArray, List.set_cons_zero, List.set_cons_succ]
  refine wpAnyH_one (i := 8) (d := 52) (v := ?_) rfl rfl (by kernel_rfl) (by kernel_rfl) (by kernel_rfl) (fun _ _ _ h => h) (by rfl) (by assumption) ?_ ?_
  rotate_left 1
  · intro w hSw; clear hSw; go_simp <;> with_reducible rfl
  simp only [List.foldl, Act.put, List.setIfInBounds_toArray, List.set_cons_zero, List.set_cons_succ]
  refine wpAnyH_one (i := 9) (d := 10) (v := ?_) rfl rfl (by kernel_rfl) (by kernel_rfl) (by kernel_rfl) (fun _ _ _ h => h) (by rfl) (by assumption) ?_ ?_
  rotate_left 1
  · intro w hSw; clear hSw; go_simp <;> with_reducible rfl
  simp only [List.foldl, Act.put, List.setIfInBounds_toArray, List.set_cons_zero, List.set_cons_succ]
  refine wpAnyH_one (i := 10) (d := 11) (v := ?_) rfl rfl (by kernel_rfl) (by kernel_rfl) (by kernel_rfl) (fun _ _ _ h => h) (by rfl) (by assumption) ?_ ?_
  rotate_left 1
  · intro w hSw; clear hSw; go_simp <;> with_reducible rfl
  simp only [List.foldl, Act.put, List.setIfInBounds_toArray, List.set_cons_zero, List.set_cons_succ]
  refine wpAnyH_done (by kernel_rfl) ?_ _
  have hs2 := L2.out.size
  have L6 : Below w.heap.size w w6 := bl_trans L2.out b6
  go_wp2_with fail
  refine bodyPost_ret (v := .tuple #[v, .bool (bfs L wk x y 1000 [(List.replicate m 0, [])] 0).isSome]) (by simp [results, Tryd.results6]) rfl ?_
  rw [HA.out]
  exact ⟨v, rfl, hv.mono hs2, L6⟩
end Go.Proofs.YtigllpegaljkmaaDoor
