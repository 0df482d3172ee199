import Derived.Test.YtbgeobpdojmdaaaDoorG42
import Derived.Deep.RegionHeld3
namespace Go.Proofs.YtbgeobpdojmdaaaDoor
open Go.RowKit
set_option linter.unusedVariables false
set_option linter.unusedSimpArgs false

set_option maxRecDepth 100000 in
set_option maxHeartbeats 8000000 in
theorem implReduced_any (n : Int) (s : Option Addr) (c : Nat) (L : List (Int × Int)) (w : World) (hL : Eds w s L) (hl : L.length ≤ 1048576) (hT : DbT w) :
    Calls Tryd.prog 6 #[.int .i64 n, .slice s L.length c] w fun e w' => ∃ v, e = .returned v ∧ ERow w' w.heap.size v (redB n L) ∧ Below w.heap.size w w' := by
  have hal := alloc_old
  have haf := alloc_oldf
  cases hc : (canB n L).isSome
  · have hA : Hid (redB n L = []) := by simp [Hid, redB, hc]
    go_enter Tryd.func6, Tryd.ntmps6
    go_wp2_with (go_at_call 15; refine (implCanon_any _ _ _ L _ hL hl hT).mono ?_; rintro e w1 ⟨cs, cc, rfl, hv1, hb1⟩; rw [hc])
    go_ret
    refine ⟨_, rfl, ?_, hb1⟩
    rw [hA.out]; exact ERow.nil _ _
  · have hg : gOk n L = true := by
      cases hg : gOk n L
      · simp [canB, hg] at hc
      · rfl
    obtain ⟨m, rfl, hm, hl2, hin, h16⟩ := gOk_open hg
    have HA : Hid (redB m L = redP (clo (eR L) 16) m m 0) := by simp [Hid, redB, hc]
    have HS : Hid (Sup (clo (eR L) 16) m) := clo_sup hin.sup 16
    clear hin hl2
    go_enter Tryd.func6, Tryd.ntmps6
    go_upto_region 5 with (first
      | (go_at_call 15; refine (implCanon_any _ _ _ L _ hL hl hT).mono ?_; rintro e w1 ⟨cs, cc, rfl, hv1, hb1⟩; rw [hc])
      | (go_at_call 16; refine (linksOf_any _ _ L _ (hL.later hb1) hl h16).mono ?_; rintro e w2 ⟨rfl, hb2⟩)
      | refine wpList_store_row rfl 41 (.tmp 7) (.tmp 25) rfl w2.heap.size (lk (eR L)) rfl rfl _ _ (blk2 w2 _ _ _ _).1 (by rw [Tryd.infoLk, lk_size]) (by rw [lk_size]; rfl) (lk_one _) ?_
      | refine wpList_store_row rfl 41 (.tmp 8) (.tmp 26) rfl (w2.heap.size + 1) (lk (eF L)) rfl rfl _ _ ((setRow_other _ _ _ _ (by omega)).trans (blk2 w2 _ _ _ _).2) (by rw [Tryd.infoLk, lk_size]) (by rw [lk_size]; rfl) (lk_one _) ?_)
    rw [← lk_zero]
    obtain ⟨k0, k1, l3⟩ := two_lk w2 (eR L) (eF L)
    have L3 : Hid (Below w.heap.size w (twoW w2 (eR L) (eF L))) := bl_trans (bl_trans hb1 hb2) l3
    clear hb1 hb2 l3 hv1 hal haf
    change Code.wp _ _ _ _ (twoW w2 (eR L) (eF L))
    generalize twoW w2 (eR L) (eF L) = X at k0 k1 L3 ⊢
    generalize w2.heap.size = gb at k0 k1 ⊢
    have ltX := k1.lt
    have K0 : Hid (Blk X gb (lk (eR L)) 41) := k0
    have K1 : Hid (Blk X (gb + 1) (lk (eF L)) 41) := k1
    clear k0 k1 hT hL
    try simp only [List.foldl, Act.put, List.setIfInBounds_toArray, List.set_cons_zero, List.set_cons_succ]
    go_cut [9, 10] (fun p0 p1 wx => ∃ ka kb : Nat, p0 = .pointer (some ⟨ka, 0, none⟩) ∧ p1 = .pointer (some ⟨kb, 0, none⟩) ∧ Blk wx ka (lk (clo (eR L) 16)) 41 ∧ Blk wx kb (lk (clo (eF L) 16)) 41 ∧ Below X.heap.size X wx)
    case first =>
      refine wp_region_held_drew (S := (fun w' => Blk w' gb (lk (eR L)) 41 ∧ Blk w' (gb + 1) (lk (eF L)) 41)) (by kernel_rfl) ?_ (fun hHeld => ?_)
      · exact ⟨K0.out, K1.out⟩
      have LX : Hid (Below X.heap.size X X) := Below.refl _ _
      refine wpAnyH_one (i := 0) (d := 27) (v := .agg (lk (eR L))) rfl rfl (by kernel_rfl) (by kernel_rfl) (by kernel_rfl) (fun _ _ _ h => h) (by rfl) (by assumption) ?_ ?_
      · intro w hSw; exact run_load rfl rfl (load_lk _ _ _ hSw.1)
      simp only [List.foldl, Act.put, List.setIfInBounds_toArray, List.set_cons_zero, List.set_cons_succ]
      refine wpAnyH_one (i := 2) (d := 29) (v := .agg (lk (eF L))) rfl rfl (by kernel_rfl) (by kernel_rfl) (by kernel_rfl) (fun _ _ _ h => h) (by rfl) (by assumption) ?_ ?_
      · intro w hSw; exact run_load rfl rfl (load_lk _ _ _ hSw.2)
      simp only [List.foldl, Act.put, List.setIfInBounds_toArray, List.set_cons_zero, List.set_cons_succ]
      refine wpAnyH_ready (rs := [1, 4, 5]) (by kernel_rfl) (by simp) ?_
      refine AllReadyH.cons rfl (fun K hK => ?_) ?_
      · skip
        go_simp
        refine (byAnyWay_any (eR L) _).mono ?_
        rintro z g1 ⟨rfl, hb⟩
        have hc : Below X.heap.size X g1 := bl_trans (bl_drew (Below.refl _ _)) hb
        have LX : Hid (Below X.heap.size X g1) := bl_trans LX.out hc
        have K0 : Hid (Blk g1 gb (lk (eR L)) 41) := K0.out.later hc
        have K1 : Hid (Blk g1 (gb + 1) (lk (eF L)) 41) := K1.out.later hc
        clear hb hc
        refine hK.out _ _ ?_ (fun hHeld => ?_)
        · exact ⟨K0.out, K1.out⟩
        clear hK K
        try simp only [List.foldl, Act.put, List.setIfInBounds_toArray, List.set_cons_zero, List.set_cons_succ]
        refine wpAnyH_ready (rs := [3, 4, 5]) (by kernel_rfl) (by simp) ?_
        refine AllReadyH.cons rfl (fun K hK => ?_) ?_
        · skip
          go_simp
          refine (byAnyWay_any (eF L) _).mono ?_
          rintro z g2 ⟨rfl, hb⟩
          have hc : Below g1.heap.size g1 g2 := hb
          have LX : Hid (Below X.heap.size X g2) := bl_trans LX.out hc
          have K0 : Hid (Blk g2 gb (lk (eR L)) 41) := K0.out.later hc
          have K1 : Hid (Blk g2 (gb + 1) (lk (eF L)) 41) := K1.out.later hc
          clear hb hc
          refine hK.out _ _ ?_ (fun hHeld => ?_)
          · exact ⟨K0.out, K1.out⟩
          clear hK K
          try simp only [List.foldl, Act.put, List.setIfInBounds_toArray, List.set_cons_zero, List.set_cons_succ]
          refine wpAnyH_ready (rs := [4, 5]) (by kernel_rfl) (by simp) ?_
          refine AllReadyH.cons rfl (fun K hK => ?_) ?_
          · skip
            go_simp
            have hg : Below g2.heap.size g2 (g2.alloc (.cells #[.int .u16 0, .int .u16 0, .int .u16 0, .int .u16 0, .int .u16 0, .int .u16 0, .int .u16 0, .int .u16 0, .int .u16 0, .int .u16 0, .int .u16 0, .int .u16 0, .int .u16 0, .int .u16 0, .int .u16 0, .int .u16 0] 41)) := bl_alloc (Below.refl _ _) _
            have Ka : Hid (Blk (g2.alloc (.cells #[.int .u16 0, .int .u16 0, .int .u16 0, .int .u16 0, .int .u16 0, .int .u16 0, .int .u16 0, .int .u16 0, .int .u16 0, .int .u16 0, .int .u16 0, .int .u16 0, .int .u16 0, .int .u16 0, .int .u16 0, .int .u16 0] 41)) g2.heap.size #[.int .u16 0, .int .u16 0, .int .u16 0, .int .u16 0, .int .u16 0, .int .u16 0, .int .u16 0, .int .u16 0, .int .u16 0, .int .u16 0, .int .u16 0, .int .u16 0, .int .u16 0, .int .u16 0, .int .u16 0, .int .u16 0] 41) := Blk.new _ _ _
            have hxs : X.heap.size ≤ g2.heap.size := LX.out.size
            have LX : Hid (Below X.heap.size X (g2.alloc (.cells #[.int .u16 0, .int .u16 0, .int .u16 0, .int .u16 0, .int .u16 0, .int .u16 0, .int .u16 0, .int .u16 0, .int .u16 0, .int .u16 0, .int .u16 0, .int .u16 0, .int .u16 0, .int .u16 0, .int .u16 0, .int .u16 0] 41))) := bl_trans LX.out hg
            have K0 : Hid (Blk (g2.alloc (.cells #[.int .u16 0, .int .u16 0, .int .u16 0, .int .u16 0, .int .u16 0, .int .u16 0, .int .u16 0, .int .u16 0, .int .u16 0, .int .u16 0, .int .u16 0, .int .u16 0, .int .u16 0, .int .u16 0, .int .u16 0, .int .u16 0] 41)) gb (lk (eR L)) 41) := K0.out.later hg
            have K1 : Hid (Blk (g2.alloc (.cells #[.int .u16 0, .int .u16 0, .int .u16 0, .int .u16 0, .int .u16 0, .int .u16 0, .int .u16 0, .int .u16 0, .int .u16 0, .int .u16 0, .int .u16 0, .int .u16 0, .int .u16 0, .int .u16 0, .int .u16 0, .int .u16 0] 41)) (gb + 1) (lk (eF L)) 41) := K1.out.later hg
            clear hg
            refine hK.out _ _ ?_ (fun hHeld => ?_)
            · exact ⟨K0.out, K1.out⟩
            clear hK K
            try simp only [List.foldl, Act.put, List.setIfInBounds_toArray, List.set_cons_zero, List.set_cons_succ]
            generalize hGe : (g2.alloc (.cells #[.int .u16 0, .int .u16 0, .int .u16 0, .int .u16 0, .int .u16 0, .int .u16 0, .int .u16 0, .int .u16 0, .int .u16 0, .int .u16 0, .int .u16 0, .int .u16 0, .int .u16 0, .int .u16 0, .int .u16 0, .int .u16 0] 41)) = g3 at Ka hHeld LX K0 K1 ⊢
            obtain ⟨ka, hka⟩ : ∃ k, g2.heap.size = k := ⟨_, rfl⟩
            have HXa : Hid (X.heap.size ≤ ka) := Nat.le_trans hxs (Nat.le_of_eq hka)
            clear hxs
            rw [hka] at Ka
            try rw [hka]
            clear hGe hka
            refine wpAnyH_ready (rs := [5]) (by kernel_rfl) (by simp) ?_
            refine AllReadyH.cons rfl (fun K hK => ?_) AllReadyH.nil
            go_simp
            have hg : Below g3.heap.size g3 (g3.alloc (.cells #[.int .u16 0, .int .u16 0, .int .u16 0, .int .u16 0, .int .u16 0, .int .u16 0, .int .u16 0, .int .u16 0, .int .u16 0, .int .u16 0, .int .u16 0, .int .u16 0, .int .u16 0, .int .u16 0, .int .u16 0, .int .u16 0] 41)) := bl_alloc (Below.refl _ _) _
            have Kb : Hid (Blk (g3.alloc (.cells #[.int .u16 0, .int .u16 0, .int .u16 0, .int .u16 0, .int .u16 0, .int .u16 0, .int .u16 0, .int .u16 0, .int .u16 0, .int .u16 0, .int .u16 0, .int .u16 0, .int .u16 0, .int .u16 0, .int .u16 0, .int .u16 0] 41)) g3.heap.size #[.int .u16 0, .int .u16 0, .int .u16 0, .int .u16 0, .int .u16 0, .int .u16 0, .int .u16 0, .int .u16 0, .int .u16 0, .int .u16 0, .int .u16 0, .int .u16 0, .int .u16 0, .int .u16 0, .int .u16 0, .int .u16 0] 41) := Blk.new _ _ _
            have hxs : X.heap.size ≤ g3.heap.size := LX.out.size
            have NE : Hid (¬ ka = g3.heap.size) := by have := Ka.out.lt; show ¬ _; omega
            have LX : Hid (Below X.heap.size X (g3.alloc (.cells #[.int .u16 0, .int .u16 0, .int .u16 0, .int .u16 0, .int .u16 0, .int .u16 0, .int .u16 0, .int .u16 0, .int .u16 0, .int .u16 0, .int .u16 0, .int .u16 0, .int .u16 0, .int .u16 0, .int .u16 0, .int .u16 0] 41))) := bl_trans LX.out hg
            have K0 : Hid (Blk (g3.alloc (.cells #[.int .u16 0, .int .u16 0, .int .u16 0, .int .u16 0, .int .u16 0, .int .u16 0, .int .u16 0, .int .u16 0, .int .u16 0, .int .u16 0, .int .u16 0, .int .u16 0, .int .u16 0, .int .u16 0, .int .u16 0, .int .u16 0] 41)) gb (lk (eR L)) 41) := K0.out.later hg
            have K1 : Hid (Blk (g3.alloc (.cells #[.int .u16 0, .int .u16 0, .int .u16 0, .int .u16 0, .int .u16 0, .int .u16 0, .int .u16 0, .int .u16 0, .int .u16 0, .int .u16 0, .int .u16 0, .int .u16 0, .int .u16 0, .int .u16 0, .int .u16 0, .int .u16 0] 41)) (gb + 1) (lk (eF L)) 41) := K1.out.later hg
            have Ka : Hid (Blk (g3.alloc (.cells #[.int .u16 0, .int .u16 0, .int .u16 0, .int .u16 0, .int .u16 0, .int .u16 0, .int .u16 0, .int .u16 0, .int .u16 0, .int .u16 0, .int .u16 0, .int .u16 0, .int .u16 0, .int .u16 0, .int .u16 0, .int .u16 0] 41)) ka #[.int .u16 0, .int .u16 0, .int .u16 0, .int .u16 0, .int .u16 0, .int .u16 0, .int .u16 0, .int .u16 0, .int .u16 0, .int .u16 0, .int .u16 0, .int .u16 0, .int .u16 0, .int .u16 0, .int .u16 0, .int .u16 0] 41) := Ka.out.later hg
            clear hg
            refine hK.out _ _ ?_ (fun hHeld => ?_)
            · exact ⟨K0.out, K1.out⟩
            clear hK K
            try simp only [List.foldl, Act.put, List.setIfInBounds_toArray, List.set_cons_zero, List.set_cons_succ]
            generalize hGe : (g3.alloc (.cells #[.int .u16 0, .int .u16 0, .int .u16 0, .int .u16 0, .int .u16 0, .int .u16 0, .int .u16 0, .int .u16 0, .int .u16 0, .int .u16 0, .int .u16 0, .int .u16 0, .int .u16 0, .int .u16 0, .int .u16 0, .int .u16 0] 41)) = g4 at Kb hHeld LX K0 K1 Ka ⊢
            obtain ⟨kb, hkb⟩ : ∃ k, g3.heap.size = k := ⟨_, rfl⟩
            have HXb : Hid (X.heap.size ≤ kb) := Nat.le_trans hxs (Nat.le_of_eq hkb)
            clear hxs
            rw [hkb] at Kb NE
            try rw [hkb]
            clear hGe hkb
            have NEQ : Hid (¬ ka = kb) := by first | exact NE.out | exact fun e => NE.out e.symm
            refine wpAnyH_ready (rs := [6]) (by kernel_rfl) (by simp) ?_
            refine AllReadyH.cons rfl (fun K hK => ?_) AllReadyH.nil
            refine wp_store_row 41 (.tmp 9) (.tmp 28) rfl ka (lk (clo (eR L) 16)) rfl rfl 41 _ Ka.out (by rw [Tryd.infoLk, lk_size]) (by rw [lk_size]; rfl) (lk_one _) ?_
            have hlx := HXa.out
            have LX : Hid (Below X.heap.size X (g4.setRow ka (lk (clo (eR L) 16)))) := below_setRow LX.out hlx _
            have Ka : Hid (Blk (g4.setRow ka (lk (clo (eR L) 16))) ka (lk (clo (eR L) 16)) 41) := setRow_heap _ _ _ _ _ _ Ka.out
            have Kb : Hid (Blk (g4.setRow ka (lk (clo (eR L) 16))) kb #[.int .u16 0, .int .u16 0, .int .u16 0, .int .u16 0, .int .u16 0, .int .u16 0, .int .u16 0, .int .u16 0, .int .u16 0, .int .u16 0, .int .u16 0, .int .u16 0, .int .u16 0, .int .u16 0, .int .u16 0, .int .u16 0] 41) := (setRow_other _ _ _ _ (by have := NEQ.out; omega)).trans Kb.out
            have K0 : Hid (Blk (g4.setRow ka (lk (clo (eR L) 16))) gb (lk (eR L)) 41) := (setRow_other _ _ _ _ (by have := ltX; omega)).trans K0.out
            have K1 : Hid (Blk (g4.setRow ka (lk (clo (eR L) 16))) (gb + 1) (lk (eF L)) 41) := (setRow_other _ _ _ _ (by have := ltX; omega)).trans K1.out
            refine hK.out _ _ ?_ (fun hHeld => ?_)
            · exact ⟨K0.out, K1.out⟩
            clear hK K
            try simp only [List.foldl, Act.put, List.setIfInBounds_toArray, List.set_cons_zero, List.set_cons_succ]
            generalize hGe : (g4.setRow ka (lk (clo (eR L) 16))) = g5 at Ka Kb hHeld LX K0 K1 ⊢
            clear hGe hlx
            refine wpAnyH_ready (rs := [7]) (by kernel_rfl) (by simp) ?_
            refine AllReadyH.cons rfl (fun K hK => ?_) AllReadyH.nil
            refine wp_store_row 41 (.tmp 10) (.tmp 30) rfl kb (lk (clo (eF L) 16)) rfl rfl 41 _ Kb.out (by rw [Tryd.infoLk, lk_size]) (by rw [lk_size]; rfl) (lk_one _) ?_
            have hlx := HXb.out
            have LX : Hid (Below X.heap.size X (g5.setRow kb (lk (clo (eF L) 16)))) := below_setRow LX.out hlx _
            have Kb : Hid (Blk (g5.setRow kb (lk (clo (eF L) 16))) kb (lk (clo (eF L) 16)) 41) := setRow_heap _ _ _ _ _ _ Kb.out
            have Ka : Hid (Blk (g5.setRow kb (lk (clo (eF L) 16))) ka (lk (clo (eR L) 16)) 41) := (setRow_other _ _ _ _ (by have := NEQ.out; omega)).trans Ka.out
            have K0 : Hid (Blk (g5.setRow kb (lk (clo (eF L) 16))) gb (lk (eR L)) 41) := (setRow_other _ _ _ _ (by have := ltX; omega)).trans K0.out
            have K1 : Hid (Blk (g5.setRow kb (lk (clo (eF L) 16))) (gb + 1) (lk (eF L)) 41) := (setRow_other _ _ _ _ (by have := ltX; omega)).trans K1.out
            refine hK.out _ _ ?_ (fun hHeld => ?_)
            · exact ⟨K0.out, K1.out⟩
            clear hK K
            try simp only [List.foldl, Act.put, List.setIfInBounds_toArray, List.set_cons_zero, List.set_cons_succ]
            generalize hGe : (g5.setRow kb (lk (clo (eF L) 16))) = g6 at Ka Kb hHeld LX K0 K1 ⊢
            clear hGe hlx
            refine wpAnyH_done (by kernel_rfl) ?_ _
            go_wp2_with fail
            go_meet
            exact ⟨ka, kb, rfl, rfl, Ka.out, Kb.out, LX.out⟩
          refine AllReadyH.cons rfl (fun K hK => ?_) AllReadyH.nil
          go_simp
          have hg : Below g2.heap.size g2 (g2.alloc (.cells #[.int .u16 0, .int .u16 0, .int .u16 0, .int .u16 0, .int .u16 0, .int .u16 0, .int .u16 0, .int .u16 0, .int .u16 0, .int .u16 0, .int .u16 0, .int .u16 0, .int .u16 0, .int .u16 0, .int .u16 0, .int .u16 0] 41)) := bl_alloc (Below.refl _ _) _
          have Kb : Hid (Blk (g2.alloc (.cells #[.int .u16 0, .int .u16 0, .int .u16 0, .int .u16 0, .int .u16 0, .int .u16 0, .int .u16 0, .int .u16 0, .int .u16 0, .int .u16 0, .int .u16 0, .int .u16 0, .int .u16 0, .int .u16 0, .int .u16 0, .int .u16 0] 41)) g2.heap.size #[.int .u16 0, .int .u16 0, .int .u16 0, .int .u16 0, .int .u16 0, .int .u16 0, .int .u16 0, .int .u16 0, .int .u16 0, .int .u16 0, .int .u16 0, .int .u16 0, .int .u16 0, .int .u16 0, .int .u16 0, .int .u16 0] 41) := Blk.new _ _ _
          have hxs : X.heap.size ≤ g2.heap.size := LX.out.size
          have LX : Hid (Below X.heap.size X (g2.alloc (.cells #[.int .u16 0, .int .u16 0, .int .u16 0, .int .u16 0, .int .u16 0, .int .u16 0, .int .u16 0, .int .u16 0, .int .u16 0, .int .u16 0, .int .u16 0, .int .u16 0, .int .u16 0, .int .u16 0, .int .u16 0, .int .u16 0] 41))) := bl_trans LX.out hg
          have K0 : Hid (Blk (g2.alloc (.cells #[.int .u16 0, .int .u16 0, .int .u16 0, .int .u16 0, .int .u16 0, .int .u16 0, .int .u16 0, .int .u16 0, .int .u16 0, .int .u16 0, .int .u16 0, .int .u16 0, .int .u16 0, .int .u16 0, .int .u16 0, .int .u16 0] 41)) gb (lk (eR L)) 41) := K0.out.later hg
          have K1 : Hid (Blk (g2.alloc (.cells #[.int .u16 0, .int .u16 0, .int .u16 0, .int .u16 0, .int .u16 0, .int .u16 0, .int .u16 0, .int .u16 0, .int .u16 0, .int .u16 0, .int .u16 0, .int .u16 0, .int .u16 0, .int .u16 0, .int .u16 0, .int .u16 0] 41)) (gb + 1) (lk (eF L)) 41) := K1.out.later hg
          clear hg
          refine hK.out _ _ ?_ (fun hHeld => ?_)
          · exact ⟨K0.out, K1.out⟩
          clear hK K
          try simp only [List.foldl, Act.put, List.setIfInBounds_toArray, List.set_cons_zero, List.set_cons_succ]
          generalize hGe : (g2.alloc (.cells #[.int .u16 0, .int .u16 0, .int .u16 0, .int .u16 0, .int .u16 0, .int .u16 0, .int .u16 0, .int .u16 0, .int .u16 0, .int .u16 0, .int .u16 0, .int .u16 0, .int .u16 0, .int .u16 0, .int .u16 0, .int .u16 0] 41)) = g7 at Kb hHeld LX K0 K1 ⊢
          obtain ⟨kb, hkb⟩ : ∃ k, g2.heap.size = k := ⟨_, rfl⟩
          have HXb : Hid (X.heap.size ≤ kb) := Nat.le_trans hxs (Nat.le_of_eq hkb)
          clear hxs
          rw [hkb] at Kb
          try rw [hkb]
          clear hGe hkb
          refine wpAnyH_ready (rs := [4]) (by kernel_rfl) (by simp) ?_
          refine AllReadyH.cons rfl (fun K hK => ?_) AllReadyH.nil
          go_simp
          have hg : Below g7.heap.size g7 (g7.alloc (.cells #[.int .u16 0, .int .u16 0, .int .u16 0, .int .u16 0, .int .u16 0, .int .u16 0, .int .u16 0, .int .u16 0, .int .u16 0, .int .u16 0, .int .u16 0, .int .u16 0, .int .u16 0, .int .u16 0, .int .u16 0, .int .u16 0] 41)) := bl_alloc (Below.refl _ _) _
          have Ka : Hid (Blk (g7.alloc (.cells #[.int .u16 0, .int .u16 0, .int .u16 0, .int .u16 0, .int .u16 0, .int .u16 0, .int .u16 0, .int .u16 0, .int .u16 0, .int .u16 0, .int .u16 0, .int .u16 0, .int .u16 0, .int .u16 0, .int .u16 0, .int .u16 0] 41)) g7.heap.size #[.int .u16 0, .int .u16 0, .int .u16 0, .int .u16 0, .int .u16 0, .int .u16 0, .int .u16 0, .int .u16 0, .int .u16 0, .int .u16 0, .int .u16 0, .int .u16 0, .int .u16 0, .int .u16 0, .int .u16 0, .int .u16 0] 41) := Blk.new _ _ _
          have hxs : X.heap.size ≤ g7.heap.size := LX.out.size
          have NE : Hid (¬ kb = g7.heap.size) := by have := Kb.out.lt; show ¬ _; omega
          have LX : Hid (Below X.heap.size X (g7.alloc (.cells #[.int .u16 0, .int .u16 0, .int .u16 0, .int .u16 0, .int .u16 0, .int .u16 0, .int .u16 0, .int .u16 0, .int .u16 0, .int .u16 0, .int .u16 0, .int .u16 0, .int .u16 0, .int .u16 0, .int .u16 0, .int .u16 0] 41))) := bl_trans LX.out hg
          have K0 : Hid (Blk (g7.alloc (.cells #[.int .u16 0, .int .u16 0, .int .u16 0, .int .u16 0, .int .u16 0, .int .u16 0, .int .u16 0, .int .u16 0, .int .u16 0, .int .u16 0, .int .u16 0, .int .u16 0, .int .u16 0, .int .u16 0, .int .u16 0, .int .u16 0] 41)) gb (lk (eR L)) 41) := K0.out.later hg
          have K1 : Hid (Blk (g7.alloc (.cells #[.int .u16 0, .int .u16 0, .int .u16 0, .int .u16 0, .int .u16 0, .int .u16 0, .int .u16 0, .int .u16 0, .int .u16 0, .int .u16 0, .int .u16 0, .int .u16 0, .int .u16 0, .int .u16 0, .int .u16 0, .int .u16 0] 41)) (gb + 1) (lk (eF L)) 41) := K1.out.later hg
          have Kb : Hid (Blk (g7.alloc (.cells #[.int .u16 0, .int .u16 0, .int .u16 0, .int .u16 0, .int .u16 0, .int .u16 0, .int .u16 0, .int .u16 0, .int .u16 0, .int .u16 0, .int .u16 0, .int .u16 0, .int .u16 0, .int .u16 0, .int .u16 0, .int .u16 0] 41)) kb #[.int .u16 0, .int .u16 0, .int .u16 0, .int .u16 0, .int .u16 0, .int .u16 0, .int .u16 0, .int .u16 0, .int .u16 0, .int .u16 0, .int .u16 0, .int .u16 0, .int .u16 0, .int .u16 0, .int .u16 0, .int .u16 0] 41) := Kb.out.later hg
          clear hg
          refine hK.out _ _ ?_ (fun hHeld => ?_)
          · exact ⟨K0.out, K1.out⟩
          clear hK K
          try simp only [List.foldl, Act.put, List.setIfInBounds_toArray, List.set_cons_zero, List.set_cons_succ]
          generalize hGe : (g7.alloc (.cells #[.int .u16 0, .int .u16 0, .int .u16 0, .int .u16 0, .int .u16 0, .int .u16 0, .int .u16 0, .int .u16 0, .int .u16 0, .int .u16 0, .int .u16 0, .int .u16 0, .int .u16 0, .int .u16 0, .int .u16 0, .int .u16 0] 41)) = g8 at Ka hHeld LX K0 K1 Kb ⊢
          obtain ⟨ka, hka⟩ : ∃ k, g7.heap.size = k := ⟨_, rfl⟩
          have HXa : Hid (X.heap.size ≤ ka) := Nat.le_trans hxs (Nat.le_of_eq hka)
          clear hxs
          rw [hka] at Ka NE
          try rw [hka]
          clear hGe hka
          have NEQ : Hid (¬ ka = kb) := by first | exact NE.out | exact fun e => NE.out e.symm
          refine wpAnyH_ready (rs := [6]) (by kernel_rfl) (by simp) ?_
          refine AllReadyH.cons rfl (fun K hK => ?_) AllReadyH.nil
          refine wp_store_row 41 (.tmp 9) (.tmp 28) rfl ka (lk (clo (eR L) 16)) rfl rfl 41 _ Ka.out (by rw [Tryd.infoLk, lk_size]) (by rw [lk_size]; rfl) (lk_one _) ?_
          have hlx := HXa.out
          have LX : Hid (Below X.heap.size X (g8.setRow ka (lk (clo (eR L) 16)))) := below_setRow LX.out hlx _
          have Ka : Hid (Blk (g8.setRow ka (lk (clo (eR L) 16))) ka (lk (clo (eR L) 16)) 41) := setRow_heap _ _ _ _ _ _ Ka.out
          have Kb : Hid (Blk (g8.setRow ka (lk (clo (eR L) 16))) kb #[.int .u16 0, .int .u16 0, .int .u16 0, .int .u16 0, .int .u16 0, .int .u16 0, .int .u16 0, .int .u16 0, .int .u16 0, .int .u16 0, .int .u16 0, .int .u16 0, .int .u16 0, .int .u16 0, .int .u16 0, .int .u16 0] 41) := (setRow_other _ _ _ _ (by have := NEQ.out; omega)).trans Kb.out
          have K0 : Hid (Blk (g8.setRow ka (lk (clo (eR L) 16))) gb (lk (eR L)) 41) := (setRow_other _ _ _ _ (by have := ltX; omega)).trans K0.out
          have K1 : Hid (Blk (g8.setRow ka (lk (clo (eR L) 16))) (gb + 1) (lk (eF L)) 41) := (setRow_other _ _ _ _ (by have := ltX; omega)).trans K1.out
          refine hK.out _ _ ?_ (fun hHeld => ?_)
          · exact ⟨K0.out, K1.out⟩
          clear hK K
          try simp only [List.foldl, Act.put, List.setIfInBounds_toArray, List.set_cons_zero, List.set_cons_succ]
          generalize hGe : (g8.setRow ka (lk (clo (eR L) 16))) = g9 at Ka Kb hHeld LX K0 K1 ⊢
          clear hGe hlx
          refine wpAnyH_ready (rs := [7]) (by kernel_rfl) (by simp) ?_
          refine AllReadyH.cons rfl (fun K hK => ?_) AllReadyH.nil
          refine wp_store_row 41 (.tmp 10) (.tmp 30) rfl kb (lk (clo (eF L) 16)) rfl rfl 41 _ Kb.out (by rw [Tryd.infoLk, lk_size]) (by rw [lk_size]; rfl) (lk_one _) ?_
          have hlx := HXb.out
          have LX : Hid (Below X.heap.size X (g9.setRow kb (lk (clo (eF L) 16)))) := below_setRow LX.out hlx _
          have Kb : Hid (Blk (g9.setRow kb (lk (clo (eF L) 16))) kb (lk (clo (eF L) 16)) 41) := setRow_heap _ _ _ _ _ _ Kb.out
          have Ka : Hid (Blk (g9.setRow kb (lk (clo (eF L) 16))) ka (lk (clo (eR L) 16)) 41) := (setRow_other _ _ _ _ (by have := NEQ.out; omega)).trans Ka.out
          have K0 : Hid (Blk (g9.setRow kb (lk (clo (eF L) 16))) gb (lk (eR L)) 41) := (setRow_other _ _ _ _ (by have := ltX; omega)).trans K0.out
          have K1 : Hid (Blk (g9.setRow kb (lk (clo (eF L) 16))) (gb + 1) (lk (eF L)) 41) := (setRow_other _ _ _ _ (by have := ltX; omega)).trans K1.out
          refine hK.out _ _ ?_ (fun hHeld => ?_)
          · exact ⟨K0.out, K1.out⟩
          clear hK K
          try simp only [List.foldl, Act.put, List.setIfInBounds_toArray, List.set_cons_zero, List.set_cons_succ]
          generalize hGe : (g9.setRow kb (lk (clo (eF L) 16))) = g10 at Ka Kb hHeld LX K0 K1 ⊢
          clear hGe hlx
          refine wpAnyH_done (by kernel_rfl) ?_ _
          go_wp2_with fail
          go_meet
          exact ⟨ka, kb, rfl, rfl, Ka.out, Kb.out, LX.out⟩
        refine AllReadyH.cons rfl (fun K hK => ?_) ?_
        · skip
          go_simp
          have hg : Below g1.heap.size g1 (g1.alloc (.cells #[.int .u16 0, .int .u16 0, .int .u16 0, .int .u16 0, .int .u16 0, .int .u16 0, .int .u16 0, .int .u16 0, .int .u16 0, .int .u16 0, .int .u16 0, .int .u16 0, .int .u16 0, .int .u16 0, .int .u16 0, .int .u16 0] 41)) := bl_alloc (Below.refl _ _) _
          have Ka : Hid (Blk (g1.alloc (.cells #[.int .u16 0, .int .u16 0, .int .u16 0, .int .u16 0, .int .u16 0, .int .u16 0, .int .u16 0, .int .u16 0, .int .u16 0, .int .u16 0, .int .u16 0, .int .u16 0, .int .u16 0, .int .u16 0, .int .u16 0, .int .u16 0] 41)) g1.heap.size #[.int .u16 0, .int .u16 0, .int .u16 0, .int .u16 0, .int .u16 0, .int .u16 0, .int .u16 0, .int .u16 0, .int .u16 0, .int .u16 0, .int .u16 0, .int .u16 0, .int .u16 0, .int .u16 0, .int .u16 0, .int .u16 0] 41) := Blk.new _ _ _
          have hxs : X.heap.size ≤ g1.heap.size := LX.out.size
          have LX : Hid (Below X.heap.size X (g1.alloc (.cells #[.int .u16 0, .int .u16 0, .int .u16 0, .int .u16 0, .int .u16 0, .int .u16 0, .int .u16 0, .int .u16 0, .int .u16 0, .int .u16 0, .int .u16 0, .int .u16 0, .int .u16 0, .int .u16 0, .int .u16 0, .int .u16 0] 41))) := bl_trans LX.out hg
          have K0 : Hid (Blk (g1.alloc (.cells #[.int .u16 0, .int .u16 0, .int .u16 0, .int .u16 0, .int .u16 0, .int .u16 0, .int .u16 0, .int .u16 0, .int .u16 0, .int .u16 0, .int .u16 0, .int .u16 0, .int .u16 0, .int .u16 0, .int .u16 0, .int .u16 0] 41)) gb (lk (eR L)) 41) := K0.out.later hg
          have K1 : Hid (Blk (g1.alloc (.cells #[.int .u16 0, .int .u16 0, .int .u16 0, .int .u16 0, .int .u16 0, .int .u16 0, .int .u16 0, .int .u16 0, .int .u16 0, .int .u16 0, .int .u16 0, .int .u16 0, .int .u16 0, .int .u16 0, .int .u16 0, .int .u16 0] 41)) (gb + 1) (lk (eF L)) 41) := K1.out.later hg
          clear hg
          refine hK.out _ _ ?_ (fun hHeld => ?_)
          · exact ⟨K0.out, K1.out⟩
          clear hK K
          try simp only [List.foldl, Act.put, List.setIfInBounds_toArray, List.set_cons_zero, List.set_cons_succ]
          generalize hGe : (g1.alloc (.cells #[.int .u16 0, .int .u16 0, .int .u16 0, .int .u16 0, .int .u16 0, .int .u16 0, .int .u16 0, .int .u16 0, .int .u16 0, .int .u16 0, .int .u16 0, .int .u16 0, .int .u16 0, .int .u16 0, .int .u16 0, .int .u16 0] 41)) = g11 at Ka hHeld LX K0 K1 ⊢
          obtain ⟨ka, hka⟩ : ∃ k, g1.heap.size = k := ⟨_, rfl⟩
          have HXa : Hid (X.heap.size ≤ ka) := Nat.le_trans hxs (Nat.le_of_eq hka)
          clear hxs
          rw [hka] at Ka
          try rw [hka]
          clear hGe hka
          refine wpAnyH_ready (rs := [3, 5]) (by kernel_rfl) (by simp) ?_
          refine AllReadyH.cons rfl (fun K hK => ?_) ?_
          · skip
            go_simp
            refine (byAnyWay_any (eF L) _).mono ?_
            rintro z g12 ⟨rfl, hb⟩
            have hc : Below g11.heap.size g11 g12 := hb
            have LX : Hid (Below X.heap.size X g12) := bl_trans LX.out hc
            have K0 : Hid (Blk g12 gb (lk (eR L)) 41) := K0.out.later hc
            have K1 : Hid (Blk g12 (gb + 1) (lk (eF L)) 41) := K1.out.later hc
            have Ka : Hid (Blk g12 ka #[.int .u16 0, .int .u16 0, .int .u16 0, .int .u16 0, .int .u16 0, .int .u16 0, .int .u16 0, .int .u16 0, .int .u16 0, .int .u16 0, .int .u16 0, .int .u16 0, .int .u16 0, .int .u16 0, .int .u16 0, .int .u16 0] 41) := Ka.out.later hc
            clear hb hc
            refine hK.out _ _ ?_ (fun hHeld => ?_)
            · exact ⟨K0.out, K1.out⟩
            clear hK K
            try simp only [List.foldl, Act.put, List.setIfInBounds_toArray, List.set_cons_zero, List.set_cons_succ]
            refine wpAnyH_ready (rs := [5]) (by kernel_rfl) (by simp) ?_
            refine AllReadyH.cons rfl (fun K hK => ?_) AllReadyH.nil
            go_simp
            have hg : Below g12.heap.size g12 (g12.alloc (.cells #[.int .u16 0, .int .u16 0, .int .u16 0, .int .u16 0, .int .u16 0, .int .u16 0, .int .u16 0, .int .u16 0, .int .u16 0, .int .u16 0, .int .u16 0, .int .u16 0, .int .u16 0, .int .u16 0, .int .u16 0, .int .u16 0] 41)) := bl_alloc (Below.refl _ _) _
            have Kb : Hid (Blk (g12.alloc (.cells #[.int .u16 0, .int .u16 0, .int .u16 0, .int .u16 0, .int .u16 0, .int .u16 0, .int .u16 0, .int .u16 0, .int .u16 0, .int .u16 0, .int .u16 0, .int .u16 0, .int .u16 0, .int .u16 0, .int .u16 0, .int .u16 0] 41)) g12.heap.size #[.int .u16 0, .int .u16 0, .int .u16 0, .int .u16 0, .int .u16 0, .int .u16 0, .int .u16 0, .int .u16 0, .int .u16 0, .int .u16 0, .int .u16 0, .int .u16 0, .int .u16 0, .int .u16 0, .int .u16 0, .int .u16 0] 41) := Blk.new _ _ _
            have hxs : X.heap.size ≤ g12.heap.size := LX.out.size
            have NE : Hid (¬ ka = g12.heap.size) := by have := Ka.out.lt; show ¬ _; omega
            have LX : Hid (Below X.heap.size X (g12.alloc (.cells #[.int .u16 0, .int .u16 0, .int .u16 0, .int .u16 0, .int .u16 0, .int .u16 0, .int .u16 0, .int .u16 0, .int .u16 0, .int .u16 0, .int .u16 0, .int .u16 0, .int .u16 0, .int .u16 0, .int .u16 0, .int .u16 0] 41))) := bl_trans LX.out hg
            have K0 : Hid (Blk (g12.alloc (.cells #[.int .u16 0, .int .u16 0, .int .u16 0, .int .u16 0, .int .u16 0, .int .u16 0, .int .u16 0, .int .u16 0, .int .u16 0, .int .u16 0, .int .u16 0, .int .u16 0, .int .u16 0, .int .u16 0, .int .u16 0, .int .u16 0] 41)) gb (lk (eR L)) 41) := K0.out.later hg
            have K1 : Hid (Blk (g12.alloc (.cells #[.int .u16 0, .int .u16 0, .int .u16 0, .int .u16 0, .int .u16 0, .int .u16 0, .int .u16 0, .int .u16 0, .int .u16 0, .int .u16 0, .int .u16 0, .int .u16 0, .int .u16 0, .int .u16 0, .int .u16 0, .int .u16 0] 41)) (gb + 1) (lk (eF L)) 41) := K1.out.later hg
            have Ka : Hid (Blk (g12.alloc (.cells #[.int .u16 0, .int .u16 0, .int .u16 0, .int .u16 0, .int .u16 0, .int .u16 0, .int .u16 0, .int .u16 0, .int .u16 0, .int .u16 0, .int .u16 0, .int .u16 0, .int .u16 0, .int .u16 0, .int .u16 0, .int .u16 0] 41)) ka #[.int .u16 0, .int .u16 0, .int .u16 0, .int .u16 0, .int .u16 0, .int .u16 0, .int .u16 0, .int .u16 0, .int .u16 0, .int .u16 0, .int .u16 0, .int .u16 0, .int .u16 0, .int .u16 0, .int .u16 0, .int .u16 0] 41) := Ka.out.later hg
            clear hg
            refine hK.out _ _ ?_ (fun hHeld => ?_)
            · exact ⟨K0.out, K1.out⟩
            clear hK K
            try simp only [List.foldl, Act.put, List.setIfInBounds_toArray, List.set_cons_zero, List.set_cons_succ]
            generalize hGe : (g12.alloc (.cells #[.int .u16 0, .int .u16 0, .int .u16 0, .int .u16 0, .int .u16 0, .int .u16 0, .int .u16 0, .int .u16 0, .int .u16 0, .int .u16 0, .int .u16 0, .int .u16 0, .int .u16 0, .int .u16 0, .int .u16 0, .int .u16 0] 41)) = g13 at Kb hHeld LX K0 K1 Ka ⊢
            obtain ⟨kb, hkb⟩ : ∃ k, g12.heap.size = k := ⟨_, rfl⟩
            have HXb : Hid (X.heap.size ≤ kb) := Nat.le_trans hxs (Nat.le_of_eq hkb)
            clear hxs
            rw [hkb] at Kb NE
            try rw [hkb]
            clear hGe hkb
            have NEQ : Hid (¬ ka = kb) := by first | exact NE.out | exact fun e => NE.out e.symm
            refine wpAnyH_ready (rs := [6]) (by kernel_rfl) (by simp) ?_
            refine AllReadyH.cons rfl (fun K hK => ?_) AllReadyH.nil
            refine wp_store_row 41 (.tmp 9) (.tmp 28) rfl ka (lk (clo (eR L) 16)) rfl rfl 41 _ Ka.out (by rw [Tryd.infoLk, lk_size]) (by rw [lk_size]; rfl) (lk_one _) ?_
            have hlx := HXa.out
            have LX : Hid (Below X.heap.size X (g13.setRow ka (lk (clo (eR L) 16)))) := below_setRow LX.out hlx _
            have Ka : Hid (Blk (g13.setRow ka (lk (clo (eR L) 16))) ka (lk (clo (eR L) 16)) 41) := setRow_heap _ _ _ _ _ _ Ka.out
            have Kb : Hid (Blk (g13.setRow ka (lk (clo (eR L) 16))) kb #[.int .u16 0, .int .u16 0, .int .u16 0, .int .u16 0, .int .u16 0, .int .u16 0, .int .u16 0, .int .u16 0, .int .u16 0, .int .u16 0, .int .u16 0, .int .u16 0, .int .u16 0, .int .u16 0, .int .u16 0, .int .u16 0] 41) := (setRow_other _ _ _ _ (by have := NEQ.out; omega)).trans Kb.out
            have K0 : Hid (Blk (g13.setRow ka (lk (clo (eR L) 16))) gb (lk (eR L)) 41) := (setRow_other _ _ _ _ (by have := ltX; omega)).trans K0.out
            have K1 : Hid (Blk (g13.setRow ka (lk (clo (eR L) 16))) (gb + 1) (lk (eF L)) 41) := (setRow_other _ _ _ _ (by have := ltX; omega)).trans K1.out
            refine hK.out _ _ ?_ (fun hHeld => ?_)
            · exact ⟨K0.out, K1.out⟩
            clear hK K
            try simp only [List.foldl, Act.put, List.setIfInBounds_toArray, List.set_cons_zero, List.set_cons_succ]
            generalize hGe : (g13.setRow ka (lk (clo (eR L) 16))) = g14 at Ka Kb hHeld LX K0 K1 ⊢
            clear hGe hlx
            refine wpAnyH_ready (rs := [7]) (by kernel_rfl) (by simp) ?_
            refine AllReadyH.cons rfl (fun K hK => ?_) AllReadyH.nil
            refine wp_store_row 41 (.tmp 10) (.tmp 30) rfl kb (lk (clo (eF L) 16)) rfl rfl 41 _ Kb.out (by rw [Tryd.infoLk, lk_size]) (by rw [lk_size]; rfl) (lk_one _) ?_
            have hlx := HXb.out
            have LX : Hid (Below X.heap.size X (g14.setRow kb (lk (clo (eF L) 16)))) := below_setRow LX.out hlx _
            have Kb : Hid (Blk (g14.setRow kb (lk (clo (eF L) 16))) kb (lk (clo (eF L) 16)) 41) := setRow_heap _ _ _ _ _ _ Kb.out
            have Ka : Hid (Blk (g14.setRow kb (lk (clo (eF L) 16))) ka (lk (clo (eR L) 16)) 41) := (setRow_other _ _ _ _ (by have := NEQ.out; omega)).trans Ka.out
            have K0 : Hid (Blk (g14.setRow kb (lk (clo (eF L) 16))) gb (lk (eR L)) 41) := (setRow_other _ _ _ _ (by have := ltX; omega)).trans K0.out
            have K1 : Hid (Blk (g14.setRow kb (lk (clo (eF L) 16))) (gb + 1) (lk (eF L)) 41) := (setRow_other _ _ _ _ (by have := ltX; omega)).trans K1.out
            refine hK.out _ _ ?_ (fun hHeld => ?_)
            · exact ⟨K0.out, K1.out⟩
            clear hK K
            try simp only [List.foldl, Act.put, List.setIfInBounds_toArray, List.set_cons_zero, List.set_cons_succ]
            generalize hGe : (g14.setRow kb (lk (clo (eF L) 16))) = g15 at Ka Kb hHeld LX K0 K1 ⊢
            clear hGe hlx
            refine wpAnyH_done (by kernel_rfl) ?_ _
            go_wp2_with fail
            go_meet
            exact ⟨ka, kb, rfl, rfl, Ka.out, Kb.out, LX.out⟩
          refine AllReadyH.cons rfl (fun K hK => ?_) AllReadyH.nil
          go_simp
          have hg : Below g11.heap.size g11 (g11.alloc (.cells #[.int .u16 0, .int .u16 0, .int .u16 0, .int .u16 0, .int .u16 0, .int .u16 0, .int .u16 0, .int .u16 0, .int .u16 0, .int .u16 0, .int .u16 0, .int .u16 0, .int .u16 0, .int .u16 0, .int .u16 0, .int .u16 0] 41)) := bl_alloc (Below.refl _ _) _
          have Kb : Hid (Blk (g11.alloc (.cells #[.int .u16 0, .int .u16 0, .int .u16 0, .int .u16 0, .int .u16 0, .int .u16 0, .int .u16 0, .int .u16 0, .int .u16 0, .int .u16 0, .int .u16 0, .int .u16 0, .int .u16 0, .int .u16 0, .int .u16 0, .int .u16 0] 41)) g11.heap.size #[.int .u16 0, .int .u16 0, .int .u16 0, .int .u16 0, .int .u16 0, .int .u16 0, .int .u16 0, .int .u16 0, .int .u16 0, .int .u16 0, .int .u16 0, .int .u16 0, .int .u16 0, .int .u16 0, .int .u16 0, .int .u16 0] 41) := Blk.new _ _ _
          have hxs : X.heap.size ≤ g11.heap.size := LX.out.size
          have NE : Hid (¬ ka = g11.heap.size) := by have := Ka.out.lt; show ¬ _; omega
          have LX : Hid (Below X.heap.size X (g11.alloc (.cells #[.int .u16 0, .int .u16 0, .int .u16 0, .int .u16 0, .int .u16 0, .int .u16 0, .int .u16 0, .int .u16 0, .int .u16 0, .int .u16 0, .int .u16 0, .int .u16 0, .int .u16 0, .int .u16 0, .int .u16 0, .int .u16 0] 41))) := bl_trans LX.out hg
          have K0 : Hid (Blk (g11.alloc (.cells #[.int .u16 0, .int .u16 0, .int .u16 0, .int .u16 0, .int .u16 0, .int .u16 0, .int .u16 0, .int .u16 0, .int .u16 0, .int .u16 0, .int .u16 0, .int .u16 0, .int .u16 0, .int .u16 0, .int .u16 0, .int .u16 0] 41)) gb (lk (eR L)) 41) := K0.out.later hg
          have K1 : Hid (Blk (g11.alloc (.cells #[.int .u16 0, .int .u16 0, .int .u16 0, .int .u16 0, .int .u16 0, .int .u16 0, .int .u16 0, .int .u16 0, .int .u16 0, .int .u16 0, .int .u16 0, .int .u16 0, .int .u16 0, .int .u16 0, .int .u16 0, .int .u16 0] 41)) (gb + 1) (lk (eF L)) 41) := K1.out.later hg
          have Ka : Hid (Blk (g11.alloc (.cells #[.int .u16 0, .int .u16 0, .int .u16 0, .int .u16 0, .int .u16 0, .int .u16 0, .int .u16 0, .int .u16 0, .int .u16 0, .int .u16 0, .int .u16 0, .int .u16 0, .int .u16 0, .int .u16 0, .int .u16 0, .int .u16 0] 41)) ka #[.int .u16 0, .int .u16 0, .int .u16 0, .int .u16 0, .int .u16 0, .int .u16 0, .int .u16 0, .int .u16 0, .int .u16 0, .int .u16 0, .int .u16 0, .int .u16 0, .int .u16 0, .int .u16 0, .int .u16 0, .int .u16 0] 41) := Ka.out.later hg
          clear hg
          refine hK.out _ _ ?_ (fun hHeld => ?_)
          · exact ⟨K0.out, K1.out⟩
          clear hK K
          try simp only [List.foldl, Act.put, List.setIfInBounds_toArray, List.set_cons_zero, List.set_cons_succ]
          generalize hGe : (g11.alloc (.cells #[.int .u16 0, .int .u16 0, .int .u16 0, .int .u16 0, .int .u16 0, .int .u16 0, .int .u16 0, .int .u16 0, .int .u16 0, .int .u16 0, .int .u16 0, .int .u16 0, .int .u16 0, .int .u16 0, .int .u16 0, .int .u16 0] 41)) = g16 at Kb hHeld LX K0 K1 Ka ⊢
          obtain ⟨kb, hkb⟩ : ∃ k, g11.heap.size = k := ⟨_, rfl⟩
          have HXb : Hid (X.heap.size ≤ kb) := Nat.le_trans hxs (Nat.le_of_eq hkb)
          clear hxs
          rw [hkb] at Kb NE
          try rw [hkb]
          clear hGe hkb
          refine wpAnyH_ready (rs := [3]) (by kernel_rfl) (by simp) ?_
          refine AllReadyH.cons rfl (fun K hK => ?_) AllReadyH.nil
          go_simp
          refine (byAnyWay_any (eF L) _).mono ?_
          rintro z g17 ⟨rfl, hb⟩
          have hc : Below g16.heap.size g16 g17 := hb
          have LX : Hid (Below X.heap.size X g17) := bl_trans LX.out hc
          have K0 : Hid (Blk g17 gb (lk (eR L)) 41) := K0.out.later hc
          have K1 : Hid (Blk g17 (gb + 1) (lk (eF L)) 41) := K1.out.later hc
          have Ka : Hid (Blk g17 ka #[.int .u16 0, .int .u16 0, .int .u16 0, .int .u16 0, .int .u16 0, .int .u16 0, .int .u16 0, .int .u16 0, .int .u16 0, .int .u16 0, .int .u16 0, .int .u16 0, .int .u16 0, .int .u16 0, .int .u16 0, .int .u16 0] 41) := Ka.out.later hc
          have Kb : Hid (Blk g17 kb #[.int .u16 0, .int .u16 0, .int .u16 0, .int .u16 0, .int .u16 0, .int .u16 0, .int .u16 0, .int .u16 0, .int .u16 0, .int .u16 0, .int .u16 0, .int .u16 0, .int .u16 0, .int .u16 0, .int .u16 0, .int .u16 0] 41) := Kb.out.later hc
          clear hb hc
          refine hK.out _ _ ?_ (fun hHeld => ?_)
          · exact ⟨K0.out, K1.out⟩
          clear hK K
          try simp only [List.foldl, Act.put, List.setIfInBounds_toArray, List.set_cons_zero, List.set_cons_succ]
          have NEQ : Hid (¬ ka = kb) := by first | exact NE.out | exact fun e => NE.out e.symm
          refine wpAnyH_ready (rs := [6]) (by kernel_rfl) (by simp) ?_
          refine AllReadyH.cons rfl (fun K hK => ?_) AllReadyH.nil
          refine wp_store_row 41 (.tmp 9) (.tmp 28) rfl ka (lk (clo (eR L) 16)) rfl rfl 41 _ Ka.out (by rw [Tryd.infoLk, lk_size]) (by rw [lk_size]; rfl) (lk_one _) ?_
          have hlx := HXa.out
          have LX : Hid (Below X.heap.size X (g17.setRow ka (lk (clo (eR L) 16)))) := below_setRow LX.out hlx _
          have Ka : Hid (Blk (g17.setRow ka (lk (clo (eR L) 16))) ka (lk (clo (eR L) 16)) 41) := setRow_heap _ _ _ _ _ _ Ka.out
          have Kb : Hid (Blk (g17.setRow ka (lk (clo (eR L) 16))) kb #[.int .u16 0, .int .u16 0, .int .u16 0, .int .u16 0, .int .u16 0, .int .u16 0, .int .u16 0, .int .u16 0, .int .u16 0, .int .u16 0, .int .u16 0, .int .u16 0, .int .u16 0, .int .u16 0, .int .u16 0, .int .u16 0] 41) := (setRow_other _ _ _ _ (by have := NEQ.out; omega)).trans Kb.out
          have K0 : Hid (Blk (g17.setRow ka (lk (clo (eR L) 16))) gb (lk (eR L)) 41) := (setRow_other _ _ _ _ (by have := ltX; omega)).trans K0.out
          have K1 : Hid (Blk (g17.setRow ka (lk (clo (eR L) 16))) (gb + 1) (lk (eF L)) 41) := (setRow_other _ _ _ _ (by have := ltX; omega)).trans K1.out
          refine hK.out _ _ ?_ (fun hHeld => ?_)
          · exact ⟨K0.out, K1.out⟩
          clear hK K
          try simp only [List.foldl, Act.put, List.setIfInBounds_toArray, List.set_cons_zero, List.set_cons_succ]
          generalize hGe : (g17.setRow ka (lk (clo (eR L) 16))) = g18 at Ka Kb hHeld LX K0 K1 ⊢
          clear hGe hlx
          refine wpAnyH_ready (rs := [7]) (by kernel_rfl) (by simp) ?_
          refine AllReadyH.cons rfl (fun K hK => ?_) AllReadyH.nil
          refine wp_store_row 41 (.tmp 10) (.tmp 30) rfl kb (lk (clo (eF L) 16)) rfl rfl 41 _ Kb.out (by rw [Tryd.infoLk, lk_size]) (by rw [lk_size]; rfl) (lk_one _) ?_
          have hlx := HXb.out
          have LX : Hid (Below X.heap.size X (g18.setRow kb (lk (clo (eF L) 16)))) := below_setRow LX.out hlx _
          have Kb : Hid (Blk (g18.setRow kb (lk (clo (eF L) 16))) kb (lk (clo (eF L) 16)) 41) := setRow_heap _ _ _ _ _ _ Kb.out
          have Ka : Hid (Blk (g18.setRow kb (lk (clo (eF L) 16))) ka (lk (clo (eR L) 16)) 41) := (setRow_other _ _ _ _ (by have := NEQ.out; omega)).trans Ka.out
          have K0 : Hid (Blk (g18.setRow kb (lk (clo (eF L) 16))) gb (lk (eR L)) 41) := (setRow_other _ _ _ _ (by have := ltX; omega)).trans K0.out
          have K1 : Hid (Blk (g18.setRow kb (lk (clo (eF L) 16))) (gb + 1) (lk (eF L)) 41) := (setRow_other _ _ _ _ (by have := ltX; omega)).trans K1.out
          refine hK.out _ _ ?_ (fun hHeld => ?_)
          · exact ⟨K0.out, K1.out⟩
          clear hK K
          try simp only [List.foldl, Act.put, List.setIfInBounds_toArray, List.set_cons_zero, List.set_cons_succ]
          generalize hGe : (g18.setRow kb (lk (clo (eF L) 16))) = g19 at Ka Kb hHeld LX K0 K1 ⊢
          clear hGe hlx
          refine wpAnyH_done (by kernel_rfl) ?_ _
          go_wp2_with fail
          go_meet
          exact ⟨ka, kb, rfl, rfl, Ka.out, Kb.out, LX.out⟩
        refine AllReadyH.cons rfl (fun K hK => ?_) AllReadyH.nil
        go_simp
        have hg : Below g1.heap.size g1 (g1.alloc (.cells #[.int .u16 0, .int .u16 0, .int .u16 0, .int .u16 0, .int .u16 0, .int .u16 0, .int .u16 0, .int .u16 0, .int .u16 0, .int .u16 0, .int .u16 0, .int .u16 0, .int .u16 0, .int .u16 0, .int .u16 0, .int .u16 0] 41)) := bl_alloc (Below.refl _ _) _
        have Kb : Hid (Blk (g1.alloc (.cells #[.int .u16 0, .int .u16 0, .int .u16 0, .int .u16 0, .int .u16 0, .int .u16 0, .int .u16 0, .int .u16 0, .int .u16 0, .int .u16 0, .int .u16 0, .int .u16 0, .int .u16 0, .int .u16 0, .int .u16 0, .int .u16 0] 41)) g1.heap.size #[.int .u16 0, .int .u16 0, .int .u16 0, .int .u16 0, .int .u16 0, .int .u16 0, .int .u16 0, .int .u16 0, .int .u16 0, .int .u16 0, .int .u16 0, .int .u16 0, .int .u16 0, .int .u16 0, .int .u16 0, .int .u16 0] 41) := Blk.new _ _ _
        have hxs : X.heap.size ≤ g1.heap.size := LX.out.size
        have LX : Hid (Below X.heap.size X (g1.alloc (.cells #[.int .u16 0, .int .u16 0, .int .u16 0, .int .u16 0, .int .u16 0, .int .u16 0, .int .u16 0, .int .u16 0, .int .u16 0, .int .u16 0, .int .u16 0, .int .u16 0, .int .u16 0, .int .u16 0, .int .u16 0, .int .u16 0] 41))) := bl_trans LX.out hg
        have K0 : Hid (Blk (g1.alloc (.cells #[.int .u16 0, .int .u16 0, .int .u16 0, .int .u16 0, .int .u16 0, .int .u16 0, .int .u16 0, .int .u16 0, .int .u16 0, .int .u16 0, .int .u16 0, .int .u16 0, .int .u16 0, .int .u16 0, .int .u16 0, .int .u16 0] 41)) gb (lk (eR L)) 41) := K0.out.later hg
        have K1 : Hid (Blk (g1.alloc (.cells #[.int .u16 0, .int .u16 0, .int .u16 0, .int .u16 0, .int .u16 0, .int .u16 0, .int .u16 0, .int .u16 0, .int .u16 0, .int .u16 0, .int .u16 0, .int .u16 0, .int .u16 0, .int .u16 0, .int .u16 0, .int .u16 0] 41)) (gb + 1) (lk (eF L)) 41) := K1.out.later hg
        clear hg
        refine hK.out _ _ ?_ (fun hHeld => ?_)
        · exact ⟨K0.out, K1.out⟩
        clear hK K
        try simp only [List.foldl, Act.put, List.setIfInBounds_toArray, List.set_cons_zero, List.set_cons_succ]
        generalize hGe : (g1.alloc (.cells #[.int .u16 0, .int .u16 0, .int .u16 0, .int .u16 0, .int .u16 0, .int .u16 0, .int .u16 0, .int .u16 0, .int .u16 0, .int .u16 0, .int .u16 0, .int .u16 0, .int .u16 0, .int .u16 0, .int .u16 0, .int .u16 0] 41)) = g20 at Kb hHeld LX K0 K1 ⊢
        obtain ⟨kb, hkb⟩ : ∃ k, g1.heap.size = k := ⟨_, rfl⟩
        have HXb : Hid (X.heap.size ≤ kb) := Nat.le_trans hxs (Nat.le_of_eq hkb)
        clear hxs
        rw [hkb] at Kb
        try rw [hkb]
        clear hGe hkb
        refine wpAnyH_ready (rs := [3, 4]) (by kernel_rfl) (by simp) ?_
        refine AllReadyH.cons rfl (fun K hK => ?_) ?_
        · skip
          go_simp
          refine (byAnyWay_any (eF L) _).mono ?_
          rintro z g21 ⟨rfl, hb⟩
          have hc : Below g20.heap.size g20 g21 := hb
          have LX : Hid (Below X.heap.size X g21) := bl_trans LX.out hc
          have K0 : Hid (Blk g21 gb (lk (eR L)) 41) := K0.out.later hc
          have K1 : Hid (Blk g21 (gb + 1) (lk (eF L)) 41) := K1.out.later hc
          have Kb : Hid (Blk g21 kb #[.int .u16 0, .int .u16 0, .int .u16 0, .int .u16 0, .int .u16 0, .int .u16 0, .int .u16 0, .int .u16 0, .int .u16 0, .int .u16 0, .int .u16 0, .int .u16 0, .int .u16 0, .int .u16 0, .int .u16 0, .int .u16 0] 41) := Kb.out.later hc
          clear hb hc
          refine hK.out _ _ ?_ (fun hHeld => ?_)
          · exact ⟨K0.out, K1.out⟩
          clear hK K
          try simp only [List.foldl, Act.put, List.setIfInBounds_toArray, List.set_cons_zero, List.set_cons_succ]
          refine wpAnyH_ready (rs := [4]) (by kernel_rfl) (by simp) ?_
          refine AllReadyH.cons rfl (fun K hK => ?_) AllReadyH.nil
          go_simp
          have hg : Below g21.heap.size g21 (g21.alloc (.cells #[.int .u16 0, .int .u16 0, .int .u16 0, .int .u16 0, .int .u16 0, .int .u16 0, .int .u16 0, .int .u16 0, .int .u16 0, .int .u16 0, .int .u16 0, .int .u16 0, .int .u16 0, .int .u16 0, .int .u16 0, .int .u16 0] 41)) := bl_alloc (Below.refl _ _) _
          have Ka : Hid (Blk (g21.alloc (.cells #[.int .u16 0, .int .u16 0, .int .u16 0, .int .u16 0, .int .u16 0, .int .u16 0, .int .u16 0, .int .u16 0, .int .u16 0, .int .u16 0, .int .u16 0, .int .u16 0, .int .u16 0, .int .u16 0, .int .u16 0, .int .u16 0] 41)) g21.heap.size #[.int .u16 0, .int .u16 0, .int .u16 0, .int .u16 0, .int .u16 0, .int .u16 0, .int .u16 0, .int .u16 0, .int .u16 0, .int .u16 0, .int .u16 0, .int .u16 0, .int .u16 0, .int .u16 0, .int .u16 0, .int .u16 0] 41) := Blk.new _ _ _
          have hxs : X.heap.size ≤ g21.heap.size := LX.out.size
          have NE : Hid (¬ kb = g21.heap.size) := by have := Kb.out.lt; show ¬ _; omega
          have LX : Hid (Below X.heap.size X (g21.alloc (.cells #[.int .u16 0, .int .u16 0, .int .u16 0, .int .u16 0, .int .u16 0, .int .u16 0, .int .u16 0, .int .u16 0, .int .u16 0, .int .u16 0, .int .u16 0, .int .u16 0, .int .u16 0, .int .u16 0, .int .u16 0, .int .u16 0] 41))) := bl_trans LX.out hg
          have K0 : Hid (Blk (g21.alloc (.cells #[.int .u16 0, .int .u16 0, .int .u16 0, .int .u16 0, .int .u16 0, .int .u16 0, .int .u16 0, .int .u16 0, .int .u16 0, .int .u16 0, .int .u16 0, .int .u16 0, .int .u16 0, .int .u16 0, .int .u16 0, .int .u16 0] 41)) gb (lk (eR L)) 41) := K0.out.later hg
          have K1 : Hid (Blk (g21.alloc (.cells #[.int .u16 0, .int .u16 0, .int .u16 0, .int .u16 0, .int .u16 0, .int .u16 0, .int .u16 0, .int .u16 0, .int .u16 0, .int .u16 0, .int .u16 0, .int .u16 0, .int .u16 0, .int .u16 0, .int .u16 0, .int .u16 0] 41)) (gb + 1) (lk (eF L)) 41) := K1.out.later hg
          have Kb : Hid (Blk (g21.alloc (.cells #[.int .u16 0, .int .u16 0, .int .u16 0, .int .u16 0, .int .u16 0, .int .u16 0, .int .u16 0, .int .u16 0, .int .u16 0, .int .u16 0, .int .u16 0, .int .u16 0, .int .u16 0, .int .u16 0, .int .u16 0, .int .u16 0] 41)) kb #[.int .u16 0, .int .u16 0, .int .u16 0, .int .u16 0, .int .u16 0, .int .u16 0, .int .u16 0, .int .u16 0, .int .u16 0, .int .u16 0, .int .u16 0, .int .u16 0, .int .u16 0, .int .u16 0, .int .u16 0, .int .u16 0] 41) := Kb.out.later hg
          clear hg
          refine hK.out _ _ ?_ (fun hHeld => ?_)
          · exact ⟨K0.out, K1.out⟩
          clear hK K
          try simp only [List.foldl, Act.put, List.setIfInBounds_toArray, List.set_cons_zero, List.set_cons_succ]
          generalize hGe : (g21.alloc (.cells #[.int .u16 0, .int .u16 0, .int .u16 0, .int .u16 0, .int .u16 0, .int .u16 0, .int .u16 0, .int .u16 0, .int .u16 0, .int .u16 0, .int .u16 0, .int .u16 0, .int .u16 0, .int .u16 0, .int .u16 0, .int .u16 0] 41)) = g22 at Ka hHeld LX K0 K1 Kb ⊢
          obtain ⟨ka, hka⟩ : ∃ k, g21.heap.size = k := ⟨_, rfl⟩
          have HXa : Hid (X.heap.size ≤ ka) := Nat.le_trans hxs (Nat.le_of_eq hka)
          clear hxs
          rw [hka] at Ka NE
          try rw [hka]
          clear hGe hka
          have NEQ : Hid (¬ ka = kb) := by first | exact NE.out | exact fun e => NE.out e.symm
          refine wpAnyH_ready (rs := [6]) (by kernel_rfl) (by simp) ?_
          refine AllReadyH.cons rfl (fun K hK => ?_) AllReadyH.nil
          refine wp_store_row 41 (.tmp 9) (.tmp 28) rfl ka (lk (clo (eR L) 16)) rfl rfl 41 _ Ka.out (by rw [Tryd.infoLk, lk_size]) (by rw [lk_size]; rfl) (lk_one _) ?_
          have hlx := HXa.out
          have LX : Hid (Below X.heap.size X (g22.setRow ka (lk (clo (eR L) 16)))) := below_setRow LX.out hlx _
          have Ka : Hid (Blk (g22.setRow ka (lk (clo (eR L) 16))) ka (lk (clo (eR L) 16)) 41) := setRow_heap _ _ _ _ _ _ Ka.out
          have Kb : Hid (Blk (g22.setRow ka (lk (clo (eR L) 16))) kb #[.int .u16 0, .int .u16 0, .int .u16 0, .int .u16 0, .int .u16 0, .int .u16 0, .int .u16 0, .int .u16 0, .int .u16 0, .int .u16 0, .int .u16 0, .int .u16 0, .int .u16 0, .int .u16 0, .int .u16 0, .int .u16 0] 41) := (setRow_other _ _ _ _ (by have := NEQ.out; omega)).trans Kb.out
          have K0 : Hid (Blk (g22.setRow ka (lk (clo (eR L) 16))) gb (lk (eR L)) 41) := (setRow_other _ _ _ _ (by have := ltX; omega)).trans K0.out
          have K1 : Hid (Blk (g22.setRow ka (lk (clo (eR L) 16))) (gb + 1) (lk (eF L)) 41) := (setRow_other _ _ _ _ (by have := ltX; omega)).trans K1.out
          refine hK.out _ _ ?_ (fun hHeld => ?_)
          · exact ⟨K0.out, K1.out⟩
          clear hK K
          try simp only [List.foldl, Act.put, List.setIfInBounds_toArray, List.set_cons_zero, List.set_cons_succ]
          generalize hGe : (g22.setRow ka (lk (clo (eR L) 16))) = g23 at Ka Kb hHeld LX K0 K1 ⊢
          clear hGe hlx
          refine wpAnyH_ready (rs := [7]) (by kernel_rfl) (by simp) ?_
          refine AllReadyH.cons rfl (fun K hK => ?_) AllReadyH.nil
          refine wp_store_row 41 (.tmp 10) (.tmp 30) rfl kb (lk (clo (eF L) 16)) rfl rfl 41 _ Kb.out (by rw [Tryd.infoLk, lk_size]) (by rw [lk_size]; rfl) (lk_one _) ?_
          have hlx := HXb.out
          have LX : Hid (Below X.heap.size X (g23.setRow kb (lk (clo (eF L) 16)))) := below_setRow LX.out hlx _
          have Kb : Hid (Blk (g23.setRow kb (lk (clo (eF L) 16))) kb (lk (clo (eF L) 16)) 41) := setRow_heap _ _ _ _ _ _ Kb.out
          have Ka : Hid (Blk (g23.setRow kb (lk (clo (eF L) 16))) ka (lk (clo (eR L) 16)) 41) := (setRow_other _ _ _ _ (by have := NEQ.out; omega)).trans Ka.out
          have K0 : Hid (Blk (g23.setRow kb (lk (clo (eF L) 16))) gb (lk (eR L)) 41) := (setRow_other _ _ _ _ (by have := ltX; omega)).trans K0.out
          have K1 : Hid (Blk (g23.setRow kb (lk (clo (eF L) 16))) (gb + 1) (lk (eF L)) 41) := (setRow_other _ _ _ _ (by have := ltX; omega)).trans K1.out
          refine hK.out _ _ ?_ (fun hHeld => ?_)
          · exact ⟨K0.out, K1.out⟩
          clear hK K
          try simp only [List.foldl, Act.put, List.setIfInBounds_toArray, List.set_cons_zero, List.set_cons_succ]
          generalize hGe : (g23.setRow kb (lk (clo (eF L) 16))) = g24 at Ka Kb hHeld LX K0 K1 ⊢
          clear hGe hlx
          refine wpAnyH_done (by kernel_rfl) ?_ _
          go_wp2_with fail
          go_meet
          exact ⟨ka, kb, rfl, rfl, Ka.out, Kb.out, LX.out⟩
        refine AllReadyH.cons rfl (fun K hK => ?_) AllReadyH.nil
        go_simp
        have hg : Below g20.heap.size g20 (g20.alloc (.cells #[.int .u16 0, .int .u16 0, .int .u16 0, .int .u16 0, .int .u16 0, .int .u16 0, .int .u16 0, .int .u16 0, .int .u16 0, .int .u16 0, .int .u16 0, .int .u16 0, .int .u16 0, .int .u16 0, .int .u16 0, .int .u16 0] 41)) := bl_alloc (Below.refl _ _) _
        have Ka : Hid (Blk (g20.alloc (.cells #[.int .u16 0, .int .u16 0, .int .u16 0, .int .u16 0, .int .u16 0, .int .u16 0, .int .u16 0, .int .u16 0, .int .u16 0, .int .u16 0, .int .u16 0, .int .u16 0, .int .u16 0, .int .u16 0, .int .u16 0, .int .u16 0] 41)) g20.heap.size #[.int .u16 0, .int .u16 0, .int .u16 0, .int .u16 0, .int .u16 0, .int .u16 0, .int .u16 0, .int .u16 0, .int .u16 0, .int .u16 0, .int .u16 0, .int .u16 0, .int .u16 0, .int .u16 0, .int .u16 0, .int .u16 0] 41) := Blk.new _ _ _
        have hxs : X.heap.size ≤ g20.heap.size := LX.out.size
        have NE : Hid (¬ kb = g20.heap.size) := by have := Kb.out.lt; show ¬ _; omega
        have LX : Hid (Below X.heap.size X (g20.alloc (.cells #[.int .u16 0, .int .u16 0, .int .u16 0, .int .u16 0, .int .u16 0, .int .u16 0, .int .u16 0, .int .u16 0, .int .u16 0, .int .u16 0, .int .u16 0, .int .u16 0, .int .u16 0, .int .u16 0, .int .u16 0, .int .u16 0] 41))) := bl_trans LX.out hg
        have K0 : Hid (Blk (g20.alloc (.cells #[.int .u16 0, .int .u16 0, .int .u16 0, .int .u16 0, .int .u16 0, .int .u16 0, .int .u16 0, .int .u16 0, .int .u16 0, .int .u16 0, .int .u16 0, .int .u16 0, .int .u16 0, .int .u16 0, .int .u16 0, .int .u16 0] 41)) gb (lk (eR L)) 41) := K0.out.later hg
        have K1 : Hid (Blk (g20.alloc (.cells #[.int .u16 0, .int .u16 0, .int .u16 0, .int .u16 0, .int .u16 0, .int .u16 0, .int .u16 0, .int .u16 0, .int .u16 0, .int .u16 0, .int .u16 0, .int .u16 0, .int .u16 0, .int .u16 0, .int .u16 0, .int .u16 0] 41)) (gb + 1) (lk (eF L)) 41) := K1.out.later hg
        have Kb : Hid (Blk (g20.alloc (.cells #[.int .u16 0, .int .u16 0, .int .u16 0, .int .u16 0, .int .u16 0, .int .u16 0, .int .u16 0, .int .u16 0, .int .u16 0, .int .u16 0, .int .u16 0, .int .u16 0, .int .u16 0, .int .u16 0, .int .u16 0, .int .u16 0] 41)) kb #[.int .u16 0, .int .u16 0, .int .u16 0, .int .u16 0, .int .u16 0, .int .u16 0, .int .u16 0, .int .u16 0, .int .u16 0, .int .u16 0, .int .u16 0, .int .u16 0, .int .u16 0, .int .u16 0, .int .u16 0, .int .u16 0] 41) := Kb.out.later hg
        clear hg
        refine hK.out _ _ ?_ (fun hHeld => ?_)
        · exact ⟨K0.out, K1.out⟩
        clear hK K
        try simp only [List.foldl, Act.put, List.setIfInBounds_toArray, List.set_cons_zero, List.set_cons_succ]
        generalize hGe : (g20.alloc (.cells #[.int .u16 0, .int .u16 0, .int .u16 0, .int .u16 0, .int .u16 0, .int .u16 0, .int .u16 0, .int .u16 0, .int .u16 0, .int .u16 0, .int .u16 0, .int .u16 0, .int .u16 0, .int .u16 0, .int .u16 0, .int .u16 0] 41)) = g25 at Ka hHeld LX K0 K1 Kb ⊢
        obtain ⟨ka, hka⟩ : ∃ k, g20.heap.size = k := ⟨_, rfl⟩
        have HXa : Hid (X.heap.size ≤ ka) := Nat.le_trans hxs (Nat.le_of_eq hka)
        clear hxs
        rw [hka] at Ka NE
        try rw [hka]
        clear hGe hka
        refine wpAnyH_ready (rs := [3]) (by kernel_rfl) (by simp) ?_
        refine AllReadyH.cons rfl (fun K hK => ?_) AllReadyH.nil
        go_simp
        refine (byAnyWay_any (eF L) _).mono ?_
        rintro z g26 ⟨rfl, hb⟩
        have hc : Below g25.heap.size g25 g26 := hb
        have LX : Hid (Below X.heap.size X g26) := bl_trans LX.out hc
        have K0 : Hid (Blk g26 gb (lk (eR L)) 41) := K0.out.later hc
        have K1 : Hid (Blk g26 (gb + 1) (lk (eF L)) 41) := K1.out.later hc
        have Kb : Hid (Blk g26 kb #[.int .u16 0, .int .u16 0, .int .u16 0, .int .u16 0, .int .u16 0, .int .u16 0, .int .u16 0, .int .u16 0, .int .u16 0, .int .u16 0, .int .u16 0, .int .u16 0, .int .u16 0, .int .u16 0, .int .u16 0, .int .u16 0] 41) := Kb.out.later hc
        have Ka : Hid (Blk g26 ka #[.int .u16 0, .int .u16 0, .int .u16 0, .int .u16 0, .int .u16 0, .int .u16 0, .int .u16 0, .int .u16 0, .int .u16 0, .int .u16 0, .int .u16 0, .int .u16 0, .int .u16 0, .int .u16 0, .int .u16 0, .int .u16 0] 41) := Ka.out.later hc
        clear hb hc
        refine hK.out _ _ ?_ (fun hHeld => ?_)
        · exact ⟨K0.out, K1.out⟩
        clear hK K
        try simp only [List.foldl, Act.put, List.setIfInBounds_toArray, List.set_cons_zero, List.set_cons_succ]
        have NEQ : Hid (¬ ka = kb) := by first | exact NE.out | exact fun e => NE.out e.symm
        refine wpAnyH_ready (rs := [6]) (by kernel_rfl) (by simp) ?_
        refine AllReadyH.cons rfl (fun K hK => ?_) AllReadyH.nil
        refine wp_store_row 41 (.tmp 9) (.tmp 28) rfl ka (lk (clo (eR L) 16)) rfl rfl 41 _ Ka.out (by rw [Tryd.infoLk, lk_size]) (by rw [lk_size]; rfl) (lk_one _) ?_
        have hlx := HXa.out
        have LX : Hid (Below X.heap.size X (g26.setRow ka (lk (clo (eR L) 16)))) := below_setRow LX.out hlx _
        have Ka : Hid (Blk (g26.setRow ka (lk (clo (eR L) 16))) ka (lk (clo (eR L) 16)) 41) := setRow_heap _ _ _ _ _ _ Ka.out
        have Kb : Hid (Blk (g26.setRow ka (lk (clo (eR L) 16))) kb #[.int .u16 0, .int .u16 0, .int .u16 0, .int .u16 0, .int .u16 0, .int .u16 0, .int .u16 0, .int .u16 0, .int .u16 0, .int .u16 0, .int .u16 0, .int .u16 0, .int .u16 0, .int .u16 0, .int .u16 0, .int .u16 0] 41) := (setRow_other _ _ _ _ (by have := NEQ.out; omega)).trans Kb.out
        have K0 : Hid (Blk (g26.setRow ka (lk (clo (eR L) 16))) gb (lk (eR L)) 41) := (setRow_other _ _ _ _ (by have := ltX; omega)).trans K0.out
        have K1 : Hid (Blk (g26.setRow ka (lk (clo (eR L) 16))) (gb + 1) (lk (eF L)) 41) := (setRow_other _ _ _ _ (by have := ltX; omega)).trans K1.out
        refine hK.out _ _ ?_ (fun hHeld => ?_)
        · exact ⟨K0.out, K1.out⟩
        clear hK K
        try simp only [List.foldl, Act.put, List.setIfInBounds_toArray, List.set_cons_zero, List.set_cons_succ]
        generalize hGe : (g26.setRow ka (lk (clo (eR L) 16))) = g27 at Ka Kb hHeld LX K0 K1 ⊢
        clear hGe hlx
        refine wpAnyH_ready (rs := [7]) (by kernel_rfl) (by simp) ?_
        refine AllReadyH.cons rfl (fun K hK => ?_) AllReadyH.nil
        refine wp_store_row 41 (.tmp 10) (.tmp 30) rfl kb (lk (clo (eF L) 16)) rfl rfl 41 _ Kb.out (by rw [Tryd.infoLk, lk_size]) (by rw [lk_size]; rfl) (lk_one _) ?_
        have hlx := HXb.out
        have LX : Hid (Below X.heap.size X (g27.setRow kb (lk (clo (eF L) 16)))) := below_setRow LX.out hlx _
        have Kb : Hid (Blk (g27.setRow kb (lk (clo (eF L) 16))) kb (lk (clo (eF L) 16)) 41) := setRow_heap _ _ _ _ _ _ Kb.out
        have Ka : Hid (Blk (g27.setRow kb (lk (clo (eF L) 16))) ka (lk (clo (eR L) 16)) 41) := (setRow_other _ _ _ _ (by have := NEQ.out; omega)).trans Ka.out
        have K0 : Hid (Blk (g27.setRow kb (lk (clo (eF L) 16))) gb (lk (eR L)) 41) := (setRow_other _ _ _ _ (by have := ltX; omega)).trans K0.out
        have K1 : Hid (Blk (g27.setRow kb (lk (clo (eF L) 16))) (gb + 1) (lk (eF L)) 41) := (setRow_other _ _ _ _ (by have := ltX; omega)).trans K1.out
        refine hK.out _ _ ?_ (fun hHeld => ?_)
        · exact ⟨K0.out, K1.out⟩
        clear hK K
        try simp only [List.foldl, Act.put, List.setIfInBounds_toArray, List.set_cons_zero, List.set_cons_succ]
        generalize hGe : (g27.setRow kb (lk (clo (eF L) 16))) = g28 at Ka Kb hHeld LX K0 K1 ⊢
        clear hGe hlx
        refine wpAnyH_done (by kernel_rfl) ?_ _
        go_wp2_with fail
        go_meet
        exact ⟨ka, kb, rfl, rfl, Ka.out, Kb.out, LX.out⟩
      refine AllReadyH.cons rfl (fun K hK => ?_) ?_
      · skip
        go_simp
        have hg : Below X.heap.size X (X.alloc (.cells #[.int .u16 0, .int .u16 0, .int .u16 0, .int .u16 0, .int .u16 0, .int .u16 0, .int .u16 0, .int .u16 0, .int .u16 0, .int .u16 0, .int .u16 0, .int .u16 0, .int .u16 0, .int .u16 0, .int .u16 0, .int .u16 0] 41)).drew := bl_drew (bl_alloc (Below.refl _ _) _)
        have Ka : Hid (Blk (X.alloc (.cells #[.int .u16 0, .int .u16 0, .int .u16 0, .int .u16 0, .int .u16 0, .int .u16 0, .int .u16 0, .int .u16 0, .int .u16 0, .int .u16 0, .int .u16 0, .int .u16 0, .int .u16 0, .int .u16 0, .int .u16 0, .int .u16 0] 41)).drew X.heap.size #[.int .u16 0, .int .u16 0, .int .u16 0, .int .u16 0, .int .u16 0, .int .u16 0, .int .u16 0, .int .u16 0, .int .u16 0, .int .u16 0, .int .u16 0, .int .u16 0, .int .u16 0, .int .u16 0, .int .u16 0, .int .u16 0] 41) := Blk.new _ _ _
        have hxs : X.heap.size ≤ X.heap.size := LX.out.size
        have LX : Hid (Below X.heap.size X (X.alloc (.cells #[.int .u16 0, .int .u16 0, .int .u16 0, .int .u16 0, .int .u16 0, .int .u16 0, .int .u16 0, .int .u16 0, .int .u16 0, .int .u16 0, .int .u16 0, .int .u16 0, .int .u16 0, .int .u16 0, .int .u16 0, .int .u16 0] 41)).drew) := bl_trans LX.out hg
        have K0 : Hid (Blk (X.alloc (.cells #[.int .u16 0, .int .u16 0, .int .u16 0, .int .u16 0, .int .u16 0, .int .u16 0, .int .u16 0, .int .u16 0, .int .u16 0, .int .u16 0, .int .u16 0, .int .u16 0, .int .u16 0, .int .u16 0, .int .u16 0, .int .u16 0] 41)).drew gb (lk (eR L)) 41) := K0.out.later hg
        have K1 : Hid (Blk (X.alloc (.cells #[.int .u16 0, .int .u16 0, .int .u16 0, .int .u16 0, .int .u16 0, .int .u16 0, .int .u16 0, .int .u16 0, .int .u16 0, .int .u16 0, .int .u16 0, .int .u16 0, .int .u16 0, .int .u16 0, .int .u16 0, .int .u16 0] 41)).drew (gb + 1) (lk (eF L)) 41) := K1.out.later hg
        clear hg
        refine hK.out _ _ ?_ (fun hHeld => ?_)
        · exact ⟨K0.out, K1.out⟩
        clear hK K
        try simp only [List.foldl, Act.put, List.setIfInBounds_toArray, List.set_cons_zero, List.set_cons_succ]
        generalize hGe : (X.alloc (.cells #[.int .u16 0, .int .u16 0, .int .u16 0, .int .u16 0, .int .u16 0, .int .u16 0, .int .u16 0, .int .u16 0, .int .u16 0, .int .u16 0, .int .u16 0, .int .u16 0, .int .u16 0, .int .u16 0, .int .u16 0, .int .u16 0] 41)).drew = g29 at Ka hHeld LX K0 K1 ⊢
        obtain ⟨ka, hka⟩ : ∃ k, X.heap.size = k := ⟨_, rfl⟩
        have HXa : Hid (X.heap.size ≤ ka) := Nat.le_trans hxs (Nat.le_of_eq hka)
        clear hxs
        rw [hka] at Ka
        try rw [hka]
        clear hGe hka
        refine wpAnyH_ready (rs := [1, 5]) (by kernel_rfl) (by simp) ?_
        refine AllReadyH.cons rfl (fun K hK => ?_) ?_
        · skip
          go_simp
          refine (byAnyWay_any (eR L) _).mono ?_
          rintro z g30 ⟨rfl, hb⟩
          have hc : Below g29.heap.size g29 g30 := hb
          have LX : Hid (Below X.heap.size X g30) := bl_trans LX.out hc
          have K0 : Hid (Blk g30 gb (lk (eR L)) 41) := K0.out.later hc
          have K1 : Hid (Blk g30 (gb + 1) (lk (eF L)) 41) := K1.out.later hc
          have Ka : Hid (Blk g30 ka #[.int .u16 0, .int .u16 0, .int .u16 0, .int .u16 0, .int .u16 0, .int .u16 0, .int .u16 0, .int .u16 0, .int .u16 0, .int .u16 0, .int .u16 0, .int .u16 0, .int .u16 0, .int .u16 0, .int .u16 0, .int .u16 0] 41) := Ka.out.later hc
          clear hb hc
          refine hK.out _ _ ?_ (fun hHeld => ?_)
          · exact ⟨K0.out, K1.out⟩
          clear hK K
          try simp only [List.foldl, Act.put, List.setIfInBounds_toArray, List.set_cons_zero, List.set_cons_succ]
          refine wpAnyH_ready (rs := [3, 5]) (by kernel_rfl) (by simp) ?_
          refine AllReadyH.cons rfl (fun K hK => ?_) ?_
          · skip
            go_simp
            refine (byAnyWay_any (eF L) _).mono ?_
            rintro z g31 ⟨rfl, hb⟩
            have hc : Below g30.heap.size g30 g31 := hb
            have LX : Hid (Below X.heap.size X g31) := bl_trans LX.out hc
            have K0 : Hid (Blk g31 gb (lk (eR L)) 41) := K0.out.later hc
            have K1 : Hid (Blk g31 (gb + 1) (lk (eF L)) 41) := K1.out.later hc
            have Ka : Hid (Blk g31 ka #[.int .u16 0, .int .u16 0, .int .u16 0, .int .u16 0, .int .u16 0, .int .u16 0, .int .u16 0, .int .u16 0, .int .u16 0, .int .u16 0, .int .u16 0, .int .u16 0, .int .u16 0, .int .u16 0, .int .u16 0, .int .u16 0] 41) := Ka.out.later hc
            clear hb hc
            refine hK.out _ _ ?_ (fun hHeld => ?_)
            · exact ⟨K0.out, K1.out⟩
            clear hK K
            try simp only [List.foldl, Act.put, List.setIfInBounds_toArray, List.set_cons_zero, List.set_cons_succ]
            refine wpAnyH_ready (rs := [5]) (by kernel_rfl) (by simp) ?_
            refine AllReadyH.cons rfl (fun K hK => ?_) AllReadyH.nil
            go_simp
            have hg : Below g31.heap.size g31 (g31.alloc (.cells #[.int .u16 0, .int .u16 0, .int .u16 0, .int .u16 0, .int .u16 0, .int .u16 0, .int .u16 0, .int .u16 0, .int .u16 0, .int .u16 0, .int .u16 0, .int .u16 0, .int .u16 0, .int .u16 0, .int .u16 0, .int .u16 0] 41)) := bl_alloc (Below.refl _ _) _
            have Kb : Hid (Blk (g31.alloc (.cells #[.int .u16 0, .int .u16 0, .int .u16 0, .int .u16 0, .int .u16 0, .int .u16 0, .int .u16 0, .int .u16 0, .int .u16 0, .int .u16 0, .int .u16 0, .int .u16 0, .int .u16 0, .int .u16 0, .int .u16 0, .int .u16 0] 41)) g31.heap.size #[.int .u16 0, .int .u16 0, .int .u16 0, .int .u16 0, .int .u16 0, .int .u16 0, .int .u16 0, .int .u16 0, .int .u16 0, .int .u16 0, .int .u16 0, .int .u16 0, .int .u16 0, .int .u16 0, .int .u16 0, .int .u16 0] 41) := Blk.new _ _ _
            have hxs : X.heap.size ≤ g31.heap.size := LX.out.size
            have NE : Hid (¬ ka = g31.heap.size) := by have := Ka.out.lt; show ¬ _; omega
            have LX : Hid (Below X.heap.size X (g31.alloc (.cells #[.int .u16 0, .int .u16 0, .int .u16 0, .int .u16 0, .int .u16 0, .int .u16 0, .int .u16 0, .int .u16 0, .int .u16 0, .int .u16 0, .int .u16 0, .int .u16 0, .int .u16 0, .int .u16 0, .int .u16 0, .int .u16 0] 41))) := bl_trans LX.out hg
            have K0 : Hid (Blk (g31.alloc (.cells #[.int .u16 0, .int .u16 0, .int .u16 0, .int .u16 0, .int .u16 0, .int .u16 0, .int .u16 0, .int .u16 0, .int .u16 0, .int .u16 0, .int .u16 0, .int .u16 0, .int .u16 0, .int .u16 0, .int .u16 0, .int .u16 0] 41)) gb (lk (eR L)) 41) := K0.out.later hg
            have K1 : Hid (Blk (g31.alloc (.cells #[.int .u16 0, .int .u16 0, .int .u16 0, .int .u16 0, .int .u16 0, .int .u16 0, .int .u16 0, .int .u16 0, .int .u16 0, .int .u16 0, .int .u16 0, .int .u16 0, .int .u16 0, .int .u16 0, .int .u16 0, .int .u16 0] 41)) (gb + 1) (lk (eF L)) 41) := K1.out.later hg
            have Ka : Hid (Blk (g31.alloc (.cells #[.int .u16 0, .int .u16 0, .int .u16 0, .int .u16 0, .int .u16 0, .int .u16 0, .int .u16 0, .int .u16 0, .int .u16 0, .int .u16 0, .int .u16 0, .int .u16 0, .int .u16 0, .int .u16 0, .int .u16 0, .int .u16 0] 41)) ka #[.int .u16 0, .int .u16 0, .int .u16 0, .int .u16 0, .int .u16 0, .int .u16 0, .int .u16 0, .int .u16 0, .int .u16 0, .int .u16 0, .int .u16 0, .int .u16 0, .int .u16 0, .int .u16 0, .int .u16 0, .int .u16 0] 41) := Ka.out.later hg
            clear hg
            refine hK.out _ _ ?_ (fun hHeld => ?_)
            · exact ⟨K0.out, K1.out⟩
            clear hK K
            try simp only [List.foldl, Act.put, List.setIfInBounds_toArray, List.set_cons_zero, List.set_cons_succ]
            generalize hGe : (g31.alloc (.cells #[.int .u16 0, .int .u16 0, .int .u16 0, .int .u16 0, .int .u16 0, .int .u16 0, .int .u16 0, .int .u16 0, .int .u16 0, .int .u16 0, .int .u16 0, .int .u16 0, .int .u16 0, .int .u16 0, .int .u16 0, .int .u16 0] 41)) = g32 at Kb hHeld LX K0 K1 Ka ⊢
            obtain ⟨kb, hkb⟩ : ∃ k, g31.heap.size = k := ⟨_, rfl⟩
            have HXb : Hid (X.heap.size ≤ kb) := Nat.le_trans hxs (Nat.le_of_eq hkb)
            clear hxs
            rw [hkb] at Kb NE
            try rw [hkb]
            clear hGe hkb
            have NEQ : Hid (¬ ka = kb) := by first | exact NE.out | exact fun e => NE.out e.symm
            refine wpAnyH_ready (rs := [6]) (by kernel_rfl) (by simp) ?_
            refine AllReadyH.cons rfl (fun K hK => ?_) AllReadyH.nil
            refine wp_store_row 41 (.tmp 9) (.tmp 28) rfl ka (lk (clo (eR L) 16)) rfl rfl 41 _ Ka.out (by rw [Tryd.infoLk, lk_size]) (by rw [lk_size]; rfl) (lk_one _) ?_
            have hlx := HXa.out
            have LX : Hid (Below X.heap.size X (g32.setRow ka (lk (clo (eR L) 16)))) := below_setRow LX.out hlx _
            have Ka : Hid (Blk (g32.setRow ka (lk (clo (eR L) 16))) ka (lk (clo (eR L) 16)) 41) := setRow_heap _ _ _ _ _ _ Ka.out
            have Kb : Hid (Blk (g32.setRow ka (lk (clo (eR L) 16))) kb #[.int .u16 0, .int .u16 0, .int .u16 0, .int .u16 0, .int .u16 0, .int .u16 0, .int .u16 0, .int .u16 0, .int .u16 0, .int .u16 0, .int .u16 0, .int .u16 0, .int .u16 0, .int .u16 0, .int .u16 0, .int .u16 0] 41) := (setRow_other _ _ _ _ (by have := NEQ.out; omega)).trans Kb.out
            have K0 : Hid (Blk (g32.setRow ka (lk (clo (eR L) 16))) gb (lk (eR L)) 41) := (setRow_other _ _ _ _ (by have := ltX; omega)).trans K0.out
            have K1 : Hid (Blk (g32.setRow ka (lk (clo (eR L) 16))) (gb + 1) (lk (eF L)) 41) := (setRow_other _ _ _ _ (by have := ltX; omega)).trans K1.out
            refine hK.out _ _ ?_ (fun hHeld => ?_)
            · exact ⟨K0.out, K1.out⟩
            clear hK K
            try simp only [List.foldl, Act.put, List.setIfInBounds_toArray, List.set_cons_zero, List.set_cons_succ]
            generalize hGe : (g32.setRow ka (lk (clo (eR L) 16))) = g33 at Ka Kb hHeld LX K0 K1 ⊢
            clear hGe hlx
            refine wpAnyH_ready (rs := [7]) (by kernel_rfl) (by simp) ?_
            refine AllReadyH.cons rfl (fun K hK => ?_) AllReadyH.nil
            refine wp_store_row 41 (.tmp 10) (.tmp 30) rfl kb (lk (clo (eF L) 16)) rfl rfl 41 _ Kb.out (by rw [Tryd.infoLk, lk_size]) (by rw [lk_size]; rfl) (lk_one _) ?_
            have hlx := HXb.out
            have LX : Hid (Below X.heap.size X (g33.setRow kb (lk (clo (eF L) 16)))) := below_setRow LX.out hlx _
            have Kb : Hid (Blk (g33.setRow kb (lk (clo (eF L) 16))) kb (lk (clo (eF L) 16)) 41) := setRow_heap _ _ _ _ _ _ Kb.out
            have Ka : Hid (Blk (g33.setRow kb (lk (clo (eF L) 16))) ka (lk (clo (eR L) 16)) 41) := (setRow_other _ _ _ _ (by have := NEQ.out; omega)).trans Ka.out
            have K0 : Hid (Blk (g33.setRow kb (lk (clo (eF L) 16))) gb (lk (eR L)) 41) := (setRow_other _ _ _ _ (by have := ltX; omega)).trans K0.out
            have K1 : Hid (Blk (g33.setRow kb (lk (clo (eF L) 16))) (gb + 1) (lk (eF L)) 41) := (setRow_other _ _ _ _ (by have := ltX; omega)).trans K1.out
            refine hK.out _ _ ?_ (fun hHeld => ?_)
            · exact ⟨K0.out, K1.out⟩
            clear hK K
            try simp only [List.foldl, Act.put, List.setIfInBounds_toArray, List.set_cons_zero, List.set_cons_succ]
            generalize hGe : (g33.setRow kb (lk (clo (eF L) 16))) = g34 at Ka Kb hHeld LX K0 K1 ⊢
            clear hGe hlx
            refine wpAnyH_done (by kernel_rfl) ?_ _
            go_wp2_with fail
            go_meet
            exact ⟨ka, kb, rfl, rfl, Ka.out, Kb.out, LX.out⟩
          refine AllReadyH.cons rfl (fun K hK => ?_) AllReadyH.nil
          go_simp
          have hg : Below g30.heap.size g30 (g30.alloc (.cells #[.int .u16 0, .int .u16 0, .int .u16 0, .int .u16 0, .int .u16 0, .int .u16 0, .int .u16 0, .int .u16 0, .int .u16 0, .int .u16 0, .int .u16 0, .int .u16 0, .int .u16 0, .int .u16 0, .int .u16 0, .int .u16 0] 41)) := bl_alloc (Below.refl _ _) _
          have Kb : Hid (Blk (g30.alloc (.cells #[.int .u16 0, .int .u16 0, .int .u16 0, .int .u16 0, .int .u16 0, .int .u16 0, .int .u16 0, .int .u16 0, .int .u16 0, .int .u16 0, .int .u16 0, .int .u16 0, .int .u16 0, .int .u16 0, .int .u16 0, .int .u16 0] 41)) g30.heap.size #[.int .u16 0, .int .u16 0, .int .u16 0, .int .u16 0, .int .u16 0, .int .u16 0, .int .u16 0, .int .u16 0, .int .u16 0, .int .u16 0, .int .u16 0, .int .u16 0, .int .u16 0, .int .u16 0, .int .u16 0, .int .u16 0] 41) := Blk.new _ _ _
          have hxs : X.heap.size ≤ g30.heap.size := LX.out.size
          have NE : Hid (¬ ka = g30.heap.size) := by have := Ka.out.lt; show ¬ _; omega
          have LX : Hid (Below X.heap.size X (g30.alloc (.cells #[.int .u16 0, .int .u16 0, .int .u16 0, .int .u16 0, .int .u16 0, .int .u16 0, .int .u16 0, .int .u16 0, .int .u16 0, .int .u16 0, .int .u16 0, .int .u16 0, .int .u16 0, .int .u16 0, .int .u16 0, .int .u16 0] 41))) := bl_trans LX.out hg
          have K0 : Hid (Blk (g30.alloc (.cells #[.int .u16 0, .int .u16 0, .int .u16 0, .int .u16 0, .int .u16 0, .int .u16 0, .int .u16 0, .int .u16 0, .int .u16 0, .int .u16 0, .int .u16 0, .int .u16 0, .int .u16 0, .int .u16 0, .int .u16 0, .int .u16 0] 41)) gb (lk (eR L)) 41) := K0.out.later hg
          have K1 : Hid (Blk (g30.alloc (.cells #[.int .u16 0, .int .u16 0, .int .u16 0, .int .u16 0, .int .u16 0, .int .u16 0, .int .u16 0, .int .u16 0, .int .u16 0, .int .u16 0, .int .u16 0, .int .u16 0, .int .u16 0, .int .u16 0, .int .u16 0, .int .u16 0] 41)) (gb + 1) (lk (eF L)) 41) := K1.out.later hg
          have Ka : Hid (Blk (g30.alloc (.cells #[.int .u16 0, .int .u16 0, .int .u16 0, .int .u16 0, .int .u16 0, .int .u16 0, .int .u16 0, .int .u16 0, .int .u16 0, .int .u16 0, .int .u16 0, .int .u16 0, .int .u16 0, .int .u16 0, .int .u16 0, .int .u16 0] 41)) ka #[.int .u16 0, .int .u16 0, .int .u16 0, .int .u16 0, .int .u16 0, .int .u16 0, .int .u16 0, .int .u16 0, .int .u16 0, .int .u16 0, .int .u16 0, .int .u16 0, .int .u16 0, .int .u16 0, .int .u16 0, .int .u16 0] 41) := Ka.out.later hg
          clear hg
          refine hK.out _ _ ?_ (fun hHeld => ?_)
          · exact ⟨K0.out, K1.out⟩
          clear hK K
          try simp only [List.foldl, Act.put, List.setIfInBounds_toArray, List.set_cons_zero, List.set_cons_succ]
          generalize hGe : (g30.alloc (.cells #[.int .u16 0, .int .u16 0, .int .u16 0, .int .u16 0, .int .u16 0, .int .u16 0, .int .u16 0, .int .u16 0, .int .u16 0, .int .u16 0, .int .u16 0, .int .u16 0, .int .u16 0, .int .u16 0, .int .u16 0, .int .u16 0] 41)) = g35 at Kb hHeld LX K0 K1 Ka ⊢
          obtain ⟨kb, hkb⟩ : ∃ k, g30.heap.size = k := ⟨_, rfl⟩
          have HXb : Hid (X.heap.size ≤ kb) := Nat.le_trans hxs (Nat.le_of_eq hkb)
          clear hxs
          rw [hkb] at Kb NE
          try rw [hkb]
          clear hGe hkb
          refine wpAnyH_ready (rs := [3]) (by kernel_rfl) (by simp) ?_
          refine AllReadyH.cons rfl (fun K hK => ?_) AllReadyH.nil
          go_simp
          refine (byAnyWay_any (eF L) _).mono ?_
          rintro z g36 ⟨rfl, hb⟩
          have hc : Below g35.heap.size g35 g36 := hb
          have LX : Hid (Below X.heap.size X g36) := bl_trans LX.out hc
          have K0 : Hid (Blk g36 gb (lk (eR L)) 41) := K0.out.later hc
          have K1 : Hid (Blk g36 (gb + 1) (lk (eF L)) 41) := K1.out.later hc
          have Ka : Hid (Blk g36 ka #[.int .u16 0, .int .u16 0, .int .u16 0, .int .u16 0, .int .u16 0, .int .u16 0, .int .u16 0, .int .u16 0, .int .u16 0, .int .u16 0, .int .u16 0, .int .u16 0, .int .u16 0, .int .u16 0, .int .u16 0, .int .u16 0] 41) := Ka.out.later hc
          have Kb : Hid (Blk g36 kb #[.int .u16 0, .int .u16 0, .int .u16 0, .int .u16 0, .int .u16 0, .int .u16 0, .int .u16 0, .int .u16 0, .int .u16 0, .int .u16 0, .int .u16 0, .int .u16 0, .int .u16 0, .int .u16 0, .int .u16 0, .int .u16 0] 41) := Kb.out.later hc
          clear hb hc
          refine hK.out _ _ ?_ (fun hHeld => ?_)
          · exact ⟨K0.out, K1.out⟩
          clear hK K
          try simp only [List.foldl, Act.put, List.setIfInBounds_toArray, List.set_cons_zero, List.set_cons_succ]
          have NEQ : Hid (¬ ka = kb) := by first | exact NE.out | exact fun e => NE.out e.symm
          refine wpAnyH_ready (rs := [6]) (by kernel_rfl) (by simp) ?_
          refine AllReadyH.cons rfl (fun K hK => ?_) AllReadyH.nil
          refine wp_store_row 41 (.tmp 9) (.tmp 28) rfl ka (lk (clo (eR L) 16)) rfl rfl 41 _ Ka.out (by rw [Tryd.infoLk, lk_size]) (by rw [lk_size]; rfl) (lk_one _) ?_
          have hlx := HXa.out
          have LX : Hid (Below X.heap.size X (g36.setRow ka (lk (clo (eR L) 16)))) := below_setRow LX.out hlx _
          have Ka : Hid (Blk (g36.setRow ka (lk (clo (eR L) 16))) ka (lk (clo (eR L) 16)) 41) := setRow_heap _ _ _ _ _ _ Ka.out
          have Kb : Hid (Blk (g36.setRow ka (lk (clo (eR L) 16))) kb #[.int .u16 0, .int .u16 0, .int .u16 0, .int .u16 0, .int .u16 0, .int .u16 0, .int .u16 0, .int .u16 0, .int .u16 0, .int .u16 0, .int .u16 0, .int .u16 0, .int .u16 0, .int .u16 0, .int .u16 0, .int .u16 0] 41) := (setRow_other _ _ _ _ (by have := NEQ.out; omega)).trans Kb.out
          have K0 : Hid (Blk (g36.setRow ka (lk (clo (eR L) 16))) gb (lk (eR L)) 41) := (setRow_other _ _ _ _ (by have := ltX; omega)).trans K0.out
          have K1 : Hid (Blk (g36.setRow ka (lk (clo (eR L) 16))) (gb + 1) (lk (eF L)) 41) := (setRow_other _ _ _ _ (by have := ltX; omega)).trans K1.out
          refine hK.out _ _ ?_ (fun hHeld => ?_)
          · exact ⟨K0.out, K1.out⟩
          clear hK K
          try simp only [List.foldl, Act.put, List.setIfInBounds_toArray, List.set_cons_zero, List.set_cons_succ]
          generalize hGe : (g36.setRow ka (lk (clo (eR L) 16))) = g37 at Ka Kb hHeld LX K0 K1 ⊢
          clear hGe hlx
          refine wpAnyH_ready (rs := [7]) (by kernel_rfl) (by simp) ?_
          refine AllReadyH.cons rfl (fun K hK => ?_) AllReadyH.nil
          refine wp_store_row 41 (.tmp 10) (.tmp 30) rfl kb (lk (clo (eF L) 16)) rfl rfl 41 _ Kb.out (by rw [Tryd.infoLk, lk_size]) (by rw [lk_size]; rfl) (lk_one _) ?_
          have hlx := HXb.out
          have LX : Hid (Below X.heap.size X (g37.setRow kb (lk (clo (eF L) 16)))) := below_setRow LX.out hlx _
          have Kb : Hid (Blk (g37.setRow kb (lk (clo (eF L) 16))) kb (lk (clo (eF L) 16)) 41) := setRow_heap _ _ _ _ _ _ Kb.out
          have Ka : Hid (Blk (g37.setRow kb (lk (clo (eF L) 16))) ka (lk (clo (eR L) 16)) 41) := (setRow_other _ _ _ _ (by have := NEQ.out; omega)).trans Ka.out
          have K0 : Hid (Blk (g37.setRow kb (lk (clo (eF L) 16))) gb (lk (eR L)) 41) := (setRow_other _ _ _ _ (by have := ltX; omega)).trans K0.out
          have K1 : Hid (Blk (g37.setRow kb (lk (clo (eF L) 16))) (gb + 1) (lk (eF L)) 41) := (setRow_other _ _ _ _ (by have := ltX; omega)).trans K1.out
          refine hK.out _ _ ?_ (fun hHeld => ?_)
          · exact ⟨K0.out, K1.out⟩
          clear hK K
          try simp only [List.foldl, Act.put, List.setIfInBounds_toArray, List.set_cons_zero, List.set_cons_succ]
          generalize hGe : (g37.setRow kb (lk (clo (eF L) 16))) = g38 at Ka Kb hHeld LX K0 K1 ⊢
          clear hGe hlx
          refine wpAnyH_done (by kernel_rfl) ?_ _
          go_wp2_with fail
          go_meet
          exact ⟨ka, kb, rfl, rfl, Ka.out, Kb.out, LX.out⟩
        refine AllReadyH.cons rfl (fun K hK => ?_) AllReadyH.nil
        go_simp
        have hg : Below g29.heap.size g29 (g29.alloc (.cells #[.int .u16 0, .int .u16 0, .int .u16 0, .int .u16 0, .int .u16 0, .int .u16 0, .int .u16 0, .int .u16 0, .int .u16 0, .int .u16 0, .int .u16 0, .int .u16 0, .int .u16 0, .int .u16 0, .int .u16 0, .int .u16 0] 41)) := bl_alloc (Below.refl _ _) _
        have Kb : Hid (Blk (g29.alloc (.cells #[.int .u16 0, .int .u16 0, .int .u16 0, .int .u16 0, .int .u16 0, .int .u16 0, .int .u16 0, .int .u16 0, .int .u16 0, .int .u16 0, .int .u16 0, .int .u16 0, .int .u16 0, .int .u16 0, .int .u16 0, .int .u16 0] 41)) g29.heap.size #[.int .u16 0, .int .u16 0, .int .u16 0, .int .u16 0, .int .u16 0, .int .u16 0, .int .u16 0, .int .u16 0, .int .u16 0, .int .u16 0, .int .u16 0, .int .u16 0, .int .u16 0, .int .u16 0, .int .u16 0, .int .u16 0] 41) := Blk.new _ _ _
        have hxs : X.heap.size ≤ g29.heap.size := LX.out.size
        have NE : Hid (¬ ka = g29.heap.size) := by have := Ka.out.lt; show ¬ _; omega
        have LX : Hid (Below X.heap.size X (g29.alloc (.cells #[.int .u16 0, .int .u16 0, .int .u16 0, .int .u16 0, .int .u16 0, .int .u16 0, .int .u16 0, .int .u16 0, .int .u16 0, .int .u16 0, .int .u16 0, .int .u16 0, .int .u16 0, .int .u16 0, .int .u16 0, .int .u16 0] 41))) := bl_trans LX.out hg
        have K0 : Hid (Blk (g29.alloc (.cells #[.int .u16 0, .int .u16 0, .int .u16 0, .int .u16 0, .int .u16 0, .int .u16 0, .int .u16 0, .int .u16 0, .int .u16 0, .int .u16 0, .int .u16 0, .int .u16 0, .int .u16 0, .int .u16 0, .int .u16 0, .int .u16 0] 41)) gb (lk (eR L)) 41) := K0.out.later hg
        have K1 : Hid (Blk (g29.alloc (.cells #[.int .u16 0, .int .u16 0, .int .u16 0, .int .u16 0, .int .u16 0, .int .u16 0, .int .u16 0, .int .u16 0, .int .u16 0, .int .u16 0, .int .u16 0, .int .u16 0, .int .u16 0, .int .u16 0, .int .u16 0, .int .u16 0] 41)) (gb + 1) (lk (eF L)) 41) := K1.out.later hg
        have Ka : Hid (Blk (g29.alloc (.cells #[.int .u16 0, .int .u16 0, .int .u16 0, .int .u16 0, .int .u16 0, .int .u16 0, .int .u16 0, .int .u16 0, .int .u16 0, .int .u16 0, .int .u16 0, .int .u16 0, .int .u16 0, .int .u16 0, .int .u16 0, .int .u16 0] 41)) ka #[.int .u16 0, .int .u16 0, .int .u16 0, .int .u16 0, .int .u16 0, .int .u16 0, .int .u16 0, .int .u16 0, .int .u16 0, .int .u16 0, .int .u16 0, .int .u16 0, .int .u16 0, .int .u16 0, .int .u16 0, .int .u16 0] 41) := Ka.out.later hg
        clear hg
        refine hK.out _ _ ?_ (fun hHeld => ?_)
        · exact ⟨K0.out, K1.out⟩
        clear hK K
        try simp only [List.foldl, Act.put, List.setIfInBounds_toArray, List.set_cons_zero, List.set_cons_succ]
        generalize hGe : (g29.alloc (.cells #[.int .u16 0, .int .u16 0, .int .u16 0, .int .u16 0, .int .u16 0, .int .u16 0, .int .u16 0, .int .u16 0, .int .u16 0, .int .u16 0, .int .u16 0, .int .u16 0, .int .u16 0, .int .u16 0, .int .u16 0, .int .u16 0] 41)) = g39 at Kb hHeld LX K0 K1 Ka ⊢
        obtain ⟨kb, hkb⟩ : ∃ k, g29.heap.size = k := ⟨_, rfl⟩
        have HXb : Hid (X.heap.size ≤ kb) := Nat.le_trans hxs (Nat.le_of_eq hkb)
        clear hxs
        rw [hkb] at Kb NE
        try rw [hkb]
        clear hGe hkb
        refine wpAnyH_ready (rs := [1]) (by kernel_rfl) (by simp) ?_
        refine AllReadyH.cons rfl (fun K hK => ?_) AllReadyH.nil
        go_simp
        refine (byAnyWay_any (eR L) _).mono ?_
        rintro z g40 ⟨rfl, hb⟩
        have hc : Below g39.heap.size g39 g40 := hb
        have LX : Hid (Below X.heap.size X g40) := bl_trans LX.out hc
        have K0 : Hid (Blk g40 gb (lk (eR L)) 41) := K0.out.later hc
        have K1 : Hid (Blk g40 (gb + 1) (lk (eF L)) 41) := K1.out.later hc
        have Ka : Hid (Blk g40 ka #[.int .u16 0, .int .u16 0, .int .u16 0, .int .u16 0, .int .u16 0, .int .u16 0, .int .u16 0, .int .u16 0, .int .u16 0, .int .u16 0, .int .u16 0, .int .u16 0, .int .u16 0, .int .u16 0, .int .u16 0, .int .u16 0] 41) := Ka.out.later hc
        have Kb : Hid (Blk g40 kb #[.int .u16 0, .int .u16 0, .int .u16 0, .int .u16 0, .int .u16 0, .int .u16 0, .int .u16 0, .int .u16 0, .int .u16 0, .int .u16 0, .int .u16 0, .int .u16 0, .int .u16 0, .int .u16 0, .int .u16 0, .int .u16 0] 41) := Kb.out.later hc
        clear hb hc
        refine hK.out _ _ ?_ (fun hHeld => ?_)
        · exact ⟨K0.out, K1.out⟩
        clear hK K
        try simp only [List.foldl, Act.put, List.setIfInBounds_toArray, List.set_cons_zero, List.set_cons_succ]
        refine wpAnyH_ready (rs := [3]) (by kernel_rfl) (by simp) ?_
        refine AllReadyH.cons rfl (fun K hK => ?_) AllReadyH.nil
        go_simp
        refine (byAnyWay_any (eF L) _).mono ?_
        rintro z g41 ⟨rfl, hb⟩
        have hc : Below g40.heap.size g40 g41 := hb
        have LX : Hid (Below X.heap.size X g41) := bl_trans LX.out hc
        have K0 : Hid (Blk g41 gb (lk (eR L)) 41) := K0.out.later hc
        have K1 : Hid (Blk g41 (gb + 1) (lk (eF L)) 41) := K1.out.later hc
        have Ka : Hid (Blk g41 ka #[.int .u16 0, .int .u16 0, .int .u16 0, .int .u16 0, .int .u16 0, .int .u16 0, .int .u16 0, .int .u16 0, .int .u16 0, .int .u16 0, .int .u16 0, .int .u16 0, .int .u16 0, .int .u16 0, .int .u16 0, .int .u16 0] 41) := Ka.out.later hc
        have Kb : Hid (Blk g41 kb #[.int .u16 0, .int .u16 0, .int .u16 0, .int .u16 0, .int .u16 0, .int .u16 0, .int .u16 0, .int .u16 0, .int .u16 0, .int .u16 0, .int .u16 0, .int .u16 0, .int .u16 0, .int .u16 0, .int .u16 0, .int .u16 0] 41) := Kb.out.later hc
        clear hb hc
        refine hK.out _ _ ?_ (fun hHeld => ?_)
        · exact ⟨K0.out, K1.out⟩
        clear hK K
        try simp only [List.foldl, Act.put, List.setIfInBounds_toArray, List.set_cons_zero, List.set_cons_succ]
        have NEQ : Hid (¬ ka = kb) := by first | exact NE.out | exact fun e => NE.out e.symm
        refine wpAnyH_ready (rs := [6]) (by kernel_rfl) (by simp) ?_
        refine AllReadyH.cons rfl (fun K hK => ?_) AllReadyH.nil
        refine wp_store_row 41 (.tmp 9) (.tmp 28) rfl ka (lk (clo (eR L) 16)) rfl rfl 41 _ Ka.out (by rw [Tryd.infoLk, lk_size]) (by rw [lk_size]; rfl) (lk_one _) ?_
        have hlx := HXa.out
        have LX : Hid (Below X.heap.size X (g41.setRow ka (lk (clo (eR L) 16)))) := below_setRow LX.out hlx _
        have Ka : Hid (Blk (g41.setRow ka (lk (clo (eR L) 16))) ka (lk (clo (eR L) 16)) 41) := setRow_heap _ _ _ _ _ _ Ka.out
        have Kb : Hid (Blk (g41.setRow ka (lk (clo (eR L) 16))) kb #[.int .u16 0, .int .u16 0, .int .u16 0, .int .u16 0, .int .u16 0, .int .u16 0, .int .u16 0, .int .u16 0, .int .u16 0, .int .u16 0, .int .u16 0, .int .u16 0, .int .u16 0, .int .u16 0, .int .u16 0, .int .u16 0] 41) := (setRow_other _ _ _ _ (by have := NEQ.out; omega)).trans Kb.out
        have K0 : Hid (Blk (g41.setRow ka (lk (clo (eR L) 16))) gb (lk (eR L)) 41) := (setRow_other _ _ _ _ (by have := ltX; omega)).trans K0.out
        have K1 : Hid (Blk (g41.setRow ka (lk (clo (eR L) 16))) (gb + 1) (lk (eF L)) 41) := (setRow_other _ _ _ _ (by have := ltX; omega)).trans K1.out
        refine hK.out _ _ ?_ (fun hHeld => ?_)
        · exact ⟨K0.out, K1.out⟩
        clear hK K
        try simp only [List.foldl, Act.put, List.setIfInBounds_toArray, List.set_cons_zero, List.set_cons_succ]
        generalize hGe : (g41.setRow ka (lk (clo (eR L) 16))) = g42 at Ka Kb hHeld LX K0 K1 ⊢
        clear hGe hlx
        refine wpAnyH_ready (rs := [7]) (by kernel_rfl) (by simp) ?_
        refine AllReadyH.cons rfl (fun K hK => ?_) AllReadyH.nil
        refine wp_store_row 41 (.tmp 10) (.tmp 30) rfl kb (lk (clo (eF L) 16)) rfl rfl 41 _ Kb.out (by rw [Tryd.infoLk, lk_size]) (by rw [lk_size]; rfl) (lk_one _) ?_
        have hlx := HXb.out
        have LX : Hid (Below X.heap.size X (g42.setRow kb (lk (clo (eF L) 16)))) := below_setRow LX.out hlx _
        have Kb : Hid (Blk (g42.setRow kb (lk (clo (eF L) 16))) kb (lk (clo (eF L) 16)) 41) := setRow_heap _ _ _ _ _ _ Kb.out
        have Ka : Hid (Blk (g42.setRow kb (lk (clo (eF L) 16))) ka (lk (clo (eR L) 16)) 41) := (setRow_other _ _ _ _ (by have := NEQ.out; omega)).trans Ka.out
        have K0 : Hid (Blk (g42.setRow kb (lk (clo (eF L) 16))) gb (lk (eR L)) 41) := (setRow_other _ _ _ _ (by have := ltX; omega)).trans K0.out
        have K1 : Hid (Blk (g42.setRow kb (lk (clo (eF L) 16))) (gb + 1) (lk (eF L)) 41) := (setRow_other _ _ _ _ (by have := ltX; omega)).trans K1.out
        refine hK.out _ _ ?_ (fun hHeld => ?_)
        · exact ⟨K0.out, K1.out⟩
        clear hK K
        try simp only [List.foldl, Act.put, List.setIfInBounds_toArray, List.set_cons_zero, List.set_cons_succ]
        generalize hGe : (g42.setRow kb (lk (clo (eF L) 16))) = g43 at Ka Kb hHeld LX K0 K1 ⊢
        clear hGe hlx
        refine wpAnyH_done (by kernel_rfl) ?_ _
        go_wp2_with fail
        go_meet
        exact ⟨ka, kb, rfl, rfl, Ka.out, Kb.out, LX.out⟩
      refine AllReadyH.cons rfl (fun K hK => ?_) AllReadyH.nil
      go_simp
      have hg : Below X.heap.size X (X.alloc (.cells #[.int .u16 0, .int .u16 0, .int .u16 0, .int .u16 0, .int .u16 0, .int .u16 0, .int .u16 0, .int .u16 0, .int .u16 0, .int .u16 0, .int .u16 0, .int .u16 0, .int .u16 0, .int .u16 0, .int .u16 0, .int .u16 0] 41)).drew := bl_drew (bl_alloc (Below.refl _ _) _)
      have Kb : Hid (Blk (X.alloc (.cells #[.int .u16 0, .int .u16 0, .int .u16 0, .int .u16 0, .int .u16 0, .int .u16 0, .int .u16 0, .int .u16 0, .int .u16 0, .int .u16 0, .int .u16 0, .int .u16 0, .int .u16 0, .int .u16 0, .int .u16 0, .int .u16 0] 41)).drew X.heap.size #[.int .u16 0, .int .u16 0, .int .u16 0, .int .u16 0, .int .u16 0, .int .u16 0, .int .u16 0, .int .u16 0, .int .u16 0, .int .u16 0, .int .u16 0, .int .u16 0, .int .u16 0, .int .u16 0, .int .u16 0, .int .u16 0] 41) := Blk.new _ _ _
      have hxs : X.heap.size ≤ X.heap.size := LX.out.size
      have LX : Hid (Below X.heap.size X (X.alloc (.cells #[.int .u16 0, .int .u16 0, .int .u16 0, .int .u16 0, .int .u16 0, .int .u16 0, .int .u16 0, .int .u16 0, .int .u16 0, .int .u16 0, .int .u16 0, .int .u16 0, .int .u16 0, .int .u16 0, .int .u16 0, .int .u16 0] 41)).drew) := bl_trans LX.out hg
      have K0 : Hid (Blk (X.alloc (.cells #[.int .u16 0, .int .u16 0, .int .u16 0, .int .u16 0, .int .u16 0, .int .u16 0, .int .u16 0, .int .u16 0, .int .u16 0, .int .u16 0, .int .u16 0, .int .u16 0, .int .u16 0, .int .u16 0, .int .u16 0, .int .u16 0] 41)).drew gb (lk (eR L)) 41) := K0.out.later hg
      have K1 : Hid (Blk (X.alloc (.cells #[.int .u16 0, .int .u16 0, .int .u16 0, .int .u16 0, .int .u16 0, .int .u16 0, .int .u16 0, .int .u16 0, .int .u16 0, .int .u16 0, .int .u16 0, .int .u16 0, .int .u16 0, .int .u16 0, .int .u16 0, .int .u16 0] 41)).drew (gb + 1) (lk (eF L)) 41) := K1.out.later hg
      clear hg
      refine hK.out _ _ ?_ (fun hHeld => ?_)
      · exact ⟨K0.out, K1.out⟩
      clear hK K
      try simp only [List.foldl, Act.put, List.setIfInBounds_toArray, List.set_cons_zero, List.set_cons_succ]
      generalize hGe : (X.alloc (.cells #[.int .u16 0, .int .u16 0, .int .u16 0, .int .u16 0, .int .u16 0, .int .u16 0, .int .u16 0, .int .u16 0, .int .u16 0, .int .u16 0, .int .u16 0, .int .u16 0, .int .u16 0, .int .u16 0, .int .u16 0, .int .u16 0] 41)).drew = g44 at Kb hHeld LX K0 K1 ⊢
      obtain ⟨kb, hkb⟩ : ∃ k, X.heap.size = k := ⟨_, rfl⟩
      have HXb : Hid (X.heap.size ≤ kb) := Nat.le_trans hxs (Nat.le_of_eq hkb)
      clear hxs
      rw [hkb] at Kb
      try rw [hkb]
      clear hGe hkb
      refine wpAnyH_ready (rs := [1, 4]) (by kernel_rfl) (by simp) ?_
      refine AllReadyH.cons rfl (fun K hK => ?_) ?_
      · skip
        go_simp
        refine (byAnyWay_any (eR L) _).mono ?_
        rintro z g45 ⟨rfl, hb⟩
        have hc : Below g44.heap.size g44 g45 := hb
        have LX : Hid (Below X.heap.size X g45) := bl_trans LX.out hc
        have K0 : Hid (Blk g45 gb (lk (eR L)) 41) := K0.out.later hc
        have K1 : Hid (Blk g45 (gb + 1) (lk (eF L)) 41) := K1.out.later hc
        have Kb : Hid (Blk g45 kb #[.int .u16 0, .int .u16 0, .int .u16 0, .int .u16 0, .int .u16 0, .int .u16 0, .int .u16 0, .int .u16 0, .int .u16 0, .int .u16 0, .int .u16 0, .int .u16 0, .int .u16 0, .int .u16 0, .int .u16 0, .int .u16 0] 41) := Kb.out.later hc
        clear hb hc
        refine hK.out _ _ ?_ (fun hHeld => ?_)
        · exact ⟨K0.out, K1.out⟩
        clear hK K
        try simp only [List.foldl, Act.put, List.setIfInBounds_toArray, List.set_cons_zero, List.set_cons_succ]
        refine wpAnyH_ready (rs := [3, 4]) (by kernel_rfl) (by simp) ?_
        refine AllReadyH.cons rfl (fun K hK => ?_) ?_
        · skip
          go_simp
          refine (byAnyWay_any (eF L) _).mono ?_
          rintro z g46 ⟨rfl, hb⟩
          have hc : Below g45.heap.size g45 g46 := hb
          have LX : Hid (Below X.heap.size X g46) := bl_trans LX.out hc
          have K0 : Hid (Blk g46 gb (lk (eR L)) 41) := K0.out.later hc
          have K1 : Hid (Blk g46 (gb + 1) (lk (eF L)) 41) := K1.out.later hc
          have Kb : Hid (Blk g46 kb #[.int .u16 0, .int .u16 0, .int .u16 0, .int .u16 0, .int .u16 0, .int .u16 0, .int .u16 0, .int .u16 0, .int .u16 0, .int .u16 0, .int .u16 0, .int .u16 0, .int .u16 0, .int .u16 0, .int .u16 0, .int .u16 0] 41) := Kb.out.later hc
          clear hb hc
          refine hK.out _ _ ?_ (fun hHeld => ?_)
          · exact ⟨K0.out, K1.out⟩
          clear hK K
          try simp only [List.foldl, Act.put, List.setIfInBounds_toArray, List.set_cons_zero, List.set_cons_succ]
          refine wpAnyH_ready (rs := [4]) (by kernel_rfl) (by simp) ?_
          refine AllReadyH.cons rfl (fun K hK => ?_) AllReadyH.nil
          go_simp
          have hg : Below g46.heap.size g46 (g46.alloc (.cells #[.int .u16 0, .int .u16 0, .int .u16 0, .int .u16 0, .int .u16 0, .int .u16 0, .int .u16 0, .int .u16 0, .int .u16 0, .int .u16 0, .int .u16 0, .int .u16 0, .int .u16 0, .int .u16 0, .int .u16 0, .int .u16 0] 41)) := bl_alloc (Below.refl _ _) _
          have Ka : Hid (Blk (g46.alloc (.cells #[.int .u16 0, .int .u16 0, .int .u16 0, .int .u16 0, .int .u16 0, .int .u16 0, .int .u16 0, .int .u16 0, .int .u16 0, .int .u16 0, .int .u16 0, .int .u16 0, .int .u16 0, .int .u16 0, .int .u16 0, .int .u16 0] 41)) g46.heap.size #[.int .u16 0, .int .u16 0, .int .u16 0, .int .u16 0, .int .u16 0, .int .u16 0, .int .u16 0, .int .u16 0, .int .u16 0, .int .u16 0, .int .u16 0, .int .u16 0, .int .u16 0, .int .u16 0, .int .u16 0, .int .u16 0] 41) := Blk.new _ _ _
          have hxs : X.heap.size ≤ g46.heap.size := LX.out.size
          have NE : Hid (¬ kb = g46.heap.size) := by have := Kb.out.lt; show ¬ _; omega
          have LX : Hid (Below X.heap.size X (g46.alloc (.cells #[.int .u16 0, .int .u16 0, .int .u16 0, .int .u16 0, .int .u16 0, .int .u16 0, .int .u16 0, .int .u16 0, .int .u16 0, .int .u16 0, .int .u16 0, .int .u16 0, .int .u16 0, .int .u16 0, .int .u16 0, .int .u16 0] 41))) := bl_trans LX.out hg
          have K0 : Hid (Blk (g46.alloc (.cells #[.int .u16 0, .int .u16 0, .int .u16 0, .int .u16 0, .int .u16 0, .int .u16 0, .int .u16 0, .int .u16 0, .int .u16 0, .int .u16 0, .int .u16 0, .int .u16 0, .int .u16 0, .int .u16 0, .int .u16 0, .int .u16 0] 41)) gb (lk (eR L)) 41) := K0.out.later hg
          have K1 : Hid (Blk (g46.alloc (.cells #[.int .u16 0, .int .u16 0, .int .u16 0, .int .u16 0, .int .u16 0, .int .u16 0, .int .u16 0, .int .u16 0, .int .u16 0, .int .u16 0, .int .u16 0, .int .u16 0, .int .u16 0, .int .u16 0, .int .u16 0, .int .u16 0] 41)) (gb + 1) (lk (eF L)) 41) := K1.out.later hg
          have Kb : Hid (Blk (g46.alloc (.cells #[.int .u16 0, .int .u16 0, .int .u16 0, .int .u16 0, .int .u16 0, .int .u16 0, .int .u16 0, .int .u16 0, .int .u16 0, .int .u16 0, .int .u16 0, .int .u16 0, .int .u16 0, .int .u16 0, .int .u16 0, .int .u16 0] 41)) kb #[.int .u16 0, .int .u16 0, .int .u16 0, .int .u16 0, .int .u16 0, .int .u16 0, .int .u16 0, .int .u16 0, .int .u16 0, .int .u16 0, .int .u16 0, .int .u16 0, .int .u16 0, .int .u16 0, .int .u16 0, .int .u16 0] 41) := Kb.out.later hg
          clear hg
          refine hK.out _ _ ?_ (fun hHeld => ?_)
          · exact ⟨K0.out, K1.out⟩
          clear hK K
          try simp only [List.foldl, Act.put, List.setIfInBounds_toArray, List.set_cons_zero, List.set_cons_succ]
          generalize hGe : (g46.alloc (.cells #[.int .u16 0, .int .u16 0, .int .u16 0, .int .u16 0, .int .u16 0, .int .u16 0, .int .u16 0, .int .u16 0, .int .u16 0, .int .u16 0, .int .u16 0, .int .u16 0, .int .u16 0, .int .u16 0, .int .u16 0, .int .u16 0] 41)) = g47 at Ka hHeld LX K0 K1 Kb ⊢
          obtain ⟨ka, hka⟩ : ∃ k, g46.heap.size = k := ⟨_, rfl⟩
          have HXa : Hid (X.heap.size ≤ ka) := Nat.le_trans hxs (Nat.le_of_eq hka)
          clear hxs
          rw [hka] at Ka NE
          try rw [hka]
          clear hGe hka
          have NEQ : Hid (¬ ka = kb) := by first | exact NE.out | exact fun e => NE.out e.symm
          refine wpAnyH_ready (rs := [6]) (by kernel_rfl) (by simp) ?_
          refine AllReadyH.cons rfl (fun K hK => ?_) AllReadyH.nil
          refine wp_store_row 41 (.tmp 9) (.tmp 28) rfl ka (lk (clo (eR L) 16)) rfl rfl 41 _ Ka.out (by rw [Tryd.infoLk, lk_size]) (by rw [lk_size]; rfl) (lk_one _) ?_
          have hlx := HXa.out
          have LX : Hid (Below X.heap.size X (g47.setRow ka (lk (clo (eR L) 16)))) := below_setRow LX.out hlx _
          have Ka : Hid (Blk (g47.setRow ka (lk (clo (eR L) 16))) ka (lk (clo (eR L) 16)) 41) := setRow_heap _ _ _ _ _ _ Ka.out
          have Kb : Hid (Blk (g47.setRow ka (lk (clo (eR L) 16))) kb #[.int .u16 0, .int .u16 0, .int .u16 0, .int .u16 0, .int .u16 0, .int .u16 0, .int .u16 0, .int .u16 0, .int .u16 0, .int .u16 0, .int .u16 0, .int .u16 0, .int .u16 0, .int .u16 0, .int .u16 0, .int .u16 0] 41) := (setRow_other _ _ _ _ (by have := NEQ.out; omega)).trans Kb.out
          have K0 : Hid (Blk (g47.setRow ka (lk (clo (eR L) 16))) gb (lk (eR L)) 41) := (setRow_other _ _ _ _ (by have := ltX; omega)).trans K0.out
          have K1 : Hid (Blk (g47.setRow ka (lk (clo (eR L) 16))) (gb + 1) (lk (eF L)) 41) := (setRow_other _ _ _ _ (by have := ltX; omega)).trans K1.out
          refine hK.out _ _ ?_ (fun hHeld => ?_)
          · exact ⟨K0.out, K1.out⟩
          clear hK K
          try simp only [List.foldl, Act.put, List.setIfInBounds_toArray, List.set_cons_zero, List.set_cons_succ]
          generalize hGe : (g47.setRow ka (lk (clo (eR L) 16))) = g48 at Ka Kb hHeld LX K0 K1 ⊢
          clear hGe hlx
          refine wpAnyH_ready (rs := [7]) (by kernel_rfl) (by simp) ?_
          refine AllReadyH.cons rfl (fun K hK => ?_) AllReadyH.nil
          refine wp_store_row 41 (.tmp 10) (.tmp 30) rfl kb (lk (clo (eF L) 16)) rfl rfl 41 _ Kb.out (by rw [Tryd.infoLk, lk_size]) (by rw [lk_size]; rfl) (lk_one _) ?_
          have hlx := HXb.out
          have LX : Hid (Below X.heap.size X (g48.setRow kb (lk (clo (eF L) 16)))) := below_setRow LX.out hlx _
          have Kb : Hid (Blk (g48.setRow kb (lk (clo (eF L) 16))) kb (lk (clo (eF L) 16)) 41) := setRow_heap _ _ _ _ _ _ Kb.out
          have Ka : Hid (Blk (g48.setRow kb (lk (clo (eF L) 16))) ka (lk (clo (eR L) 16)) 41) := (setRow_other _ _ _ _ (by have := NEQ.out; omega)).trans Ka.out
          have K0 : Hid (Blk (g48.setRow kb (lk (clo (eF L) 16))) gb (lk (eR L)) 41) := (setRow_other _ _ _ _ (by have := ltX; omega)).trans K0.out
          have K1 : Hid (Blk (g48.setRow kb (lk (clo (eF L) 16))) (gb + 1) (lk (eF L)) 41) := (setRow_other _ _ _ _ (by have := ltX; omega)).trans K1.out
          refine hK.out _ _ ?_ (fun hHeld => ?_)
          · exact ⟨K0.out, K1.out⟩
          clear hK K
          try simp only [List.foldl, Act.put, List.setIfInBounds_toArray, List.set_cons_zero, List.set_cons_succ]
          generalize hGe : (g48.setRow kb (lk (clo (eF L) 16))) = g49 at Ka Kb hHeld LX K0 K1 ⊢
          clear hGe hlx
          refine wpAnyH_done (by kernel_rfl) ?_ _
          go_wp2_with fail
          go_meet
          exact ⟨ka, kb, rfl, rfl, Ka.out, Kb.out, LX.out⟩
        refine AllReadyH.cons rfl (fun K hK => ?_) AllReadyH.nil
        go_simp
        have hg : Below g45.heap.size g45 (g45.alloc (.cells #[.int .u16 0, .int .u16 0, .int .u16 0, .int .u16 0, .int .u16 0, .int .u16 0, .int .u16 0, .int .u16 0, .int .u16 0, .int .u16 0, .int .u16 0, .int .u16 0, .int .u16 0, .int .u16 0, .int .u16 0, .int .u16 0] 41)) := bl_alloc (Below.refl _ _) _
        have Ka : Hid (Blk (g45.alloc (.cells #[.int .u16 0, .int .u16 0, .int .u16 0, .int .u16 0, .int .u16 0, .int .u16 0, .int .u16 0, .int .u16 0, .int .u16 0, .int .u16 0, .int .u16 0, .int .u16 0, .int .u16 0, .int .u16 0, .int .u16 0, .int .u16 0] 41)) g45.heap.size #[.int .u16 0, .int .u16 0, .int .u16 0, .int .u16 0, .int .u16 0, .int .u16 0, .int .u16 0, .int .u16 0, .int .u16 0, .int .u16 0, .int .u16 0, .int .u16 0, .int .u16 0, .int .u16 0, .int .u16 0, .int .u16 0] 41) := Blk.new _ _ _
        have hxs : X.heap.size ≤ g45.heap.size := LX.out.size
        have NE : Hid (¬ kb = g45.heap.size) := by have := Kb.out.lt; show ¬ _; omega
        have LX : Hid (Below X.heap.size X (g45.alloc (.cells #[.int .u16 0, .int .u16 0, .int .u16 0, .int .u16 0, .int .u16 0, .int .u16 0, .int .u16 0, .int .u16 0, .int .u16 0, .int .u16 0, .int .u16 0, .int .u16 0, .int .u16 0, .int .u16 0, .int .u16 0, .int .u16 0] 41))) := bl_trans LX.out hg
        have K0 : Hid (Blk (g45.alloc (.cells #[.int .u16 0, .int .u16 0, .int .u16 0, .int .u16 0, .int .u16 0, .int .u16 0, .int .u16 0, .int .u16 0, .int .u16 0, .int .u16 0, .int .u16 0, .int .u16 0, .int .u16 0, .int .u16 0, .int .u16 0, .int .u16 0] 41)) gb (lk (eR L)) 41) := K0.out.later hg
        have K1 : Hid (Blk (g45.alloc (.cells #[.int .u16 0, .int .u16 0, .int .u16 0, .int .u16 0, .int .u16 0, .int .u16 0, .int .u16 0, .int .u16 0, .int .u16 0, .int .u16 0, .int .u16 0, .int .u16 0, .int .u16 0, .int .u16 0, .int .u16 0, .int .u16 0] 41)) (gb + 1) (lk (eF L)) 41) := K1.out.later hg
        have Kb : Hid (Blk (g45.alloc (.cells #[.int .u16 0, .int .u16 0, .int .u16 0, .int .u16 0, .int .u16 0, .int .u16 0, .int .u16 0, .int .u16 0, .int .u16 0, .int .u16 0, .int .u16 0, .int .u16 0, .int .u16 0, .int .u16 0, .int .u16 0, .int .u16 0] 41)) kb #[.int .u16 0, .int .u16 0, .int .u16 0, .int .u16 0, .int .u16 0, .int .u16 0, .int .u16 0, .int .u16 0, .int .u16 0, .int .u16 0, .int .u16 0, .int .u16 0, .int .u16 0, .int .u16 0, .int .u16 0, .int .u16 0] 41) := Kb.out.later hg
        clear hg
        refine hK.out _ _ ?_ (fun hHeld => ?_)
        · exact ⟨K0.out, K1.out⟩
        clear hK K
        try simp only [List.foldl, Act.put, List.setIfInBounds_toArray, List.set_cons_zero, List.set_cons_succ]
        generalize hGe : (g45.alloc (.cells #[.int .u16 0, .int .u16 0, .int .u16 0, .int .u16 0, .int .u16 0, .int .u16 0, .int .u16 0, .int .u16 0, .int .u16 0, .int .u16 0, .int .u16 0, .int .u16 0, .int .u16 0, .int .u16 0, .int .u16 0, .int .u16 0] 41)) = g50 at Ka hHeld LX K0 K1 Kb ⊢
        obtain ⟨ka, hka⟩ : ∃ k, g45.heap.size = k := ⟨_, rfl⟩
        have HXa : Hid (X.heap.size ≤ ka) := Nat.le_trans hxs (Nat.le_of_eq hka)
        clear hxs
        rw [hka] at Ka NE
        try rw [hka]
        clear hGe hka
        refine wpAnyH_ready (rs := [3]) (by kernel_rfl) (by simp) ?_
        refine AllReadyH.cons rfl (fun K hK => ?_) AllReadyH.nil
        go_simp
        refine (byAnyWay_any (eF L) _).mono ?_
        rintro z g51 ⟨rfl, hb⟩
        have hc : Below g50.heap.size g50 g51 := hb
        have LX : Hid (Below X.heap.size X g51) := bl_trans LX.out hc
        have K0 : Hid (Blk g51 gb (lk (eR L)) 41) := K0.out.later hc
        have K1 : Hid (Blk g51 (gb + 1) (lk (eF L)) 41) := K1.out.later hc
        have Kb : Hid (Blk g51 kb #[.int .u16 0, .int .u16 0, .int .u16 0, .int .u16 0, .int .u16 0, .int .u16 0, .int .u16 0, .int .u16 0, .int .u16 0, .int .u16 0, .int .u16 0, .int .u16 0, .int .u16 0, .int .u16 0, .int .u16 0, .int .u16 0] 41) := Kb.out.later hc
        have Ka : Hid (Blk g51 ka #[.int .u16 0, .int .u16 0, .int .u16 0, .int .u16 0, .int .u16 0, .int .u16 0, .int .u16 0, .int .u16 0, .int .u16 0, .int .u16 0, .int .u16 0, .int .u16 0, .int .u16 0, .int .u16 0, .int .u16 0, .int .u16 0] 41) := Ka.out.later hc
        clear hb hc
        refine hK.out _ _ ?_ (fun hHeld => ?_)
        · exact ⟨K0.out, K1.out⟩
        clear hK K
        try simp only [List.foldl, Act.put, List.setIfInBounds_toArray, List.set_cons_zero, List.set_cons_succ]
        have NEQ : Hid (¬ ka = kb) := by first | exact NE.out | exact fun e => NE.out e.symm
        refine wpAnyH_ready (rs := [6]) (by kernel_rfl) (by simp) ?_
        refine AllReadyH.cons rfl (fun K hK => ?_) AllReadyH.nil
        refine wp_store_row 41 (.tmp 9) (.tmp 28) rfl ka (lk (clo (eR L) 16)) rfl rfl 41 _ Ka.out (by rw [Tryd.infoLk, lk_size]) (by rw [lk_size]; rfl) (lk_one _) ?_
        have hlx := HXa.out
        have LX : Hid (Below X.heap.size X (g51.setRow ka (lk (clo (eR L) 16)))) := below_setRow LX.out hlx _
        have Ka : Hid (Blk (g51.setRow ka (lk (clo (eR L) 16))) ka (lk (clo (eR L) 16)) 41) := setRow_heap _ _ _ _ _ _ Ka.out
        have Kb : Hid (Blk (g51.setRow ka (lk (clo (eR L) 16))) kb #[.int .u16 0, .int .u16 0, .int .u16 0, .int .u16 0, .int .u16 0, .int .u16 0, .int .u16 0, .int .u16 0, .int .u16 0, .int .u16 0, .int .u16 0, .int .u16 0, .int .u16 0, .int .u16 0, .int .u16 0, .int .u16 0] 41) := (setRow_other _ _ _ _ (by have := NEQ.out; omega)).trans Kb.out
        have K0 : Hid (Blk (g51.setRow ka (lk (clo (eR L) 16))) gb (lk (eR L)) 41) := (setRow_other _ _ _ _ (by have := ltX; omega)).trans K0.out
        have K1 : Hid (Blk (g51.setRow ka (lk (clo (eR L) 16))) (gb + 1) (lk (eF L)) 41) := (setRow_other _ _ _ _ (by have := ltX; omega)).trans K1.out
        refine hK.out _ _ ?_ (fun hHeld => ?_)
        · exact ⟨K0.out, K1.out⟩
        clear hK K
        try simp only [List.foldl, Act.put, List.setIfInBounds_toArray, List.set_cons_zero, List.set_cons_succ]
        generalize hGe : (g51.setRow ka (lk (clo (eR L) 16))) = g52 at Ka Kb hHeld LX K0 K1 ⊢
        clear hGe hlx
        refine wpAnyH_ready (rs := [7]) (by kernel_rfl) (by simp) ?_
        refine AllReadyH.cons rfl (fun K hK => ?_) AllReadyH.nil
        refine wp_store_row 41 (.tmp 10) (.tmp 30) rfl kb (lk (clo (eF L) 16)) rfl rfl 41 _ Kb.out (by rw [Tryd.infoLk, lk_size]) (by rw [lk_size]; rfl) (lk_one _) ?_
        have hlx := HXb.out
        have LX : Hid (Below X.heap.size X (g52.setRow kb (lk (clo (eF L) 16)))) := below_setRow LX.out hlx _
        have Kb : Hid (Blk (g52.setRow kb (lk (clo (eF L) 16))) kb (lk (clo (eF L) 16)) 41) := setRow_heap _ _ _ _ _ _ Kb.out
        have Ka : Hid (Blk (g52.setRow kb (lk (clo (eF L) 16))) ka (lk (clo (eR L) 16)) 41) := (setRow_other _ _ _ _ (by have := NEQ.out; omega)).trans Ka.out
        have K0 : Hid (Blk (g52.setRow kb (lk (clo (eF L) 16))) gb (lk (eR L)) 41) := (setRow_other _ _ _ _ (by have := ltX; omega)).trans K0.out
        have K1 : Hid (Blk (g52.setRow kb (lk (clo (eF L) 16))) (gb + 1) (lk (eF L)) 41) := (setRow_other _ _ _ _ (by have := ltX; omega)).trans K1.out
        refine hK.out _ _ ?_ (fun hHeld => ?_)
        · exact ⟨K0.out, K1.out⟩
        clear hK K
        try simp only [List.foldl, Act.put, List.setIfInBounds_toArray, List.set_cons_zero, List.set_cons_succ]
        generalize hGe : (g52.setRow kb (lk (clo (eF L) 16))) = g53 at Ka Kb hHeld LX K0 K1 ⊢
        clear hGe hlx
        refine wpAnyH_done (by kernel_rfl) ?_ _
        go_wp2_with fail
        go_meet
        exact ⟨ka, kb, rfl, rfl, Ka.out, Kb.out, LX.out⟩
      refine AllReadyH.cons rfl (fun K hK => ?_) AllReadyH.nil
      go_simp
      have hg : Below g44.heap.size g44 (g44.alloc (.cells #[.int .u16 0, .int .u16 0, .int .u16 0, .int .u16 0, .int .u16 0, .int .u16 0, .int .u16 0, .int .u16 0, .int .u16 0, .int .u16 0, .int .u16 0, .int .u16 0, .int .u16 0, .int .u16 0, .int .u16 0, .int .u16 0] 41)) := bl_alloc (Below.refl _ _) _
      have Ka : Hid (Blk (g44.alloc (.cells #[.int .u16 0, .int .u16 0, .int .u16 0, .int .u16 0, .int .u16 0, .int .u16 0, .int .u16 0, .int .u16 0, .int .u16 0, .int .u16 0, .int .u16 0, .int .u16 0, .int .u16 0, .int .u16 0, .int .u16 0, .int .u16 0] 41)) g44.heap.size #[.int .u16 0, .int .u16 0, .int .u16 0, .int .u16 0, .int .u16 0, .int .u16 0, .int .u16 0, .int .u16 0, .int .u16 0, .int .u16 0, .int .u16 0, .int .u16 0, .int .u16 0, .int .u16 0, .int .u16 0, .int .u16 0] 41) := Blk.new _ _ _
      have hxs : X.heap.size ≤ g44.heap.size := LX.out.size
      have NE : Hid (¬ kb = g44.heap.size) := by have := Kb.out.lt; show ¬ _; omega
      have LX : Hid (Below X.heap.size X (g44.alloc (.cells #[.int .u16 0, .int .u16 0, .int .u16 0, .int .u16 0, .int .u16 0, .int .u16 0, .int .u16 0, .int .u16 0, .int .u16 0, .int .u16 0, .int .u16 0, .int .u16 0, .int .u16 0, .int .u16 0, .int .u16 0, .int .u16 0] 41))) := bl_trans LX.out hg
      have K0 : Hid (Blk (g44.alloc (.cells #[.int .u16 0, .int .u16 0, .int .u16 0, .int .u16 0, .int .u16 0, .int .u16 0, .int .u16 0, .int .u16 0, .int .u16 0, .int .u16 0, .int .u16 0, .int .u16 0, .int .u16 0, .int .u16 0, .int .u16 0, .int .u16 0] 41)) gb (lk (eR L)) 41) := K0.out.later hg
      have K1 : Hid (Blk (g44.alloc (.cells #[.int .u16 0, .int .u16 0, .int .u16 0, .int .u16 0, .int .u16 0, .int .u16 0, .int .u16 0, .int .u16 0, .int .u16 0, .int .u16 0, .int .u16 0, .int .u16 0, .int .u16 0, .int .u16 0, .int .u16 0, .int .u16 0] 41)) (gb + 1) (lk (eF L)) 41) := K1.out.later hg
      have Kb : Hid (Blk (g44.alloc (.cells #[.int .u16 0, .int .u16 0, .int .u16 0, .int .u16 0, .int .u16 0, .int .u16 0, .int .u16 0, .int .u16 0, .int .u16 0, .int .u16 0, .int .u16 0, .int .u16 0, .int .u16 0, .int .u16 0, .int .u16 0, .int .u16 0] 41)) kb #[.int .u16 0, .int .u16 0, .int .u16 0, .int .u16 0, .int .u16 0, .int .u16 0, .int .u16 0, .int .u16 0, .int .u16 0, .int .u16 0, .int .u16 0, .int .u16 0, .int .u16 0, .int .u16 0, .int .u16 0, .int .u16 0] 41) := Kb.out.later hg
      clear hg
      refine hK.out _ _ ?_ (fun hHeld => ?_)
      · exact ⟨K0.out, K1.out⟩
      clear hK K
      try simp only [List.foldl, Act.put, List.setIfInBounds_toArray, List.set_cons_zero, List.set_cons_succ]
      generalize hGe : (g44.alloc (.cells #[.int .u16 0, .int .u16 0, .int .u16 0, .int .u16 0, .int .u16 0, .int .u16 0, .int .u16 0, .int .u16 0, .int .u16 0, .int .u16 0, .int .u16 0, .int .u16 0, .int .u16 0, .int .u16 0, .int .u16 0, .int .u16 0] 41)) = g54 at Ka hHeld LX K0 K1 Kb ⊢
      obtain ⟨ka, hka⟩ : ∃ k, g44.heap.size = k := ⟨_, rfl⟩
      have HXa : Hid (X.heap.size ≤ ka) := Nat.le_trans hxs (Nat.le_of_eq hka)
      clear hxs
      rw [hka] at Ka NE
      try rw [hka]
      clear hGe hka
      refine wpAnyH_ready (rs := [1]) (by kernel_rfl) (by simp) ?_
      refine AllReadyH.cons rfl (fun K hK => ?_) AllReadyH.nil
      go_simp
      refine (byAnyWay_any (eR L) _).mono ?_
      rintro z g55 ⟨rfl, hb⟩
      have hc : Below g54.heap.size g54 g55 := hb
      have LX : Hid (Below X.heap.size X g55) := bl_trans LX.out hc
      have K0 : Hid (Blk g55 gb (lk (eR L)) 41) := K0.out.later hc
      have K1 : Hid (Blk g55 (gb + 1) (lk (eF L)) 41) := K1.out.later hc
      have Kb : Hid (Blk g55 kb #[.int .u16 0, .int .u16 0, .int .u16 0, .int .u16 0, .int .u16 0, .int .u16 0, .int .u16 0, .int .u16 0, .int .u16 0, .int .u16 0, .int .u16 0, .int .u16 0, .int .u16 0, .int .u16 0, .int .u16 0, .int .u16 0] 41) := Kb.out.later hc
      have Ka : Hid (Blk g55 ka #[.int .u16 0, .int .u16 0, .int .u16 0, .int .u16 0, .int .u16 0, .int .u16 0, .int .u16 0, .int .u16 0, .int .u16 0, .int .u16 0, .int .u16 0, .int .u16 0, .int .u16 0, .int .u16 0, .int .u16 0, .int .u16 0] 41) := Ka.out.later hc
      clear hb hc
      refine hK.out _ _ ?_ (fun hHeld => ?_)
      · exact ⟨K0.out, K1.out⟩
      clear hK K
      try simp only [List.foldl, Act.put, List.setIfInBounds_toArray, List.set_cons_zero, List.set_cons_succ]
      refine wpAnyH_ready (rs := [3]) (by kernel_rfl) (by simp) ?_
      refine AllReadyH.cons rfl (fun K hK => ?_) AllReadyH.nil
      go_simp
      refine (byAnyWay_any (eF L) _).mono ?_
      rintro z g56 ⟨rfl, hb⟩
      have hc : Below g55.heap.size g55 g56 := hb
      have LX : Hid (Below X.heap.size X g56) := bl_trans LX.out hc
      have K0 : Hid (Blk g56 gb (lk (eR L)) 41) := K0.out.later hc
      have K1 : Hid (Blk g56 (gb + 1) (lk (eF L)) 41) := K1.out.later hc
      have Kb : Hid (Blk g56 kb #[.int .u16 0, .int .u16 0, .int .u16 0, .int .u16 0, .int .u16 0, .int .u16 0, .int .u16 0, .int .u16 0, .int .u16 0, .int .u16 0, .int .u16 0, .int .u16 0, .int .u16 0, .int .u16 0, .int .u16 0, .int .u16 0] 41) := Kb.out.later hc
      have Ka : Hid (Blk g56 ka #[.int .u16 0, .int .u16 0, .int .u16 0, .int .u16 0, .int .u16 0, .int .u16 0, .int .u16 0, .int .u16 0, .int .u16 0, .int .u16 0, .int .u16 0, .int .u16 0, .int .u16 0, .int .u16 0, .int .u16 0, .int .u16 0] 41) := Ka.out.later hc
      clear hb hc
      refine hK.out _ _ ?_ (fun hHeld => ?_)
      · exact ⟨K0.out, K1.out⟩
      clear hK K
      try simp only [List.foldl, Act.put, List.setIfInBounds_toArray, List.set_cons_zero, List.set_cons_succ]
      have NEQ : Hid (¬ ka = kb) := by first | exact NE.out | exact fun e => NE.out e.symm
      refine wpAnyH_ready (rs := [6]) (by kernel_rfl) (by simp) ?_
      refine AllReadyH.cons rfl (fun K hK => ?_) AllReadyH.nil
      refine wp_store_row 41 (.tmp 9) (.tmp 28) rfl ka (lk (clo (eR L) 16)) rfl rfl 41 _ Ka.out (by rw [Tryd.infoLk, lk_size]) (by rw [lk_size]; rfl) (lk_one _) ?_
      have hlx := HXa.out
      have LX : Hid (Below X.heap.size X (g56.setRow ka (lk (clo (eR L) 16)))) := below_setRow LX.out hlx _
      have Ka : Hid (Blk (g56.setRow ka (lk (clo (eR L) 16))) ka (lk (clo (eR L) 16)) 41) := setRow_heap _ _ _ _ _ _ Ka.out
      have Kb : Hid (Blk (g56.setRow ka (lk (clo (eR L) 16))) kb #[.int .u16 0, .int .u16 0, .int .u16 0, .int .u16 0, .int .u16 0, .int .u16 0, .int .u16 0, .int .u16 0, .int .u16 0, .int .u16 0, .int .u16 0, .int .u16 0, .int .u16 0, .int .u16 0, .int .u16 0, .int .u16 0] 41) := (setRow_other _ _ _ _ (by have := NEQ.out; omega)).trans Kb.out
      have K0 : Hid (Blk (g56.setRow ka (lk (clo (eR L) 16))) gb (lk (eR L)) 41) := (setRow_other _ _ _ _ (by have := ltX; omega)).trans K0.out
      have K1 : Hid (Blk (g56.setRow ka (lk (clo (eR L) 16))) (gb + 1) (lk (eF L)) 41) := (setRow_other _ _ _ _ (by have := ltX; omega)).trans K1.out
      refine hK.out _ _ ?_ (fun hHeld => ?_)
      · exact ⟨K0.out, K1.out⟩
      clear hK K
      try simp only [List.foldl, Act.put, List.setIfInBounds_toArray, List.set_cons_zero, List.set_cons_succ]
      generalize hGe : (g56.setRow ka (lk (clo (eR L) 16))) = g57 at Ka Kb hHeld LX K0 K1 ⊢
      clear hGe hlx
      refine wpAnyH_ready (rs := [7]) (by kernel_rfl) (by simp) ?_
      refine AllReadyH.cons rfl (fun K hK => ?_) AllReadyH.nil
      refine wp_store_row 41 (.tmp 10) (.tmp 30) rfl kb (lk (clo (eF L) 16)) rfl rfl 41 _ Kb.out (by rw [Tryd.infoLk, lk_size]) (by rw [lk_size]; rfl) (lk_one _) ?_
      have hlx := HXb.out
      have LX : Hid (Below X.heap.size X (g57.setRow kb (lk (clo (eF L) 16)))) := below_setRow LX.out hlx _
      have Kb : Hid (Blk (g57.setRow kb (lk (clo (eF L) 16))) kb (lk (clo (eF L) 16)) 41) := setRow_heap _ _ _ _ _ _ Kb.out
      have Ka : Hid (Blk (g57.setRow kb (lk (clo (eF L) 16))) ka (lk (clo (eR L) 16)) 41) := (setRow_other _ _ _ _ (by have := NEQ.out; omega)).trans Ka.out
      have K0 : Hid (Blk (g57.setRow kb (lk (clo (eF L) 16))) gb (lk (eR L)) 41) := (setRow_other _ _ _ _ (by have := ltX; omega)).trans K0.out
      have K1 : Hid (Blk (g57.setRow kb (lk (clo (eF L) 16))) (gb + 1) (lk (eF L)) 41) := (setRow_other _ _ _ _ (by have := ltX; omega)).trans K1.out
      refine hK.out _ _ ?_ (fun hHeld => ?_)
      · exact ⟨K0.out, K1.out⟩
      clear hK K
      try simp only [List.foldl, Act.put, List.setIfInBounds_toArray, List.set_cons_zero, List.set_cons_succ]
      generalize hGe : (g57.setRow kb (lk (clo (eF L) 16))) = g58 at Ka Kb hHeld LX K0 K1 ⊢
      clear hGe hlx
      refine wpAnyH_done (by kernel_rfl) ?_ _
      go_wp2_with fail
      go_meet
      exact ⟨ka, kb, rfl, rfl, Ka.out, Kb.out, LX.out⟩
    case rest =>
      obtain ⟨ka, kb, rfl, rfl, Ka, Kb, LX⟩ := hcut
      have hb : Hid (Below w.heap.size w wc) := bl_trans L3.out LX
      have hfl : lk (clo (eF L) 16) = lk (fun i j => clo (eR L) 16 j i) := lk_congr fun i j _ _ => clo_flip (eR L) 16 i j
      rw [hfl] at Kb
      clear hfl LX L3 K0 K1 ltX
      generalize hRd : clo (eR L) 16 = R at HA HS Ka Kb
      clear hRd
      have Ka : Hid (Blk wc ka (lk R) 41) := Ka
      have Kb : Hid (Blk wc kb (lk fun i j => R j i) 41) := Kb
      have hrow : Hid (ERow wc w.heap.size (.slice none 0 0) (redP R m 0 0)) := ERow.nil _ _
      go_wp2_with fail
      go_loopw [11, 32] (fun ov av wr => ∃ a : Nat, a ≤ m ∧ av = .int .i64 a ∧ Hid (ERow wr w.heap.size ov (redP R m a 0)) ∧ Hid (Blk wr ka (lk R) 41) ∧ Hid (Blk wr kb (lk fun i j => R j i) 41) ∧ Hid (Below w.heap.size w wr)) (fun _ av _ => m - (intOf av).toNat)
      case atStart => exact ⟨0, Nat.zero_le _, rfl, hrow, Ka, Kb, hb⟩
      case round =>
        clear hrow Ka Kb hb
        obtain ⟨a, ha, rfl, hrow, Ka, Kb, hb⟩ := hrel
        by_cases hlt : a < m
        · have t0 : decide ((a : Int) < (m : Int)) = true := by simp; omega
          go_wp2_with fail
          go_loopw [11, 36] (fun ov bv wr => ∃ b : Nat, b ≤ m ∧ bv = .int .i64 b ∧ Hid (ERow wr w.heap.size ov (redP R m a b)) ∧ Hid (Blk wr ka (lk R) 41) ∧ Hid (Blk wr kb (lk fun i j => R j i) 41) ∧ Hid (Below w.heap.size w wr)) (fun _ bv _ => m - (intOf bv).toNat)
          case atStart => exact ⟨0, Nat.zero_le _, rfl, hrow, Ka, Kb, hb⟩
          case round =>
            clear hrow Ka Kb hb
            obtain ⟨b, hbn, rfl, hrow, Ka, Kb, hb⟩ := hrel
            by_cases hbl : b < m
            · have ha16 : a < 16 := by omega
              have hb16 : b < 16 := by omega
              have c1 := (Ka.out.cell a).trans (lk_cell R ha16)
              have c2 := (Kb.out.cell b).trans (lk_cell (fun i j => R j i) hb16)
              have i1 : (a : Int) < 16 := by omega
              have i2 : (b : Int) < 16 := by omega
              have g1 := and16 (R a) (fun j => R j b)
              have g2 := btw_bits (a := a) (b := b) HS.out hm
              cases h1 : R a b
              · have hmiss : Hid (redP R m a (b + 1) = redP R m a b) := redP_miss R m a b (by simp [h1])
                have hrow' : Hid (ERow wr w.heap.size u11 (redP R m a (b + 1))) := by rw [hmiss.out]; exact hrow
                have Ka' : Hid (Blk wr.drew ka (lk R) 41) := Ka
                have Kb' : Hid (Blk wr.drew kb (lk fun i j => R j i) 41) := Kb
                have hrow'' : Hid (ERow wr.drew w.heap.size u11 (redP R m a (b + 1))) := hrow'
                have hb' : Hid (Below w.heap.size w wr.drew) := bl_drew hb.out
                clear g1 g2 hmiss
                go_wp2_with fail
                refine wp_region_held_drew (S := (fun W => W.cell? ⟨ka, a, none⟩ = some (.int .u16 (nb (R a))) ∧ W.cell? ⟨kb, b, none⟩ = some (.int .u16 (nb fun j => R j b)))) (by kernel_rfl) ?_ (fun hHeld => ?_)
                · exact ⟨c1, c2⟩
                refine wpAnyH_one (i := 0) (d := 39) (v := ?_) rfl rfl (by kernel_rfl) (by kernel_rfl) (by kernel_rfl) (fun _ _ _ h => h) (by rfl) (by assumption) ?_ ?_
                rotate_left 1
                · intro w hSw; (try dsimp only at hSw); go_simp <;> with_reducible rfl
                simp only [List.foldl, Act.put, List.setIfInBounds_toArray, List.set_cons_zero, List.set_cons_succ]
                refine wpAnyH_one (i := 1) (d := 40) (v := ?_) rfl rfl (by kernel_rfl) (by kernel_rfl) (by kernel_rfl) (fun _ _ _ h => h) (by rfl) (by assumption) ?_ ?_
                rotate_left 1
                · intro w hSw; (try dsimp only at hSw); go_simp <;> with_reducible rfl
                simp only [List.foldl, Act.put, List.setIfInBounds_toArray, List.set_cons_zero, List.set_cons_succ]
                refine wpAnyH_one (i := 2) (d := 41) (v := ?_) rfl rfl (by kernel_rfl) (by kernel_rfl) (by kernel_rfl) (fun _ _ _ h => h) (by rfl) (by assumption) ?_ ?_
                rotate_left 1
                · intro w hSw; (try dsimp only at hSw); go_simp <;> with_reducible rfl
                simp only [List.foldl, Act.put, List.setIfInBounds_toArray, List.set_cons_zero, List.set_cons_succ]
                refine wpAnyH_one (i := 3) (d := 42) (v := ?_) rfl rfl (by kernel_rfl) (by kernel_rfl) (by kernel_rfl) (fun _ _ _ h => h) (by rfl) (by assumption) ?_ ?_
                rotate_left 1
                · intro w hSw; (try dsimp only at hSw); go_simp <;> with_reducible rfl
                simp only [List.foldl, Act.put, List.setIfInBounds_toArray, List.set_cons_zero, List.set_cons_succ]
                refine wpAnyH_ready (rs := [4]) (by kernel_rfl) (by simp) ?_
                refine AllReadyH.cons rfl (fun K hK => ?_) AllReadyH.nil
                go_simp
                refine (has_any _ _ _ hb16).mono ?_
                rintro e w' ⟨rfl, hq⟩
                subst hq
                rw [h1]
                refine hK.out _ _ ?_ (fun hHeld => ?_)
                · exact ⟨c1, c2⟩
                clear hK K
                try simp only [List.foldl, Act.put, List.setIfInBounds_toArray, List.set_cons_zero, List.set_cons_succ]
                refine wpAnyH_one (i := 5) (d := 44) (v := ?_) rfl rfl (by kernel_rfl) (by kernel_rfl) (by kernel_rfl) (fun _ _ _ h => h) (by rfl) (by assumption) ?_ ?_
                rotate_left 1
                · intro w hSw; (try dsimp only at hSw); go_simp <;> with_reducible rfl
                simp only [List.foldl, Act.put, List.setIfInBounds_toArray, List.set_cons_zero, List.set_cons_succ]
                refine wpAnyH_skip (by kernel_rfl) (fun _ _ _ _ h => h) [(6, 45), (7, 46), (8, 47), (9, 48), (10, 49), (11, 50), (12, 51), (13, 52)] 1 _ _ _ (by assumption) (by kernel_rfl) ?_ _ rfl
                simp only [List.foldl, Act.put, List.setIfInBounds_toArray, List.set_cons_zero, List.set_cons_succ]
                refine wpAnyH_one (i := 14) (d := 53) (v := ?_) rfl rfl (by kernel_rfl) (by kernel_rfl) (by kernel_rfl) (fun _ _ _ h => h) (by rfl) (by assumption) ?_ ?_
                rotate_left 1
                · intro w hSw; (try dsimp only at hSw); go_simp <;> with_reducible rfl
                simp only [List.foldl, Act.put, List.setIfInBounds_toArray, List.set_cons_zero, List.set_cons_succ]
                refine wpAnyH_done (by kernel_rfl) ?_ _
                go_wp2_with fail
                go_roundw
                case rel => exact ⟨b + 1, by omega, by go_num, hrow'', Ka', Kb', hb'⟩
                case measure => simp [intOf]; omega
              · cases h2 : btw R m a b
                · rw [h2] at g2
                  simp only [Bool.not_false] at g2
                  have hhit : Hid (redP R m a (b + 1) = redP R m a b ++ [((a : Int), (b : Int))]) := redP_hit R m a b h1 h2
                  have hlen := redP_len R m a b hm (by omega) (by omega)
                  have hrowd : Hid (ERow wr.drew w.heap.size u11 (redP R m a b)) := hrow
                  have Kad : Hid (Blk wr.drew ka (lk R) 41) := Ka
                  have Kbd : Hid (Blk wr.drew kb (lk fun i j => R j i) 41) := Kb
                  have hbd : Hid (Below w.heap.size w wr.drew) := bl_drew hb.out
                  clear h2
                  go_wp2_with fail
                  refine wp_region_held_drew (S := (fun W => W.cell? ⟨ka, a, none⟩ = some (.int .u16 (nb (R a))) ∧ W.cell? ⟨kb, b, none⟩ = some (.int .u16 (nb fun j => R j b)))) (by kernel_rfl) ?_ (fun hHeld => ?_)
                  · exact ⟨c1, c2⟩
                  refine wpAnyH_one (i := 0) (d := 39) (v := ?_) rfl rfl (by kernel_rfl) (by kernel_rfl) (by kernel_rfl) (fun _ _ _ h => h) (by rfl) (by assumption) ?_ ?_
                  rotate_left 1
                  · intro w hSw; (try dsimp only at hSw); go_simp <;> with_reducible rfl
                  simp only [List.foldl, Act.put, List.setIfInBounds_toArray, List.set_cons_zero, List.set_cons_succ]
                  refine wpAnyH_one (i := 1) (d := 40) (v := ?_) rfl rfl (by kernel_rfl) (by kernel_rfl) (by kernel_rfl) (fun _ _ _ h => h) (by rfl) (by assumption) ?_ ?_
                  rotate_left 1
                  · intro w hSw; (try dsimp only at hSw); go_simp <;> with_reducible rfl
                  simp only [List.foldl, Act.put, List.setIfInBounds_toArray, List.set_cons_zero, List.set_cons_succ]
                  refine wpAnyH_one (i := 2) (d := 41) (v := ?_) rfl rfl (by kernel_rfl) (by kernel_rfl) (by kernel_rfl) (fun _ _ _ h => h) (by rfl) (by assumption) ?_ ?_
                  rotate_left 1
                  · intro w hSw; (try dsimp only at hSw); go_simp <;> with_reducible rfl
                  simp only [List.foldl, Act.put, List.setIfInBounds_toArray, List.set_cons_zero, List.set_cons_succ]
                  refine wpAnyH_one (i := 3) (d := 42) (v := ?_) rfl rfl (by kernel_rfl) (by kernel_rfl) (by kernel_rfl) (fun _ _ _ h => h) (by rfl) (by assumption) ?_ ?_
                  rotate_left 1
                  · intro w hSw; (try dsimp only at hSw); go_simp <;> with_reducible rfl
                  simp only [List.foldl, Act.put, List.setIfInBounds_toArray, List.set_cons_zero, List.set_cons_succ]
                  refine wpAnyH_ready (rs := [4]) (by kernel_rfl) (by simp) ?_
                  refine AllReadyH.cons rfl (fun K hK => ?_) AllReadyH.nil
                  go_simp
                  refine (has_any _ _ _ hb16).mono ?_
                  rintro e w' ⟨rfl, hq⟩
                  subst hq
                  rw [h1]
                  refine hK.out _ _ ?_ (fun hHeld => ?_)
                  · exact ⟨c1, c2⟩
                  clear hK K
                  try simp only [List.foldl, Act.put, List.setIfInBounds_toArray, List.set_cons_zero, List.set_cons_succ]
                  refine wpAnyH_one (i := 5) (d := 44) (v := ?_) rfl rfl (by kernel_rfl) (by kernel_rfl) (by kernel_rfl) (fun _ _ _ h => h) (by rfl) (by assumption) ?_ ?_
                  rotate_left 1
                  · intro w hSw; (try dsimp only at hSw); go_simp <;> with_reducible rfl
                  simp only [List.foldl, Act.put, List.setIfInBounds_toArray, List.set_cons_zero, List.set_cons_succ]
                  refine wpAnyH_one (i := 6) (d := 45) (v := ?_) rfl rfl (by kernel_rfl) (by kernel_rfl) (by kernel_rfl) (fun _ _ _ h => h) (by rfl) (by assumption) ?_ ?_
                  rotate_left 1
                  · intro w hSw; (try dsimp only at hSw); go_simp <;> with_reducible rfl
                  simp only [List.foldl, Act.put, List.setIfInBounds_toArray, List.set_cons_zero, List.set_cons_succ]
                  refine wpAnyH_one (i := 7) (d := 46) (v := ?_) rfl rfl (by kernel_rfl) (by kernel_rfl) (by kernel_rfl) (fun _ _ _ h => h) (by rfl) (by assumption) ?_ ?_
                  rotate_left 1
                  · intro w hSw; (try dsimp only at hSw); go_simp <;> with_reducible rfl
                  simp only [List.foldl, Act.put, List.setIfInBounds_toArray, List.set_cons_zero, List.set_cons_succ]
                  refine wpAnyH_one (i := 8) (d := 47) (v := ?_) rfl rfl (by kernel_rfl) (by kernel_rfl) (by kernel_rfl) (fun _ _ _ h => h) (by rfl) (by assumption) ?_ ?_
                  rotate_left 1
                  · intro w hSw; (try dsimp only at hSw); go_simp <;> with_reducible rfl
                  simp only [List.foldl, Act.put, List.setIfInBounds_toArray, List.set_cons_zero, List.set_cons_succ]
                  refine wpAnyH_one (i := 9) (d := 48) (v := ?_) rfl rfl (by kernel_rfl) (by kernel_rfl) (by kernel_rfl) (fun _ _ _ h => h) (by rfl) (by assumption) ?_ ?_
                  rotate_left 1
                  · intro w hSw; (try dsimp only at hSw); go_simp <;> with_reducible rfl
                  simp only [List.foldl, Act.put, List.setIfInBounds_toArray, List.set_cons_zero, List.set_cons_succ]
                  refine wpAnyH_one (i := 10) (d := 49) (v := ?_) rfl rfl (by kernel_rfl) (by kernel_rfl) (by kernel_rfl) (fun _ _ _ h => h) (by rfl) (by assumption) ?_ ?_
                  rotate_left 1
                  · intro w hSw; (try dsimp only at hSw); go_simp <;> with_reducible rfl
                  simp only [List.foldl, Act.put, List.setIfInBounds_toArray, List.set_cons_zero, List.set_cons_succ]
                  refine wpAnyH_one (i := 11) (d := 50) (v := ?_) rfl rfl (by kernel_rfl) (by kernel_rfl) (by kernel_rfl) (fun _ _ _ h => h) (by rfl) (by assumption) ?_ ?_
                  rotate_left 1
                  · intro w hSw; (try dsimp only at hSw); go_simp <;> with_reducible rfl
                  simp only [List.foldl, Act.put, List.setIfInBounds_toArray, List.set_cons_zero, List.set_cons_succ]
                  refine wpAnyH_one (i := 12) (d := 51) (v := ?_) rfl rfl (by kernel_rfl) (by kernel_rfl) (by kernel_rfl) (fun _ _ _ h => h) (by rfl) (by assumption) ?_ ?_
                  rotate_left 1
                  · intro w hSw; (try dsimp only at hSw); go_simp <;> with_reducible rfl
                  simp only [List.foldl, Act.put, List.setIfInBounds_toArray, List.set_cons_zero, List.set_cons_succ]
                  refine wpAnyH_one (i := 13) (d := 52) (v := ?_) rfl rfl (by kernel_rfl) (by kernel_rfl) (by kernel_rfl) (fun _ _ _ h => h) (by rfl) (by assumption) ?_ ?_
                  rotate_left 1
                  · intro w hSw; (try dsimp only at hSw); go_simp <;> with_reducible rfl
                  simp only [List.foldl, Act.put, List.setIfInBounds_toArray, List.set_cons_zero, List.set_cons_succ]
                  refine wpAnyH_one (i := 14) (d := 53) (v := ?_) rfl rfl (by kernel_rfl) (by kernel_rfl) (by kernel_rfl) (fun _ _ _ h => h) (by rfl) (by assumption) ?_ ?_
                  rotate_left 1
                  · intro w hSw; (try dsimp only at hSw); go_simp <;> with_reducible rfl
                  simp only [List.foldl, Act.put, List.setIfInBounds_toArray, List.set_cons_zero, List.set_cons_succ]
                  refine wpAnyH_done (by kernel_rfl) ?_ _
                  generalize wr.drew = Y at hrowd Kad Kbd hbd ⊢
                  go_upto_region 14 with fail
                  obtain ⟨hz0, hz1⟩ := (Blk.new Y #[.int .i64 (a : Int), .int .i64 (b : Int)] 47).edge
                  have Va := hrowd.out.later (bl_alloc (Below.refl _ Y) (.cells #[.int .i64 (a : Int), .int .i64 (b : Int)] 47))
                  have hBs : w.heap.size ≤ (Y.alloc (.cells #[.int .i64 (a : Int), .int .i64 (b : Int)] 47)).heap.size := by simp; have := hbd.out.size; omega
                  go_wp2_with (at_builtin; refine wpList_append_edge _ rfl (.tmp 54) (.tmp 58) rfl w.heap.size u11 _ rfl Va Y.heap.size (a : Int) (b : Int) rfl hz0 hz1 (by omega) hBs ?_)
                  intro v' w5 hv5 hg5
                  have hv5 : Hid (ERow w5 w.heap.size v' (redP R m a (b + 1))) := by rw [hhit.out]; exact hv5
                  have hb5 : Hid (Below w.heap.size w w5) := (bl_alloc hbd.out _).grown hg5 hBs (fun k h => (hrowd.out.lt k h).1)
                  have kp : ∀ {x : Nat} {cs : Array Value}, Blk Y x cs 41 → Blk w5 x cs 41 := fun {x cs} hx => by
                    have h0 := hx.alloc (.cells #[.int .i64 (a : Int), .int .i64 (b : Int)] 47)
                    show _ = _
                    rw [hg5.block x h0.lt (fun e => Va.apart h0 (by decide) e.symm)]; exact h0
                  have Ka5 : Hid (Blk w5 ka (lk R) 41) := kp Kad.out
                  have Kb5 : Hid (Blk w5 kb (lk fun i j => R j i) 41) := kp Kbd.out
                  clear hz0 hz1 Va hg5 hBs hhit hlen hrow Ka Kb hb hrowd Kad Kbd hbd kp c1 c2
                  go_wp2_with fail
                  go_roundw
                  case rel => exact ⟨b + 1, by omega, by go_num, hv5, Ka5, Kb5, hb5⟩
                  case measure => simp [intOf]; omega
                · rw [h2] at g2
                  simp only [Bool.not_true] at g2
                  have hmiss : Hid (redP R m a (b + 1) = redP R m a b) := redP_miss R m a b (by simp [h2])
                  have hrow' : Hid (ERow wr.drew w.heap.size u11 (redP R m a (b + 1))) := by rw [hmiss.out]; exact hrow
                  have Ka' : Hid (Blk wr.drew ka (lk R) 41) := Ka
                  have Kb' : Hid (Blk wr.drew kb (lk fun i j => R j i) 41) := Kb
                  have hb' : Hid (Below w.heap.size w wr.drew) := bl_drew hb.out
                  clear h2 hmiss
                  go_wp2_with fail
                  refine wp_region_held_drew (S := (fun W => W.cell? ⟨ka, a, none⟩ = some (.int .u16 (nb (R a))) ∧ W.cell? ⟨kb, b, none⟩ = some (.int .u16 (nb fun j => R j b)))) (by kernel_rfl) ?_ (fun hHeld => ?_)
                  · exact ⟨c1, c2⟩
                  refine wpAnyH_one (i := 0) (d := 39) (v := ?_) rfl rfl (by kernel_rfl) (by kernel_rfl) (by kernel_rfl) (fun _ _ _ h => h) (by rfl) (by assumption) ?_ ?_
                  rotate_left 1
                  · intro w hSw; (try dsimp only at hSw); go_simp <;> with_reducible rfl
                  simp only [List.foldl, Act.put, List.setIfInBounds_toArray, List.set_cons_zero, List.set_cons_succ]
                  refine wpAnyH_one (i := 1) (d := 40) (v := ?_) rfl rfl (by kernel_rfl) (by kernel_rfl) (by kernel_rfl) (fun _ _ _ h => h) (by rfl) (by assumption) ?_ ?_
                  rotate_left 1
                  · intro w hSw; (try dsimp only at hSw); go_simp <;> with_reducible rfl
                  simp only [List.foldl, Act.put, List.setIfInBounds_toArray, List.set_cons_zero, List.set_cons_succ]
                  refine wpAnyH_one (i := 2) (d := 41) (v := ?_) rfl rfl (by kernel_rfl) (by kernel_rfl) (by kernel_rfl) (fun _ _ _ h => h) (by rfl) (by assumption) ?_ ?_
                  rotate_left 1
                  · intro w hSw; (try dsimp only at hSw); go_simp <;> with_reducible rfl
                  simp only [List.foldl, Act.put, List.setIfInBounds_toArray, List.set_cons_zero, List.set_cons_succ]
                  refine wpAnyH_one (i := 3) (d := 42) (v := ?_) rfl rfl (by kernel_rfl) (by kernel_rfl) (by kernel_rfl) (fun _ _ _ h => h) (by rfl) (by assumption) ?_ ?_
                  rotate_left 1
                  · intro w hSw; (try dsimp only at hSw); go_simp <;> with_reducible rfl
                  simp only [List.foldl, Act.put, List.setIfInBounds_toArray, List.set_cons_zero, List.set_cons_succ]
                  refine wpAnyH_ready (rs := [4]) (by kernel_rfl) (by simp) ?_
                  refine AllReadyH.cons rfl (fun K hK => ?_) AllReadyH.nil
                  go_simp
                  refine (has_any _ _ _ hb16).mono ?_
                  rintro e w' ⟨rfl, hq⟩
                  subst hq
                  rw [h1]
                  refine hK.out _ _ ?_ (fun hHeld => ?_)
                  · exact ⟨c1, c2⟩
                  clear hK K
                  try simp only [List.foldl, Act.put, List.setIfInBounds_toArray, List.set_cons_zero, List.set_cons_succ]
                  refine wpAnyH_one (i := 5) (d := 44) (v := ?_) rfl rfl (by kernel_rfl) (by kernel_rfl) (by kernel_rfl) (fun _ _ _ h => h) (by rfl) (by assumption) ?_ ?_
                  rotate_left 1
                  · intro w hSw; (try dsimp only at hSw); go_simp <;> with_reducible rfl
                  simp only [List.foldl, Act.put, List.setIfInBounds_toArray, List.set_cons_zero, List.set_cons_succ]
                  refine wpAnyH_one (i := 6) (d := 45) (v := ?_) rfl rfl (by kernel_rfl) (by kernel_rfl) (by kernel_rfl) (fun _ _ _ h => h) (by rfl) (by assumption) ?_ ?_
                  rotate_left 1
                  · intro w hSw; (try dsimp only at hSw); go_simp <;> with_reducible rfl
                  simp only [List.foldl, Act.put, List.setIfInBounds_toArray, List.set_cons_zero, List.set_cons_succ]
                  refine wpAnyH_one (i := 7) (d := 46) (v := ?_) rfl rfl (by kernel_rfl) (by kernel_rfl) (by kernel_rfl) (fun _ _ _ h => h) (by rfl) (by assumption) ?_ ?_
                  rotate_left 1
                  · intro w hSw; (try dsimp only at hSw); go_simp <;> with_reducible rfl
                  simp only [List.foldl, Act.put, List.setIfInBounds_toArray, List.set_cons_zero, List.set_cons_succ]
                  refine wpAnyH_one (i := 8) (d := 47) (v := ?_) rfl rfl (by kernel_rfl) (by kernel_rfl) (by kernel_rfl) (fun _ _ _ h => h) (by rfl) (by assumption) ?_ ?_
                  rotate_left 1
                  · intro w hSw; (try dsimp only at hSw); go_simp <;> with_reducible rfl
                  simp only [List.foldl, Act.put, List.setIfInBounds_toArray, List.set_cons_zero, List.set_cons_succ]
                  refine wpAnyH_one (i := 9) (d := 48) (v := ?_) rfl rfl (by kernel_rfl) (by kernel_rfl) (by kernel_rfl) (fun _ _ _ h => h) (by rfl) (by assumption) ?_ ?_
                  rotate_left 1
                  · intro w hSw; (try dsimp only at hSw); go_simp <;> with_reducible rfl
                  simp only [List.foldl, Act.put, List.setIfInBounds_toArray, List.set_cons_zero, List.set_cons_succ]
                  refine wpAnyH_one (i := 10) (d := 49) (v := ?_) rfl rfl (by kernel_rfl) (by kernel_rfl) (by kernel_rfl) (fun _ _ _ h => h) (by rfl) (by assumption) ?_ ?_
                  rotate_left 1
                  · intro w hSw; (try dsimp only at hSw); go_simp <;> with_reducible rfl
                  simp only [List.foldl, Act.put, List.setIfInBounds_toArray, List.set_cons_zero, List.set_cons_succ]
                  refine wpAnyH_one (i := 11) (d := 50) (v := ?_) rfl rfl (by kernel_rfl) (by kernel_rfl) (by kernel_rfl) (fun _ _ _ h => h) (by rfl) (by assumption) ?_ ?_
                  rotate_left 1
                  · intro w hSw; (try dsimp only at hSw); go_simp <;> with_reducible rfl
                  simp only [List.foldl, Act.put, List.setIfInBounds_toArray, List.set_cons_zero, List.set_cons_succ]
                  refine wpAnyH_one (i := 12) (d := 51) (v := ?_) rfl rfl (by kernel_rfl) (by kernel_rfl) (by kernel_rfl) (fun _ _ _ h => h) (by rfl) (by assumption) ?_ ?_
                  rotate_left 1
                  · intro w hSw; (try dsimp only at hSw); go_simp <;> with_reducible rfl
                  simp only [List.foldl, Act.put, List.setIfInBounds_toArray, List.set_cons_zero, List.set_cons_succ]
                  refine wpAnyH_one (i := 13) (d := 52) (v := ?_) rfl rfl (by kernel_rfl) (by kernel_rfl) (by kernel_rfl) (fun _ _ _ h => h) (by rfl) (by assumption) ?_ ?_
                  rotate_left 1
                  · intro w hSw; (try dsimp only at hSw); go_simp <;> with_reducible rfl
                  simp only [List.foldl, Act.put, List.setIfInBounds_toArray, List.set_cons_zero, List.set_cons_succ]
                  refine wpAnyH_one (i := 14) (d := 53) (v := ?_) rfl rfl (by kernel_rfl) (by kernel_rfl) (by kernel_rfl) (fun _ _ _ h => h) (by rfl) (by assumption) ?_ ?_
                  rotate_left 1
                  · intro w hSw; (try dsimp only at hSw); go_simp <;> with_reducible rfl
                  simp only [List.foldl, Act.put, List.setIfInBounds_toArray, List.set_cons_zero, List.set_cons_succ]
                  refine wpAnyH_done (by kernel_rfl) ?_ _
                  go_wp2_with fail
                  go_roundw
                  case rel => exact ⟨b + 1, by omega, by go_num, hrow', Ka', Kb', hb'⟩
                  case measure => simp [intOf]; omega
            · have hbm : b = m := by omega
              subst hbm
              have hrow' : Hid (ERow wr w.heap.size u11 (redP R b (a + 1) 0)) := by rw [← redP_next]; exact hrow
              go_wp2_with fail
              go_roundw
              case rel => exact ⟨a + 1, by omega, by go_num, hrow', Ka, Kb, hb⟩
              case measure => simp [intOf]; omega
        · have ham : a = m := by omega
          subst ham
          go_wp2_with fail
          go_ret
          refine ⟨u11, rfl, ?_, hb.out⟩
          rw [HA.out]; exact hrow.out
end Go.Proofs.YtbgeobpdojmdaaaDoor
