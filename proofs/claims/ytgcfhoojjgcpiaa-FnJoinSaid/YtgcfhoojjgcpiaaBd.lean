import Derived.Test.YtgcfhoojjgcpiaaBc
import Derived.Test.YtgcfhoojjgcpiaaAk
import Derived.Deep.RegionHeld3
namespace Go.Proofs.Ytgcfhoojjgcpiaa
open Go.RowKit
set_option linter.unusedVariables false
set_option linter.unusedSimpArgs false

set_option maxRecDepth 100000 in
set_option maxHeartbeats 8000000 in
theorem implJoin_any (a0 a1 a2 a3 a4 a5 a6 a7 : Option Addr) (c0 c1 c2 c3 c4 c5 c6 c7 : Nat) (V : Ef) (b0 b1 b2 b3 b4 b5 b6 b7 : Option Addr) (d0 d1 d2 d3 d4 d5 d6 d7 : Nat) (U : Ef) (B C : Nat) (w : World) (hV : InE w B a0 a1 a2 a3 a4 a5 a6 a7 V) (hU : InE w C b0 b1 b2 b3 b4 b5 b6 b7 U) (kV : ∀ i, (V.lst i).length ≤ 2199023255552) (kU : ∀ i, (U.lst i).length ≤ 2199023255552) :
    Calls Try.prog 15 #[.agg #[.slice a0 V.l0.length c0, .slice a1 V.l1.length c1, .slice a2 V.l2.length c2, .slice a3 V.l3.length c3, .slice a4 V.l4.length c4, .slice a5 V.l5.length c5, .slice a6 V.l6.length c6, .slice a7 V.l7.length c7, .bool V.sp, .bool V.kl], .agg #[.slice b0 U.l0.length d0, .slice b1 U.l1.length d1, .slice b2 U.l2.length d2, .slice b3 U.l3.length d3, .slice b4 U.l4.length d4, .slice b5 U.l5.length d5, .slice b6 U.l6.length d6, .slice b7 U.l7.length d7, .bool U.sp, .bool U.kl]] w fun e w' => (∃ (P : Nat → Option Addr) (Cp N : Nat → Nat) (J : Ef), e = .returned (.agg #[.slice (P 0) J.l0.length (Cp 0), .slice (P 1) J.l1.length (Cp 1), .slice (P 2) J.l2.length (Cp 2), .slice (P 3) J.l3.length (Cp 3), .slice (P 4) J.l4.length (Cp 4), .slice (P 5) J.l5.length (Cp 5), .slice (P 6) J.l6.length (Cp 6), .slice (P 7) J.l7.length (Cp 7), .bool J.sp, .bool J.kl]) ∧ Ch w' w.heap.size P Cp N J.lst 8 ∧ JoinIs V U J) ∧ Below w.heap.size w w' := by
  obtain ⟨K0, K1, K2, L0⟩ := blkThreeE w #[.slice a0 V.l0.length c0, .slice a1 V.l1.length c1, .slice a2 V.l2.length c2, .slice a3 V.l3.length c3, .slice a4 V.l4.length c4, .slice a5 V.l5.length c5, .slice a6 V.l6.length c6, .slice a7 V.l7.length c7, .bool V.sp, .bool V.kl] #[.slice b0 U.l0.length d0, .slice b1 U.l1.length d1, .slice b2 U.l2.length d2, .slice b3 U.l3.length d3, .slice b4 U.l4.length d4, .slice b5 U.l5.length d5, .slice b6 U.l6.length d6, .slice b7 U.l7.length d7, .bool U.sp, .bool U.kl] #[.slice none 0 0, .slice none 0 0, .slice none 0 0, .slice none 0 0, .slice none 0 0, .slice none 0 0, .slice none 0 0, .slice none 0 0, .bool false, .bool false] 27 27 27
  have HV : Hid (InE w B a0 a1 a2 a3 a4 a5 a6 a7 V) := hV
  have HU : Hid (InE w C b0 b1 b2 b3 b4 b5 b6 b7 U) := hU
  have KV := Hid.mk' kV
  have KU := Hid.mk' kU
  clear hV hU kV kU
  go_enter Try.func15, Try.ntmps15
  go_wp2_with fail
  generalize hX : ((w.alloc (.cells #[.slice a0 V.l0.length c0, .slice a1 V.l1.length c1, .slice a2 V.l2.length c2, .slice a3 V.l3.length c3, .slice a4 V.l4.length c4, .slice a5 V.l5.length c5, .slice a6 V.l6.length c6, .slice a7 V.l7.length c7, .bool V.sp, .bool V.kl] 27)).alloc (.cells #[.slice b0 U.l0.length d0, .slice b1 U.l1.length d1, .slice b2 U.l2.length d2, .slice b3 U.l3.length d3, .slice b4 U.l4.length d4, .slice b5 U.l5.length d5, .slice b6 U.l6.length d6, .slice b7 U.l7.length d7, .bool U.sp, .bool U.kl] 27)).alloc (.cells #[.slice none 0 0, .slice none 0 0, .slice none 0 0, .slice none 0 0, .slice none 0 0, .slice none 0 0, .slice none 0 0, .slice none 0 0, .bool false, .bool false] 27) = X at K0 K1 K2 L0 ⊢
  clear hX
  have ltX := K2.lt
  replace K0 := Hid.mk' K0
  replace K1 := Hid.mk' K1
  replace K2 := Hid.mk' K2
  go_cut [5, 6] (fun p0 p1 wx => ∃ ka kb : Nat, p0 = .pointer (some ⟨ka, 0, none⟩) ∧ p1 = .pointer (some ⟨kb, 0, none⟩) ∧ TwoB X #[.slice a0 V.l0.length c0, .slice a1 V.l1.length c1, .slice a2 V.l2.length c2, .slice a3 V.l3.length c3, .slice a4 V.l4.length c4, .slice a5 V.l5.length c5, .slice a6 V.l6.length c6, .slice a7 V.l7.length c7] #[.slice b0 U.l0.length d0, .slice b1 U.l1.length d1, .slice b2 U.l2.length d2, .slice b3 U.l3.length d3, .slice b4 U.l4.length d4, .slice b5 U.l5.length d5, .slice b6 U.l6.length d6, .slice b7 U.l7.length d7] ka kb wx)
  case first =>
    refine wp_region_held_drew (S := (fun w' => Blk w' w.heap.size #[.slice a0 V.l0.length c0, .slice a1 V.l1.length c1, .slice a2 V.l2.length c2, .slice a3 V.l3.length c3, .slice a4 V.l4.length c4, .slice a5 V.l5.length c5, .slice a6 V.l6.length c6, .slice a7 V.l7.length c7, .bool V.sp, .bool V.kl] 27 ∧ Blk w' (w.heap.size + 1) #[.slice b0 U.l0.length d0, .slice b1 U.l1.length d1, .slice b2 U.l2.length d2, .slice b3 U.l3.length d3, .slice b4 U.l4.length d4, .slice b5 U.l5.length d5, .slice b6 U.l6.length d6, .slice b7 U.l7.length d7, .bool U.sp, .bool U.kl] 27 ∧ Blk w' (w.heap.size + 1 + 1) #[.slice none 0 0, .slice none 0 0, .slice none 0 0, .slice none 0 0, .slice none 0 0, .slice none 0 0, .slice none 0 0, .slice none 0 0, .bool false, .bool false] 27)) (by kernel_rfl) ?_ (fun hHeld => ?_)
    · exact ⟨K0.out, K1.out, K2.out⟩
    have LX : Hid (Below X.heap.size X X) := Below.refl _ _
    refine wpAnyH_one (i := 0) (d := 9) (v := ?_) rfl rfl (by kernel_rfl) (by kernel_rfl) (by kernel_rfl) (fun _ _ _ h => h) (by rfl) (by assumption) ?_ ?_
    rotate_left 1
    · intro w hSw; (try dsimp only at hSw); obtain ⟨q0, q1, q2⟩ := hSw; obtain ⟨x0, x1, x2, x3, x4, x5, x6, x7, x8, x9, xf⟩ := q0.ten; go_simp <;> with_reducible rfl
    simp only [List.foldl, Act.put, List.setIfInBounds_toArray, List.set_cons_zero, List.set_cons_succ]
    refine wpAnyH_one (i := 2) (d := 11) (v := ?_) rfl rfl (by kernel_rfl) (by kernel_rfl) (by kernel_rfl) (fun _ _ _ h => h) (by rfl) (by assumption) ?_ ?_
    rotate_left 1
    · intro w hSw; (try dsimp only at hSw); obtain ⟨q0, q1, q2⟩ := hSw; obtain ⟨x0, x1, x2, x3, x4, x5, x6, x7, x8, x9, xf⟩ := q1.ten; go_simp <;> with_reducible rfl
    simp only [List.foldl, Act.put, List.setIfInBounds_toArray, List.set_cons_zero, List.set_cons_succ]
    refine wpAnyH_ready (rs := [1, 4, 5]) (by kernel_rfl) (by simp) ?_
    refine AllReadyH.cons rfl (fun K hK => ?_) ?_
    · skip
      go_simp
      refine (listsOf_any a0 a1 a2 a3 a4 a5 a6 a7 c0 c1 c2 c3 c4 c5 c6 c7 V _).mono ?_
      rintro z g1 ⟨rfl, hb⟩
      have hc : Below X.heap.size X g1 := bl_trans (bl_drew (Below.refl _ _)) hb
      have LX : Hid (Below X.heap.size X g1) := bl_trans LX.out hc
      have K0 : Hid (Blk g1 w.heap.size #[.slice a0 V.l0.length c0, .slice a1 V.l1.length c1, .slice a2 V.l2.length c2, .slice a3 V.l3.length c3, .slice a4 V.l4.length c4, .slice a5 V.l5.length c5, .slice a6 V.l6.length c6, .slice a7 V.l7.length c7, .bool V.sp, .bool V.kl] 27) := K0.out.later hc
      have K1 : Hid (Blk g1 (w.heap.size + 1) #[.slice b0 U.l0.length d0, .slice b1 U.l1.length d1, .slice b2 U.l2.length d2, .slice b3 U.l3.length d3, .slice b4 U.l4.length d4, .slice b5 U.l5.length d5, .slice b6 U.l6.length d6, .slice b7 U.l7.length d7, .bool U.sp, .bool U.kl] 27) := K1.out.later hc
      have K2 : Hid (Blk g1 (w.heap.size + 1 + 1) #[.slice none 0 0, .slice none 0 0, .slice none 0 0, .slice none 0 0, .slice none 0 0, .slice none 0 0, .slice none 0 0, .slice none 0 0, .bool false, .bool false] 27) := K2.out.later hc
      clear hb hc
      refine hK.out _ _ ?_ (fun hHeld => ?_)
      · exact ⟨K0.out, K1.out, K2.out⟩
      clear hK K
      try simp only [List.foldl, Act.put, List.setIfInBounds_toArray, List.set_cons_zero, List.set_cons_succ]
      refine wpAnyH_ready (rs := [3, 4, 5]) (by kernel_rfl) (by simp) ?_
      refine AllReadyH.cons rfl (fun K hK => ?_) ?_
      · skip
        go_simp
        refine (listsOf_any b0 b1 b2 b3 b4 b5 b6 b7 d0 d1 d2 d3 d4 d5 d6 d7 U _).mono ?_
        rintro z g2 ⟨rfl, hb⟩
        have hc : Below g1.heap.size g1 g2 := hb
        have LX : Hid (Below X.heap.size X g2) := bl_trans LX.out hc
        have K0 : Hid (Blk g2 w.heap.size #[.slice a0 V.l0.length c0, .slice a1 V.l1.length c1, .slice a2 V.l2.length c2, .slice a3 V.l3.length c3, .slice a4 V.l4.length c4, .slice a5 V.l5.length c5, .slice a6 V.l6.length c6, .slice a7 V.l7.length c7, .bool V.sp, .bool V.kl] 27) := K0.out.later hc
        have K1 : Hid (Blk g2 (w.heap.size + 1) #[.slice b0 U.l0.length d0, .slice b1 U.l1.length d1, .slice b2 U.l2.length d2, .slice b3 U.l3.length d3, .slice b4 U.l4.length d4, .slice b5 U.l5.length d5, .slice b6 U.l6.length d6, .slice b7 U.l7.length d7, .bool U.sp, .bool U.kl] 27) := K1.out.later hc
        have K2 : Hid (Blk g2 (w.heap.size + 1 + 1) #[.slice none 0 0, .slice none 0 0, .slice none 0 0, .slice none 0 0, .slice none 0 0, .slice none 0 0, .slice none 0 0, .slice none 0 0, .bool false, .bool false] 27) := K2.out.later hc
        clear hb hc
        refine hK.out _ _ ?_ (fun hHeld => ?_)
        · exact ⟨K0.out, K1.out, K2.out⟩
        clear hK K
        try simp only [List.foldl, Act.put, List.setIfInBounds_toArray, List.set_cons_zero, List.set_cons_succ]
        refine wpAnyH_ready (rs := [4, 5]) (by kernel_rfl) (by simp) ?_
        refine AllReadyH.cons rfl (fun K hK => ?_) ?_
        · skip
          go_simp
          have hg : Below g2.heap.size g2 (g2.alloc (.cells #[.slice none 0 0, .slice none 0 0, .slice none 0 0, .slice none 0 0, .slice none 0 0, .slice none 0 0, .slice none 0 0, .slice none 0 0] 46)) := bl_alloc (Below.refl _ _) _
          have Ka : Hid (Blk (g2.alloc (.cells #[.slice none 0 0, .slice none 0 0, .slice none 0 0, .slice none 0 0, .slice none 0 0, .slice none 0 0, .slice none 0 0, .slice none 0 0] 46)) g2.heap.size #[.slice none 0 0, .slice none 0 0, .slice none 0 0, .slice none 0 0, .slice none 0 0, .slice none 0 0, .slice none 0 0, .slice none 0 0] 46) := Blk.new _ _ _
          have hxs : X.heap.size ≤ g2.heap.size := LX.out.size
          have LX : Hid (Below X.heap.size X (g2.alloc (.cells #[.slice none 0 0, .slice none 0 0, .slice none 0 0, .slice none 0 0, .slice none 0 0, .slice none 0 0, .slice none 0 0, .slice none 0 0] 46))) := bl_trans LX.out hg
          have K0 : Hid (Blk (g2.alloc (.cells #[.slice none 0 0, .slice none 0 0, .slice none 0 0, .slice none 0 0, .slice none 0 0, .slice none 0 0, .slice none 0 0, .slice none 0 0] 46)) w.heap.size #[.slice a0 V.l0.length c0, .slice a1 V.l1.length c1, .slice a2 V.l2.length c2, .slice a3 V.l3.length c3, .slice a4 V.l4.length c4, .slice a5 V.l5.length c5, .slice a6 V.l6.length c6, .slice a7 V.l7.length c7, .bool V.sp, .bool V.kl] 27) := K0.out.later hg
          have K1 : Hid (Blk (g2.alloc (.cells #[.slice none 0 0, .slice none 0 0, .slice none 0 0, .slice none 0 0, .slice none 0 0, .slice none 0 0, .slice none 0 0, .slice none 0 0] 46)) (w.heap.size + 1) #[.slice b0 U.l0.length d0, .slice b1 U.l1.length d1, .slice b2 U.l2.length d2, .slice b3 U.l3.length d3, .slice b4 U.l4.length d4, .slice b5 U.l5.length d5, .slice b6 U.l6.length d6, .slice b7 U.l7.length d7, .bool U.sp, .bool U.kl] 27) := K1.out.later hg
          have K2 : Hid (Blk (g2.alloc (.cells #[.slice none 0 0, .slice none 0 0, .slice none 0 0, .slice none 0 0, .slice none 0 0, .slice none 0 0, .slice none 0 0, .slice none 0 0] 46)) (w.heap.size + 1 + 1) #[.slice none 0 0, .slice none 0 0, .slice none 0 0, .slice none 0 0, .slice none 0 0, .slice none 0 0, .slice none 0 0, .slice none 0 0, .bool false, .bool false] 27) := K2.out.later hg
          clear hg
          refine hK.out _ _ ?_ (fun hHeld => ?_)
          · exact ⟨K0.out, K1.out, K2.out⟩
          clear hK K
          try simp only [List.foldl, Act.put, List.setIfInBounds_toArray, List.set_cons_zero, List.set_cons_succ]
          generalize hGe : (g2.alloc (.cells #[.slice none 0 0, .slice none 0 0, .slice none 0 0, .slice none 0 0, .slice none 0 0, .slice none 0 0, .slice none 0 0, .slice none 0 0] 46)) = g3 at Ka hHeld LX K0 K1 K2 ⊢
          obtain ⟨ka, hka⟩ : ∃ k, g2.heap.size = k := ⟨_, rfl⟩
          have HXa : Hid (X.heap.size ≤ ka) := Nat.le_trans hxs (Nat.le_of_eq hka)
          clear hxs
          rw [hka] at Ka
          try rw [hka]
          clear hGe hka
          refine wpAnyH_ready (rs := [5]) (by kernel_rfl) (by simp) ?_
          refine AllReadyH.cons rfl (fun K hK => ?_) AllReadyH.nil
          go_simp
          have hg : Below g3.heap.size g3 (g3.alloc (.cells #[.slice none 0 0, .slice none 0 0, .slice none 0 0, .slice none 0 0, .slice none 0 0, .slice none 0 0, .slice none 0 0, .slice none 0 0] 46)) := bl_alloc (Below.refl _ _) _
          have Kb : Hid (Blk (g3.alloc (.cells #[.slice none 0 0, .slice none 0 0, .slice none 0 0, .slice none 0 0, .slice none 0 0, .slice none 0 0, .slice none 0 0, .slice none 0 0] 46)) g3.heap.size #[.slice none 0 0, .slice none 0 0, .slice none 0 0, .slice none 0 0, .slice none 0 0, .slice none 0 0, .slice none 0 0, .slice none 0 0] 46) := Blk.new _ _ _
          have hxs : X.heap.size ≤ g3.heap.size := LX.out.size
          have NE : Hid (¬ ka = g3.heap.size) := by have := Ka.out.lt; show ¬ _; omega
          have LX : Hid (Below X.heap.size X (g3.alloc (.cells #[.slice none 0 0, .slice none 0 0, .slice none 0 0, .slice none 0 0, .slice none 0 0, .slice none 0 0, .slice none 0 0, .slice none 0 0] 46))) := bl_trans LX.out hg
          have K0 : Hid (Blk (g3.alloc (.cells #[.slice none 0 0, .slice none 0 0, .slice none 0 0, .slice none 0 0, .slice none 0 0, .slice none 0 0, .slice none 0 0, .slice none 0 0] 46)) w.heap.size #[.slice a0 V.l0.length c0, .slice a1 V.l1.length c1, .slice a2 V.l2.length c2, .slice a3 V.l3.length c3, .slice a4 V.l4.length c4, .slice a5 V.l5.length c5, .slice a6 V.l6.length c6, .slice a7 V.l7.length c7, .bool V.sp, .bool V.kl] 27) := K0.out.later hg
          have K1 : Hid (Blk (g3.alloc (.cells #[.slice none 0 0, .slice none 0 0, .slice none 0 0, .slice none 0 0, .slice none 0 0, .slice none 0 0, .slice none 0 0, .slice none 0 0] 46)) (w.heap.size + 1) #[.slice b0 U.l0.length d0, .slice b1 U.l1.length d1, .slice b2 U.l2.length d2, .slice b3 U.l3.length d3, .slice b4 U.l4.length d4, .slice b5 U.l5.length d5, .slice b6 U.l6.length d6, .slice b7 U.l7.length d7, .bool U.sp, .bool U.kl] 27) := K1.out.later hg
          have K2 : Hid (Blk (g3.alloc (.cells #[.slice none 0 0, .slice none 0 0, .slice none 0 0, .slice none 0 0, .slice none 0 0, .slice none 0 0, .slice none 0 0, .slice none 0 0] 46)) (w.heap.size + 1 + 1) #[.slice none 0 0, .slice none 0 0, .slice none 0 0, .slice none 0 0, .slice none 0 0, .slice none 0 0, .slice none 0 0, .slice none 0 0, .bool false, .bool false] 27) := K2.out.later hg
          have Ka : Hid (Blk (g3.alloc (.cells #[.slice none 0 0, .slice none 0 0, .slice none 0 0, .slice none 0 0, .slice none 0 0, .slice none 0 0, .slice none 0 0, .slice none 0 0] 46)) ka #[.slice none 0 0, .slice none 0 0, .slice none 0 0, .slice none 0 0, .slice none 0 0, .slice none 0 0, .slice none 0 0, .slice none 0 0] 46) := Ka.out.later hg
          clear hg
          refine hK.out _ _ ?_ (fun hHeld => ?_)
          · exact ⟨K0.out, K1.out, K2.out⟩
          clear hK K
          try simp only [List.foldl, Act.put, List.setIfInBounds_toArray, List.set_cons_zero, List.set_cons_succ]
          generalize hGe : (g3.alloc (.cells #[.slice none 0 0, .slice none 0 0, .slice none 0 0, .slice none 0 0, .slice none 0 0, .slice none 0 0, .slice none 0 0, .slice none 0 0] 46)) = g4 at Kb hHeld LX K0 K1 K2 Ka ⊢
          obtain ⟨kb, hkb⟩ : ∃ k, g3.heap.size = k := ⟨_, rfl⟩
          have HXb : Hid (X.heap.size ≤ kb) := Nat.le_trans hxs (Nat.le_of_eq hkb)
          clear hxs
          rw [hkb] at Kb NE
          try rw [hkb]
          clear hGe hkb
          have NEQ : Hid (¬ ka = kb) := by first | exact NE.out | exact fun e => NE.out e.symm
          refine wpAnyH_ready (rs := [6]) (by kernel_rfl) (by simp) ?_
          refine AllReadyH.cons rfl (fun K hK => ?_) AllReadyH.nil
          refine wp_store_row 46 (.tmp 5) (.tmp 10) rfl ka #[.slice a0 V.l0.length c0, .slice a1 V.l1.length c1, .slice a2 V.l2.length c2, .slice a3 V.l3.length c3, .slice a4 V.l4.length c4, .slice a5 V.l5.length c5, .slice a6 V.l6.length c6, .slice a7 V.l7.length c7] rfl rfl 46 _ Ka.out (by rw [Try.infoLs]; rfl) rfl one8 ?_
          have hlx := HXa.out
          have LX : Hid (Below X.heap.size X (g4.setRow ka #[.slice a0 V.l0.length c0, .slice a1 V.l1.length c1, .slice a2 V.l2.length c2, .slice a3 V.l3.length c3, .slice a4 V.l4.length c4, .slice a5 V.l5.length c5, .slice a6 V.l6.length c6, .slice a7 V.l7.length c7])) := below_setRow LX.out hlx _
          have Ka : Hid (Blk (g4.setRow ka #[.slice a0 V.l0.length c0, .slice a1 V.l1.length c1, .slice a2 V.l2.length c2, .slice a3 V.l3.length c3, .slice a4 V.l4.length c4, .slice a5 V.l5.length c5, .slice a6 V.l6.length c6, .slice a7 V.l7.length c7]) ka #[.slice a0 V.l0.length c0, .slice a1 V.l1.length c1, .slice a2 V.l2.length c2, .slice a3 V.l3.length c3, .slice a4 V.l4.length c4, .slice a5 V.l5.length c5, .slice a6 V.l6.length c6, .slice a7 V.l7.length c7] 46) := setRow_heap _ _ _ _ _ _ Ka.out
          have Kb : Hid (Blk (g4.setRow ka #[.slice a0 V.l0.length c0, .slice a1 V.l1.length c1, .slice a2 V.l2.length c2, .slice a3 V.l3.length c3, .slice a4 V.l4.length c4, .slice a5 V.l5.length c5, .slice a6 V.l6.length c6, .slice a7 V.l7.length c7]) kb #[.slice none 0 0, .slice none 0 0, .slice none 0 0, .slice none 0 0, .slice none 0 0, .slice none 0 0, .slice none 0 0, .slice none 0 0] 46) := (setRow_other _ _ _ _ (by have := NEQ.out; omega)).trans Kb.out
          have K0 : Hid (Blk (g4.setRow ka #[.slice a0 V.l0.length c0, .slice a1 V.l1.length c1, .slice a2 V.l2.length c2, .slice a3 V.l3.length c3, .slice a4 V.l4.length c4, .slice a5 V.l5.length c5, .slice a6 V.l6.length c6, .slice a7 V.l7.length c7]) w.heap.size #[.slice a0 V.l0.length c0, .slice a1 V.l1.length c1, .slice a2 V.l2.length c2, .slice a3 V.l3.length c3, .slice a4 V.l4.length c4, .slice a5 V.l5.length c5, .slice a6 V.l6.length c6, .slice a7 V.l7.length c7, .bool V.sp, .bool V.kl] 27) := (setRow_other _ _ _ _ (by have := ltX; omega)).trans K0.out
          have K1 : Hid (Blk (g4.setRow ka #[.slice a0 V.l0.length c0, .slice a1 V.l1.length c1, .slice a2 V.l2.length c2, .slice a3 V.l3.length c3, .slice a4 V.l4.length c4, .slice a5 V.l5.length c5, .slice a6 V.l6.length c6, .slice a7 V.l7.length c7]) (w.heap.size + 1) #[.slice b0 U.l0.length d0, .slice b1 U.l1.length d1, .slice b2 U.l2.length d2, .slice b3 U.l3.length d3, .slice b4 U.l4.length d4, .slice b5 U.l5.length d5, .slice b6 U.l6.length d6, .slice b7 U.l7.length d7, .bool U.sp, .bool U.kl] 27) := (setRow_other _ _ _ _ (by have := ltX; omega)).trans K1.out
          have K2 : Hid (Blk (g4.setRow ka #[.slice a0 V.l0.length c0, .slice a1 V.l1.length c1, .slice a2 V.l2.length c2, .slice a3 V.l3.length c3, .slice a4 V.l4.length c4, .slice a5 V.l5.length c5, .slice a6 V.l6.length c6, .slice a7 V.l7.length c7]) (w.heap.size + 1 + 1) #[.slice none 0 0, .slice none 0 0, .slice none 0 0, .slice none 0 0, .slice none 0 0, .slice none 0 0, .slice none 0 0, .slice none 0 0, .bool false, .bool false] 27) := (setRow_other _ _ _ _ (by have := ltX; omega)).trans K2.out
          refine hK.out _ _ ?_ (fun hHeld => ?_)
          · exact ⟨K0.out, K1.out, K2.out⟩
          clear hK K
          try simp only [List.foldl, Act.put, List.setIfInBounds_toArray, List.set_cons_zero, List.set_cons_succ]
          generalize hGe : (g4.setRow ka #[.slice a0 V.l0.length c0, .slice a1 V.l1.length c1, .slice a2 V.l2.length c2, .slice a3 V.l3.length c3, .slice a4 V.l4.length c4, .slice a5 V.l5.length c5, .slice a6 V.l6.length c6, .slice a7 V.l7.length c7]) = g5 at Ka Kb hHeld LX K0 K1 K2 ⊢
          clear hGe hlx
          refine wpAnyH_ready (rs := [7]) (by kernel_rfl) (by simp) ?_
          refine AllReadyH.cons rfl (fun K hK => ?_) AllReadyH.nil
          refine wp_store_row 46 (.tmp 6) (.tmp 12) rfl kb #[.slice b0 U.l0.length d0, .slice b1 U.l1.length d1, .slice b2 U.l2.length d2, .slice b3 U.l3.length d3, .slice b4 U.l4.length d4, .slice b5 U.l5.length d5, .slice b6 U.l6.length d6, .slice b7 U.l7.length d7] rfl rfl 46 _ Kb.out (by rw [Try.infoLs]; rfl) rfl one8 ?_
          have hlx := HXb.out
          have LX : Hid (Below X.heap.size X (g5.setRow kb #[.slice b0 U.l0.length d0, .slice b1 U.l1.length d1, .slice b2 U.l2.length d2, .slice b3 U.l3.length d3, .slice b4 U.l4.length d4, .slice b5 U.l5.length d5, .slice b6 U.l6.length d6, .slice b7 U.l7.length d7])) := below_setRow LX.out hlx _
          have Kb : Hid (Blk (g5.setRow kb #[.slice b0 U.l0.length d0, .slice b1 U.l1.length d1, .slice b2 U.l2.length d2, .slice b3 U.l3.length d3, .slice b4 U.l4.length d4, .slice b5 U.l5.length d5, .slice b6 U.l6.length d6, .slice b7 U.l7.length d7]) kb #[.slice b0 U.l0.length d0, .slice b1 U.l1.length d1, .slice b2 U.l2.length d2, .slice b3 U.l3.length d3, .slice b4 U.l4.length d4, .slice b5 U.l5.length d5, .slice b6 U.l6.length d6, .slice b7 U.l7.length d7] 46) := setRow_heap _ _ _ _ _ _ Kb.out
          have Ka : Hid (Blk (g5.setRow kb #[.slice b0 U.l0.length d0, .slice b1 U.l1.length d1, .slice b2 U.l2.length d2, .slice b3 U.l3.length d3, .slice b4 U.l4.length d4, .slice b5 U.l5.length d5, .slice b6 U.l6.length d6, .slice b7 U.l7.length d7]) ka #[.slice a0 V.l0.length c0, .slice a1 V.l1.length c1, .slice a2 V.l2.length c2, .slice a3 V.l3.length c3, .slice a4 V.l4.length c4, .slice a5 V.l5.length c5, .slice a6 V.l6.length c6, .slice a7 V.l7.length c7] 46) := (setRow_other _ _ _ _ (by have := NEQ.out; omega)).trans Ka.out
          have K0 : Hid (Blk (g5.setRow kb #[.slice b0 U.l0.length d0, .slice b1 U.l1.length d1, .slice b2 U.l2.length d2, .slice b3 U.l3.length d3, .slice b4 U.l4.length d4, .slice b5 U.l5.length d5, .slice b6 U.l6.length d6, .slice b7 U.l7.length d7]) w.heap.size #[.slice a0 V.l0.length c0, .slice a1 V.l1.length c1, .slice a2 V.l2.length c2, .slice a3 V.l3.length c3, .slice a4 V.l4.length c4, .slice a5 V.l5.length c5, .slice a6 V.l6.length c6, .slice a7 V.l7.length c7, .bool V.sp, .bool V.kl] 27) := (setRow_other _ _ _ _ (by have := ltX; omega)).trans K0.out
          have K1 : Hid (Blk (g5.setRow kb #[.slice b0 U.l0.length d0, .slice b1 U.l1.length d1, .slice b2 U.l2.length d2, .slice b3 U.l3.length d3, .slice b4 U.l4.length d4, .slice b5 U.l5.length d5, .slice b6 U.l6.length d6, .slice b7 U.l7.length d7]) (w.heap.size + 1) #[.slice b0 U.l0.length d0, .slice b1 U.l1.length d1, .slice b2 U.l2.length d2, .slice b3 U.l3.length d3, .slice b4 U.l4.length d4, .slice b5 U.l5.length d5, .slice b6 U.l6.length d6, .slice b7 U.l7.length d7, .bool U.sp, .bool U.kl] 27) := (setRow_other _ _ _ _ (by have := ltX; omega)).trans K1.out
          have K2 : Hid (Blk (g5.setRow kb #[.slice b0 U.l0.length d0, .slice b1 U.l1.length d1, .slice b2 U.l2.length d2, .slice b3 U.l3.length d3, .slice b4 U.l4.length d4, .slice b5 U.l5.length d5, .slice b6 U.l6.length d6, .slice b7 U.l7.length d7]) (w.heap.size + 1 + 1) #[.slice none 0 0, .slice none 0 0, .slice none 0 0, .slice none 0 0, .slice none 0 0, .slice none 0 0, .slice none 0 0, .slice none 0 0, .bool false, .bool false] 27) := (setRow_other _ _ _ _ (by have := ltX; omega)).trans K2.out
          refine hK.out _ _ ?_ (fun hHeld => ?_)
          · exact ⟨K0.out, K1.out, K2.out⟩
          clear hK K
          try simp only [List.foldl, Act.put, List.setIfInBounds_toArray, List.set_cons_zero, List.set_cons_succ]
          generalize hGe : (g5.setRow kb #[.slice b0 U.l0.length d0, .slice b1 U.l1.length d1, .slice b2 U.l2.length d2, .slice b3 U.l3.length d3, .slice b4 U.l4.length d4, .slice b5 U.l5.length d5, .slice b6 U.l6.length d6, .slice b7 U.l7.length d7]) = g6 at Ka Kb hHeld LX K0 K1 K2 ⊢
          clear hGe hlx
          refine wpAnyH_done (by kernel_rfl) ?_ _
          go_wp2_with fail
          go_meet
          exact ⟨ka, kb, rfl, rfl, Ka.out, Kb.out, HXa.out, HXb.out, NEQ.out, LX.out⟩
        refine AllReadyH.cons rfl (fun K hK => ?_) AllReadyH.nil
        go_simp
        have hg : Below g2.heap.size g2 (g2.alloc (.cells #[.slice none 0 0, .slice none 0 0, .slice none 0 0, .slice none 0 0, .slice none 0 0, .slice none 0 0, .slice none 0 0, .slice none 0 0] 46)) := bl_alloc (Below.refl _ _) _
        have Kb : Hid (Blk (g2.alloc (.cells #[.slice none 0 0, .slice none 0 0, .slice none 0 0, .slice none 0 0, .slice none 0 0, .slice none 0 0, .slice none 0 0, .slice none 0 0] 46)) g2.heap.size #[.slice none 0 0, .slice none 0 0, .slice none 0 0, .slice none 0 0, .slice none 0 0, .slice none 0 0, .slice none 0 0, .slice none 0 0] 46) := Blk.new _ _ _
        have hxs : X.heap.size ≤ g2.heap.size := LX.out.size
        have LX : Hid (Below X.heap.size X (g2.alloc (.cells #[.slice none 0 0, .slice none 0 0, .slice none 0 0, .slice none 0 0, .slice none 0 0, .slice none 0 0, .slice none 0 0, .slice none 0 0] 46))) := bl_trans LX.out hg
        have K0 : Hid (Blk (g2.alloc (.cells #[.slice none 0 0, .slice none 0 0, .slice none 0 0, .slice none 0 0, .slice none 0 0, .slice none 0 0, .slice none 0 0, .slice none 0 0] 46)) w.heap.size #[.slice a0 V.l0.length c0, .slice a1 V.l1.length c1, .slice a2 V.l2.length c2, .slice a3 V.l3.length c3, .slice a4 V.l4.length c4, .slice a5 V.l5.length c5, .slice a6 V.l6.length c6, .slice a7 V.l7.length c7, .bool V.sp, .bool V.kl] 27) := K0.out.later hg
        have K1 : Hid (Blk (g2.alloc (.cells #[.slice none 0 0, .slice none 0 0, .slice none 0 0, .slice none 0 0, .slice none 0 0, .slice none 0 0, .slice none 0 0, .slice none 0 0] 46)) (w.heap.size + 1) #[.slice b0 U.l0.length d0, .slice b1 U.l1.length d1, .slice b2 U.l2.length d2, .slice b3 U.l3.length d3, .slice b4 U.l4.length d4, .slice b5 U.l5.length d5, .slice b6 U.l6.length d6, .slice b7 U.l7.length d7, .bool U.sp, .bool U.kl] 27) := K1.out.later hg
        have K2 : Hid (Blk (g2.alloc (.cells #[.slice none 0 0, .slice none 0 0, .slice none 0 0, .slice none 0 0, .slice none 0 0, .slice none 0 0, .slice none 0 0, .slice none 0 0] 46)) (w.heap.size + 1 + 1) #[.slice none 0 0, .slice none 0 0, .slice none 0 0, .slice none 0 0, .slice none 0 0, .slice none 0 0, .slice none 0 0, .slice none 0 0, .bool false, .bool false] 27) := K2.out.later hg
        clear hg
        refine hK.out _ _ ?_ (fun hHeld => ?_)
        · exact ⟨K0.out, K1.out, K2.out⟩
        clear hK K
        try simp only [List.foldl, Act.put, List.setIfInBounds_toArray, List.set_cons_zero, List.set_cons_succ]
        generalize hGe : (g2.alloc (.cells #[.slice none 0 0, .slice none 0 0, .slice none 0 0, .slice none 0 0, .slice none 0 0, .slice none 0 0, .slice none 0 0, .slice none 0 0] 46)) = g7 at Kb hHeld LX K0 K1 K2 ⊢
        obtain ⟨kb, hkb⟩ : ∃ k, g2.heap.size = k := ⟨_, rfl⟩
        have HXb : Hid (X.heap.size ≤ kb) := Nat.le_trans hxs (Nat.le_of_eq hkb)
        clear hxs
        rw [hkb] at Kb
        try rw [hkb]
        clear hGe hkb
        refine wpAnyH_ready (rs := [4]) (by kernel_rfl) (by simp) ?_
        refine AllReadyH.cons rfl (fun K hK => ?_) AllReadyH.nil
        go_simp
        have hg : Below g7.heap.size g7 (g7.alloc (.cells #[.slice none 0 0, .slice none 0 0, .slice none 0 0, .slice none 0 0, .slice none 0 0, .slice none 0 0, .slice none 0 0, .slice none 0 0] 46)) := bl_alloc (Below.refl _ _) _
        have Ka : Hid (Blk (g7.alloc (.cells #[.slice none 0 0, .slice none 0 0, .slice none 0 0, .slice none 0 0, .slice none 0 0, .slice none 0 0, .slice none 0 0, .slice none 0 0] 46)) g7.heap.size #[.slice none 0 0, .slice none 0 0, .slice none 0 0, .slice none 0 0, .slice none 0 0, .slice none 0 0, .slice none 0 0, .slice none 0 0] 46) := Blk.new _ _ _
        have hxs : X.heap.size ≤ g7.heap.size := LX.out.size
        have NE : Hid (¬ kb = g7.heap.size) := by have := Kb.out.lt; show ¬ _; omega
        have LX : Hid (Below X.heap.size X (g7.alloc (.cells #[.slice none 0 0, .slice none 0 0, .slice none 0 0, .slice none 0 0, .slice none 0 0, .slice none 0 0, .slice none 0 0, .slice none 0 0] 46))) := bl_trans LX.out hg
        have K0 : Hid (Blk (g7.alloc (.cells #[.slice none 0 0, .slice none 0 0, .slice none 0 0, .slice none 0 0, .slice none 0 0, .slice none 0 0, .slice none 0 0, .slice none 0 0] 46)) w.heap.size #[.slice a0 V.l0.length c0, .slice a1 V.l1.length c1, .slice a2 V.l2.length c2, .slice a3 V.l3.length c3, .slice a4 V.l4.length c4, .slice a5 V.l5.length c5, .slice a6 V.l6.length c6, .slice a7 V.l7.length c7, .bool V.sp, .bool V.kl] 27) := K0.out.later hg
        have K1 : Hid (Blk (g7.alloc (.cells #[.slice none 0 0, .slice none 0 0, .slice none 0 0, .slice none 0 0, .slice none 0 0, .slice none 0 0, .slice none 0 0, .slice none 0 0] 46)) (w.heap.size + 1) #[.slice b0 U.l0.length d0, .slice b1 U.l1.length d1, .slice b2 U.l2.length d2, .slice b3 U.l3.length d3, .slice b4 U.l4.length d4, .slice b5 U.l5.length d5, .slice b6 U.l6.length d6, .slice b7 U.l7.length d7, .bool U.sp, .bool U.kl] 27) := K1.out.later hg
        have K2 : Hid (Blk (g7.alloc (.cells #[.slice none 0 0, .slice none 0 0, .slice none 0 0, .slice none 0 0, .slice none 0 0, .slice none 0 0, .slice none 0 0, .slice none 0 0] 46)) (w.heap.size + 1 + 1) #[.slice none 0 0, .slice none 0 0, .slice none 0 0, .slice none 0 0, .slice none 0 0, .slice none 0 0, .slice none 0 0, .slice none 0 0, .bool false, .bool false] 27) := K2.out.later hg
        have Kb : Hid (Blk (g7.alloc (.cells #[.slice none 0 0, .slice none 0 0, .slice none 0 0, .slice none 0 0, .slice none 0 0, .slice none 0 0, .slice none 0 0, .slice none 0 0] 46)) kb #[.slice none 0 0, .slice none 0 0, .slice none 0 0, .slice none 0 0, .slice none 0 0, .slice none 0 0, .slice none 0 0, .slice none 0 0] 46) := Kb.out.later hg
        clear hg
        refine hK.out _ _ ?_ (fun hHeld => ?_)
        · exact ⟨K0.out, K1.out, K2.out⟩
        clear hK K
        try simp only [List.foldl, Act.put, List.setIfInBounds_toArray, List.set_cons_zero, List.set_cons_succ]
        generalize hGe : (g7.alloc (.cells #[.slice none 0 0, .slice none 0 0, .slice none 0 0, .slice none 0 0, .slice none 0 0, .slice none 0 0, .slice none 0 0, .slice none 0 0] 46)) = g8 at Ka hHeld LX K0 K1 K2 Kb ⊢
        obtain ⟨ka, hka⟩ : ∃ k, g7.heap.size = k := ⟨_, rfl⟩
        have HXa : Hid (X.heap.size ≤ ka) := Nat.le_trans hxs (Nat.le_of_eq hka)
        clear hxs
        rw [hka] at Ka NE
        try rw [hka]
        clear hGe hka
        have NEQ : Hid (¬ ka = kb) := by first | exact NE.out | exact fun e => NE.out e.symm
        refine wpAnyH_ready (rs := [6]) (by kernel_rfl) (by simp) ?_
        refine AllReadyH.cons rfl (fun K hK => ?_) AllReadyH.nil
        refine wp_store_row 46 (.tmp 5) (.tmp 10) rfl ka #[.slice a0 V.l0.length c0, .slice a1 V.l1.length c1, .slice a2 V.l2.length c2, .slice a3 V.l3.length c3, .slice a4 V.l4.length c4, .slice a5 V.l5.length c5, .slice a6 V.l6.length c6, .slice a7 V.l7.length c7] rfl rfl 46 _ Ka.out (by rw [Try.infoLs]; rfl) rfl one8 ?_
        have hlx := HXa.out
        have LX : Hid (Below X.heap.size X (g8.setRow ka #[.slice a0 V.l0.length c0, .slice a1 V.l1.length c1, .slice a2 V.l2.length c2, .slice a3 V.l3.length c3, .slice a4 V.l4.length c4, .slice a5 V.l5.length c5, .slice a6 V.l6.length c6, .slice a7 V.l7.length c7])) := below_setRow LX.out hlx _
        have Ka : Hid (Blk (g8.setRow ka #[.slice a0 V.l0.length c0, .slice a1 V.l1.length c1, .slice a2 V.l2.length c2, .slice a3 V.l3.length c3, .slice a4 V.l4.length c4, .slice a5 V.l5.length c5, .slice a6 V.l6.length c6, .slice a7 V.l7.length c7]) ka #[.slice a0 V.l0.length c0, .slice a1 V.l1.length c1, .slice a2 V.l2.length c2, .slice a3 V.l3.length c3, .slice a4 V.l4.length c4, .slice a5 V.l5.length c5, .slice a6 V.l6.length c6, .slice a7 V.l7.length c7] 46) := setRow_heap _ _ _ _ _ _ Ka.out
        have Kb : Hid (Blk (g8.setRow ka #[.slice a0 V.l0.length c0, .slice a1 V.l1.length c1, .slice a2 V.l2.length c2, .slice a3 V.l3.length c3, .slice a4 V.l4.length c4, .slice a5 V.l5.length c5, .slice a6 V.l6.length c6, .slice a7 V.l7.length c7]) kb #[.slice none 0 0, .slice none 0 0, .slice none 0 0, .slice none 0 0, .slice none 0 0, .slice none 0 0, .slice none 0 0, .slice none 0 0] 46) := (setRow_other _ _ _ _ (by have := NEQ.out; omega)).trans Kb.out
        have K0 : Hid (Blk (g8.setRow ka #[.slice a0 V.l0.length c0, .slice a1 V.l1.length c1, .slice a2 V.l2.length c2, .slice a3 V.l3.length c3, .slice a4 V.l4.length c4, .slice a5 V.l5.length c5, .slice a6 V.l6.length c6, .slice a7 V.l7.length c7]) w.heap.size #[.slice a0 V.l0.length c0, .slice a1 V.l1.length c1, .slice a2 V.l2.length c2, .slice a3 V.l3.length c3, .slice a4 V.l4.length c4, .slice a5 V.l5.length c5, .slice a6 V.l6.length c6, .slice a7 V.l7.length c7, .bool V.sp, .bool V.kl] 27) := (setRow_other _ _ _ _ (by have := ltX; omega)).trans K0.out
        have K1 : Hid (Blk (g8.setRow ka #[.slice a0 V.l0.length c0, .slice a1 V.l1.length c1, .slice a2 V.l2.length c2, .slice a3 V.l3.length c3, .slice a4 V.l4.length c4, .slice a5 V.l5.length c5, .slice a6 V.l6.length c6, .slice a7 V.l7.length c7]) (w.heap.size + 1) #[.slice b0 U.l0.length d0, .slice b1 U.l1.length d1, .slice b2 U.l2.length d2, .slice b3 U.l3.length d3, .slice b4 U.l4.length d4, .slice b5 U.l5.length d5, .slice b6 U.l6.length d6, .slice b7 U.l7.length d7, .bool U.sp, .bool U.kl] 27) := (setRow_other _ _ _ _ (by have := ltX; omega)).trans K1.out
        have K2 : Hid (Blk (g8.setRow ka #[.slice a0 V.l0.length c0, .slice a1 V.l1.length c1, .slice a2 V.l2.length c2, .slice a3 V.l3.length c3, .slice a4 V.l4.length c4, .slice a5 V.l5.length c5, .slice a6 V.l6.length c6, .slice a7 V.l7.length c7]) (w.heap.size + 1 + 1) #[.slice none 0 0, .slice none 0 0, .slice none 0 0, .slice none 0 0, .slice none 0 0, .slice none 0 0, .slice none 0 0, .slice none 0 0, .bool false, .bool false] 27) := (setRow_other _ _ _ _ (by have := ltX; omega)).trans K2.out
        refine hK.out _ _ ?_ (fun hHeld => ?_)
        · exact ⟨K0.out, K1.out, K2.out⟩
        clear hK K
        try simp only [List.foldl, Act.put, List.setIfInBounds_toArray, List.set_cons_zero, List.set_cons_succ]
        generalize hGe : (g8.setRow ka #[.slice a0 V.l0.length c0, .slice a1 V.l1.length c1, .slice a2 V.l2.length c2, .slice a3 V.l3.length c3, .slice a4 V.l4.length c4, .slice a5 V.l5.length c5, .slice a6 V.l6.length c6, .slice a7 V.l7.length c7]) = g9 at Ka Kb hHeld LX K0 K1 K2 ⊢
        clear hGe hlx
        refine wpAnyH_ready (rs := [7]) (by kernel_rfl) (by simp) ?_
        refine AllReadyH.cons rfl (fun K hK => ?_) AllReadyH.nil
        refine wp_store_row 46 (.tmp 6) (.tmp 12) rfl kb #[.slice b0 U.l0.length d0, .slice b1 U.l1.length d1, .slice b2 U.l2.length d2, .slice b3 U.l3.length d3, .slice b4 U.l4.length d4, .slice b5 U.l5.length d5, .slice b6 U.l6.length d6, .slice b7 U.l7.length d7] rfl rfl 46 _ Kb.out (by rw [Try.infoLs]; rfl) rfl one8 ?_
        have hlx := HXb.out
        have LX : Hid (Below X.heap.size X (g9.setRow kb #[.slice b0 U.l0.length d0, .slice b1 U.l1.length d1, .slice b2 U.l2.length d2, .slice b3 U.l3.length d3, .slice b4 U.l4.length d4, .slice b5 U.l5.length d5, .slice b6 U.l6.length d6, .slice b7 U.l7.length d7])) := below_setRow LX.out hlx _
        have Kb : Hid (Blk (g9.setRow kb #[.slice b0 U.l0.length d0, .slice b1 U.l1.length d1, .slice b2 U.l2.length d2, .slice b3 U.l3.length d3, .slice b4 U.l4.length d4, .slice b5 U.l5.length d5, .slice b6 U.l6.length d6, .slice b7 U.l7.length d7]) kb #[.slice b0 U.l0.length d0, .slice b1 U.l1.length d1, .slice b2 U.l2.length d2, .slice b3 U.l3.length d3, .slice b4 U.l4.length d4, .slice b5 U.l5.length d5, .slice b6 U.l6.length d6, .slice b7 U.l7.length d7] 46) := setRow_heap _ _ _ _ _ _ Kb.out
        have Ka : Hid (Blk (g9.setRow kb #[.slice b0 U.l0.length d0, .slice b1 U.l1.length d1, .slice b2 U.l2.length d2, .slice b3 U.l3.length d3, .slice b4 U.l4.length d4, .slice b5 U.l5.length d5, .slice b6 U.l6.length d6, .slice b7 U.l7.length d7]) ka #[.slice a0 V.l0.length c0, .slice a1 V.l1.length c1, .slice a2 V.l2.length c2, .slice a3 V.l3.length c3, .slice a4 V.l4.length c4, .slice a5 V.l5.length c5, .slice a6 V.l6.length c6, .slice a7 V.l7.length c7] 46) := (setRow_other _ _ _ _ (by have := NEQ.out; omega)).trans Ka.out
        have K0 : Hid (Blk (g9.setRow kb #[.slice b0 U.l0.length d0, .slice b1 U.l1.length d1, .slice b2 U.l2.length d2, .slice b3 U.l3.length d3, .slice b4 U.l4.length d4, .slice b5 U.l5.length d5, .slice b6 U.l6.length d6, .slice b7 U.l7.length d7]) w.heap.size #[.slice a0 V.l0.length c0, .slice a1 V.l1.length c1, .slice a2 V.l2.length c2, .slice a3 V.l3.length c3, .slice a4 V.l4.length c4, .slice a5 V.l5.length c5, .slice a6 V.l6.length c6, .slice a7 V.l7.length c7, .bool V.sp, .bool V.kl] 27) := (setRow_other _ _ _ _ (by have := ltX; omega)).trans K0.out
        have K1 : Hid (Blk (g9.setRow kb #[.slice b0 U.l0.length d0, .slice b1 U.l1.length d1, .slice b2 U.l2.length d2, .slice b3 U.l3.length d3, .slice b4 U.l4.length d4, .slice b5 U.l5.length d5, .slice b6 U.l6.length d6, .slice b7 U.l7.length d7]) (w.heap.size + 1) #[.slice b0 U.l0.length d0, .slice b1 U.l1.length d1, .slice b2 U.l2.length d2, .slice b3 U.l3.length d3, .slice b4 U.l4.length d4, .slice b5 U.l5.length d5, .slice b6 U.l6.length d6, .slice b7 U.l7.length d7, .bool U.sp, .bool U.kl] 27) := (setRow_other _ _ _ _ (by have := ltX; omega)).trans K1.out
        have K2 : Hid (Blk (g9.setRow kb #[.slice b0 U.l0.length d0, .slice b1 U.l1.length d1, .slice b2 U.l2.length d2, .slice b3 U.l3.length d3, .slice b4 U.l4.length d4, .slice b5 U.l5.length d5, .slice b6 U.l6.length d6, .slice b7 U.l7.length d7]) (w.heap.size + 1 + 1) #[.slice none 0 0, .slice none 0 0, .slice none 0 0, .slice none 0 0, .slice none 0 0, .slice none 0 0, .slice none 0 0, .slice none 0 0, .bool false, .bool false] 27) := (setRow_other _ _ _ _ (by have := ltX; omega)).trans K2.out
        refine hK.out _ _ ?_ (fun hHeld => ?_)
        · exact ⟨K0.out, K1.out, K2.out⟩
        clear hK K
        try simp only [List.foldl, Act.put, List.setIfInBounds_toArray, List.set_cons_zero, List.set_cons_succ]
        generalize hGe : (g9.setRow kb #[.slice b0 U.l0.length d0, .slice b1 U.l1.length d1, .slice b2 U.l2.length d2, .slice b3 U.l3.length d3, .slice b4 U.l4.length d4, .slice b5 U.l5.length d5, .slice b6 U.l6.length d6, .slice b7 U.l7.length d7]) = g10 at Ka Kb hHeld LX K0 K1 K2 ⊢
        clear hGe hlx
        refine wpAnyH_done (by kernel_rfl) ?_ _
        go_wp2_with fail
        go_meet
        exact ⟨ka, kb, rfl, rfl, Ka.out, Kb.out, HXa.out, HXb.out, NEQ.out, LX.out⟩
      refine AllReadyH.cons rfl (fun K hK => ?_) ?_
      · skip
        go_simp
        have hg : Below g1.heap.size g1 (g1.alloc (.cells #[.slice none 0 0, .slice none 0 0, .slice none 0 0, .slice none 0 0, .slice none 0 0, .slice none 0 0, .slice none 0 0, .slice none 0 0] 46)) := bl_alloc (Below.refl _ _) _
        have Ka : Hid (Blk (g1.alloc (.cells #[.slice none 0 0, .slice none 0 0, .slice none 0 0, .slice none 0 0, .slice none 0 0, .slice none 0 0, .slice none 0 0, .slice none 0 0] 46)) g1.heap.size #[.slice none 0 0, .slice none 0 0, .slice none 0 0, .slice none 0 0, .slice none 0 0, .slice none 0 0, .slice none 0 0, .slice none 0 0] 46) := Blk.new _ _ _
        have hxs : X.heap.size ≤ g1.heap.size := LX.out.size
        have LX : Hid (Below X.heap.size X (g1.alloc (.cells #[.slice none 0 0, .slice none 0 0, .slice none 0 0, .slice none 0 0, .slice none 0 0, .slice none 0 0, .slice none 0 0, .slice none 0 0] 46))) := bl_trans LX.out hg
        have K0 : Hid (Blk (g1.alloc (.cells #[.slice none 0 0, .slice none 0 0, .slice none 0 0, .slice none 0 0, .slice none 0 0, .slice none 0 0, .slice none 0 0, .slice none 0 0] 46)) w.heap.size #[.slice a0 V.l0.length c0, .slice a1 V.l1.length c1, .slice a2 V.l2.length c2, .slice a3 V.l3.length c3, .slice a4 V.l4.length c4, .slice a5 V.l5.length c5, .slice a6 V.l6.length c6, .slice a7 V.l7.length c7, .bool V.sp, .bool V.kl] 27) := K0.out.later hg
        have K1 : Hid (Blk (g1.alloc (.cells #[.slice none 0 0, .slice none 0 0, .slice none 0 0, .slice none 0 0, .slice none 0 0, .slice none 0 0, .slice none 0 0, .slice none 0 0] 46)) (w.heap.size + 1) #[.slice b0 U.l0.length d0, .slice b1 U.l1.length d1, .slice b2 U.l2.length d2, .slice b3 U.l3.length d3, .slice b4 U.l4.length d4, .slice b5 U.l5.length d5, .slice b6 U.l6.length d6, .slice b7 U.l7.length d7, .bool U.sp, .bool U.kl] 27) := K1.out.later hg
        have K2 : Hid (Blk (g1.alloc (.cells #[.slice none 0 0, .slice none 0 0, .slice none 0 0, .slice none 0 0, .slice none 0 0, .slice none 0 0, .slice none 0 0, .slice none 0 0] 46)) (w.heap.size + 1 + 1) #[.slice none 0 0, .slice none 0 0, .slice none 0 0, .slice none 0 0, .slice none 0 0, .slice none 0 0, .slice none 0 0, .slice none 0 0, .bool false, .bool false] 27) := K2.out.later hg
        clear hg
        refine hK.out _ _ ?_ (fun hHeld => ?_)
        · exact ⟨K0.out, K1.out, K2.out⟩
        clear hK K
        try simp only [List.foldl, Act.put, List.setIfInBounds_toArray, List.set_cons_zero, List.set_cons_succ]
        generalize hGe : (g1.alloc (.cells #[.slice none 0 0, .slice none 0 0, .slice none 0 0, .slice none 0 0, .slice none 0 0, .slice none 0 0, .slice none 0 0, .slice none 0 0] 46)) = g11 at Ka hHeld LX K0 K1 K2 ⊢
        obtain ⟨ka, hka⟩ : ∃ k, g1.heap.size = k := ⟨_, rfl⟩
        have HXa : Hid (X.heap.size ≤ ka) := Nat.le_trans hxs (Nat.le_of_eq hka)
        clear hxs
        rw [hka] at Ka
        try rw [hka]
        clear hGe hka
        refine wpAnyH_ready (rs := [3, 5]) (by kernel_rfl) (by simp) ?_
        refine AllReadyH.cons rfl (fun K hK => ?_) ?_
        · skip
          go_simp
          refine (listsOf_any b0 b1 b2 b3 b4 b5 b6 b7 d0 d1 d2 d3 d4 d5 d6 d7 U _).mono ?_
          rintro z g12 ⟨rfl, hb⟩
          have hc : Below g11.heap.size g11 g12 := hb
          have LX : Hid (Below X.heap.size X g12) := bl_trans LX.out hc
          have K0 : Hid (Blk g12 w.heap.size #[.slice a0 V.l0.length c0, .slice a1 V.l1.length c1, .slice a2 V.l2.length c2, .slice a3 V.l3.length c3, .slice a4 V.l4.length c4, .slice a5 V.l5.length c5, .slice a6 V.l6.length c6, .slice a7 V.l7.length c7, .bool V.sp, .bool V.kl] 27) := K0.out.later hc
          have K1 : Hid (Blk g12 (w.heap.size + 1) #[.slice b0 U.l0.length d0, .slice b1 U.l1.length d1, .slice b2 U.l2.length d2, .slice b3 U.l3.length d3, .slice b4 U.l4.length d4, .slice b5 U.l5.length d5, .slice b6 U.l6.length d6, .slice b7 U.l7.length d7, .bool U.sp, .bool U.kl] 27) := K1.out.later hc
          have K2 : Hid (Blk g12 (w.heap.size + 1 + 1) #[.slice none 0 0, .slice none 0 0, .slice none 0 0, .slice none 0 0, .slice none 0 0, .slice none 0 0, .slice none 0 0, .slice none 0 0, .bool false, .bool false] 27) := K2.out.later hc
          have Ka : Hid (Blk g12 ka #[.slice none 0 0, .slice none 0 0, .slice none 0 0, .slice none 0 0, .slice none 0 0, .slice none 0 0, .slice none 0 0, .slice none 0 0] 46) := Ka.out.later hc
          clear hb hc
          refine hK.out _ _ ?_ (fun hHeld => ?_)
          · exact ⟨K0.out, K1.out, K2.out⟩
          clear hK K
          try simp only [List.foldl, Act.put, List.setIfInBounds_toArray, List.set_cons_zero, List.set_cons_succ]
          refine wpAnyH_ready (rs := [5]) (by kernel_rfl) (by simp) ?_
          refine AllReadyH.cons rfl (fun K hK => ?_) AllReadyH.nil
          go_simp
          have hg : Below g12.heap.size g12 (g12.alloc (.cells #[.slice none 0 0, .slice none 0 0, .slice none 0 0, .slice none 0 0, .slice none 0 0, .slice none 0 0, .slice none 0 0, .slice none 0 0] 46)) := bl_alloc (Below.refl _ _) _
          have Kb : Hid (Blk (g12.alloc (.cells #[.slice none 0 0, .slice none 0 0, .slice none 0 0, .slice none 0 0, .slice none 0 0, .slice none 0 0, .slice none 0 0, .slice none 0 0] 46)) g12.heap.size #[.slice none 0 0, .slice none 0 0, .slice none 0 0, .slice none 0 0, .slice none 0 0, .slice none 0 0, .slice none 0 0, .slice none 0 0] 46) := Blk.new _ _ _
          have hxs : X.heap.size ≤ g12.heap.size := LX.out.size
          have NE : Hid (¬ ka = g12.heap.size) := by have := Ka.out.lt; show ¬ _; omega
          have LX : Hid (Below X.heap.size X (g12.alloc (.cells #[.slice none 0 0, .slice none 0 0, .slice none 0 0, .slice none 0 0, .slice none 0 0, .slice none 0 0, .slice none 0 0, .slice none 0 0] 46))) := bl_trans LX.out hg
          have K0 : Hid (Blk (g12.alloc (.cells #[.slice none 0 0, .slice none 0 0, .slice none 0 0, .slice none 0 0, .slice none 0 0, .slice none 0 0, .slice none 0 0, .slice none 0 0] 46)) w.heap.size #[.slice a0 V.l0.length c0, .slice a1 V.l1.length c1, .slice a2 V.l2.length c2, .slice a3 V.l3.length c3, .slice a4 V.l4.length c4, .slice a5 V.l5.length c5, .slice a6 V.l6.length c6, .slice a7 V.l7.length c7, .bool V.sp, .bool V.kl] 27) := K0.out.later hg
          have K1 : Hid (Blk (g12.alloc (.cells #[.slice none 0 0, .slice none 0 0, .slice none 0 0, .slice none 0 0, .slice none 0 0, .slice none 0 0, .slice none 0 0, .slice none 0 0] 46)) (w.heap.size + 1) #[.slice b0 U.l0.length d0, .slice b1 U.l1.length d1, .slice b2 U.l2.length d2, .slice b3 U.l3.length d3, .slice b4 U.l4.length d4, .slice b5 U.l5.length d5, .slice b6 U.l6.length d6, .slice b7 U.l7.length d7, .bool U.sp, .bool U.kl] 27) := K1.out.later hg
          have K2 : Hid (Blk (g12.alloc (.cells #[.slice none 0 0, .slice none 0 0, .slice none 0 0, .slice none 0 0, .slice none 0 0, .slice none 0 0, .slice none 0 0, .slice none 0 0] 46)) (w.heap.size + 1 + 1) #[.slice none 0 0, .slice none 0 0, .slice none 0 0, .slice none 0 0, .slice none 0 0, .slice none 0 0, .slice none 0 0, .slice none 0 0, .bool false, .bool false] 27) := K2.out.later hg
          have Ka : Hid (Blk (g12.alloc (.cells #[.slice none 0 0, .slice none 0 0, .slice none 0 0, .slice none 0 0, .slice none 0 0, .slice none 0 0, .slice none 0 0, .slice none 0 0] 46)) ka #[.slice none 0 0, .slice none 0 0, .slice none 0 0, .slice none 0 0, .slice none 0 0, .slice none 0 0, .slice none 0 0, .slice none 0 0] 46) := Ka.out.later hg
          clear hg
          refine hK.out _ _ ?_ (fun hHeld => ?_)
          · exact ⟨K0.out, K1.out, K2.out⟩
          clear hK K
          try simp only [List.foldl, Act.put, List.setIfInBounds_toArray, List.set_cons_zero, List.set_cons_succ]
          generalize hGe : (g12.alloc (.cells #[.slice none 0 0, .slice none 0 0, .slice none 0 0, .slice none 0 0, .slice none 0 0, .slice none 0 0, .slice none 0 0, .slice none 0 0] 46)) = g13 at Kb hHeld LX K0 K1 K2 Ka ⊢
          obtain ⟨kb, hkb⟩ : ∃ k, g12.heap.size = k := ⟨_, rfl⟩
          have HXb : Hid (X.heap.size ≤ kb) := Nat.le_trans hxs (Nat.le_of_eq hkb)
          clear hxs
          rw [hkb] at Kb NE
          try rw [hkb]
          clear hGe hkb
          have NEQ : Hid (¬ ka = kb) := by first | exact NE.out | exact fun e => NE.out e.symm
          refine wpAnyH_ready (rs := [6]) (by kernel_rfl) (by simp) ?_
          refine AllReadyH.cons rfl (fun K hK => ?_) AllReadyH.nil
          refine wp_store_row 46 (.tmp 5) (.tmp 10) rfl ka #[.slice a0 V.l0.length c0, .slice a1 V.l1.length c1, .slice a2 V.l2.length c2, .slice a3 V.l3.length c3, .slice a4 V.l4.length c4, .slice a5 V.l5.length c5, .slice a6 V.l6.length c6, .slice a7 V.l7.length c7] rfl rfl 46 _ Ka.out (by rw [Try.infoLs]; rfl) rfl one8 ?_
          have hlx := HXa.out
          have LX : Hid (Below X.heap.size X (g13.setRow ka #[.slice a0 V.l0.length c0, .slice a1 V.l1.length c1, .slice a2 V.l2.length c2, .slice a3 V.l3.length c3, .slice a4 V.l4.length c4, .slice a5 V.l5.length c5, .slice a6 V.l6.length c6, .slice a7 V.l7.length c7])) := below_setRow LX.out hlx _
          have Ka : Hid (Blk (g13.setRow ka #[.slice a0 V.l0.length c0, .slice a1 V.l1.length c1, .slice a2 V.l2.length c2, .slice a3 V.l3.length c3, .slice a4 V.l4.length c4, .slice a5 V.l5.length c5, .slice a6 V.l6.length c6, .slice a7 V.l7.length c7]) ka #[.slice a0 V.l0.length c0, .slice a1 V.l1.length c1, .slice a2 V.l2.length c2, .slice a3 V.l3.length c3, .slice a4 V.l4.length c4, .slice a5 V.l5.length c5, .slice a6 V.l6.length c6, .slice a7 V.l7.length c7] 46) := setRow_heap _ _ _ _ _ _ Ka.out
          have Kb : Hid (Blk (g13.setRow ka #[.slice a0 V.l0.length c0, .slice a1 V.l1.length c1, .slice a2 V.l2.length c2, .slice a3 V.l3.length c3, .slice a4 V.l4.length c4, .slice a5 V.l5.length c5, .slice a6 V.l6.length c6, .slice a7 V.l7.length c7]) kb #[.slice none 0 0, .slice none 0 0, .slice none 0 0, .slice none 0 0, .slice none 0 0, .slice none 0 0, .slice none 0 0, .slice none 0 0] 46) := (setRow_other _ _ _ _ (by have := NEQ.out; omega)).trans Kb.out
          have K0 : Hid (Blk (g13.setRow ka #[.slice a0 V.l0.length c0, .slice a1 V.l1.length c1, .slice a2 V.l2.length c2, .slice a3 V.l3.length c3, .slice a4 V.l4.length c4, .slice a5 V.l5.length c5, .slice a6 V.l6.length c6, .slice a7 V.l7.length c7]) w.heap.size #[.slice a0 V.l0.length c0, .slice a1 V.l1.length c1, .slice a2 V.l2.length c2, .slice a3 V.l3.length c3, .slice a4 V.l4.length c4, .slice a5 V.l5.length c5, .slice a6 V.l6.length c6, .slice a7 V.l7.length c7, .bool V.sp, .bool V.kl] 27) := (setRow_other _ _ _ _ (by have := ltX; omega)).trans K0.out
          have K1 : Hid (Blk (g13.setRow ka #[.slice a0 V.l0.length c0, .slice a1 V.l1.length c1, .slice a2 V.l2.length c2, .slice a3 V.l3.length c3, .slice a4 V.l4.length c4, .slice a5 V.l5.length c5, .slice a6 V.l6.length c6, .slice a7 V.l7.length c7]) (w.heap.size + 1) #[.slice b0 U.l0.length d0, .slice b1 U.l1.length d1, .slice b2 U.l2.length d2, .slice b3 U.l3.length d3, .slice b4 U.l4.length d4, .slice b5 U.l5.length d5, .slice b6 U.l6.length d6, .slice b7 U.l7.length d7, .bool U.sp, .bool U.kl] 27) := (setRow_other _ _ _ _ (by have := ltX; omega)).trans K1.out
          have K2 : Hid (Blk (g13.setRow ka #[.slice a0 V.l0.length c0, .slice a1 V.l1.length c1, .slice a2 V.l2.length c2, .slice a3 V.l3.length c3, .slice a4 V.l4.length c4, .slice a5 V.l5.length c5, .slice a6 V.l6.length c6, .slice a7 V.l7.length c7]) (w.heap.size + 1 + 1) #[.slice none 0 0, .slice none 0 0, .slice none 0 0, .slice none 0 0, .slice none 0 0, .slice none 0 0, .slice none 0 0, .slice none 0 0, .bool false, .bool false] 27) := (setRow_other _ _ _ _ (by have := ltX; omega)).trans K2.out
          refine hK.out _ _ ?_ (fun hHeld => ?_)
          · exact ⟨K0.out, K1.out, K2.out⟩
          clear hK K
          try simp only [List.foldl, Act.put, List.setIfInBounds_toArray, List.set_cons_zero, List.set_cons_succ]
          generalize hGe : (g13.setRow ka #[.slice a0 V.l0.length c0, .slice a1 V.l1.length c1, .slice a2 V.l2.length c2, .slice a3 V.l3.length c3, .slice a4 V.l4.length c4, .slice a5 V.l5.length c5, .slice a6 V.l6.length c6, .slice a7 V.l7.length c7]) = g14 at Ka Kb hHeld LX K0 K1 K2 ⊢
          clear hGe hlx
          refine wpAnyH_ready (rs := [7]) (by kernel_rfl) (by simp) ?_
          refine AllReadyH.cons rfl (fun K hK => ?_) AllReadyH.nil
          refine wp_store_row 46 (.tmp 6) (.tmp 12) rfl kb #[.slice b0 U.l0.length d0, .slice b1 U.l1.length d1, .slice b2 U.l2.length d2, .slice b3 U.l3.length d3, .slice b4 U.l4.length d4, .slice b5 U.l5.length d5, .slice b6 U.l6.length d6, .slice b7 U.l7.length d7] rfl rfl 46 _ Kb.out (by rw [Try.infoLs]; rfl) rfl one8 ?_
          have hlx := HXb.out
          have LX : Hid (Below X.heap.size X (g14.setRow kb #[.slice b0 U.l0.length d0, .slice b1 U.l1.length d1, .slice b2 U.l2.length d2, .slice b3 U.l3.length d3, .slice b4 U.l4.length d4, .slice b5 U.l5.length d5, .slice b6 U.l6.length d6, .slice b7 U.l7.length d7])) := below_setRow LX.out hlx _
          have Kb : Hid (Blk (g14.setRow kb #[.slice b0 U.l0.length d0, .slice b1 U.l1.length d1, .slice b2 U.l2.length d2, .slice b3 U.l3.length d3, .slice b4 U.l4.length d4, .slice b5 U.l5.length d5, .slice b6 U.l6.length d6, .slice b7 U.l7.length d7]) kb #[.slice b0 U.l0.length d0, .slice b1 U.l1.length d1, .slice b2 U.l2.length d2, .slice b3 U.l3.length d3, .slice b4 U.l4.length d4, .slice b5 U.l5.length d5, .slice b6 U.l6.length d6, .slice b7 U.l7.length d7] 46) := setRow_heap _ _ _ _ _ _ Kb.out
          have Ka : Hid (Blk (g14.setRow kb #[.slice b0 U.l0.length d0, .slice b1 U.l1.length d1, .slice b2 U.l2.length d2, .slice b3 U.l3.length d3, .slice b4 U.l4.length d4, .slice b5 U.l5.length d5, .slice b6 U.l6.length d6, .slice b7 U.l7.length d7]) ka #[.slice a0 V.l0.length c0, .slice a1 V.l1.length c1, .slice a2 V.l2.length c2, .slice a3 V.l3.length c3, .slice a4 V.l4.length c4, .slice a5 V.l5.length c5, .slice a6 V.l6.length c6, .slice a7 V.l7.length c7] 46) := (setRow_other _ _ _ _ (by have := NEQ.out; omega)).trans Ka.out
          have K0 : Hid (Blk (g14.setRow kb #[.slice b0 U.l0.length d0, .slice b1 U.l1.length d1, .slice b2 U.l2.length d2, .slice b3 U.l3.length d3, .slice b4 U.l4.length d4, .slice b5 U.l5.length d5, .slice b6 U.l6.length d6, .slice b7 U.l7.length d7]) w.heap.size #[.slice a0 V.l0.length c0, .slice a1 V.l1.length c1, .slice a2 V.l2.length c2, .slice a3 V.l3.length c3, .slice a4 V.l4.length c4, .slice a5 V.l5.length c5, .slice a6 V.l6.length c6, .slice a7 V.l7.length c7, .bool V.sp, .bool V.kl] 27) := (setRow_other _ _ _ _ (by have := ltX; omega)).trans K0.out
          have K1 : Hid (Blk (g14.setRow kb #[.slice b0 U.l0.length d0, .slice b1 U.l1.length d1, .slice b2 U.l2.length d2, .slice b3 U.l3.length d3, .slice b4 U.l4.length d4, .slice b5 U.l5.length d5, .slice b6 U.l6.length d6, .slice b7 U.l7.length d7]) (w.heap.size + 1) #[.slice b0 U.l0.length d0, .slice b1 U.l1.length d1, .slice b2 U.l2.length d2, .slice b3 U.l3.length d3, .slice b4 U.l4.length d4, .slice b5 U.l5.length d5, .slice b6 U.l6.length d6, .slice b7 U.l7.length d7, .bool U.sp, .bool U.kl] 27) := (setRow_other _ _ _ _ (by have := ltX; omega)).trans K1.out
          have K2 : Hid (Blk (g14.setRow kb #[.slice b0 U.l0.length d0, .slice b1 U.l1.length d1, .slice b2 U.l2.length d2, .slice b3 U.l3.length d3, .slice b4 U.l4.length d4, .slice b5 U.l5.length d5, .slice b6 U.l6.length d6, .slice b7 U.l7.length d7]) (w.heap.size + 1 + 1) #[.slice none 0 0, .slice none 0 0, .slice none 0 0, .slice none 0 0, .slice none 0 0, .slice none 0 0, .slice none 0 0, .slice none 0 0, .bool false, .bool false] 27) := (setRow_other _ _ _ _ (by have := ltX; omega)).trans K2.out
          refine hK.out _ _ ?_ (fun hHeld => ?_)
          · exact ⟨K0.out, K1.out, K2.out⟩
          clear hK K
          try simp only [List.foldl, Act.put, List.setIfInBounds_toArray, List.set_cons_zero, List.set_cons_succ]
          generalize hGe : (g14.setRow kb #[.slice b0 U.l0.length d0, .slice b1 U.l1.length d1, .slice b2 U.l2.length d2, .slice b3 U.l3.length d3, .slice b4 U.l4.length d4, .slice b5 U.l5.length d5, .slice b6 U.l6.length d6, .slice b7 U.l7.length d7]) = g15 at Ka Kb hHeld LX K0 K1 K2 ⊢
          clear hGe hlx
          refine wpAnyH_done (by kernel_rfl) ?_ _
          go_wp2_with fail
          go_meet
          exact ⟨ka, kb, rfl, rfl, Ka.out, Kb.out, HXa.out, HXb.out, NEQ.out, LX.out⟩
        refine AllReadyH.cons rfl (fun K hK => ?_) AllReadyH.nil
        go_simp
        have hg : Below g11.heap.size g11 (g11.alloc (.cells #[.slice none 0 0, .slice none 0 0, .slice none 0 0, .slice none 0 0, .slice none 0 0, .slice none 0 0, .slice none 0 0, .slice none 0 0] 46)) := bl_alloc (Below.refl _ _) _
        have Kb : Hid (Blk (g11.alloc (.cells #[.slice none 0 0, .slice none 0 0, .slice none 0 0, .slice none 0 0, .slice none 0 0, .slice none 0 0, .slice none 0 0, .slice none 0 0] 46)) g11.heap.size #[.slice none 0 0, .slice none 0 0, .slice none 0 0, .slice none 0 0, .slice none 0 0, .slice none 0 0, .slice none 0 0, .slice none 0 0] 46) := Blk.new _ _ _
        have hxs : X.heap.size ≤ g11.heap.size := LX.out.size
        have NE : Hid (¬ ka = g11.heap.size) := by have := Ka.out.lt; show ¬ _; omega
        have LX : Hid (Below X.heap.size X (g11.alloc (.cells #[.slice none 0 0, .slice none 0 0, .slice none 0 0, .slice none 0 0, .slice none 0 0, .slice none 0 0, .slice none 0 0, .slice none 0 0] 46))) := bl_trans LX.out hg
        have K0 : Hid (Blk (g11.alloc (.cells #[.slice none 0 0, .slice none 0 0, .slice none 0 0, .slice none 0 0, .slice none 0 0, .slice none 0 0, .slice none 0 0, .slice none 0 0] 46)) w.heap.size #[.slice a0 V.l0.length c0, .slice a1 V.l1.length c1, .slice a2 V.l2.length c2, .slice a3 V.l3.length c3, .slice a4 V.l4.length c4, .slice a5 V.l5.length c5, .slice a6 V.l6.length c6, .slice a7 V.l7.length c7, .bool V.sp, .bool V.kl] 27) := K0.out.later hg
        have K1 : Hid (Blk (g11.alloc (.cells #[.slice none 0 0, .slice none 0 0, .slice none 0 0, .slice none 0 0, .slice none 0 0, .slice none 0 0, .slice none 0 0, .slice none 0 0] 46)) (w.heap.size + 1) #[.slice b0 U.l0.length d0, .slice b1 U.l1.length d1, .slice b2 U.l2.length d2, .slice b3 U.l3.length d3, .slice b4 U.l4.length d4, .slice b5 U.l5.length d5, .slice b6 U.l6.length d6, .slice b7 U.l7.length d7, .bool U.sp, .bool U.kl] 27) := K1.out.later hg
        have K2 : Hid (Blk (g11.alloc (.cells #[.slice none 0 0, .slice none 0 0, .slice none 0 0, .slice none 0 0, .slice none 0 0, .slice none 0 0, .slice none 0 0, .slice none 0 0] 46)) (w.heap.size + 1 + 1) #[.slice none 0 0, .slice none 0 0, .slice none 0 0, .slice none 0 0, .slice none 0 0, .slice none 0 0, .slice none 0 0, .slice none 0 0, .bool false, .bool false] 27) := K2.out.later hg
        have Ka : Hid (Blk (g11.alloc (.cells #[.slice none 0 0, .slice none 0 0, .slice none 0 0, .slice none 0 0, .slice none 0 0, .slice none 0 0, .slice none 0 0, .slice none 0 0] 46)) ka #[.slice none 0 0, .slice none 0 0, .slice none 0 0, .slice none 0 0, .slice none 0 0, .slice none 0 0, .slice none 0 0, .slice none 0 0] 46) := Ka.out.later hg
        clear hg
        refine hK.out _ _ ?_ (fun hHeld => ?_)
        · exact ⟨K0.out, K1.out, K2.out⟩
        clear hK K
        try simp only [List.foldl, Act.put, List.setIfInBounds_toArray, List.set_cons_zero, List.set_cons_succ]
        generalize hGe : (g11.alloc (.cells #[.slice none 0 0, .slice none 0 0, .slice none 0 0, .slice none 0 0, .slice none 0 0, .slice none 0 0, .slice none 0 0, .slice none 0 0] 46)) = g16 at Kb hHeld LX K0 K1 K2 Ka ⊢
        obtain ⟨kb, hkb⟩ : ∃ k, g11.heap.size = k := ⟨_, rfl⟩
        have HXb : Hid (X.heap.size ≤ kb) := Nat.le_trans hxs (Nat.le_of_eq hkb)
        clear hxs
        rw [hkb] at Kb NE
        try rw [hkb]
        clear hGe hkb
        refine wpAnyH_ready (rs := [3]) (by kernel_rfl) (by simp) ?_
        refine AllReadyH.cons rfl (fun K hK => ?_) AllReadyH.nil
        go_simp
        refine (listsOf_any b0 b1 b2 b3 b4 b5 b6 b7 d0 d1 d2 d3 d4 d5 d6 d7 U _).mono ?_
        rintro z g17 ⟨rfl, hb⟩
        have hc : Below g16.heap.size g16 g17 := hb
        have LX : Hid (Below X.heap.size X g17) := bl_trans LX.out hc
        have K0 : Hid (Blk g17 w.heap.size #[.slice a0 V.l0.length c0, .slice a1 V.l1.length c1, .slice a2 V.l2.length c2, .slice a3 V.l3.length c3, .slice a4 V.l4.length c4, .slice a5 V.l5.length c5, .slice a6 V.l6.length c6, .slice a7 V.l7.length c7, .bool V.sp, .bool V.kl] 27) := K0.out.later hc
        have K1 : Hid (Blk g17 (w.heap.size + 1) #[.slice b0 U.l0.length d0, .slice b1 U.l1.length d1, .slice b2 U.l2.length d2, .slice b3 U.l3.length d3, .slice b4 U.l4.length d4, .slice b5 U.l5.length d5, .slice b6 U.l6.length d6, .slice b7 U.l7.length d7, .bool U.sp, .bool U.kl] 27) := K1.out.later hc
        have K2 : Hid (Blk g17 (w.heap.size + 1 + 1) #[.slice none 0 0, .slice none 0 0, .slice none 0 0, .slice none 0 0, .slice none 0 0, .slice none 0 0, .slice none 0 0, .slice none 0 0, .bool false, .bool false] 27) := K2.out.later hc
        have Ka : Hid (Blk g17 ka #[.slice none 0 0, .slice none 0 0, .slice none 0 0, .slice none 0 0, .slice none 0 0, .slice none 0 0, .slice none 0 0, .slice none 0 0] 46) := Ka.out.later hc
        have Kb : Hid (Blk g17 kb #[.slice none 0 0, .slice none 0 0, .slice none 0 0, .slice none 0 0, .slice none 0 0, .slice none 0 0, .slice none 0 0, .slice none 0 0] 46) := Kb.out.later hc
        clear hb hc
        refine hK.out _ _ ?_ (fun hHeld => ?_)
        · exact ⟨K0.out, K1.out, K2.out⟩
        clear hK K
        try simp only [List.foldl, Act.put, List.setIfInBounds_toArray, List.set_cons_zero, List.set_cons_succ]
        have NEQ : Hid (¬ ka = kb) := by first | exact NE.out | exact fun e => NE.out e.symm
        refine wpAnyH_ready (rs := [6]) (by kernel_rfl) (by simp) ?_
        refine AllReadyH.cons rfl (fun K hK => ?_) AllReadyH.nil
        refine wp_store_row 46 (.tmp 5) (.tmp 10) rfl ka #[.slice a0 V.l0.length c0, .slice a1 V.l1.length c1, .slice a2 V.l2.length c2, .slice a3 V.l3.length c3, .slice a4 V.l4.length c4, .slice a5 V.l5.length c5, .slice a6 V.l6.length c6, .slice a7 V.l7.length c7] rfl rfl 46 _ Ka.out (by rw [Try.infoLs]; rfl) rfl one8 ?_
        have hlx := HXa.out
        have LX : Hid (Below X.heap.size X (g17.setRow ka #[.slice a0 V.l0.length c0, .slice a1 V.l1.length c1, .slice a2 V.l2.length c2, .slice a3 V.l3.length c3, .slice a4 V.l4.length c4, .slice a5 V.l5.length c5, .slice a6 V.l6.length c6, .slice a7 V.l7.length c7])) := below_setRow LX.out hlx _
        have Ka : Hid (Blk (g17.setRow ka #[.slice a0 V.l0.length c0, .slice a1 V.l1.length c1, .slice a2 V.l2.length c2, .slice a3 V.l3.length c3, .slice a4 V.l4.length c4, .slice a5 V.l5.length c5, .slice a6 V.l6.length c6, .slice a7 V.l7.length c7]) ka #[.slice a0 V.l0.length c0, .slice a1 V.l1.length c1, .slice a2 V.l2.length c2, .slice a3 V.l3.length c3, .slice a4 V.l4.length c4, .slice a5 V.l5.length c5, .slice a6 V.l6.length c6, .slice a7 V.l7.length c7] 46) := setRow_heap _ _ _ _ _ _ Ka.out
        have Kb : Hid (Blk (g17.setRow ka #[.slice a0 V.l0.length c0, .slice a1 V.l1.length c1, .slice a2 V.l2.length c2, .slice a3 V.l3.length c3, .slice a4 V.l4.length c4, .slice a5 V.l5.length c5, .slice a6 V.l6.length c6, .slice a7 V.l7.length c7]) kb #[.slice none 0 0, .slice none 0 0, .slice none 0 0, .slice none 0 0, .slice none 0 0, .slice none 0 0, .slice none 0 0, .slice none 0 0] 46) := (setRow_other _ _ _ _ (by have := NEQ.out; omega)).trans Kb.out
        have K0 : Hid (Blk (g17.setRow ka #[.slice a0 V.l0.length c0, .slice a1 V.l1.length c1, .slice a2 V.l2.length c2, .slice a3 V.l3.length c3, .slice a4 V.l4.length c4, .slice a5 V.l5.length c5, .slice a6 V.l6.length c6, .slice a7 V.l7.length c7]) w.heap.size #[.slice a0 V.l0.length c0, .slice a1 V.l1.length c1, .slice a2 V.l2.length c2, .slice a3 V.l3.length c3, .slice a4 V.l4.length c4, .slice a5 V.l5.length c5, .slice a6 V.l6.length c6, .slice a7 V.l7.length c7, .bool V.sp, .bool V.kl] 27) := (setRow_other _ _ _ _ (by have := ltX; omega)).trans K0.out
        have K1 : Hid (Blk (g17.setRow ka #[.slice a0 V.l0.length c0, .slice a1 V.l1.length c1, .slice a2 V.l2.length c2, .slice a3 V.l3.length c3, .slice a4 V.l4.length c4, .slice a5 V.l5.length c5, .slice a6 V.l6.length c6, .slice a7 V.l7.length c7]) (w.heap.size + 1) #[.slice b0 U.l0.length d0, .slice b1 U.l1.length d1, .slice b2 U.l2.length d2, .slice b3 U.l3.length d3, .slice b4 U.l4.length d4, .slice b5 U.l5.length d5, .slice b6 U.l6.length d6, .slice b7 U.l7.length d7, .bool U.sp, .bool U.kl] 27) := (setRow_other _ _ _ _ (by have := ltX; omega)).trans K1.out
        have K2 : Hid (Blk (g17.setRow ka #[.slice a0 V.l0.length c0, .slice a1 V.l1.length c1, .slice a2 V.l2.length c2, .slice a3 V.l3.length c3, .slice a4 V.l4.length c4, .slice a5 V.l5.length c5, .slice a6 V.l6.length c6, .slice a7 V.l7.length c7]) (w.heap.size + 1 + 1) #[.slice none 0 0, .slice none 0 0, .slice none 0 0, .slice none 0 0, .slice none 0 0, .slice none 0 0, .slice none 0 0, .slice none 0 0, .bool false, .bool false] 27) := (setRow_other _ _ _ _ (by have := ltX; omega)).trans K2.out
        refine hK.out _ _ ?_ (fun hHeld => ?_)
        · exact ⟨K0.out, K1.out, K2.out⟩
        clear hK K
        try simp only [List.foldl, Act.put, List.setIfInBounds_toArray, List.set_cons_zero, List.set_cons_succ]
        generalize hGe : (g17.setRow ka #[.slice a0 V.l0.length c0, .slice a1 V.l1.length c1, .slice a2 V.l2.length c2, .slice a3 V.l3.length c3, .slice a4 V.l4.length c4, .slice a5 V.l5.length c5, .slice a6 V.l6.length c6, .slice a7 V.l7.length c7]) = g18 at Ka Kb hHeld LX K0 K1 K2 ⊢
        clear hGe hlx
        refine wpAnyH_ready (rs := [7]) (by kernel_rfl) (by simp) ?_
        refine AllReadyH.cons rfl (fun K hK => ?_) AllReadyH.nil
        refine wp_store_row 46 (.tmp 6) (.tmp 12) rfl kb #[.slice b0 U.l0.length d0, .slice b1 U.l1.length d1, .slice b2 U.l2.length d2, .slice b3 U.l3.length d3, .slice b4 U.l4.length d4, .slice b5 U.l5.length d5, .slice b6 U.l6.length d6, .slice b7 U.l7.length d7] rfl rfl 46 _ Kb.out (by rw [Try.infoLs]; rfl) rfl one8 ?_
        have hlx := HXb.out
        have LX : Hid (Below X.heap.size X (g18.setRow kb #[.slice b0 U.l0.length d0, .slice b1 U.l1.length d1, .slice b2 U.l2.length d2, .slice b3 U.l3.length d3, .slice b4 U.l4.length d4, .slice b5 U.l5.length d5, .slice b6 U.l6.length d6, .slice b7 U.l7.length d7])) := below_setRow LX.out hlx _
        have Kb : Hid (Blk (g18.setRow kb #[.slice b0 U.l0.length d0, .slice b1 U.l1.length d1, .slice b2 U.l2.length d2, .slice b3 U.l3.length d3, .slice b4 U.l4.length d4, .slice b5 U.l5.length d5, .slice b6 U.l6.length d6, .slice b7 U.l7.length d7]) kb #[.slice b0 U.l0.length d0, .slice b1 U.l1.length d1, .slice b2 U.l2.length d2, .slice b3 U.l3.length d3, .slice b4 U.l4.length d4, .slice b5 U.l5.length d5, .slice b6 U.l6.length d6, .slice b7 U.l7.length d7] 46) := setRow_heap _ _ _ _ _ _ Kb.out
        have Ka : Hid (Blk (g18.setRow kb #[.slice b0 U.l0.length d0, .slice b1 U.l1.length d1, .slice b2 U.l2.length d2, .slice b3 U.l3.length d3, .slice b4 U.l4.length d4, .slice b5 U.l5.length d5, .slice b6 U.l6.length d6, .slice b7 U.l7.length d7]) ka #[.slice a0 V.l0.length c0, .slice a1 V.l1.length c1, .slice a2 V.l2.length c2, .slice a3 V.l3.length c3, .slice a4 V.l4.length c4, .slice a5 V.l5.length c5, .slice a6 V.l6.length c6, .slice a7 V.l7.length c7] 46) := (setRow_other _ _ _ _ (by have := NEQ.out; omega)).trans Ka.out
        have K0 : Hid (Blk (g18.setRow kb #[.slice b0 U.l0.length d0, .slice b1 U.l1.length d1, .slice b2 U.l2.length d2, .slice b3 U.l3.length d3, .slice b4 U.l4.length d4, .slice b5 U.l5.length d5, .slice b6 U.l6.length d6, .slice b7 U.l7.length d7]) w.heap.size #[.slice a0 V.l0.length c0, .slice a1 V.l1.length c1, .slice a2 V.l2.length c2, .slice a3 V.l3.length c3, .slice a4 V.l4.length c4, .slice a5 V.l5.length c5, .slice a6 V.l6.length c6, .slice a7 V.l7.length c7, .bool V.sp, .bool V.kl] 27) := (setRow_other _ _ _ _ (by have := ltX; omega)).trans K0.out
        have K1 : Hid (Blk (g18.setRow kb #[.slice b0 U.l0.length d0, .slice b1 U.l1.length d1, .slice b2 U.l2.length d2, .slice b3 U.l3.length d3, .slice b4 U.l4.length d4, .slice b5 U.l5.length d5, .slice b6 U.l6.length d6, .slice b7 U.l7.length d7]) (w.heap.size + 1) #[.slice b0 U.l0.length d0, .slice b1 U.l1.length d1, .slice b2 U.l2.length d2, .slice b3 U.l3.length d3, .slice b4 U.l4.length d4, .slice b5 U.l5.length d5, .slice b6 U.l6.length d6, .slice b7 U.l7.length d7, .bool U.sp, .bool U.kl] 27) := (setRow_other _ _ _ _ (by have := ltX; omega)).trans K1.out
        have K2 : Hid (Blk (g18.setRow kb #[.slice b0 U.l0.length d0, .slice b1 U.l1.length d1, .slice b2 U.l2.length d2, .slice b3 U.l3.length d3, .slice b4 U.l4.length d4, .slice b5 U.l5.length d5, .slice b6 U.l6.length d6, .slice b7 U.l7.length d7]) (w.heap.size + 1 + 1) #[.slice none 0 0, .slice none 0 0, .slice none 0 0, .slice none 0 0, .slice none 0 0, .slice none 0 0, .slice none 0 0, .slice none 0 0, .bool false, .bool false] 27) := (setRow_other _ _ _ _ (by have := ltX; omega)).trans K2.out
        refine hK.out _ _ ?_ (fun hHeld => ?_)
        · exact ⟨K0.out, K1.out, K2.out⟩
        clear hK K
        try simp only [List.foldl, Act.put, List.setIfInBounds_toArray, List.set_cons_zero, List.set_cons_succ]
        generalize hGe : (g18.setRow kb #[.slice b0 U.l0.length d0, .slice b1 U.l1.length d1, .slice b2 U.l2.length d2, .slice b3 U.l3.length d3, .slice b4 U.l4.length d4, .slice b5 U.l5.length d5, .slice b6 U.l6.length d6, .slice b7 U.l7.length d7]) = g19 at Ka Kb hHeld LX K0 K1 K2 ⊢
        clear hGe hlx
        refine wpAnyH_done (by kernel_rfl) ?_ _
        go_wp2_with fail
        go_meet
        exact ⟨ka, kb, rfl, rfl, Ka.out, Kb.out, HXa.out, HXb.out, NEQ.out, LX.out⟩
      refine AllReadyH.cons rfl (fun K hK => ?_) AllReadyH.nil
      go_simp
      have hg : Below g1.heap.size g1 (g1.alloc (.cells #[.slice none 0 0, .slice none 0 0, .slice none 0 0, .slice none 0 0, .slice none 0 0, .slice none 0 0, .slice none 0 0, .slice none 0 0] 46)) := bl_alloc (Below.refl _ _) _
      have Kb : Hid (Blk (g1.alloc (.cells #[.slice none 0 0, .slice none 0 0, .slice none 0 0, .slice none 0 0, .slice none 0 0, .slice none 0 0, .slice none 0 0, .slice none 0 0] 46)) g1.heap.size #[.slice none 0 0, .slice none 0 0, .slice none 0 0, .slice none 0 0, .slice none 0 0, .slice none 0 0, .slice none 0 0, .slice none 0 0] 46) := Blk.new _ _ _
      have hxs : X.heap.size ≤ g1.heap.size := LX.out.size
      have LX : Hid (Below X.heap.size X (g1.alloc (.cells #[.slice none 0 0, .slice none 0 0, .slice none 0 0, .slice none 0 0, .slice none 0 0, .slice none 0 0, .slice none 0 0, .slice none 0 0] 46))) := bl_trans LX.out hg
      have K0 : Hid (Blk (g1.alloc (.cells #[.slice none 0 0, .slice none 0 0, .slice none 0 0, .slice none 0 0, .slice none 0 0, .slice none 0 0, .slice none 0 0, .slice none 0 0] 46)) w.heap.size #[.slice a0 V.l0.length c0, .slice a1 V.l1.length c1, .slice a2 V.l2.length c2, .slice a3 V.l3.length c3, .slice a4 V.l4.length c4, .slice a5 V.l5.length c5, .slice a6 V.l6.length c6, .slice a7 V.l7.length c7, .bool V.sp, .bool V.kl] 27) := K0.out.later hg
      have K1 : Hid (Blk (g1.alloc (.cells #[.slice none 0 0, .slice none 0 0, .slice none 0 0, .slice none 0 0, .slice none 0 0, .slice none 0 0, .slice none 0 0, .slice none 0 0] 46)) (w.heap.size + 1) #[.slice b0 U.l0.length d0, .slice b1 U.l1.length d1, .slice b2 U.l2.length d2, .slice b3 U.l3.length d3, .slice b4 U.l4.length d4, .slice b5 U.l5.length d5, .slice b6 U.l6.length d6, .slice b7 U.l7.length d7, .bool U.sp, .bool U.kl] 27) := K1.out.later hg
      have K2 : Hid (Blk (g1.alloc (.cells #[.slice none 0 0, .slice none 0 0, .slice none 0 0, .slice none 0 0, .slice none 0 0, .slice none 0 0, .slice none 0 0, .slice none 0 0] 46)) (w.heap.size + 1 + 1) #[.slice none 0 0, .slice none 0 0, .slice none 0 0, .slice none 0 0, .slice none 0 0, .slice none 0 0, .slice none 0 0, .slice none 0 0, .bool false, .bool false] 27) := K2.out.later hg
      clear hg
      refine hK.out _ _ ?_ (fun hHeld => ?_)
      · exact ⟨K0.out, K1.out, K2.out⟩
      clear hK K
      try simp only [List.foldl, Act.put, List.setIfInBounds_toArray, List.set_cons_zero, List.set_cons_succ]
      generalize hGe : (g1.alloc (.cells #[.slice none 0 0, .slice none 0 0, .slice none 0 0, .slice none 0 0, .slice none 0 0, .slice none 0 0, .slice none 0 0, .slice none 0 0] 46)) = g20 at Kb hHeld LX K0 K1 K2 ⊢
      obtain ⟨kb, hkb⟩ : ∃ k, g1.heap.size = k := ⟨_, rfl⟩
      have HXb : Hid (X.heap.size ≤ kb) := Nat.le_trans hxs (Nat.le_of_eq hkb)
      clear hxs
      rw [hkb] at Kb
      try rw [hkb]
      clear hGe hkb
      refine wpAnyH_ready (rs := [3, 4]) (by kernel_rfl) (by simp) ?_
      refine AllReadyH.cons rfl (fun K hK => ?_) ?_
      · skip
        go_simp
        refine (listsOf_any b0 b1 b2 b3 b4 b5 b6 b7 d0 d1 d2 d3 d4 d5 d6 d7 U _).mono ?_
        rintro z g21 ⟨rfl, hb⟩
        have hc : Below g20.heap.size g20 g21 := hb
        have LX : Hid (Below X.heap.size X g21) := bl_trans LX.out hc
        have K0 : Hid (Blk g21 w.heap.size #[.slice a0 V.l0.length c0, .slice a1 V.l1.length c1, .slice a2 V.l2.length c2, .slice a3 V.l3.length c3, .slice a4 V.l4.length c4, .slice a5 V.l5.length c5, .slice a6 V.l6.length c6, .slice a7 V.l7.length c7, .bool V.sp, .bool V.kl] 27) := K0.out.later hc
        have K1 : Hid (Blk g21 (w.heap.size + 1) #[.slice b0 U.l0.length d0, .slice b1 U.l1.length d1, .slice b2 U.l2.length d2, .slice b3 U.l3.length d3, .slice b4 U.l4.length d4, .slice b5 U.l5.length d5, .slice b6 U.l6.length d6, .slice b7 U.l7.length d7, .bool U.sp, .bool U.kl] 27) := K1.out.later hc
        have K2 : Hid (Blk g21 (w.heap.size + 1 + 1) #[.slice none 0 0, .slice none 0 0, .slice none 0 0, .slice none 0 0, .slice none 0 0, .slice none 0 0, .slice none 0 0, .slice none 0 0, .bool false, .bool false] 27) := K2.out.later hc
        have Kb : Hid (Blk g21 kb #[.slice none 0 0, .slice none 0 0, .slice none 0 0, .slice none 0 0, .slice none 0 0, .slice none 0 0, .slice none 0 0, .slice none 0 0] 46) := Kb.out.later hc
        clear hb hc
        refine hK.out _ _ ?_ (fun hHeld => ?_)
        · exact ⟨K0.out, K1.out, K2.out⟩
        clear hK K
        try simp only [List.foldl, Act.put, List.setIfInBounds_toArray, List.set_cons_zero, List.set_cons_succ]
        refine wpAnyH_ready (rs := [4]) (by kernel_rfl) (by simp) ?_
        refine AllReadyH.cons rfl (fun K hK => ?_) AllReadyH.nil
        go_simp
        have hg : Below g21.heap.size g21 (g21.alloc (.cells #[.slice none 0 0, .slice none 0 0, .slice none 0 0, .slice none 0 0, .slice none 0 0, .slice none 0 0, .slice none 0 0, .slice none 0 0] 46)) := bl_alloc (Below.refl _ _) _
        have Ka : Hid (Blk (g21.alloc (.cells #[.slice none 0 0, .slice none 0 0, .slice none 0 0, .slice none 0 0, .slice none 0 0, .slice none 0 0, .slice none 0 0, .slice none 0 0] 46)) g21.heap.size #[.slice none 0 0, .slice none 0 0, .slice none 0 0, .slice none 0 0, .slice none 0 0, .slice none 0 0, .slice none 0 0, .slice none 0 0] 46) := Blk.new _ _ _
        have hxs : X.heap.size ≤ g21.heap.size := LX.out.size
        have NE : Hid (¬ kb = g21.heap.size) := by have := Kb.out.lt; show ¬ _; omega
        have LX : Hid (Below X.heap.size X (g21.alloc (.cells #[.slice none 0 0, .slice none 0 0, .slice none 0 0, .slice none 0 0, .slice none 0 0, .slice none 0 0, .slice none 0 0, .slice none 0 0] 46))) := bl_trans LX.out hg
        have K0 : Hid (Blk (g21.alloc (.cells #[.slice none 0 0, .slice none 0 0, .slice none 0 0, .slice none 0 0, .slice none 0 0, .slice none 0 0, .slice none 0 0, .slice none 0 0] 46)) w.heap.size #[.slice a0 V.l0.length c0, .slice a1 V.l1.length c1, .slice a2 V.l2.length c2, .slice a3 V.l3.length c3, .slice a4 V.l4.length c4, .slice a5 V.l5.length c5, .slice a6 V.l6.length c6, .slice a7 V.l7.length c7, .bool V.sp, .bool V.kl] 27) := K0.out.later hg
        have K1 : Hid (Blk (g21.alloc (.cells #[.slice none 0 0, .slice none 0 0, .slice none 0 0, .slice none 0 0, .slice none 0 0, .slice none 0 0, .slice none 0 0, .slice none 0 0] 46)) (w.heap.size + 1) #[.slice b0 U.l0.length d0, .slice b1 U.l1.length d1, .slice b2 U.l2.length d2, .slice b3 U.l3.length d3, .slice b4 U.l4.length d4, .slice b5 U.l5.length d5, .slice b6 U.l6.length d6, .slice b7 U.l7.length d7, .bool U.sp, .bool U.kl] 27) := K1.out.later hg
        have K2 : Hid (Blk (g21.alloc (.cells #[.slice none 0 0, .slice none 0 0, .slice none 0 0, .slice none 0 0, .slice none 0 0, .slice none 0 0, .slice none 0 0, .slice none 0 0] 46)) (w.heap.size + 1 + 1) #[.slice none 0 0, .slice none 0 0, .slice none 0 0, .slice none 0 0, .slice none 0 0, .slice none 0 0, .slice none 0 0, .slice none 0 0, .bool false, .bool false] 27) := K2.out.later hg
        have Kb : Hid (Blk (g21.alloc (.cells #[.slice none 0 0, .slice none 0 0, .slice none 0 0, .slice none 0 0, .slice none 0 0, .slice none 0 0, .slice none 0 0, .slice none 0 0] 46)) kb #[.slice none 0 0, .slice none 0 0, .slice none 0 0, .slice none 0 0, .slice none 0 0, .slice none 0 0, .slice none 0 0, .slice none 0 0] 46) := Kb.out.later hg
        clear hg
        refine hK.out _ _ ?_ (fun hHeld => ?_)
        · exact ⟨K0.out, K1.out, K2.out⟩
        clear hK K
        try simp only [List.foldl, Act.put, List.setIfInBounds_toArray, List.set_cons_zero, List.set_cons_succ]
        generalize hGe : (g21.alloc (.cells #[.slice none 0 0, .slice none 0 0, .slice none 0 0, .slice none 0 0, .slice none 0 0, .slice none 0 0, .slice none 0 0, .slice none 0 0] 46)) = g22 at Ka hHeld LX K0 K1 K2 Kb ⊢
        obtain ⟨ka, hka⟩ : ∃ k, g21.heap.size = k := ⟨_, rfl⟩
        have HXa : Hid (X.heap.size ≤ ka) := Nat.le_trans hxs (Nat.le_of_eq hka)
        clear hxs
        rw [hka] at Ka NE
        try rw [hka]
        clear hGe hka
        have NEQ : Hid (¬ ka = kb) := by first | exact NE.out | exact fun e => NE.out e.symm
        refine wpAnyH_ready (rs := [6]) (by kernel_rfl) (by simp) ?_
        refine AllReadyH.cons rfl (fun K hK => ?_) AllReadyH.nil
        refine wp_store_row 46 (.tmp 5) (.tmp 10) rfl ka #[.slice a0 V.l0.length c0, .slice a1 V.l1.length c1, .slice a2 V.l2.length c2, .slice a3 V.l3.length c3, .slice a4 V.l4.length c4, .slice a5 V.l5.length c5, .slice a6 V.l6.length c6, .slice a7 V.l7.length c7] rfl rfl 46 _ Ka.out (by rw [Try.infoLs]; rfl) rfl one8 ?_
        have hlx := HXa.out
        have LX : Hid (Below X.heap.size X (g22.setRow ka #[.slice a0 V.l0.length c0, .slice a1 V.l1.length c1, .slice a2 V.l2.length c2, .slice a3 V.l3.length c3, .slice a4 V.l4.length c4, .slice a5 V.l5.length c5, .slice a6 V.l6.length c6, .slice a7 V.l7.length c7])) := below_setRow LX.out hlx _
        have Ka : Hid (Blk (g22.setRow ka #[.slice a0 V.l0.length c0, .slice a1 V.l1.length c1, .slice a2 V.l2.length c2, .slice a3 V.l3.length c3, .slice a4 V.l4.length c4, .slice a5 V.l5.length c5, .slice a6 V.l6.length c6, .slice a7 V.l7.length c7]) ka #[.slice a0 V.l0.length c0, .slice a1 V.l1.length c1, .slice a2 V.l2.length c2, .slice a3 V.l3.length c3, .slice a4 V.l4.length c4, .slice a5 V.l5.length c5, .slice a6 V.l6.length c6, .slice a7 V.l7.length c7] 46) := setRow_heap _ _ _ _ _ _ Ka.out
        have Kb : Hid (Blk (g22.setRow ka #[.slice a0 V.l0.length c0, .slice a1 V.l1.length c1, .slice a2 V.l2.length c2, .slice a3 V.l3.length c3, .slice a4 V.l4.length c4, .slice a5 V.l5.length c5, .slice a6 V.l6.length c6, .slice a7 V.l7.length c7]) kb #[.slice none 0 0, .slice none 0 0, .slice none 0 0, .slice none 0 0, .slice none 0 0, .slice none 0 0, .slice none 0 0, .slice none 0 0] 46) := (setRow_other _ _ _ _ (by have := NEQ.out; omega)).trans Kb.out
        have K0 : Hid (Blk (g22.setRow ka #[.slice a0 V.l0.length c0, .slice a1 V.l1.length c1, .slice a2 V.l2.length c2, .slice a3 V.l3.length c3, .slice a4 V.l4.length c4, .slice a5 V.l5.length c5, .slice a6 V.l6.length c6, .slice a7 V.l7.length c7]) w.heap.size #[.slice a0 V.l0.length c0, .slice a1 V.l1.length c1, .slice a2 V.l2.length c2, .slice a3 V.l3.length c3, .slice a4 V.l4.length c4, .slice a5 V.l5.length c5, .slice a6 V.l6.length c6, .slice a7 V.l7.length c7, .bool V.sp, .bool V.kl] 27) := (setRow_other _ _ _ _ (by have := ltX; omega)).trans K0.out
        have K1 : Hid (Blk (g22.setRow ka #[.slice a0 V.l0.length c0, .slice a1 V.l1.length c1, .slice a2 V.l2.length c2, .slice a3 V.l3.length c3, .slice a4 V.l4.length c4, .slice a5 V.l5.length c5, .slice a6 V.l6.length c6, .slice a7 V.l7.length c7]) (w.heap.size + 1) #[.slice b0 U.l0.length d0, .slice b1 U.l1.length d1, .slice b2 U.l2.length d2, .slice b3 U.l3.length d3, .slice b4 U.l4.length d4, .slice b5 U.l5.length d5, .slice b6 U.l6.length d6, .slice b7 U.l7.length d7, .bool U.sp, .bool U.kl] 27) := (setRow_other _ _ _ _ (by have := ltX; omega)).trans K1.out
        have K2 : Hid (Blk (g22.setRow ka #[.slice a0 V.l0.length c0, .slice a1 V.l1.length c1, .slice a2 V.l2.length c2, .slice a3 V.l3.length c3, .slice a4 V.l4.length c4, .slice a5 V.l5.length c5, .slice a6 V.l6.length c6, .slice a7 V.l7.length c7]) (w.heap.size + 1 + 1) #[.slice none 0 0, .slice none 0 0, .slice none 0 0, .slice none 0 0, .slice none 0 0, .slice none 0 0, .slice none 0 0, .slice none 0 0, .bool false, .bool false] 27) := (setRow_other _ _ _ _ (by have := ltX; omega)).trans K2.out
        refine hK.out _ _ ?_ (fun hHeld => ?_)
        · exact ⟨K0.out, K1.out, K2.out⟩
        clear hK K
        try simp only [List.foldl, Act.put, List.setIfInBounds_toArray, List.set_cons_zero, List.set_cons_succ]
        generalize hGe : (g22.setRow ka #[.slice a0 V.l0.length c0, .slice a1 V.l1.length c1, .slice a2 V.l2.length c2, .slice a3 V.l3.length c3, .slice a4 V.l4.length c4, .slice a5 V.l5.length c5, .slice a6 V.l6.length c6, .slice a7 V.l7.length c7]) = g23 at Ka Kb hHeld LX K0 K1 K2 ⊢
        clear hGe hlx
        refine wpAnyH_ready (rs := [7]) (by kernel_rfl) (by simp) ?_
        refine AllReadyH.cons rfl (fun K hK => ?_) AllReadyH.nil
        refine wp_store_row 46 (.tmp 6) (.tmp 12) rfl kb #[.slice b0 U.l0.length d0, .slice b1 U.l1.length d1, .slice b2 U.l2.length d2, .slice b3 U.l3.length d3, .slice b4 U.l4.length d4, .slice b5 U.l5.length d5, .slice b6 U.l6.length d6, .slice b7 U.l7.length d7] rfl rfl 46 _ Kb.out (by rw [Try.infoLs]; rfl) rfl one8 ?_
        have hlx := HXb.out
        have LX : Hid (Below X.heap.size X (g23.setRow kb #[.slice b0 U.l0.length d0, .slice b1 U.l1.length d1, .slice b2 U.l2.length d2, .slice b3 U.l3.length d3, .slice b4 U.l4.length d4, .slice b5 U.l5.length d5, .slice b6 U.l6.length d6, .slice b7 U.l7.length d7])) := below_setRow LX.out hlx _
        have Kb : Hid (Blk (g23.setRow kb #[.slice b0 U.l0.length d0, .slice b1 U.l1.length d1, .slice b2 U.l2.length d2, .slice b3 U.l3.length d3, .slice b4 U.l4.length d4, .slice b5 U.l5.length d5, .slice b6 U.l6.length d6, .slice b7 U.l7.length d7]) kb #[.slice b0 U.l0.length d0, .slice b1 U.l1.length d1, .slice b2 U.l2.length d2, .slice b3 U.l3.length d3, .slice b4 U.l4.length d4, .slice b5 U.l5.length d5, .slice b6 U.l6.length d6, .slice b7 U.l7.length d7] 46) := setRow_heap _ _ _ _ _ _ Kb.out
        have Ka : Hid (Blk (g23.setRow kb #[.slice b0 U.l0.length d0, .slice b1 U.l1.length d1, .slice b2 U.l2.length d2, .slice b3 U.l3.length d3, .slice b4 U.l4.length d4, .slice b5 U.l5.length d5, .slice b6 U.l6.length d6, .slice b7 U.l7.length d7]) ka #[.slice a0 V.l0.length c0, .slice a1 V.l1.length c1, .slice a2 V.l2.length c2, .slice a3 V.l3.length c3, .slice a4 V.l4.length c4, .slice a5 V.l5.length c5, .slice a6 V.l6.length c6, .slice a7 V.l7.length c7] 46) := (setRow_other _ _ _ _ (by have := NEQ.out; omega)).trans Ka.out
        have K0 : Hid (Blk (g23.setRow kb #[.slice b0 U.l0.length d0, .slice b1 U.l1.length d1, .slice b2 U.l2.length d2, .slice b3 U.l3.length d3, .slice b4 U.l4.length d4, .slice b5 U.l5.length d5, .slice b6 U.l6.length d6, .slice b7 U.l7.length d7]) w.heap.size #[.slice a0 V.l0.length c0, .slice a1 V.l1.length c1, .slice a2 V.l2.length c2, .slice a3 V.l3.length c3, .slice a4 V.l4.length c4, .slice a5 V.l5.length c5, .slice a6 V.l6.length c6, .slice a7 V.l7.length c7, .bool V.sp, .bool V.kl] 27) := (setRow_other _ _ _ _ (by have := ltX; omega)).trans K0.out
        have K1 : Hid (Blk (g23.setRow kb #[.slice b0 U.l0.length d0, .slice b1 U.l1.length d1, .slice b2 U.l2.length d2, .slice b3 U.l3.length d3, .slice b4 U.l4.length d4, .slice b5 U.l5.length d5, .slice b6 U.l6.length d6, .slice b7 U.l7.length d7]) (w.heap.size + 1) #[.slice b0 U.l0.length d0, .slice b1 U.l1.length d1, .slice b2 U.l2.length d2, .slice b3 U.l3.length d3, .slice b4 U.l4.length d4, .slice b5 U.l5.length d5, .slice b6 U.l6.length d6, .slice b7 U.l7.length d7, .bool U.sp, .bool U.kl] 27) := (setRow_other _ _ _ _ (by have := ltX; omega)).trans K1.out
        have K2 : Hid (Blk (g23.setRow kb #[.slice b0 U.l0.length d0, .slice b1 U.l1.length d1, .slice b2 U.l2.length d2, .slice b3 U.l3.length d3, .slice b4 U.l4.length d4, .slice b5 U.l5.length d5, .slice b6 U.l6.length d6, .slice b7 U.l7.length d7]) (w.heap.size + 1 + 1) #[.slice none 0 0, .slice none 0 0, .slice none 0 0, .slice none 0 0, .slice none 0 0, .slice none 0 0, .slice none 0 0, .slice none 0 0, .bool false, .bool false] 27) := (setRow_other _ _ _ _ (by have := ltX; omega)).trans K2.out
        refine hK.out _ _ ?_ (fun hHeld => ?_)
        · exact ⟨K0.out, K1.out, K2.out⟩
        clear hK K
        try simp only [List.foldl, Act.put, List.setIfInBounds_toArray, List.set_cons_zero, List.set_cons_succ]
        generalize hGe : (g23.setRow kb #[.slice b0 U.l0.length d0, .slice b1 U.l1.length d1, .slice b2 U.l2.length d2, .slice b3 U.l3.length d3, .slice b4 U.l4.length d4, .slice b5 U.l5.length d5, .slice b6 U.l6.length d6, .slice b7 U.l7.length d7]) = g24 at Ka Kb hHeld LX K0 K1 K2 ⊢
        clear hGe hlx
        refine wpAnyH_done (by kernel_rfl) ?_ _
        go_wp2_with fail
        go_meet
        exact ⟨ka, kb, rfl, rfl, Ka.out, Kb.out, HXa.out, HXb.out, NEQ.out, LX.out⟩
      refine AllReadyH.cons rfl (fun K hK => ?_) AllReadyH.nil
      go_simp
      have hg : Below g20.heap.size g20 (g20.alloc (.cells #[.slice none 0 0, .slice none 0 0, .slice none 0 0, .slice none 0 0, .slice none 0 0, .slice none 0 0, .slice none 0 0, .slice none 0 0] 46)) := bl_alloc (Below.refl _ _) _
      have Ka : Hid (Blk (g20.alloc (.cells #[.slice none 0 0, .slice none 0 0, .slice none 0 0, .slice none 0 0, .slice none 0 0, .slice none 0 0, .slice none 0 0, .slice none 0 0] 46)) g20.heap.size #[.slice none 0 0, .slice none 0 0, .slice none 0 0, .slice none 0 0, .slice none 0 0, .slice none 0 0, .slice none 0 0, .slice none 0 0] 46) := Blk.new _ _ _
      have hxs : X.heap.size ≤ g20.heap.size := LX.out.size
      have NE : Hid (¬ kb = g20.heap.size) := by have := Kb.out.lt; show ¬ _; omega
      have LX : Hid (Below X.heap.size X (g20.alloc (.cells #[.slice none 0 0, .slice none 0 0, .slice none 0 0, .slice none 0 0, .slice none 0 0, .slice none 0 0, .slice none 0 0, .slice none 0 0] 46))) := bl_trans LX.out hg
      have K0 : Hid (Blk (g20.alloc (.cells #[.slice none 0 0, .slice none 0 0, .slice none 0 0, .slice none 0 0, .slice none 0 0, .slice none 0 0, .slice none 0 0, .slice none 0 0] 46)) w.heap.size #[.slice a0 V.l0.length c0, .slice a1 V.l1.length c1, .slice a2 V.l2.length c2, .slice a3 V.l3.length c3, .slice a4 V.l4.length c4, .slice a5 V.l5.length c5, .slice a6 V.l6.length c6, .slice a7 V.l7.length c7, .bool V.sp, .bool V.kl] 27) := K0.out.later hg
      have K1 : Hid (Blk (g20.alloc (.cells #[.slice none 0 0, .slice none 0 0, .slice none 0 0, .slice none 0 0, .slice none 0 0, .slice none 0 0, .slice none 0 0, .slice none 0 0] 46)) (w.heap.size + 1) #[.slice b0 U.l0.length d0, .slice b1 U.l1.length d1, .slice b2 U.l2.length d2, .slice b3 U.l3.length d3, .slice b4 U.l4.length d4, .slice b5 U.l5.length d5, .slice b6 U.l6.length d6, .slice b7 U.l7.length d7, .bool U.sp, .bool U.kl] 27) := K1.out.later hg
      have K2 : Hid (Blk (g20.alloc (.cells #[.slice none 0 0, .slice none 0 0, .slice none 0 0, .slice none 0 0, .slice none 0 0, .slice none 0 0, .slice none 0 0, .slice none 0 0] 46)) (w.heap.size + 1 + 1) #[.slice none 0 0, .slice none 0 0, .slice none 0 0, .slice none 0 0, .slice none 0 0, .slice none 0 0, .slice none 0 0, .slice none 0 0, .bool false, .bool false] 27) := K2.out.later hg
      have Kb : Hid (Blk (g20.alloc (.cells #[.slice none 0 0, .slice none 0 0, .slice none 0 0, .slice none 0 0, .slice none 0 0, .slice none 0 0, .slice none 0 0, .slice none 0 0] 46)) kb #[.slice none 0 0, .slice none 0 0, .slice none 0 0, .slice none 0 0, .slice none 0 0, .slice none 0 0, .slice none 0 0, .slice none 0 0] 46) := Kb.out.later hg
      clear hg
      refine hK.out _ _ ?_ (fun hHeld => ?_)
      · exact ⟨K0.out, K1.out, K2.out⟩
      clear hK K
      try simp only [List.foldl, Act.put, List.setIfInBounds_toArray, List.set_cons_zero, List.set_cons_succ]
      generalize hGe : (g20.alloc (.cells #[.slice none 0 0, .slice none 0 0, .slice none 0 0, .slice none 0 0, .slice none 0 0, .slice none 0 0, .slice none 0 0, .slice none 0 0] 46)) = g25 at Ka hHeld LX K0 K1 K2 Kb ⊢
      obtain ⟨ka, hka⟩ : ∃ k, g20.heap.size = k := ⟨_, rfl⟩
      have HXa : Hid (X.heap.size ≤ ka) := Nat.le_trans hxs (Nat.le_of_eq hka)
      clear hxs
      rw [hka] at Ka NE
      try rw [hka]
      clear hGe hka
      refine wpAnyH_ready (rs := [3]) (by kernel_rfl) (by simp) ?_
      refine AllReadyH.cons rfl (fun K hK => ?_) AllReadyH.nil
      go_simp
      refine (listsOf_any b0 b1 b2 b3 b4 b5 b6 b7 d0 d1 d2 d3 d4 d5 d6 d7 U _).mono ?_
      rintro z g26 ⟨rfl, hb⟩
      have hc : Below g25.heap.size g25 g26 := hb
      have LX : Hid (Below X.heap.size X g26) := bl_trans LX.out hc
      have K0 : Hid (Blk g26 w.heap.size #[.slice a0 V.l0.length c0, .slice a1 V.l1.length c1, .slice a2 V.l2.length c2, .slice a3 V.l3.length c3, .slice a4 V.l4.length c4, .slice a5 V.l5.length c5, .slice a6 V.l6.length c6, .slice a7 V.l7.length c7, .bool V.sp, .bool V.kl] 27) := K0.out.later hc
      have K1 : Hid (Blk g26 (w.heap.size + 1) #[.slice b0 U.l0.length d0, .slice b1 U.l1.length d1, .slice b2 U.l2.length d2, .slice b3 U.l3.length d3, .slice b4 U.l4.length d4, .slice b5 U.l5.length d5, .slice b6 U.l6.length d6, .slice b7 U.l7.length d7, .bool U.sp, .bool U.kl] 27) := K1.out.later hc
      have K2 : Hid (Blk g26 (w.heap.size + 1 + 1) #[.slice none 0 0, .slice none 0 0, .slice none 0 0, .slice none 0 0, .slice none 0 0, .slice none 0 0, .slice none 0 0, .slice none 0 0, .bool false, .bool false] 27) := K2.out.later hc
      have Kb : Hid (Blk g26 kb #[.slice none 0 0, .slice none 0 0, .slice none 0 0, .slice none 0 0, .slice none 0 0, .slice none 0 0, .slice none 0 0, .slice none 0 0] 46) := Kb.out.later hc
      have Ka : Hid (Blk g26 ka #[.slice none 0 0, .slice none 0 0, .slice none 0 0, .slice none 0 0, .slice none 0 0, .slice none 0 0, .slice none 0 0, .slice none 0 0] 46) := Ka.out.later hc
      clear hb hc
      refine hK.out _ _ ?_ (fun hHeld => ?_)
      · exact ⟨K0.out, K1.out, K2.out⟩
      clear hK K
      try simp only [List.foldl, Act.put, List.setIfInBounds_toArray, List.set_cons_zero, List.set_cons_succ]
      have NEQ : Hid (¬ ka = kb) := by first | exact NE.out | exact fun e => NE.out e.symm
      refine wpAnyH_ready (rs := [6]) (by kernel_rfl) (by simp) ?_
      refine AllReadyH.cons rfl (fun K hK => ?_) AllReadyH.nil
      refine wp_store_row 46 (.tmp 5) (.tmp 10) rfl ka #[.slice a0 V.l0.length c0, .slice a1 V.l1.length c1, .slice a2 V.l2.length c2, .slice a3 V.l3.length c3, .slice a4 V.l4.length c4, .slice a5 V.l5.length c5, .slice a6 V.l6.length c6, .slice a7 V.l7.length c7] rfl rfl 46 _ Ka.out (by rw [Try.infoLs]; rfl) rfl one8 ?_
      have hlx := HXa.out
      have LX : Hid (Below X.heap.size X (g26.setRow ka #[.slice a0 V.l0.length c0, .slice a1 V.l1.length c1, .slice a2 V.l2.length c2, .slice a3 V.l3.length c3, .slice a4 V.l4.length c4, .slice a5 V.l5.length c5, .slice a6 V.l6.length c6, .slice a7 V.l7.length c7])) := below_setRow LX.out hlx _
      have Ka : Hid (Blk (g26.setRow ka #[.slice a0 V.l0.length c0, .slice a1 V.l1.length c1, .slice a2 V.l2.length c2, .slice a3 V.l3.length c3, .slice a4 V.l4.length c4, .slice a5 V.l5.length c5, .slice a6 V.l6.length c6, .slice a7 V.l7.length c7]) ka #[.slice a0 V.l0.length c0, .slice a1 V.l1.length c1, .slice a2 V.l2.length c2, .slice a3 V.l3.length c3, .slice a4 V.l4.length c4, .slice a5 V.l5.length c5, .slice a6 V.l6.length c6, .slice a7 V.l7.length c7] 46) := setRow_heap _ _ _ _ _ _ Ka.out
      have Kb : Hid (Blk (g26.setRow ka #[.slice a0 V.l0.length c0, .slice a1 V.l1.length c1, .slice a2 V.l2.length c2, .slice a3 V.l3.length c3, .slice a4 V.l4.length c4, .slice a5 V.l5.length c5, .slice a6 V.l6.length c6, .slice a7 V.l7.length c7]) kb #[.slice none 0 0, .slice none 0 0, .slice none 0 0, .slice none 0 0, .slice none 0 0, .slice none 0 0, .slice none 0 0, .slice none 0 0] 46) := (setRow_other _ _ _ _ (by have := NEQ.out; omega)).trans Kb.out
      have K0 : Hid (Blk (g26.setRow ka #[.slice a0 V.l0.length c0, .slice a1 V.l1.length c1, .slice a2 V.l2.length c2, .slice a3 V.l3.length c3, .slice a4 V.l4.length c4, .slice a5 V.l5.length c5, .slice a6 V.l6.length c6, .slice a7 V.l7.length c7]) w.heap.size #[.slice a0 V.l0.length c0, .slice a1 V.l1.length c1, .slice a2 V.l2.length c2, .slice a3 V.l3.length c3, .slice a4 V.l4.length c4, .slice a5 V.l5.length c5, .slice a6 V.l6.length c6, .slice a7 V.l7.length c7, .bool V.sp, .bool V.kl] 27) := (setRow_other _ _ _ _ (by have := ltX; omega)).trans K0.out
      have K1 : Hid (Blk (g26.setRow ka #[.slice a0 V.l0.length c0, .slice a1 V.l1.length c1, .slice a2 V.l2.length c2, .slice a3 V.l3.length c3, .slice a4 V.l4.length c4, .slice a5 V.l5.length c5, .slice a6 V.l6.length c6, .slice a7 V.l7.length c7]) (w.heap.size + 1) #[.slice b0 U.l0.length d0, .slice b1 U.l1.length d1, .slice b2 U.l2.length d2, .slice b3 U.l3.length d3, .slice b4 U.l4.length d4, .slice b5 U.l5.length d5, .slice b6 U.l6.length d6, .slice b7 U.l7.length d7, .bool U.sp, .bool U.kl] 27) := (setRow_other _ _ _ _ (by have := ltX; omega)).trans K1.out
      have K2 : Hid (Blk (g26.setRow ka #[.slice a0 V.l0.length c0, .slice a1 V.l1.length c1, .slice a2 V.l2.length c2, .slice a3 V.l3.length c3, .slice a4 V.l4.length c4, .slice a5 V.l5.length c5, .slice a6 V.l6.length c6, .slice a7 V.l7.length c7]) (w.heap.size + 1 + 1) #[.slice none 0 0, .slice none 0 0, .slice none 0 0, .slice none 0 0, .slice none 0 0, .slice none 0 0, .slice none 0 0, .slice none 0 0, .bool false, .bool false] 27) := (setRow_other _ _ _ _ (by have := ltX; omega)).trans K2.out
      refine hK.out _ _ ?_ (fun hHeld => ?_)
      · exact ⟨K0.out, K1.out, K2.out⟩
      clear hK K
      try simp only [List.foldl, Act.put, List.setIfInBounds_toArray, List.set_cons_zero, List.set_cons_succ]
      generalize hGe : (g26.setRow ka #[.slice a0 V.l0.length c0, .slice a1 V.l1.length c1, .slice a2 V.l2.length c2, .slice a3 V.l3.length c3, .slice a4 V.l4.length c4, .slice a5 V.l5.length c5, .slice a6 V.l6.length c6, .slice a7 V.l7.length c7]) = g27 at Ka Kb hHeld LX K0 K1 K2 ⊢
      clear hGe hlx
      refine wpAnyH_ready (rs := [7]) (by kernel_rfl) (by simp) ?_
      refine AllReadyH.cons rfl (fun K hK => ?_) AllReadyH.nil
      refine wp_store_row 46 (.tmp 6) (.tmp 12) rfl kb #[.slice b0 U.l0.length d0, .slice b1 U.l1.length d1, .slice b2 U.l2.length d2, .slice b3 U.l3.length d3, .slice b4 U.l4.length d4, .slice b5 U.l5.length d5, .slice b6 U.l6.length d6, .slice b7 U.l7.length d7] rfl rfl 46 _ Kb.out (by rw [Try.infoLs]; rfl) rfl one8 ?_
      have hlx := HXb.out
      have LX : Hid (Below X.heap.size X (g27.setRow kb #[.slice b0 U.l0.length d0, .slice b1 U.l1.length d1, .slice b2 U.l2.length d2, .slice b3 U.l3.length d3, .slice b4 U.l4.length d4, .slice b5 U.l5.length d5, .slice b6 U.l6.length d6, .slice b7 U.l7.length d7])) := below_setRow LX.out hlx _
      have Kb : Hid (Blk (g27.setRow kb #[.slice b0 U.l0.length d0, .slice b1 U.l1.length d1, .slice b2 U.l2.length d2, .slice b3 U.l3.length d3, .slice b4 U.l4.length d4, .slice b5 U.l5.length d5, .slice b6 U.l6.length d6, .slice b7 U.l7.length d7]) kb #[.slice b0 U.l0.length d0, .slice b1 U.l1.length d1, .slice b2 U.l2.length d2, .slice b3 U.l3.length d3, .slice b4 U.l4.length d4, .slice b5 U.l5.length d5, .slice b6 U.l6.length d6, .slice b7 U.l7.length d7] 46) := setRow_heap _ _ _ _ _ _ Kb.out
      have Ka : Hid (Blk (g27.setRow kb #[.slice b0 U.l0.length d0, .slice b1 U.l1.length d1, .slice b2 U.l2.length d2, .slice b3 U.l3.length d3, .slice b4 U.l4.length d4, .slice b5 U.l5.length d5, .slice b6 U.l6.length d6, .slice b7 U.l7.length d7]) ka #[.slice a0 V.l0.length c0, .slice a1 V.l1.length c1, .slice a2 V.l2.length c2, .slice a3 V.l3.length c3, .slice a4 V.l4.length c4, .slice a5 V.l5.length c5, .slice a6 V.l6.length c6, .slice a7 V.l7.length c7] 46) := (setRow_other _ _ _ _ (by have := NEQ.out; omega)).trans Ka.out
      have K0 : Hid (Blk (g27.setRow kb #[.slice b0 U.l0.length d0, .slice b1 U.l1.length d1, .slice b2 U.l2.length d2, .slice b3 U.l3.length d3, .slice b4 U.l4.length d4, .slice b5 U.l5.length d5, .slice b6 U.l6.length d6, .slice b7 U.l7.length d7]) w.heap.size #[.slice a0 V.l0.length c0, .slice a1 V.l1.length c1, .slice a2 V.l2.length c2, .slice a3 V.l3.length c3, .slice a4 V.l4.length c4, .slice a5 V.l5.length c5, .slice a6 V.l6.length c6, .slice a7 V.l7.length c7, .bool V.sp, .bool V.kl] 27) := (setRow_other _ _ _ _ (by have := ltX; omega)).trans K0.out
      have K1 : Hid (Blk (g27.setRow kb #[.slice b0 U.l0.length d0, .slice b1 U.l1.length d1, .slice b2 U.l2.length d2, .slice b3 U.l3.length d3, .slice b4 U.l4.length d4, .slice b5 U.l5.length d5, .slice b6 U.l6.length d6, .slice b7 U.l7.length d7]) (w.heap.size + 1) #[.slice b0 U.l0.length d0, .slice b1 U.l1.length d1, .slice b2 U.l2.length d2, .slice b3 U.l3.length d3, .slice b4 U.l4.length d4, .slice b5 U.l5.length d5, .slice b6 U.l6.length d6, .slice b7 U.l7.length d7, .bool U.sp, .bool U.kl] 27) := (setRow_other _ _ _ _ (by have := ltX; omega)).trans K1.out
      have K2 : Hid (Blk (g27.setRow kb #[.slice b0 U.l0.length d0, .slice b1 U.l1.length d1, .slice b2 U.l2.length d2, .slice b3 U.l3.length d3, .slice b4 U.l4.length d4, .slice b5 U.l5.length d5, .slice b6 U.l6.length d6, .slice b7 U.l7.length d7]) (w.heap.size + 1 + 1) #[.slice none 0 0, .slice none 0 0, .slice none 0 0, .slice none 0 0, .slice none 0 0, .slice none 0 0, .slice none 0 0, .slice none 0 0, .bool false, .bool false] 27) := (setRow_other _ _ _ _ (by have := ltX; omega)).trans K2.out
      refine hK.out _ _ ?_ (fun hHeld => ?_)
      · exact ⟨K0.out, K1.out, K2.out⟩
      clear hK K
      try simp only [List.foldl, Act.put, List.setIfInBounds_toArray, List.set_cons_zero, List.set_cons_succ]
      generalize hGe : (g27.setRow kb #[.slice b0 U.l0.length d0, .slice b1 U.l1.length d1, .slice b2 U.l2.length d2, .slice b3 U.l3.length d3, .slice b4 U.l4.length d4, .slice b5 U.l5.length d5, .slice b6 U.l6.length d6, .slice b7 U.l7.length d7]) = g28 at Ka Kb hHeld LX K0 K1 K2 ⊢
      clear hGe hlx
      refine wpAnyH_done (by kernel_rfl) ?_ _
      go_wp2_with fail
      go_meet
      exact ⟨ka, kb, rfl, rfl, Ka.out, Kb.out, HXa.out, HXb.out, NEQ.out, LX.out⟩
    refine AllReadyH.cons rfl (fun K hK => ?_) ?_
    · skip
      go_simp
      have hg : Below X.heap.size X (X.alloc (.cells #[.slice none 0 0, .slice none 0 0, .slice none 0 0, .slice none 0 0, .slice none 0 0, .slice none 0 0, .slice none 0 0, .slice none 0 0] 46)).drew := bl_drew (bl_alloc (Below.refl _ _) _)
      have Ka : Hid (Blk (X.alloc (.cells #[.slice none 0 0, .slice none 0 0, .slice none 0 0, .slice none 0 0, .slice none 0 0, .slice none 0 0, .slice none 0 0, .slice none 0 0] 46)).drew X.heap.size #[.slice none 0 0, .slice none 0 0, .slice none 0 0, .slice none 0 0, .slice none 0 0, .slice none 0 0, .slice none 0 0, .slice none 0 0] 46) := Blk.new _ _ _
      have hxs : X.heap.size ≤ X.heap.size := LX.out.size
      have LX : Hid (Below X.heap.size X (X.alloc (.cells #[.slice none 0 0, .slice none 0 0, .slice none 0 0, .slice none 0 0, .slice none 0 0, .slice none 0 0, .slice none 0 0, .slice none 0 0] 46)).drew) := bl_trans LX.out hg
      have K0 : Hid (Blk (X.alloc (.cells #[.slice none 0 0, .slice none 0 0, .slice none 0 0, .slice none 0 0, .slice none 0 0, .slice none 0 0, .slice none 0 0, .slice none 0 0] 46)).drew w.heap.size #[.slice a0 V.l0.length c0, .slice a1 V.l1.length c1, .slice a2 V.l2.length c2, .slice a3 V.l3.length c3, .slice a4 V.l4.length c4, .slice a5 V.l5.length c5, .slice a6 V.l6.length c6, .slice a7 V.l7.length c7, .bool V.sp, .bool V.kl] 27) := K0.out.later hg
      have K1 : Hid (Blk (X.alloc (.cells #[.slice none 0 0, .slice none 0 0, .slice none 0 0, .slice none 0 0, .slice none 0 0, .slice none 0 0, .slice none 0 0, .slice none 0 0] 46)).drew (w.heap.size + 1) #[.slice b0 U.l0.length d0, .slice b1 U.l1.length d1, .slice b2 U.l2.length d2, .slice b3 U.l3.length d3, .slice b4 U.l4.length d4, .slice b5 U.l5.length d5, .slice b6 U.l6.length d6, .slice b7 U.l7.length d7, .bool U.sp, .bool U.kl] 27) := K1.out.later hg
      have K2 : Hid (Blk (X.alloc (.cells #[.slice none 0 0, .slice none 0 0, .slice none 0 0, .slice none 0 0, .slice none 0 0, .slice none 0 0, .slice none 0 0, .slice none 0 0] 46)).drew (w.heap.size + 1 + 1) #[.slice none 0 0, .slice none 0 0, .slice none 0 0, .slice none 0 0, .slice none 0 0, .slice none 0 0, .slice none 0 0, .slice none 0 0, .bool false, .bool false] 27) := K2.out.later hg
      clear hg
      refine hK.out _ _ ?_ (fun hHeld => ?_)
      · exact ⟨K0.out, K1.out, K2.out⟩
      clear hK K
      try simp only [List.foldl, Act.put, List.setIfInBounds_toArray, List.set_cons_zero, List.set_cons_succ]
      generalize hGe : (X.alloc (.cells #[.slice none 0 0, .slice none 0 0, .slice none 0 0, .slice none 0 0, .slice none 0 0, .slice none 0 0, .slice none 0 0, .slice none 0 0] 46)).drew = g29 at Ka hHeld LX K0 K1 K2 ⊢
      obtain ⟨ka, hka⟩ : ∃ k, X.heap.size = k := ⟨_, rfl⟩
      have HXa : Hid (X.heap.size ≤ ka) := Nat.le_trans hxs (Nat.le_of_eq hka)
      clear hxs
      rw [hka] at Ka
      try rw [hka]
      clear hGe hka
      refine wpAnyH_ready (rs := [1, 5]) (by kernel_rfl) (by simp) ?_
      refine AllReadyH.cons rfl (fun K hK => ?_) ?_
      · skip
        go_simp
        refine (listsOf_any a0 a1 a2 a3 a4 a5 a6 a7 c0 c1 c2 c3 c4 c5 c6 c7 V _).mono ?_
        rintro z g30 ⟨rfl, hb⟩
        have hc : Below g29.heap.size g29 g30 := hb
        have LX : Hid (Below X.heap.size X g30) := bl_trans LX.out hc
        have K0 : Hid (Blk g30 w.heap.size #[.slice a0 V.l0.length c0, .slice a1 V.l1.length c1, .slice a2 V.l2.length c2, .slice a3 V.l3.length c3, .slice a4 V.l4.length c4, .slice a5 V.l5.length c5, .slice a6 V.l6.length c6, .slice a7 V.l7.length c7, .bool V.sp, .bool V.kl] 27) := K0.out.later hc
        have K1 : Hid (Blk g30 (w.heap.size + 1) #[.slice b0 U.l0.length d0, .slice b1 U.l1.length d1, .slice b2 U.l2.length d2, .slice b3 U.l3.length d3, .slice b4 U.l4.length d4, .slice b5 U.l5.length d5, .slice b6 U.l6.length d6, .slice b7 U.l7.length d7, .bool U.sp, .bool U.kl] 27) := K1.out.later hc
        have K2 : Hid (Blk g30 (w.heap.size + 1 + 1) #[.slice none 0 0, .slice none 0 0, .slice none 0 0, .slice none 0 0, .slice none 0 0, .slice none 0 0, .slice none 0 0, .slice none 0 0, .bool false, .bool false] 27) := K2.out.later hc
        have Ka : Hid (Blk g30 ka #[.slice none 0 0, .slice none 0 0, .slice none 0 0, .slice none 0 0, .slice none 0 0, .slice none 0 0, .slice none 0 0, .slice none 0 0] 46) := Ka.out.later hc
        clear hb hc
        refine hK.out _ _ ?_ (fun hHeld => ?_)
        · exact ⟨K0.out, K1.out, K2.out⟩
        clear hK K
        try simp only [List.foldl, Act.put, List.setIfInBounds_toArray, List.set_cons_zero, List.set_cons_succ]
        refine wpAnyH_ready (rs := [3, 5]) (by kernel_rfl) (by simp) ?_
        refine AllReadyH.cons rfl (fun K hK => ?_) ?_
        · skip
          go_simp
          refine (listsOf_any b0 b1 b2 b3 b4 b5 b6 b7 d0 d1 d2 d3 d4 d5 d6 d7 U _).mono ?_
          rintro z g31 ⟨rfl, hb⟩
          have hc : Below g30.heap.size g30 g31 := hb
          have LX : Hid (Below X.heap.size X g31) := bl_trans LX.out hc
          have K0 : Hid (Blk g31 w.heap.size #[.slice a0 V.l0.length c0, .slice a1 V.l1.length c1, .slice a2 V.l2.length c2, .slice a3 V.l3.length c3, .slice a4 V.l4.length c4, .slice a5 V.l5.length c5, .slice a6 V.l6.length c6, .slice a7 V.l7.length c7, .bool V.sp, .bool V.kl] 27) := K0.out.later hc
          have K1 : Hid (Blk g31 (w.heap.size + 1) #[.slice b0 U.l0.length d0, .slice b1 U.l1.length d1, .slice b2 U.l2.length d2, .slice b3 U.l3.length d3, .slice b4 U.l4.length d4, .slice b5 U.l5.length d5, .slice b6 U.l6.length d6, .slice b7 U.l7.length d7, .bool U.sp, .bool U.kl] 27) := K1.out.later hc
          have K2 : Hid (Blk g31 (w.heap.size + 1 + 1) #[.slice none 0 0, .slice none 0 0, .slice none 0 0, .slice none 0 0, .slice none 0 0, .slice none 0 0, .slice none 0 0, .slice none 0 0, .bool false, .bool false] 27) := K2.out.later hc
          have Ka : Hid (Blk g31 ka #[.slice none 0 0, .slice none 0 0, .slice none 0 0, .slice none 0 0, .slice none 0 0, .slice none 0 0, .slice none 0 0, .slice none 0 0] 46) := Ka.out.later hc
          clear hb hc
          refine hK.out _ _ ?_ (fun hHeld => ?_)
          · exact ⟨K0.out, K1.out, K2.out⟩
          clear hK K
          try simp only [List.foldl, Act.put, List.setIfInBounds_toArray, List.set_cons_zero, List.set_cons_succ]
          refine wpAnyH_ready (rs := [5]) (by kernel_rfl) (by simp) ?_
          refine AllReadyH.cons rfl (fun K hK => ?_) AllReadyH.nil
          go_simp
          have hg : Below g31.heap.size g31 (g31.alloc (.cells #[.slice none 0 0, .slice none 0 0, .slice none 0 0, .slice none 0 0, .slice none 0 0, .slice none 0 0, .slice none 0 0, .slice none 0 0] 46)) := bl_alloc (Below.refl _ _) _
          have Kb : Hid (Blk (g31.alloc (.cells #[.slice none 0 0, .slice none 0 0, .slice none 0 0, .slice none 0 0, .slice none 0 0, .slice none 0 0, .slice none 0 0, .slice none 0 0] 46)) g31.heap.size #[.slice none 0 0, .slice none 0 0, .slice none 0 0, .slice none 0 0, .slice none 0 0, .slice none 0 0, .slice none 0 0, .slice none 0 0] 46) := Blk.new _ _ _
          have hxs : X.heap.size ≤ g31.heap.size := LX.out.size
          have NE : Hid (¬ ka = g31.heap.size) := by have := Ka.out.lt; show ¬ _; omega
          have LX : Hid (Below X.heap.size X (g31.alloc (.cells #[.slice none 0 0, .slice none 0 0, .slice none 0 0, .slice none 0 0, .slice none 0 0, .slice none 0 0, .slice none 0 0, .slice none 0 0] 46))) := bl_trans LX.out hg
          have K0 : Hid (Blk (g31.alloc (.cells #[.slice none 0 0, .slice none 0 0, .slice none 0 0, .slice none 0 0, .slice none 0 0, .slice none 0 0, .slice none 0 0, .slice none 0 0] 46)) w.heap.size #[.slice a0 V.l0.length c0, .slice a1 V.l1.length c1, .slice a2 V.l2.length c2, .slice a3 V.l3.length c3, .slice a4 V.l4.length c4, .slice a5 V.l5.length c5, .slice a6 V.l6.length c6, .slice a7 V.l7.length c7, .bool V.sp, .bool V.kl] 27) := K0.out.later hg
          have K1 : Hid (Blk (g31.alloc (.cells #[.slice none 0 0, .slice none 0 0, .slice none 0 0, .slice none 0 0, .slice none 0 0, .slice none 0 0, .slice none 0 0, .slice none 0 0] 46)) (w.heap.size + 1) #[.slice b0 U.l0.length d0, .slice b1 U.l1.length d1, .slice b2 U.l2.length d2, .slice b3 U.l3.length d3, .slice b4 U.l4.length d4, .slice b5 U.l5.length d5, .slice b6 U.l6.length d6, .slice b7 U.l7.length d7, .bool U.sp, .bool U.kl] 27) := K1.out.later hg
          have K2 : Hid (Blk (g31.alloc (.cells #[.slice none 0 0, .slice none 0 0, .slice none 0 0, .slice none 0 0, .slice none 0 0, .slice none 0 0, .slice none 0 0, .slice none 0 0] 46)) (w.heap.size + 1 + 1) #[.slice none 0 0, .slice none 0 0, .slice none 0 0, .slice none 0 0, .slice none 0 0, .slice none 0 0, .slice none 0 0, .slice none 0 0, .bool false, .bool false] 27) := K2.out.later hg
          have Ka : Hid (Blk (g31.alloc (.cells #[.slice none 0 0, .slice none 0 0, .slice none 0 0, .slice none 0 0, .slice none 0 0, .slice none 0 0, .slice none 0 0, .slice none 0 0] 46)) ka #[.slice none 0 0, .slice none 0 0, .slice none 0 0, .slice none 0 0, .slice none 0 0, .slice none 0 0, .slice none 0 0, .slice none 0 0] 46) := Ka.out.later hg
          clear hg
          refine hK.out _ _ ?_ (fun hHeld => ?_)
          · exact ⟨K0.out, K1.out, K2.out⟩
          clear hK K
          try simp only [List.foldl, Act.put, List.setIfInBounds_toArray, List.set_cons_zero, List.set_cons_succ]
          generalize hGe : (g31.alloc (.cells #[.slice none 0 0, .slice none 0 0, .slice none 0 0, .slice none 0 0, .slice none 0 0, .slice none 0 0, .slice none 0 0, .slice none 0 0] 46)) = g32 at Kb hHeld LX K0 K1 K2 Ka ⊢
          obtain ⟨kb, hkb⟩ : ∃ k, g31.heap.size = k := ⟨_, rfl⟩
          have HXb : Hid (X.heap.size ≤ kb) := Nat.le_trans hxs (Nat.le_of_eq hkb)
          clear hxs
          rw [hkb] at Kb NE
          try rw [hkb]
          clear hGe hkb
          have NEQ : Hid (¬ ka = kb) := by first | exact NE.out | exact fun e => NE.out e.symm
          refine wpAnyH_ready (rs := [6]) (by kernel_rfl) (by simp) ?_
          refine AllReadyH.cons rfl (fun K hK => ?_) AllReadyH.nil
          refine wp_store_row 46 (.tmp 5) (.tmp 10) rfl ka #[.slice a0 V.l0.length c0, .slice a1 V.l1.length c1, .slice a2 V.l2.length c2, .slice a3 V.l3.length c3, .slice a4 V.l4.length c4, .slice a5 V.l5.length c5, .slice a6 V.l6.length c6, .slice a7 V.l7.length c7] rfl rfl 46 _ Ka.out (by rw [Try.infoLs]; rfl) rfl one8 ?_
          have hlx := HXa.out
          have LX : Hid (Below X.heap.size X (g32.setRow ka #[.slice a0 V.l0.length c0, .slice a1 V.l1.length c1, .slice a2 V.l2.length c2, .slice a3 V.l3.length c3, .slice a4 V.l4.length c4, .slice a5 V.l5.length c5, .slice a6 V.l6.length c6, .slice a7 V.l7.length c7])) := below_setRow LX.out hlx _
          have Ka : Hid (Blk (g32.setRow ka #[.slice a0 V.l0.length c0, .slice a1 V.l1.length c1, .slice a2 V.l2.length c2, .slice a3 V.l3.length c3, .slice a4 V.l4.length c4, .slice a5 V.l5.length c5, .slice a6 V.l6.length c6, .slice a7 V.l7.length c7]) ka #[.slice a0 V.l0.length c0, .slice a1 V.l1.length c1, .slice a2 V.l2.length c2, .slice a3 V.l3.length c3, .slice a4 V.l4.length c4, .slice a5 V.l5.length c5, .slice a6 V.l6.length c6, .slice a7 V.l7.length c7] 46) := setRow_heap _ _ _ _ _ _ Ka.out
          have Kb : Hid (Blk (g32.setRow ka #[.slice a0 V.l0.length c0, .slice a1 V.l1.length c1, .slice a2 V.l2.length c2, .slice a3 V.l3.length c3, .slice a4 V.l4.length c4, .slice a5 V.l5.length c5, .slice a6 V.l6.length c6, .slice a7 V.l7.length c7]) kb #[.slice none 0 0, .slice none 0 0, .slice none 0 0, .slice none 0 0, .slice none 0 0, .slice none 0 0, .slice none 0 0, .slice none 0 0] 46) := (setRow_other _ _ _ _ (by have := NEQ.out; omega)).trans Kb.out
          have K0 : Hid (Blk (g32.setRow ka #[.slice a0 V.l0.length c0, .slice a1 V.l1.length c1, .slice a2 V.l2.length c2, .slice a3 V.l3.length c3, .slice a4 V.l4.length c4, .slice a5 V.l5.length c5, .slice a6 V.l6.length c6, .slice a7 V.l7.length c7]) w.heap.size #[.slice a0 V.l0.length c0, .slice a1 V.l1.length c1, .slice a2 V.l2.length c2, .slice a3 V.l3.length c3, .slice a4 V.l4.length c4, .slice a5 V.l5.length c5, .slice a6 V.l6.length c6, .slice a7 V.l7.length c7, .bool V.sp, .bool V.kl] 27) := (setRow_other _ _ _ _ (by have := ltX; omega)).trans K0.out
          have K1 : Hid (Blk (g32.setRow ka #[.slice a0 V.l0.length c0, .slice a1 V.l1.length c1, .slice a2 V.l2.length c2, .slice a3 V.l3.length c3, .slice a4 V.l4.length c4, .slice a5 V.l5.length c5, .slice a6 V.l6.length c6, .slice a7 V.l7.length c7]) (w.heap.size + 1) #[.slice b0 U.l0.length d0, .slice b1 U.l1.length d1, .slice b2 U.l2.length d2, .slice b3 U.l3.length d3, .slice b4 U.l4.length d4, .slice b5 U.l5.length d5, .slice b6 U.l6.length d6, .slice b7 U.l7.length d7, .bool U.sp, .bool U.kl] 27) := (setRow_other _ _ _ _ (by have := ltX; omega)).trans K1.out
          have K2 : Hid (Blk (g32.setRow ka #[.slice a0 V.l0.length c0, .slice a1 V.l1.length c1, .slice a2 V.l2.length c2, .slice a3 V.l3.length c3, .slice a4 V.l4.length c4, .slice a5 V.l5.length c5, .slice a6 V.l6.length c6, .slice a7 V.l7.length c7]) (w.heap.size + 1 + 1) #[.slice none 0 0, .slice none 0 0, .slice none 0 0, .slice none 0 0, .slice none 0 0, .slice none 0 0, .slice none 0 0, .slice none 0 0, .bool false, .bool false] 27) := (setRow_other _ _ _ _ (by have := ltX; omega)).trans K2.out
          refine hK.out _ _ ?_ (fun hHeld => ?_)
          · exact ⟨K0.out, K1.out, K2.out⟩
          clear hK K
          try simp only [List.foldl, Act.put, List.setIfInBounds_toArray, List.set_cons_zero, List.set_cons_succ]
          generalize hGe : (g32.setRow ka #[.slice a0 V.l0.length c0, .slice a1 V.l1.length c1, .slice a2 V.l2.length c2, .slice a3 V.l3.length c3, .slice a4 V.l4.length c4, .slice a5 V.l5.length c5, .slice a6 V.l6.length c6, .slice a7 V.l7.length c7]) = g33 at Ka Kb hHeld LX K0 K1 K2 ⊢
          clear hGe hlx
          refine wpAnyH_ready (rs := [7]) (by kernel_rfl) (by simp) ?_
          refine AllReadyH.cons rfl (fun K hK => ?_) AllReadyH.nil
          refine wp_store_row 46 (.tmp 6) (.tmp 12) rfl kb #[.slice b0 U.l0.length d0, .slice b1 U.l1.length d1, .slice b2 U.l2.length d2, .slice b3 U.l3.length d3, .slice b4 U.l4.length d4, .slice b5 U.l5.length d5, .slice b6 U.l6.length d6, .slice b7 U.l7.length d7] rfl rfl 46 _ Kb.out (by rw [Try.infoLs]; rfl) rfl one8 ?_
          have hlx := HXb.out
          have LX : Hid (Below X.heap.size X (g33.setRow kb #[.slice b0 U.l0.length d0, .slice b1 U.l1.length d1, .slice b2 U.l2.length d2, .slice b3 U.l3.length d3, .slice b4 U.l4.length d4, .slice b5 U.l5.length d5, .slice b6 U.l6.length d6, .slice b7 U.l7.length d7])) := below_setRow LX.out hlx _
          have Kb : Hid (Blk (g33.setRow kb #[.slice b0 U.l0.length d0, .slice b1 U.l1.length d1, .slice b2 U.l2.length d2, .slice b3 U.l3.length d3, .slice b4 U.l4.length d4, .slice b5 U.l5.length d5, .slice b6 U.l6.length d6, .slice b7 U.l7.length d7]) kb #[.slice b0 U.l0.length d0, .slice b1 U.l1.length d1, .slice b2 U.l2.length d2, .slice b3 U.l3.length d3, .slice b4 U.l4.length d4, .slice b5 U.l5.length d5, .slice b6 U.l6.length d6, .slice b7 U.l7.length d7] 46) := setRow_heap _ _ _ _ _ _ Kb.out
          have Ka : Hid (Blk (g33.setRow kb #[.slice b0 U.l0.length d0, .slice b1 U.l1.length d1, .slice b2 U.l2.length d2, .slice b3 U.l3.length d3, .slice b4 U.l4.length d4, .slice b5 U.l5.length d5, .slice b6 U.l6.length d6, .slice b7 U.l7.length d7]) ka #[.slice a0 V.l0.length c0, .slice a1 V.l1.length c1, .slice a2 V.l2.length c2, .slice a3 V.l3.length c3, .slice a4 V.l4.length c4, .slice a5 V.l5.length c5, .slice a6 V.l6.length c6, .slice a7 V.l7.length c7] 46) := (setRow_other _ _ _ _ (by have := NEQ.out; omega)).trans Ka.out
          have K0 : Hid (Blk (g33.setRow kb #[.slice b0 U.l0.length d0, .slice b1 U.l1.length d1, .slice b2 U.l2.length d2, .slice b3 U.l3.length d3, .slice b4 U.l4.length d4, .slice b5 U.l5.length d5, .slice b6 U.l6.length d6, .slice b7 U.l7.length d7]) w.heap.size #[.slice a0 V.l0.length c0, .slice a1 V.l1.length c1, .slice a2 V.l2.length c2, .slice a3 V.l3.length c3, .slice a4 V.l4.length c4, .slice a5 V.l5.length c5, .slice a6 V.l6.length c6, .slice a7 V.l7.length c7, .bool V.sp, .bool V.kl] 27) := (setRow_other _ _ _ _ (by have := ltX; omega)).trans K0.out
          have K1 : Hid (Blk (g33.setRow kb #[.slice b0 U.l0.length d0, .slice b1 U.l1.length d1, .slice b2 U.l2.length d2, .slice b3 U.l3.length d3, .slice b4 U.l4.length d4, .slice b5 U.l5.length d5, .slice b6 U.l6.length d6, .slice b7 U.l7.length d7]) (w.heap.size + 1) #[.slice b0 U.l0.length d0, .slice b1 U.l1.length d1, .slice b2 U.l2.length d2, .slice b3 U.l3.length d3, .slice b4 U.l4.length d4, .slice b5 U.l5.length d5, .slice b6 U.l6.length d6, .slice b7 U.l7.length d7, .bool U.sp, .bool U.kl] 27) := (setRow_other _ _ _ _ (by have := ltX; omega)).trans K1.out
          have K2 : Hid (Blk (g33.setRow kb #[.slice b0 U.l0.length d0, .slice b1 U.l1.length d1, .slice b2 U.l2.length d2, .slice b3 U.l3.length d3, .slice b4 U.l4.length d4, .slice b5 U.l5.length d5, .slice b6 U.l6.length d6, .slice b7 U.l7.length d7]) (w.heap.size + 1 + 1) #[.slice none 0 0, .slice none 0 0, .slice none 0 0, .slice none 0 0, .slice none 0 0, .slice none 0 0, .slice none 0 0, .slice none 0 0, .bool false, .bool false] 27) := (setRow_other _ _ _ _ (by have := ltX; omega)).trans K2.out
          refine hK.out _ _ ?_ (fun hHeld => ?_)
          · exact ⟨K0.out, K1.out, K2.out⟩
          clear hK K
          try simp only [List.foldl, Act.put, List.setIfInBounds_toArray, List.set_cons_zero, List.set_cons_succ]
          generalize hGe : (g33.setRow kb #[.slice b0 U.l0.length d0, .slice b1 U.l1.length d1, .slice b2 U.l2.length d2, .slice b3 U.l3.length d3, .slice b4 U.l4.length d4, .slice b5 U.l5.length d5, .slice b6 U.l6.length d6, .slice b7 U.l7.length d7]) = g34 at Ka Kb hHeld LX K0 K1 K2 ⊢
          clear hGe hlx
          refine wpAnyH_done (by kernel_rfl) ?_ _
          go_wp2_with fail
          go_meet
          exact ⟨ka, kb, rfl, rfl, Ka.out, Kb.out, HXa.out, HXb.out, NEQ.out, LX.out⟩
        refine AllReadyH.cons rfl (fun K hK => ?_) AllReadyH.nil
        go_simp
        have hg : Below g30.heap.size g30 (g30.alloc (.cells #[.slice none 0 0, .slice none 0 0, .slice none 0 0, .slice none 0 0, .slice none 0 0, .slice none 0 0, .slice none 0 0, .slice none 0 0] 46)) := bl_alloc (Below.refl _ _) _
        have Kb : Hid (Blk (g30.alloc (.cells #[.slice none 0 0, .slice none 0 0, .slice none 0 0, .slice none 0 0, .slice none 0 0, .slice none 0 0, .slice none 0 0, .slice none 0 0] 46)) g30.heap.size #[.slice none 0 0, .slice none 0 0, .slice none 0 0, .slice none 0 0, .slice none 0 0, .slice none 0 0, .slice none 0 0, .slice none 0 0] 46) := Blk.new _ _ _
        have hxs : X.heap.size ≤ g30.heap.size := LX.out.size
        have NE : Hid (¬ ka = g30.heap.size) := by have := Ka.out.lt; show ¬ _; omega
        have LX : Hid (Below X.heap.size X (g30.alloc (.cells #[.slice none 0 0, .slice none 0 0, .slice none 0 0, .slice none 0 0, .slice none 0 0, .slice none 0 0, .slice none 0 0, .slice none 0 0] 46))) := bl_trans LX.out hg
        have K0 : Hid (Blk (g30.alloc (.cells #[.slice none 0 0, .slice none 0 0, .slice none 0 0, .slice none 0 0, .slice none 0 0, .slice none 0 0, .slice none 0 0, .slice none 0 0] 46)) w.heap.size #[.slice a0 V.l0.length c0, .slice a1 V.l1.length c1, .slice a2 V.l2.length c2, .slice a3 V.l3.length c3, .slice a4 V.l4.length c4, .slice a5 V.l5.length c5, .slice a6 V.l6.length c6, .slice a7 V.l7.length c7, .bool V.sp, .bool V.kl] 27) := K0.out.later hg
        have K1 : Hid (Blk (g30.alloc (.cells #[.slice none 0 0, .slice none 0 0, .slice none 0 0, .slice none 0 0, .slice none 0 0, .slice none 0 0, .slice none 0 0, .slice none 0 0] 46)) (w.heap.size + 1) #[.slice b0 U.l0.length d0, .slice b1 U.l1.length d1, .slice b2 U.l2.length d2, .slice b3 U.l3.length d3, .slice b4 U.l4.length d4, .slice b5 U.l5.length d5, .slice b6 U.l6.length d6, .slice b7 U.l7.length d7, .bool U.sp, .bool U.kl] 27) := K1.out.later hg
        have K2 : Hid (Blk (g30.alloc (.cells #[.slice none 0 0, .slice none 0 0, .slice none 0 0, .slice none 0 0, .slice none 0 0, .slice none 0 0, .slice none 0 0, .slice none 0 0] 46)) (w.heap.size + 1 + 1) #[.slice none 0 0, .slice none 0 0, .slice none 0 0, .slice none 0 0, .slice none 0 0, .slice none 0 0, .slice none 0 0, .slice none 0 0, .bool false, .bool false] 27) := K2.out.later hg
        have Ka : Hid (Blk (g30.alloc (.cells #[.slice none 0 0, .slice none 0 0, .slice none 0 0, .slice none 0 0, .slice none 0 0, .slice none 0 0, .slice none 0 0, .slice none 0 0] 46)) ka #[.slice none 0 0, .slice none 0 0, .slice none 0 0, .slice none 0 0, .slice none 0 0, .slice none 0 0, .slice none 0 0, .slice none 0 0] 46) := Ka.out.later hg
        clear hg
        refine hK.out _ _ ?_ (fun hHeld => ?_)
        · exact ⟨K0.out, K1.out, K2.out⟩
        clear hK K
        try simp only [List.foldl, Act.put, List.setIfInBounds_toArray, List.set_cons_zero, List.set_cons_succ]
        generalize hGe : (g30.alloc (.cells #[.slice none 0 0, .slice none 0 0, .slice none 0 0, .slice none 0 0, .slice none 0 0, .slice none 0 0, .slice none 0 0, .slice none 0 0] 46)) = g35 at Kb hHeld LX K0 K1 K2 Ka ⊢
        obtain ⟨kb, hkb⟩ : ∃ k, g30.heap.size = k := ⟨_, rfl⟩
        have HXb : Hid (X.heap.size ≤ kb) := Nat.le_trans hxs (Nat.le_of_eq hkb)
        clear hxs
        rw [hkb] at Kb NE
        try rw [hkb]
        clear hGe hkb
        refine wpAnyH_ready (rs := [3]) (by kernel_rfl) (by simp) ?_
        refine AllReadyH.cons rfl (fun K hK => ?_) AllReadyH.nil
        go_simp
        refine (listsOf_any b0 b1 b2 b3 b4 b5 b6 b7 d0 d1 d2 d3 d4 d5 d6 d7 U _).mono ?_
        rintro z g36 ⟨rfl, hb⟩
        have hc : Below g35.heap.size g35 g36 := hb
        have LX : Hid (Below X.heap.size X g36) := bl_trans LX.out hc
        have K0 : Hid (Blk g36 w.heap.size #[.slice a0 V.l0.length c0, .slice a1 V.l1.length c1, .slice a2 V.l2.length c2, .slice a3 V.l3.length c3, .slice a4 V.l4.length c4, .slice a5 V.l5.length c5, .slice a6 V.l6.length c6, .slice a7 V.l7.length c7, .bool V.sp, .bool V.kl] 27) := K0.out.later hc
        have K1 : Hid (Blk g36 (w.heap.size + 1) #[.slice b0 U.l0.length d0, .slice b1 U.l1.length d1, .slice b2 U.l2.length d2, .slice b3 U.l3.length d3, .slice b4 U.l4.length d4, .slice b5 U.l5.length d5, .slice b6 U.l6.length d6, .slice b7 U.l7.length d7, .bool U.sp, .bool U.kl] 27) := K1.out.later hc
        have K2 : Hid (Blk g36 (w.heap.size + 1 + 1) #[.slice none 0 0, .slice none 0 0, .slice none 0 0, .slice none 0 0, .slice none 0 0, .slice none 0 0, .slice none 0 0, .slice none 0 0, .bool false, .bool false] 27) := K2.out.later hc
        have Ka : Hid (Blk g36 ka #[.slice none 0 0, .slice none 0 0, .slice none 0 0, .slice none 0 0, .slice none 0 0, .slice none 0 0, .slice none 0 0, .slice none 0 0] 46) := Ka.out.later hc
        have Kb : Hid (Blk g36 kb #[.slice none 0 0, .slice none 0 0, .slice none 0 0, .slice none 0 0, .slice none 0 0, .slice none 0 0, .slice none 0 0, .slice none 0 0] 46) := Kb.out.later hc
        clear hb hc
        refine hK.out _ _ ?_ (fun hHeld => ?_)
        · exact ⟨K0.out, K1.out, K2.out⟩
        clear hK K
        try simp only [List.foldl, Act.put, List.setIfInBounds_toArray, List.set_cons_zero, List.set_cons_succ]
        have NEQ : Hid (¬ ka = kb) := by first | exact NE.out | exact fun e => NE.out e.symm
        refine wpAnyH_ready (rs := [6]) (by kernel_rfl) (by simp) ?_
        refine AllReadyH.cons rfl (fun K hK => ?_) AllReadyH.nil
        refine wp_store_row 46 (.tmp 5) (.tmp 10) rfl ka #[.slice a0 V.l0.length c0, .slice a1 V.l1.length c1, .slice a2 V.l2.length c2, .slice a3 V.l3.length c3, .slice a4 V.l4.length c4, .slice a5 V.l5.length c5, .slice a6 V.l6.length c6, .slice a7 V.l7.length c7] rfl rfl 46 _ Ka.out (by rw [Try.infoLs]; rfl) rfl one8 ?_
        have hlx := HXa.out
        have LX : Hid (Below X.heap.size X (g36.setRow ka #[.slice a0 V.l0.length c0, .slice a1 V.l1.length c1, .slice a2 V.l2.length c2, .slice a3 V.l3.length c3, .slice a4 V.l4.length c4, .slice a5 V.l5.length c5, .slice a6 V.l6.length c6, .slice a7 V.l7.length c7])) := below_setRow LX.out hlx _
        have Ka : Hid (Blk (g36.setRow ka #[.slice a0 V.l0.length c0, .slice a1 V.l1.length c1, .slice a2 V.l2.length c2, .slice a3 V.l3.length c3, .slice a4 V.l4.length c4, .slice a5 V.l5.length c5, .slice a6 V.l6.length c6, .slice a7 V.l7.length c7]) ka #[.slice a0 V.l0.length c0, .slice a1 V.l1.length c1, .slice a2 V.l2.length c2, .slice a3 V.l3.length c3, .slice a4 V.l4.length c4, .slice a5 V.l5.length c5, .slice a6 V.l6.length c6, .slice a7 V.l7.length c7] 46) := setRow_heap _ _ _ _ _ _ Ka.out
        have Kb : Hid (Blk (g36.setRow ka #[.slice a0 V.l0.length c0, .slice a1 V.l1.length c1, .slice a2 V.l2.length c2, .slice a3 V.l3.length c3, .slice a4 V.l4.length c4, .slice a5 V.l5.length c5, .slice a6 V.l6.length c6, .slice a7 V.l7.length c7]) kb #[.slice none 0 0, .slice none 0 0, .slice none 0 0, .slice none 0 0, .slice none 0 0, .slice none 0 0, .slice none 0 0, .slice none 0 0] 46) := (setRow_other _ _ _ _ (by have := NEQ.out; omega)).trans Kb.out
        have K0 : Hid (Blk (g36.setRow ka #[.slice a0 V.l0.length c0, .slice a1 V.l1.length c1, .slice a2 V.l2.length c2, .slice a3 V.l3.length c3, .slice a4 V.l4.length c4, .slice a5 V.l5.length c5, .slice a6 V.l6.length c6, .slice a7 V.l7.length c7]) w.heap.size #[.slice a0 V.l0.length c0, .slice a1 V.l1.length c1, .slice a2 V.l2.length c2, .slice a3 V.l3.length c3, .slice a4 V.l4.length c4, .slice a5 V.l5.length c5, .slice a6 V.l6.length c6, .slice a7 V.l7.length c7, .bool V.sp, .bool V.kl] 27) := (setRow_other _ _ _ _ (by have := ltX; omega)).trans K0.out
        have K1 : Hid (Blk (g36.setRow ka #[.slice a0 V.l0.length c0, .slice a1 V.l1.length c1, .slice a2 V.l2.length c2, .slice a3 V.l3.length c3, .slice a4 V.l4.length c4, .slice a5 V.l5.length c5, .slice a6 V.l6.length c6, .slice a7 V.l7.length c7]) (w.heap.size + 1) #[.slice b0 U.l0.length d0, .slice b1 U.l1.length d1, .slice b2 U.l2.length d2, .slice b3 U.l3.length d3, .slice b4 U.l4.length d4, .slice b5 U.l5.length d5, .slice b6 U.l6.length d6, .slice b7 U.l7.length d7, .bool U.sp, .bool U.kl] 27) := (setRow_other _ _ _ _ (by have := ltX; omega)).trans K1.out
        have K2 : Hid (Blk (g36.setRow ka #[.slice a0 V.l0.length c0, .slice a1 V.l1.length c1, .slice a2 V.l2.length c2, .slice a3 V.l3.length c3, .slice a4 V.l4.length c4, .slice a5 V.l5.length c5, .slice a6 V.l6.length c6, .slice a7 V.l7.length c7]) (w.heap.size + 1 + 1) #[.slice none 0 0, .slice none 0 0, .slice none 0 0, .slice none 0 0, .slice none 0 0, .slice none 0 0, .slice none 0 0, .slice none 0 0, .bool false, .bool false] 27) := (setRow_other _ _ _ _ (by have := ltX; omega)).trans K2.out
        refine hK.out _ _ ?_ (fun hHeld => ?_)
        · exact ⟨K0.out, K1.out, K2.out⟩
        clear hK K
        try simp only [List.foldl, Act.put, List.setIfInBounds_toArray, List.set_cons_zero, List.set_cons_succ]
        generalize hGe : (g36.setRow ka #[.slice a0 V.l0.length c0, .slice a1 V.l1.length c1, .slice a2 V.l2.length c2, .slice a3 V.l3.length c3, .slice a4 V.l4.length c4, .slice a5 V.l5.length c5, .slice a6 V.l6.length c6, .slice a7 V.l7.length c7]) = g37 at Ka Kb hHeld LX K0 K1 K2 ⊢
        clear hGe hlx
        refine wpAnyH_ready (rs := [7]) (by kernel_rfl) (by simp) ?_
        refine AllReadyH.cons rfl (fun K hK => ?_) AllReadyH.nil
        refine wp_store_row 46 (.tmp 6) (.tmp 12) rfl kb #[.slice b0 U.l0.length d0, .slice b1 U.l1.length d1, .slice b2 U.l2.length d2, .slice b3 U.l3.length d3, .slice b4 U.l4.length d4, .slice b5 U.l5.length d5, .slice b6 U.l6.length d6, .slice b7 U.l7.length d7] rfl rfl 46 _ Kb.out (by rw [Try.infoLs]; rfl) rfl one8 ?_
        have hlx := HXb.out
        have LX : Hid (Below X.heap.size X (g37.setRow kb #[.slice b0 U.l0.length d0, .slice b1 U.l1.length d1, .slice b2 U.l2.length d2, .slice b3 U.l3.length d3, .slice b4 U.l4.length d4, .slice b5 U.l5.length d5, .slice b6 U.l6.length d6, .slice b7 U.l7.length d7])) := below_setRow LX.out hlx _
        have Kb : Hid (Blk (g37.setRow kb #[.slice b0 U.l0.length d0, .slice b1 U.l1.length d1, .slice b2 U.l2.length d2, .slice b3 U.l3.length d3, .slice b4 U.l4.length d4, .slice b5 U.l5.length d5, .slice b6 U.l6.length d6, .slice b7 U.l7.length d7]) kb #[.slice b0 U.l0.length d0, .slice b1 U.l1.length d1, .slice b2 U.l2.length d2, .slice b3 U.l3.length d3, .slice b4 U.l4.length d4, .slice b5 U.l5.length d5, .slice b6 U.l6.length d6, .slice b7 U.l7.length d7] 46) := setRow_heap _ _ _ _ _ _ Kb.out
        have Ka : Hid (Blk (g37.setRow kb #[.slice b0 U.l0.length d0, .slice b1 U.l1.length d1, .slice b2 U.l2.length d2, .slice b3 U.l3.length d3, .slice b4 U.l4.length d4, .slice b5 U.l5.length d5, .slice b6 U.l6.length d6, .slice b7 U.l7.length d7]) ka #[.slice a0 V.l0.length c0, .slice a1 V.l1.length c1, .slice a2 V.l2.length c2, .slice a3 V.l3.length c3, .slice a4 V.l4.length c4, .slice a5 V.l5.length c5, .slice a6 V.l6.length c6, .slice a7 V.l7.length c7] 46) := (setRow_other _ _ _ _ (by have := NEQ.out; omega)).trans Ka.out
        have K0 : Hid (Blk (g37.setRow kb #[.slice b0 U.l0.length d0, .slice b1 U.l1.length d1, .slice b2 U.l2.length d2, .slice b3 U.l3.length d3, .slice b4 U.l4.length d4, .slice b5 U.l5.length d5, .slice b6 U.l6.length d6, .slice b7 U.l7.length d7]) w.heap.size #[.slice a0 V.l0.length c0, .slice a1 V.l1.length c1, .slice a2 V.l2.length c2, .slice a3 V.l3.length c3, .slice a4 V.l4.length c4, .slice a5 V.l5.length c5, .slice a6 V.l6.length c6, .slice a7 V.l7.length c7, .bool V.sp, .bool V.kl] 27) := (setRow_other _ _ _ _ (by have := ltX; omega)).trans K0.out
        have K1 : Hid (Blk (g37.setRow kb #[.slice b0 U.l0.length d0, .slice b1 U.l1.length d1, .slice b2 U.l2.length d2, .slice b3 U.l3.length d3, .slice b4 U.l4.length d4, .slice b5 U.l5.length d5, .slice b6 U.l6.length d6, .slice b7 U.l7.length d7]) (w.heap.size + 1) #[.slice b0 U.l0.length d0, .slice b1 U.l1.length d1, .slice b2 U.l2.length d2, .slice b3 U.l3.length d3, .slice b4 U.l4.length d4, .slice b5 U.l5.length d5, .slice b6 U.l6.length d6, .slice b7 U.l7.length d7, .bool U.sp, .bool U.kl] 27) := (setRow_other _ _ _ _ (by have := ltX; omega)).trans K1.out
        have K2 : Hid (Blk (g37.setRow kb #[.slice b0 U.l0.length d0, .slice b1 U.l1.length d1, .slice b2 U.l2.length d2, .slice b3 U.l3.length d3, .slice b4 U.l4.length d4, .slice b5 U.l5.length d5, .slice b6 U.l6.length d6, .slice b7 U.l7.length d7]) (w.heap.size + 1 + 1) #[.slice none 0 0, .slice none 0 0, .slice none 0 0, .slice none 0 0, .slice none 0 0, .slice none 0 0, .slice none 0 0, .slice none 0 0, .bool false, .bool false] 27) := (setRow_other _ _ _ _ (by have := ltX; omega)).trans K2.out
        refine hK.out _ _ ?_ (fun hHeld => ?_)
        · exact ⟨K0.out, K1.out, K2.out⟩
        clear hK K
        try simp only [List.foldl, Act.put, List.setIfInBounds_toArray, List.set_cons_zero, List.set_cons_succ]
        generalize hGe : (g37.setRow kb #[.slice b0 U.l0.length d0, .slice b1 U.l1.length d1, .slice b2 U.l2.length d2, .slice b3 U.l3.length d3, .slice b4 U.l4.length d4, .slice b5 U.l5.length d5, .slice b6 U.l6.length d6, .slice b7 U.l7.length d7]) = g38 at Ka Kb hHeld LX K0 K1 K2 ⊢
        clear hGe hlx
        refine wpAnyH_done (by kernel_rfl) ?_ _
        go_wp2_with fail
        go_meet
        exact ⟨ka, kb, rfl, rfl, Ka.out, Kb.out, HXa.out, HXb.out, NEQ.out, LX.out⟩
      refine AllReadyH.cons rfl (fun K hK => ?_) AllReadyH.nil
      go_simp
      have hg : Below g29.heap.size g29 (g29.alloc (.cells #[.slice none 0 0, .slice none 0 0, .slice none 0 0, .slice none 0 0, .slice none 0 0, .slice none 0 0, .slice none 0 0, .slice none 0 0] 46)) := bl_alloc (Below.refl _ _) _
      have Kb : Hid (Blk (g29.alloc (.cells #[.slice none 0 0, .slice none 0 0, .slice none 0 0, .slice none 0 0, .slice none 0 0, .slice none 0 0, .slice none 0 0, .slice none 0 0] 46)) g29.heap.size #[.slice none 0 0, .slice none 0 0, .slice none 0 0, .slice none 0 0, .slice none 0 0, .slice none 0 0, .slice none 0 0, .slice none 0 0] 46) := Blk.new _ _ _
      have hxs : X.heap.size ≤ g29.heap.size := LX.out.size
      have NE : Hid (¬ ka = g29.heap.size) := by have := Ka.out.lt; show ¬ _; omega
      have LX : Hid (Below X.heap.size X (g29.alloc (.cells #[.slice none 0 0, .slice none 0 0, .slice none 0 0, .slice none 0 0, .slice none 0 0, .slice none 0 0, .slice none 0 0, .slice none 0 0] 46))) := bl_trans LX.out hg
      have K0 : Hid (Blk (g29.alloc (.cells #[.slice none 0 0, .slice none 0 0, .slice none 0 0, .slice none 0 0, .slice none 0 0, .slice none 0 0, .slice none 0 0, .slice none 0 0] 46)) w.heap.size #[.slice a0 V.l0.length c0, .slice a1 V.l1.length c1, .slice a2 V.l2.length c2, .slice a3 V.l3.length c3, .slice a4 V.l4.length c4, .slice a5 V.l5.length c5, .slice a6 V.l6.length c6, .slice a7 V.l7.length c7, .bool V.sp, .bool V.kl] 27) := K0.out.later hg
      have K1 : Hid (Blk (g29.alloc (.cells #[.slice none 0 0, .slice none 0 0, .slice none 0 0, .slice none 0 0, .slice none 0 0, .slice none 0 0, .slice none 0 0, .slice none 0 0] 46)) (w.heap.size + 1) #[.slice b0 U.l0.length d0, .slice b1 U.l1.length d1, .slice b2 U.l2.length d2, .slice b3 U.l3.length d3, .slice b4 U.l4.length d4, .slice b5 U.l5.length d5, .slice b6 U.l6.length d6, .slice b7 U.l7.length d7, .bool U.sp, .bool U.kl] 27) := K1.out.later hg
      have K2 : Hid (Blk (g29.alloc (.cells #[.slice none 0 0, .slice none 0 0, .slice none 0 0, .slice none 0 0, .slice none 0 0, .slice none 0 0, .slice none 0 0, .slice none 0 0] 46)) (w.heap.size + 1 + 1) #[.slice none 0 0, .slice none 0 0, .slice none 0 0, .slice none 0 0, .slice none 0 0, .slice none 0 0, .slice none 0 0, .slice none 0 0, .bool false, .bool false] 27) := K2.out.later hg
      have Ka : Hid (Blk (g29.alloc (.cells #[.slice none 0 0, .slice none 0 0, .slice none 0 0, .slice none 0 0, .slice none 0 0, .slice none 0 0, .slice none 0 0, .slice none 0 0] 46)) ka #[.slice none 0 0, .slice none 0 0, .slice none 0 0, .slice none 0 0, .slice none 0 0, .slice none 0 0, .slice none 0 0, .slice none 0 0] 46) := Ka.out.later hg
      clear hg
      refine hK.out _ _ ?_ (fun hHeld => ?_)
      · exact ⟨K0.out, K1.out, K2.out⟩
      clear hK K
      try simp only [List.foldl, Act.put, List.setIfInBounds_toArray, List.set_cons_zero, List.set_cons_succ]
      generalize hGe : (g29.alloc (.cells #[.slice none 0 0, .slice none 0 0, .slice none 0 0, .slice none 0 0, .slice none 0 0, .slice none 0 0, .slice none 0 0, .slice none 0 0] 46)) = g39 at Kb hHeld LX K0 K1 K2 Ka ⊢
      obtain ⟨kb, hkb⟩ : ∃ k, g29.heap.size = k := ⟨_, rfl⟩
      have HXb : Hid (X.heap.size ≤ kb) := Nat.le_trans hxs (Nat.le_of_eq hkb)
      clear hxs
      rw [hkb] at Kb NE
      try rw [hkb]
      clear hGe hkb
      refine wpAnyH_ready (rs := [1]) (by kernel_rfl) (by simp) ?_
      refine AllReadyH.cons rfl (fun K hK => ?_) AllReadyH.nil
      go_simp
      refine (listsOf_any a0 a1 a2 a3 a4 a5 a6 a7 c0 c1 c2 c3 c4 c5 c6 c7 V _).mono ?_
      rintro z g40 ⟨rfl, hb⟩
      have hc : Below g39.heap.size g39 g40 := hb
      have LX : Hid (Below X.heap.size X g40) := bl_trans LX.out hc
      have K0 : Hid (Blk g40 w.heap.size #[.slice a0 V.l0.length c0, .slice a1 V.l1.length c1, .slice a2 V.l2.length c2, .slice a3 V.l3.length c3, .slice a4 V.l4.length c4, .slice a5 V.l5.length c5, .slice a6 V.l6.length c6, .slice a7 V.l7.length c7, .bool V.sp, .bool V.kl] 27) := K0.out.later hc
      have K1 : Hid (Blk g40 (w.heap.size + 1) #[.slice b0 U.l0.length d0, .slice b1 U.l1.length d1, .slice b2 U.l2.length d2, .slice b3 U.l3.length d3, .slice b4 U.l4.length d4, .slice b5 U.l5.length d5, .slice b6 U.l6.length d6, .slice b7 U.l7.length d7, .bool U.sp, .bool U.kl] 27) := K1.out.later hc
      have K2 : Hid (Blk g40 (w.heap.size + 1 + 1) #[.slice none 0 0, .slice none 0 0, .slice none 0 0, .slice none 0 0, .slice none 0 0, .slice none 0 0, .slice none 0 0, .slice none 0 0, .bool false, .bool false] 27) := K2.out.later hc
      have Ka : Hid (Blk g40 ka #[.slice none 0 0, .slice none 0 0, .slice none 0 0, .slice none 0 0, .slice none 0 0, .slice none 0 0, .slice none 0 0, .slice none 0 0] 46) := Ka.out.later hc
      have Kb : Hid (Blk g40 kb #[.slice none 0 0, .slice none 0 0, .slice none 0 0, .slice none 0 0, .slice none 0 0, .slice none 0 0, .slice none 0 0, .slice none 0 0] 46) := Kb.out.later hc
      clear hb hc
      refine hK.out _ _ ?_ (fun hHeld => ?_)
      · exact ⟨K0.out, K1.out, K2.out⟩
      clear hK K
      try simp only [List.foldl, Act.put, List.setIfInBounds_toArray, List.set_cons_zero, List.set_cons_succ]
      refine wpAnyH_ready (rs := [3]) (by kernel_rfl) (by simp) ?_
      refine AllReadyH.cons rfl (fun K hK => ?_) AllReadyH.nil
      go_simp
      refine (listsOf_any b0 b1 b2 b3 b4 b5 b6 b7 d0 d1 d2 d3 d4 d5 d6 d7 U _).mono ?_
      rintro z g41 ⟨rfl, hb⟩
      have hc : Below g40.heap.size g40 g41 := hb
      have LX : Hid (Below X.heap.size X g41) := bl_trans LX.out hc
      have K0 : Hid (Blk g41 w.heap.size #[.slice a0 V.l0.length c0, .slice a1 V.l1.length c1, .slice a2 V.l2.length c2, .slice a3 V.l3.length c3, .slice a4 V.l4.length c4, .slice a5 V.l5.length c5, .slice a6 V.l6.length c6, .slice a7 V.l7.length c7, .bool V.sp, .bool V.kl] 27) := K0.out.later hc
      have K1 : Hid (Blk g41 (w.heap.size + 1) #[.slice b0 U.l0.length d0, .slice b1 U.l1.length d1, .slice b2 U.l2.length d2, .slice b3 U.l3.length d3, .slice b4 U.l4.length d4, .slice b5 U.l5.length d5, .slice b6 U.l6.length d6, .slice b7 U.l7.length d7, .bool U.sp, .bool U.kl] 27) := K1.out.later hc
      have K2 : Hid (Blk g41 (w.heap.size + 1 + 1) #[.slice none 0 0, .slice none 0 0, .slice none 0 0, .slice none 0 0, .slice none 0 0, .slice none 0 0, .slice none 0 0, .slice none 0 0, .bool false, .bool false] 27) := K2.out.later hc
      have Ka : Hid (Blk g41 ka #[.slice none 0 0, .slice none 0 0, .slice none 0 0, .slice none 0 0, .slice none 0 0, .slice none 0 0, .slice none 0 0, .slice none 0 0] 46) := Ka.out.later hc
      have Kb : Hid (Blk g41 kb #[.slice none 0 0, .slice none 0 0, .slice none 0 0, .slice none 0 0, .slice none 0 0, .slice none 0 0, .slice none 0 0, .slice none 0 0] 46) := Kb.out.later hc
      clear hb hc
      refine hK.out _ _ ?_ (fun hHeld => ?_)
      · exact ⟨K0.out, K1.out, K2.out⟩
      clear hK K
      try simp only [List.foldl, Act.put, List.setIfInBounds_toArray, List.set_cons_zero, List.set_cons_succ]
      have NEQ : Hid (¬ ka = kb) := by first | exact NE.out | exact fun e => NE.out e.symm
      refine wpAnyH_ready (rs := [6]) (by kernel_rfl) (by simp) ?_
      refine AllReadyH.cons rfl (fun K hK => ?_) AllReadyH.nil
      refine wp_store_row 46 (.tmp 5) (.tmp 10) rfl ka #[.slice a0 V.l0.length c0, .slice a1 V.l1.length c1, .slice a2 V.l2.length c2, .slice a3 V.l3.length c3, .slice a4 V.l4.length c4, .slice a5 V.l5.length c5, .slice a6 V.l6.length c6, .slice a7 V.l7.length c7] rfl rfl 46 _ Ka.out (by rw [Try.infoLs]; rfl) rfl one8 ?_
      have hlx := HXa.out
      have LX : Hid (Below X.heap.size X (g41.setRow ka #[.slice a0 V.l0.length c0, .slice a1 V.l1.length c1, .slice a2 V.l2.length c2, .slice a3 V.l3.length c3, .slice a4 V.l4.length c4, .slice a5 V.l5.length c5, .slice a6 V.l6.length c6, .slice a7 V.l7.length c7])) := below_setRow LX.out hlx _
      have Ka : Hid (Blk (g41.setRow ka #[.slice a0 V.l0.length c0, .slice a1 V.l1.length c1, .slice a2 V.l2.length c2, .slice a3 V.l3.length c3, .slice a4 V.l4.length c4, .slice a5 V.l5.length c5, .slice a6 V.l6.length c6, .slice a7 V.l7.length c7]) ka #[.slice a0 V.l0.length c0, .slice a1 V.l1.length c1, .slice a2 V.l2.length c2, .slice a3 V.l3.length c3, .slice a4 V.l4.length c4, .slice a5 V.l5.length c5, .slice a6 V.l6.length c6, .slice a7 V.l7.length c7] 46) := setRow_heap _ _ _ _ _ _ Ka.out
      have Kb : Hid (Blk (g41.setRow ka #[.slice a0 V.l0.length c0, .slice a1 V.l1.length c1, .slice a2 V.l2.length c2, .slice a3 V.l3.length c3, .slice a4 V.l4.length c4, .slice a5 V.l5.length c5, .slice a6 V.l6.length c6, .slice a7 V.l7.length c7]) kb #[.slice none 0 0, .slice none 0 0, .slice none 0 0, .slice none 0 0, .slice none 0 0, .slice none 0 0, .slice none 0 0, .slice none 0 0] 46) := (setRow_other _ _ _ _ (by have := NEQ.out; omega)).trans Kb.out
      have K0 : Hid (Blk (g41.setRow ka #[.slice a0 V.l0.length c0, .slice a1 V.l1.length c1, .slice a2 V.l2.length c2, .slice a3 V.l3.length c3, .slice a4 V.l4.length c4, .slice a5 V.l5.length c5, .slice a6 V.l6.length c6, .slice a7 V.l7.length c7]) w.heap.size #[.slice a0 V.l0.length c0, .slice a1 V.l1.length c1, .slice a2 V.l2.length c2, .slice a3 V.l3.length c3, .slice a4 V.l4.length c4, .slice a5 V.l5.length c5, .slice a6 V.l6.length c6, .slice a7 V.l7.length c7, .bool V.sp, .bool V.kl] 27) := (setRow_other _ _ _ _ (by have := ltX; omega)).trans K0.out
      have K1 : Hid (Blk (g41.setRow ka #[.slice a0 V.l0.length c0, .slice a1 V.l1.length c1, .slice a2 V.l2.length c2, .slice a3 V.l3.length c3, .slice a4 V.l4.length c4, .slice a5 V.l5.length c5, .slice a6 V.l6.length c6, .slice a7 V.l7.length c7]) (w.heap.size + 1) #[.slice b0 U.l0.length d0, .slice b1 U.l1.length d1, .slice b2 U.l2.length d2, .slice b3 U.l3.length d3, .slice b4 U.l4.length d4, .slice b5 U.l5.length d5, .slice b6 U.l6.length d6, .slice b7 U.l7.length d7, .bool U.sp, .bool U.kl] 27) := (setRow_other _ _ _ _ (by have := ltX; omega)).trans K1.out
      have K2 : Hid (Blk (g41.setRow ka #[.slice a0 V.l0.length c0, .slice a1 V.l1.length c1, .slice a2 V.l2.length c2, .slice a3 V.l3.length c3, .slice a4 V.l4.length c4, .slice a5 V.l5.length c5, .slice a6 V.l6.length c6, .slice a7 V.l7.length c7]) (w.heap.size + 1 + 1) #[.slice none 0 0, .slice none 0 0, .slice none 0 0, .slice none 0 0, .slice none 0 0, .slice none 0 0, .slice none 0 0, .slice none 0 0, .bool false, .bool false] 27) := (setRow_other _ _ _ _ (by have := ltX; omega)).trans K2.out
      refine hK.out _ _ ?_ (fun hHeld => ?_)
      · exact ⟨K0.out, K1.out, K2.out⟩
      clear hK K
      try simp only [List.foldl, Act.put, List.setIfInBounds_toArray, List.set_cons_zero, List.set_cons_succ]
      generalize hGe : (g41.setRow ka #[.slice a0 V.l0.length c0, .slice a1 V.l1.length c1, .slice a2 V.l2.length c2, .slice a3 V.l3.length c3, .slice a4 V.l4.length c4, .slice a5 V.l5.length c5, .slice a6 V.l6.length c6, .slice a7 V.l7.length c7]) = g42 at Ka Kb hHeld LX K0 K1 K2 ⊢
      clear hGe hlx
      refine wpAnyH_ready (rs := [7]) (by kernel_rfl) (by simp) ?_
      refine AllReadyH.cons rfl (fun K hK => ?_) AllReadyH.nil
      refine wp_store_row 46 (.tmp 6) (.tmp 12) rfl kb #[.slice b0 U.l0.length d0, .slice b1 U.l1.length d1, .slice b2 U.l2.length d2, .slice b3 U.l3.length d3, .slice b4 U.l4.length d4, .slice b5 U.l5.length d5, .slice b6 U.l6.length d6, .slice b7 U.l7.length d7] rfl rfl 46 _ Kb.out (by rw [Try.infoLs]; rfl) rfl one8 ?_
      have hlx := HXb.out
      have LX : Hid (Below X.heap.size X (g42.setRow kb #[.slice b0 U.l0.length d0, .slice b1 U.l1.length d1, .slice b2 U.l2.length d2, .slice b3 U.l3.length d3, .slice b4 U.l4.length d4, .slice b5 U.l5.length d5, .slice b6 U.l6.length d6, .slice b7 U.l7.length d7])) := below_setRow LX.out hlx _
      have Kb : Hid (Blk (g42.setRow kb #[.slice b0 U.l0.length d0, .slice b1 U.l1.length d1, .slice b2 U.l2.length d2, .slice b3 U.l3.length d3, .slice b4 U.l4.length d4, .slice b5 U.l5.length d5, .slice b6 U.l6.length d6, .slice b7 U.l7.length d7]) kb #[.slice b0 U.l0.length d0, .slice b1 U.l1.length d1, .slice b2 U.l2.length d2, .slice b3 U.l3.length d3, .slice b4 U.l4.length d4, .slice b5 U.l5.length d5, .slice b6 U.l6.length d6, .slice b7 U.l7.length d7] 46) := setRow_heap _ _ _ _ _ _ Kb.out
      have Ka : Hid (Blk (g42.setRow kb #[.slice b0 U.l0.length d0, .slice b1 U.l1.length d1, .slice b2 U.l2.length d2, .slice b3 U.l3.length d3, .slice b4 U.l4.length d4, .slice b5 U.l5.length d5, .slice b6 U.l6.length d6, .slice b7 U.l7.length d7]) ka #[.slice a0 V.l0.length c0, .slice a1 V.l1.length c1, .slice a2 V.l2.length c2, .slice a3 V.l3.length c3, .slice a4 V.l4.length c4, .slice a5 V.l5.length c5, .slice a6 V.l6.length c6, .slice a7 V.l7.length c7] 46) := (setRow_other _ _ _ _ (by have := NEQ.out; omega)).trans Ka.out
      have K0 : Hid (Blk (g42.setRow kb #[.slice b0 U.l0.length d0, .slice b1 U.l1.length d1, .slice b2 U.l2.length d2, .slice b3 U.l3.length d3, .slice b4 U.l4.length d4, .slice b5 U.l5.length d5, .slice b6 U.l6.length d6, .slice b7 U.l7.length d7]) w.heap.size #[.slice a0 V.l0.length c0, .slice a1 V.l1.length c1, .slice a2 V.l2.length c2, .slice a3 V.l3.length c3, .slice a4 V.l4.length c4, .slice a5 V.l5.length c5, .slice a6 V.l6.length c6, .slice a7 V.l7.length c7, .bool V.sp, .bool V.kl] 27) := (setRow_other _ _ _ _ (by have := ltX; omega)).trans K0.out
      have K1 : Hid (Blk (g42.setRow kb #[.slice b0 U.l0.length d0, .slice b1 U.l1.length d1, .slice b2 U.l2.length d2, .slice b3 U.l3.length d3, .slice b4 U.l4.length d4, .slice b5 U.l5.length d5, .slice b6 U.l6.length d6, .slice b7 U.l7.length d7]) (w.heap.size + 1) #[.slice b0 U.l0.length d0, .slice b1 U.l1.length d1, .slice b2 U.l2.length d2, .slice b3 U.l3.length d3, .slice b4 U.l4.length d4, .slice b5 U.l5.length d5, .slice b6 U.l6.length d6, .slice b7 U.l7.length d7, .bool U.sp, .bool U.kl] 27) := (setRow_other _ _ _ _ (by have := ltX; omega)).trans K1.out
      have K2 : Hid (Blk (g42.setRow kb #[.slice b0 U.l0.length d0, .slice b1 U.l1.length d1, .slice b2 U.l2.length d2, .slice b3 U.l3.length d3, .slice b4 U.l4.length d4, .slice b5 U.l5.length d5, .slice b6 U.l6.length d6, .slice b7 U.l7.length d7]) (w.heap.size + 1 + 1) #[.slice none 0 0, .slice none 0 0, .slice none 0 0, .slice none 0 0, .slice none 0 0, .slice none 0 0, .slice none 0 0, .slice none 0 0, .bool false, .bool false] 27) := (setRow_other _ _ _ _ (by have := ltX; omega)).trans K2.out
      refine hK.out _ _ ?_ (fun hHeld => ?_)
      · exact ⟨K0.out, K1.out, K2.out⟩
      clear hK K
      try simp only [List.foldl, Act.put, List.setIfInBounds_toArray, List.set_cons_zero, List.set_cons_succ]
      generalize hGe : (g42.setRow kb #[.slice b0 U.l0.length d0, .slice b1 U.l1.length d1, .slice b2 U.l2.length d2, .slice b3 U.l3.length d3, .slice b4 U.l4.length d4, .slice b5 U.l5.length d5, .slice b6 U.l6.length d6, .slice b7 U.l7.length d7]) = g43 at Ka Kb hHeld LX K0 K1 K2 ⊢
      clear hGe hlx
      refine wpAnyH_done (by kernel_rfl) ?_ _
      go_wp2_with fail
      go_meet
      exact ⟨ka, kb, rfl, rfl, Ka.out, Kb.out, HXa.out, HXb.out, NEQ.out, LX.out⟩
    refine AllReadyH.cons rfl (fun K hK => ?_) AllReadyH.nil
    go_simp
    have hg : Below X.heap.size X (X.alloc (.cells #[.slice none 0 0, .slice none 0 0, .slice none 0 0, .slice none 0 0, .slice none 0 0, .slice none 0 0, .slice none 0 0, .slice none 0 0] 46)).drew := bl_drew (bl_alloc (Below.refl _ _) _)
    have Kb : Hid (Blk (X.alloc (.cells #[.slice none 0 0, .slice none 0 0, .slice none 0 0, .slice none 0 0, .slice none 0 0, .slice none 0 0, .slice none 0 0, .slice none 0 0] 46)).drew X.heap.size #[.slice none 0 0, .slice none 0 0, .slice none 0 0, .slice none 0 0, .slice none 0 0, .slice none 0 0, .slice none 0 0, .slice none 0 0] 46) := Blk.new _ _ _
    have hxs : X.heap.size ≤ X.heap.size := LX.out.size
    have LX : Hid (Below X.heap.size X (X.alloc (.cells #[.slice none 0 0, .slice none 0 0, .slice none 0 0, .slice none 0 0, .slice none 0 0, .slice none 0 0, .slice none 0 0, .slice none 0 0] 46)).drew) := bl_trans LX.out hg
    have K0 : Hid (Blk (X.alloc (.cells #[.slice none 0 0, .slice none 0 0, .slice none 0 0, .slice none 0 0, .slice none 0 0, .slice none 0 0, .slice none 0 0, .slice none 0 0] 46)).drew w.heap.size #[.slice a0 V.l0.length c0, .slice a1 V.l1.length c1, .slice a2 V.l2.length c2, .slice a3 V.l3.length c3, .slice a4 V.l4.length c4, .slice a5 V.l5.length c5, .slice a6 V.l6.length c6, .slice a7 V.l7.length c7, .bool V.sp, .bool V.kl] 27) := K0.out.later hg
    have K1 : Hid (Blk (X.alloc (.cells #[.slice none 0 0, .slice none 0 0, .slice none 0 0, .slice none 0 0, .slice none 0 0, .slice none 0 0, .slice none 0 0, .slice none 0 0] 46)).drew (w.heap.size + 1) #[.slice b0 U.l0.length d0, .slice b1 U.l1.length d1, .slice b2 U.l2.length d2, .slice b3 U.l3.length d3, .slice b4 U.l4.length d4, .slice b5 U.l5.length d5, .slice b6 U.l6.length d6, .slice b7 U.l7.length d7, .bool U.sp, .bool U.kl] 27) := K1.out.later hg
    have K2 : Hid (Blk (X.alloc (.cells #[.slice none 0 0, .slice none 0 0, .slice none 0 0, .slice none 0 0, .slice none 0 0, .slice none 0 0, .slice none 0 0, .slice none 0 0] 46)).drew (w.heap.size + 1 + 1) #[.slice none 0 0, .slice none 0 0, .slice none 0 0, .slice none 0 0, .slice none 0 0, .slice none 0 0, .slice none 0 0, .slice none 0 0, .bool false, .bool false] 27) := K2.out.later hg
    clear hg
    refine hK.out _ _ ?_ (fun hHeld => ?_)
    · exact ⟨K0.out, K1.out, K2.out⟩
    clear hK K
    try simp only [List.foldl, Act.put, List.setIfInBounds_toArray, List.set_cons_zero, List.set_cons_succ]
    generalize hGe : (X.alloc (.cells #[.slice none 0 0, .slice none 0 0, .slice none 0 0, .slice none 0 0, .slice none 0 0, .slice none 0 0, .slice none 0 0, .slice none 0 0] 46)).drew = g44 at Kb hHeld LX K0 K1 K2 ⊢
    obtain ⟨kb, hkb⟩ : ∃ k, X.heap.size = k := ⟨_, rfl⟩
    have HXb : Hid (X.heap.size ≤ kb) := Nat.le_trans hxs (Nat.le_of_eq hkb)
    clear hxs
    rw [hkb] at Kb
    try rw [hkb]
    clear hGe hkb
    refine wpAnyH_ready (rs := [1, 4]) (by kernel_rfl) (by simp) ?_
    refine AllReadyH.cons rfl (fun K hK => ?_) ?_
    · skip
      go_simp
      refine (listsOf_any a0 a1 a2 a3 a4 a5 a6 a7 c0 c1 c2 c3 c4 c5 c6 c7 V _).mono ?_
      rintro z g45 ⟨rfl, hb⟩
      have hc : Below g44.heap.size g44 g45 := hb
      have LX : Hid (Below X.heap.size X g45) := bl_trans LX.out hc
      have K0 : Hid (Blk g45 w.heap.size #[.slice a0 V.l0.length c0, .slice a1 V.l1.length c1, .slice a2 V.l2.length c2, .slice a3 V.l3.length c3, .slice a4 V.l4.length c4, .slice a5 V.l5.length c5, .slice a6 V.l6.length c6, .slice a7 V.l7.length c7, .bool V.sp, .bool V.kl] 27) := K0.out.later hc
      have K1 : Hid (Blk g45 (w.heap.size + 1) #[.slice b0 U.l0.length d0, .slice b1 U.l1.length d1, .slice b2 U.l2.length d2, .slice b3 U.l3.length d3, .slice b4 U.l4.length d4, .slice b5 U.l5.length d5, .slice b6 U.l6.length d6, .slice b7 U.l7.length d7, .bool U.sp, .bool U.kl] 27) := K1.out.later hc
      have K2 : Hid (Blk g45 (w.heap.size + 1 + 1) #[.slice none 0 0, .slice none 0 0, .slice none 0 0, .slice none 0 0, .slice none 0 0, .slice none 0 0, .slice none 0 0, .slice none 0 0, .bool false, .bool false] 27) := K2.out.later hc
      have Kb : Hid (Blk g45 kb #[.slice none 0 0, .slice none 0 0, .slice none 0 0, .slice none 0 0, .slice none 0 0, .slice none 0 0, .slice none 0 0, .slice none 0 0] 46) := Kb.out.later hc
      clear hb hc
      refine hK.out _ _ ?_ (fun hHeld => ?_)
      · exact ⟨K0.out, K1.out, K2.out⟩
      clear hK K
      try simp only [List.foldl, Act.put, List.setIfInBounds_toArray, List.set_cons_zero, List.set_cons_succ]
      refine wpAnyH_ready (rs := [3, 4]) (by kernel_rfl) (by simp) ?_
      refine AllReadyH.cons rfl (fun K hK => ?_) ?_
      · skip
        go_simp
        refine (listsOf_any b0 b1 b2 b3 b4 b5 b6 b7 d0 d1 d2 d3 d4 d5 d6 d7 U _).mono ?_
        rintro z g46 ⟨rfl, hb⟩
        have hc : Below g45.heap.size g45 g46 := hb
        have LX : Hid (Below X.heap.size X g46) := bl_trans LX.out hc
        have K0 : Hid (Blk g46 w.heap.size #[.slice a0 V.l0.length c0, .slice a1 V.l1.length c1, .slice a2 V.l2.length c2, .slice a3 V.l3.length c3, .slice a4 V.l4.length c4, .slice a5 V.l5.length c5, .slice a6 V.l6.length c6, .slice a7 V.l7.length c7, .bool V.sp, .bool V.kl] 27) := K0.out.later hc
        have K1 : Hid (Blk g46 (w.heap.size + 1) #[.slice b0 U.l0.length d0, .slice b1 U.l1.length d1, .slice b2 U.l2.length d2, .slice b3 U.l3.length d3, .slice b4 U.l4.length d4, .slice b5 U.l5.length d5, .slice b6 U.l6.length d6, .slice b7 U.l7.length d7, .bool U.sp, .bool U.kl] 27) := K1.out.later hc
        have K2 : Hid (Blk g46 (w.heap.size + 1 + 1) #[.slice none 0 0, .slice none 0 0, .slice none 0 0, .slice none 0 0, .slice none 0 0, .slice none 0 0, .slice none 0 0, .slice none 0 0, .bool false, .bool false] 27) := K2.out.later hc
        have Kb : Hid (Blk g46 kb #[.slice none 0 0, .slice none 0 0, .slice none 0 0, .slice none 0 0, .slice none 0 0, .slice none 0 0, .slice none 0 0, .slice none 0 0] 46) := Kb.out.later hc
        clear hb hc
        refine hK.out _ _ ?_ (fun hHeld => ?_)
        · exact ⟨K0.out, K1.out, K2.out⟩
        clear hK K
        try simp only [List.foldl, Act.put, List.setIfInBounds_toArray, List.set_cons_zero, List.set_cons_succ]
        refine wpAnyH_ready (rs := [4]) (by kernel_rfl) (by simp) ?_
        refine AllReadyH.cons rfl (fun K hK => ?_) AllReadyH.nil
        go_simp
        have hg : Below g46.heap.size g46 (g46.alloc (.cells #[.slice none 0 0, .slice none 0 0, .slice none 0 0, .slice none 0 0, .slice none 0 0, .slice none 0 0, .slice none 0 0, .slice none 0 0] 46)) := bl_alloc (Below.refl _ _) _
        have Ka : Hid (Blk (g46.alloc (.cells #[.slice none 0 0, .slice none 0 0, .slice none 0 0, .slice none 0 0, .slice none 0 0, .slice none 0 0, .slice none 0 0, .slice none 0 0] 46)) g46.heap.size #[.slice none 0 0, .slice none 0 0, .slice none 0 0, .slice none 0 0, .slice none 0 0, .slice none 0 0, .slice none 0 0, .slice none 0 0] 46) := Blk.new _ _ _
        have hxs : X.heap.size ≤ g46.heap.size := LX.out.size
        have NE : Hid (¬ kb = g46.heap.size) := by have := Kb.out.lt; show ¬ _; omega
        have LX : Hid (Below X.heap.size X (g46.alloc (.cells #[.slice none 0 0, .slice none 0 0, .slice none 0 0, .slice none 0 0, .slice none 0 0, .slice none 0 0, .slice none 0 0, .slice none 0 0] 46))) := bl_trans LX.out hg
        have K0 : Hid (Blk (g46.alloc (.cells #[.slice none 0 0, .slice none 0 0, .slice none 0 0, .slice none 0 0, .slice none 0 0, .slice none 0 0, .slice none 0 0, .slice none 0 0] 46)) w.heap.size #[.slice a0 V.l0.length c0, .slice a1 V.l1.length c1, .slice a2 V.l2.length c2, .slice a3 V.l3.length c3, .slice a4 V.l4.length c4, .slice a5 V.l5.length c5, .slice a6 V.l6.length c6, .slice a7 V.l7.length c7, .bool V.sp, .bool V.kl] 27) := K0.out.later hg
        have K1 : Hid (Blk (g46.alloc (.cells #[.slice none 0 0, .slice none 0 0, .slice none 0 0, .slice none 0 0, .slice none 0 0, .slice none 0 0, .slice none 0 0, .slice none 0 0] 46)) (w.heap.size + 1) #[.slice b0 U.l0.length d0, .slice b1 U.l1.length d1, .slice b2 U.l2.length d2, .slice b3 U.l3.length d3, .slice b4 U.l4.length d4, .slice b5 U.l5.length d5, .slice b6 U.l6.length d6, .slice b7 U.l7.length d7, .bool U.sp, .bool U.kl] 27) := K1.out.later hg
        have K2 : Hid (Blk (g46.alloc (.cells #[.slice none 0 0, .slice none 0 0, .slice none 0 0, .slice none 0 0, .slice none 0 0, .slice none 0 0, .slice none 0 0, .slice none 0 0] 46)) (w.heap.size + 1 + 1) #[.slice none 0 0, .slice none 0 0, .slice none 0 0, .slice none 0 0, .slice none 0 0, .slice none 0 0, .slice none 0 0, .slice none 0 0, .bool false, .bool false] 27) := K2.out.later hg
        have Kb : Hid (Blk (g46.alloc (.cells #[.slice none 0 0, .slice none 0 0, .slice none 0 0, .slice none 0 0, .slice none 0 0, .slice none 0 0, .slice none 0 0, .slice none 0 0] 46)) kb #[.slice none 0 0, .slice none 0 0, .slice none 0 0, .slice none 0 0, .slice none 0 0, .slice none 0 0, .slice none 0 0, .slice none 0 0] 46) := Kb.out.later hg
        clear hg
        refine hK.out _ _ ?_ (fun hHeld => ?_)
        · exact ⟨K0.out, K1.out, K2.out⟩
        clear hK K
        try simp only [List.foldl, Act.put, List.setIfInBounds_toArray, List.set_cons_zero, List.set_cons_succ]
        generalize hGe : (g46.alloc (.cells #[.slice none 0 0, .slice none 0 0, .slice none 0 0, .slice none 0 0, .slice none 0 0, .slice none 0 0, .slice none 0 0, .slice none 0 0] 46)) = g47 at Ka hHeld LX K0 K1 K2 Kb ⊢
        obtain ⟨ka, hka⟩ : ∃ k, g46.heap.size = k := ⟨_, rfl⟩
        have HXa : Hid (X.heap.size ≤ ka) := Nat.le_trans hxs (Nat.le_of_eq hka)
        clear hxs
        rw [hka] at Ka NE
        try rw [hka]
        clear hGe hka
        have NEQ : Hid (¬ ka = kb) := by first | exact NE.out | exact fun e => NE.out e.symm
        refine wpAnyH_ready (rs := [6]) (by kernel_rfl) (by simp) ?_
        refine AllReadyH.cons rfl (fun K hK => ?_) AllReadyH.nil
        refine wp_store_row 46 (.tmp 5) (.tmp 10) rfl ka #[.slice a0 V.l0.length c0, .slice a1 V.l1.length c1, .slice a2 V.l2.length c2, .slice a3 V.l3.length c3, .slice a4 V.l4.length c4, .slice a5 V.l5.length c5, .slice a6 V.l6.length c6, .slice a7 V.l7.length c7] rfl rfl 46 _ Ka.out (by rw [Try.infoLs]; rfl) rfl one8 ?_
        have hlx := HXa.out
        have LX : Hid (Below X.heap.size X (g47.setRow ka #[.slice a0 V.l0.length c0, .slice a1 V.l1.length c1, .slice a2 V.l2.length c2, .slice a3 V.l3.length c3, .slice a4 V.l4.length c4, .slice a5 V.l5.length c5, .slice a6 V.l6.length c6, .slice a7 V.l7.length c7])) := below_setRow LX.out hlx _
        have Ka : Hid (Blk (g47.setRow ka #[.slice a0 V.l0.length c0, .slice a1 V.l1.length c1, .slice a2 V.l2.length c2, .slice a3 V.l3.length c3, .slice a4 V.l4.length c4, .slice a5 V.l5.length c5, .slice a6 V.l6.length c6, .slice a7 V.l7.length c7]) ka #[.slice a0 V.l0.length c0, .slice a1 V.l1.length c1, .slice a2 V.l2.length c2, .slice a3 V.l3.length c3, .slice a4 V.l4.length c4, .slice a5 V.l5.length c5, .slice a6 V.l6.length c6, .slice a7 V.l7.length c7] 46) := setRow_heap _ _ _ _ _ _ Ka.out
        have Kb : Hid (Blk (g47.setRow ka #[.slice a0 V.l0.length c0, .slice a1 V.l1.length c1, .slice a2 V.l2.length c2, .slice a3 V.l3.length c3, .slice a4 V.l4.length c4, .slice a5 V.l5.length c5, .slice a6 V.l6.length c6, .slice a7 V.l7.length c7]) kb #[.slice none 0 0, .slice none 0 0, .slice none 0 0, .slice none 0 0, .slice none 0 0, .slice none 0 0, .slice none 0 0, .slice none 0 0] 46) := (setRow_other _ _ _ _ (by have := NEQ.out; omega)).trans Kb.out
        have K0 : Hid (Blk (g47.setRow ka #[.slice a0 V.l0.length c0, .slice a1 V.l1.length c1, .slice a2 V.l2.length c2, .slice a3 V.l3.length c3, .slice a4 V.l4.length c4, .slice a5 V.l5.length c5, .slice a6 V.l6.length c6, .slice a7 V.l7.length c7]) w.heap.size #[.slice a0 V.l0.length c0, .slice a1 V.l1.length c1, .slice a2 V.l2.length c2, .slice a3 V.l3.length c3, .slice a4 V.l4.length c4, .slice a5 V.l5.length c5, .slice a6 V.l6.length c6, .slice a7 V.l7.length c7, .bool V.sp, .bool V.kl] 27) := (setRow_other _ _ _ _ (by have := ltX; omega)).trans K0.out
        have K1 : Hid (Blk (g47.setRow ka #[.slice a0 V.l0.length c0, .slice a1 V.l1.length c1, .slice a2 V.l2.length c2, .slice a3 V.l3.length c3, .slice a4 V.l4.length c4, .slice a5 V.l5.length c5, .slice a6 V.l6.length c6, .slice a7 V.l7.length c7]) (w.heap.size + 1) #[.slice b0 U.l0.length d0, .slice b1 U.l1.length d1, .slice b2 U.l2.length d2, .slice b3 U.l3.length d3, .slice b4 U.l4.length d4, .slice b5 U.l5.length d5, .slice b6 U.l6.length d6, .slice b7 U.l7.length d7, .bool U.sp, .bool U.kl] 27) := (setRow_other _ _ _ _ (by have := ltX; omega)).trans K1.out
        have K2 : Hid (Blk (g47.setRow ka #[.slice a0 V.l0.length c0, .slice a1 V.l1.length c1, .slice a2 V.l2.length c2, .slice a3 V.l3.length c3, .slice a4 V.l4.length c4, .slice a5 V.l5.length c5, .slice a6 V.l6.length c6, .slice a7 V.l7.length c7]) (w.heap.size + 1 + 1) #[.slice none 0 0, .slice none 0 0, .slice none 0 0, .slice none 0 0, .slice none 0 0, .slice none 0 0, .slice none 0 0, .slice none 0 0, .bool false, .bool false] 27) := (setRow_other _ _ _ _ (by have := ltX; omega)).trans K2.out
        refine hK.out _ _ ?_ (fun hHeld => ?_)
        · exact ⟨K0.out, K1.out, K2.out⟩
        clear hK K
        try simp only [List.foldl, Act.put, List.setIfInBounds_toArray, List.set_cons_zero, List.set_cons_succ]
        generalize hGe : (g47.setRow ka #[.slice a0 V.l0.length c0, .slice a1 V.l1.length c1, .slice a2 V.l2.length c2, .slice a3 V.l3.length c3, .slice a4 V.l4.length c4, .slice a5 V.l5.length c5, .slice a6 V.l6.length c6, .slice a7 V.l7.length c7]) = g48 at Ka Kb hHeld LX K0 K1 K2 ⊢
        clear hGe hlx
        refine wpAnyH_ready (rs := [7]) (by kernel_rfl) (by simp) ?_
        refine AllReadyH.cons rfl (fun K hK => ?_) AllReadyH.nil
        refine wp_store_row 46 (.tmp 6) (.tmp 12) rfl kb #[.slice b0 U.l0.length d0, .slice b1 U.l1.length d1, .slice b2 U.l2.length d2, .slice b3 U.l3.length d3, .slice b4 U.l4.length d4, .slice b5 U.l5.length d5, .slice b6 U.l6.length d6, .slice b7 U.l7.length d7] rfl rfl 46 _ Kb.out (by rw [Try.infoLs]; rfl) rfl one8 ?_
        have hlx := HXb.out
        have LX : Hid (Below X.heap.size X (g48.setRow kb #[.slice b0 U.l0.length d0, .slice b1 U.l1.length d1, .slice b2 U.l2.length d2, .slice b3 U.l3.length d3, .slice b4 U.l4.length d4, .slice b5 U.l5.length d5, .slice b6 U.l6.length d6, .slice b7 U.l7.length d7])) := below_setRow LX.out hlx _
        have Kb : Hid (Blk (g48.setRow kb #[.slice b0 U.l0.length d0, .slice b1 U.l1.length d1, .slice b2 U.l2.length d2, .slice b3 U.l3.length d3, .slice b4 U.l4.length d4, .slice b5 U.l5.length d5, .slice b6 U.l6.length d6, .slice b7 U.l7.length d7]) kb #[.slice b0 U.l0.length d0, .slice b1 U.l1.length d1, .slice b2 U.l2.length d2, .slice b3 U.l3.length d3, .slice b4 U.l4.length d4, .slice b5 U.l5.length d5, .slice b6 U.l6.length d6, .slice b7 U.l7.length d7] 46) := setRow_heap _ _ _ _ _ _ Kb.out
        have Ka : Hid (Blk (g48.setRow kb #[.slice b0 U.l0.length d0, .slice b1 U.l1.length d1, .slice b2 U.l2.length d2, .slice b3 U.l3.length d3, .slice b4 U.l4.length d4, .slice b5 U.l5.length d5, .slice b6 U.l6.length d6, .slice b7 U.l7.length d7]) ka #[.slice a0 V.l0.length c0, .slice a1 V.l1.length c1, .slice a2 V.l2.length c2, .slice a3 V.l3.length c3, .slice a4 V.l4.length c4, .slice a5 V.l5.length c5, .slice a6 V.l6.length c6, .slice a7 V.l7.length c7] 46) := (setRow_other _ _ _ _ (by have := NEQ.out; omega)).trans Ka.out
        have K0 : Hid (Blk (g48.setRow kb #[.slice b0 U.l0.length d0, .slice b1 U.l1.length d1, .slice b2 U.l2.length d2, .slice b3 U.l3.length d3, .slice b4 U.l4.length d4, .slice b5 U.l5.length d5, .slice b6 U.l6.length d6, .slice b7 U.l7.length d7]) w.heap.size #[.slice a0 V.l0.length c0, .slice a1 V.l1.length c1, .slice a2 V.l2.length c2, .slice a3 V.l3.length c3, .slice a4 V.l4.length c4, .slice a5 V.l5.length c5, .slice a6 V.l6.length c6, .slice a7 V.l7.length c7, .bool V.sp, .bool V.kl] 27) := (setRow_other _ _ _ _ (by have := ltX; omega)).trans K0.out
        have K1 : Hid (Blk (g48.setRow kb #[.slice b0 U.l0.length d0, .slice b1 U.l1.length d1, .slice b2 U.l2.length d2, .slice b3 U.l3.length d3, .slice b4 U.l4.length d4, .slice b5 U.l5.length d5, .slice b6 U.l6.length d6, .slice b7 U.l7.length d7]) (w.heap.size + 1) #[.slice b0 U.l0.length d0, .slice b1 U.l1.length d1, .slice b2 U.l2.length d2, .slice b3 U.l3.length d3, .slice b4 U.l4.length d4, .slice b5 U.l5.length d5, .slice b6 U.l6.length d6, .slice b7 U.l7.length d7, .bool U.sp, .bool U.kl] 27) := (setRow_other _ _ _ _ (by have := ltX; omega)).trans K1.out
        have K2 : Hid (Blk (g48.setRow kb #[.slice b0 U.l0.length d0, .slice b1 U.l1.length d1, .slice b2 U.l2.length d2, .slice b3 U.l3.length d3, .slice b4 U.l4.length d4, .slice b5 U.l5.length d5, .slice b6 U.l6.length d6, .slice b7 U.l7.length d7]) (w.heap.size + 1 + 1) #[.slice none 0 0, .slice none 0 0, .slice none 0 0, .slice none 0 0, .slice none 0 0, .slice none 0 0, .slice none 0 0, .slice none 0 0, .bool false, .bool false] 27) := (setRow_other _ _ _ _ (by have := ltX; omega)).trans K2.out
        refine hK.out _ _ ?_ (fun hHeld => ?_)
        · exact ⟨K0.out, K1.out, K2.out⟩
        clear hK K
        try simp only [List.foldl, Act.put, List.setIfInBounds_toArray, List.set_cons_zero, List.set_cons_succ]
        generalize hGe : (g48.setRow kb #[.slice b0 U.l0.length d0, .slice b1 U.l1.length d1, .slice b2 U.l2.length d2, .slice b3 U.l3.length d3, .slice b4 U.l4.length d4, .slice b5 U.l5.length d5, .slice b6 U.l6.length d6, .slice b7 U.l7.length d7]) = g49 at Ka Kb hHeld LX K0 K1 K2 ⊢
        clear hGe hlx
        refine wpAnyH_done (by kernel_rfl) ?_ _
        go_wp2_with fail
        go_meet
        exact ⟨ka, kb, rfl, rfl, Ka.out, Kb.out, HXa.out, HXb.out, NEQ.out, LX.out⟩
      refine AllReadyH.cons rfl (fun K hK => ?_) AllReadyH.nil
      go_simp
      have hg : Below g45.heap.size g45 (g45.alloc (.cells #[.slice none 0 0, .slice none 0 0, .slice none 0 0, .slice none 0 0, .slice none 0 0, .slice none 0 0, .slice none 0 0, .slice none 0 0] 46)) := bl_alloc (Below.refl _ _) _
      have Ka : Hid (Blk (g45.alloc (.cells #[.slice none 0 0, .slice none 0 0, .slice none 0 0, .slice none 0 0, .slice none 0 0, .slice none 0 0, .slice none 0 0, .slice none 0 0] 46)) g45.heap.size #[.slice none 0 0, .slice none 0 0, .slice none 0 0, .slice none 0 0, .slice none 0 0, .slice none 0 0, .slice none 0 0, .slice none 0 0] 46) := Blk.new _ _ _
      have hxs : X.heap.size ≤ g45.heap.size := LX.out.size
      have NE : Hid (¬ kb = g45.heap.size) := by have := Kb.out.lt; show ¬ _; omega
      have LX : Hid (Below X.heap.size X (g45.alloc (.cells #[.slice none 0 0, .slice none 0 0, .slice none 0 0, .slice none 0 0, .slice none 0 0, .slice none 0 0, .slice none 0 0, .slice none 0 0] 46))) := bl_trans LX.out hg
      have K0 : Hid (Blk (g45.alloc (.cells #[.slice none 0 0, .slice none 0 0, .slice none 0 0, .slice none 0 0, .slice none 0 0, .slice none 0 0, .slice none 0 0, .slice none 0 0] 46)) w.heap.size #[.slice a0 V.l0.length c0, .slice a1 V.l1.length c1, .slice a2 V.l2.length c2, .slice a3 V.l3.length c3, .slice a4 V.l4.length c4, .slice a5 V.l5.length c5, .slice a6 V.l6.length c6, .slice a7 V.l7.length c7, .bool V.sp, .bool V.kl] 27) := K0.out.later hg
      have K1 : Hid (Blk (g45.alloc (.cells #[.slice none 0 0, .slice none 0 0, .slice none 0 0, .slice none 0 0, .slice none 0 0, .slice none 0 0, .slice none 0 0, .slice none 0 0] 46)) (w.heap.size + 1) #[.slice b0 U.l0.length d0, .slice b1 U.l1.length d1, .slice b2 U.l2.length d2, .slice b3 U.l3.length d3, .slice b4 U.l4.length d4, .slice b5 U.l5.length d5, .slice b6 U.l6.length d6, .slice b7 U.l7.length d7, .bool U.sp, .bool U.kl] 27) := K1.out.later hg
      have K2 : Hid (Blk (g45.alloc (.cells #[.slice none 0 0, .slice none 0 0, .slice none 0 0, .slice none 0 0, .slice none 0 0, .slice none 0 0, .slice none 0 0, .slice none 0 0] 46)) (w.heap.size + 1 + 1) #[.slice none 0 0, .slice none 0 0, .slice none 0 0, .slice none 0 0, .slice none 0 0, .slice none 0 0, .slice none 0 0, .slice none 0 0, .bool false, .bool false] 27) := K2.out.later hg
      have Kb : Hid (Blk (g45.alloc (.cells #[.slice none 0 0, .slice none 0 0, .slice none 0 0, .slice none 0 0, .slice none 0 0, .slice none 0 0, .slice none 0 0, .slice none 0 0] 46)) kb #[.slice none 0 0, .slice none 0 0, .slice none 0 0, .slice none 0 0, .slice none 0 0, .slice none 0 0, .slice none 0 0, .slice none 0 0] 46) := Kb.out.later hg
      clear hg
      refine hK.out _ _ ?_ (fun hHeld => ?_)
      · exact ⟨K0.out, K1.out, K2.out⟩
      clear hK K
      try simp only [List.foldl, Act.put, List.setIfInBounds_toArray, List.set_cons_zero, List.set_cons_succ]
      generalize hGe : (g45.alloc (.cells #[.slice none 0 0, .slice none 0 0, .slice none 0 0, .slice none 0 0, .slice none 0 0, .slice none 0 0, .slice none 0 0, .slice none 0 0] 46)) = g50 at Ka hHeld LX K0 K1 K2 Kb ⊢
      obtain ⟨ka, hka⟩ : ∃ k, g45.heap.size = k := ⟨_, rfl⟩
      have HXa : Hid (X.heap.size ≤ ka) := Nat.le_trans hxs (Nat.le_of_eq hka)
      clear hxs
      rw [hka] at Ka NE
      try rw [hka]
      clear hGe hka
      refine wpAnyH_ready (rs := [3]) (by kernel_rfl) (by simp) ?_
      refine AllReadyH.cons rfl (fun K hK => ?_) AllReadyH.nil
      go_simp
      refine (listsOf_any b0 b1 b2 b3 b4 b5 b6 b7 d0 d1 d2 d3 d4 d5 d6 d7 U _).mono ?_
      rintro z g51 ⟨rfl, hb⟩
      have hc : Below g50.heap.size g50 g51 := hb
      have LX : Hid (Below X.heap.size X g51) := bl_trans LX.out hc
      have K0 : Hid (Blk g51 w.heap.size #[.slice a0 V.l0.length c0, .slice a1 V.l1.length c1, .slice a2 V.l2.length c2, .slice a3 V.l3.length c3, .slice a4 V.l4.length c4, .slice a5 V.l5.length c5, .slice a6 V.l6.length c6, .slice a7 V.l7.length c7, .bool V.sp, .bool V.kl] 27) := K0.out.later hc
      have K1 : Hid (Blk g51 (w.heap.size + 1) #[.slice b0 U.l0.length d0, .slice b1 U.l1.length d1, .slice b2 U.l2.length d2, .slice b3 U.l3.length d3, .slice b4 U.l4.length d4, .slice b5 U.l5.length d5, .slice b6 U.l6.length d6, .slice b7 U.l7.length d7, .bool U.sp, .bool U.kl] 27) := K1.out.later hc
      have K2 : Hid (Blk g51 (w.heap.size + 1 + 1) #[.slice none 0 0, .slice none 0 0, .slice none 0 0, .slice none 0 0, .slice none 0 0, .slice none 0 0, .slice none 0 0, .slice none 0 0, .bool false, .bool false] 27) := K2.out.later hc
      have Kb : Hid (Blk g51 kb #[.slice none 0 0, .slice none 0 0, .slice none 0 0, .slice none 0 0, .slice none 0 0, .slice none 0 0, .slice none 0 0, .slice none 0 0] 46) := Kb.out.later hc
      have Ka : Hid (Blk g51 ka #[.slice none 0 0, .slice none 0 0, .slice none 0 0, .slice none 0 0, .slice none 0 0, .slice none 0 0, .slice none 0 0, .slice none 0 0] 46) := Ka.out.later hc
      clear hb hc
      refine hK.out _ _ ?_ (fun hHeld => ?_)
      · exact ⟨K0.out, K1.out, K2.out⟩
      clear hK K
      try simp only [List.foldl, Act.put, List.setIfInBounds_toArray, List.set_cons_zero, List.set_cons_succ]
      have NEQ : Hid (¬ ka = kb) := by first | exact NE.out | exact fun e => NE.out e.symm
      refine wpAnyH_ready (rs := [6]) (by kernel_rfl) (by simp) ?_
      refine AllReadyH.cons rfl (fun K hK => ?_) AllReadyH.nil
      refine wp_store_row 46 (.tmp 5) (.tmp 10) rfl ka #[.slice a0 V.l0.length c0, .slice a1 V.l1.length c1, .slice a2 V.l2.length c2, .slice a3 V.l3.length c3, .slice a4 V.l4.length c4, .slice a5 V.l5.length c5, .slice a6 V.l6.length c6, .slice a7 V.l7.length c7] rfl rfl 46 _ Ka.out (by rw [Try.infoLs]; rfl) rfl one8 ?_
      have hlx := HXa.out
      have LX : Hid (Below X.heap.size X (g51.setRow ka #[.slice a0 V.l0.length c0, .slice a1 V.l1.length c1, .slice a2 V.l2.length c2, .slice a3 V.l3.length c3, .slice a4 V.l4.length c4, .slice a5 V.l5.length c5, .slice a6 V.l6.length c6, .slice a7 V.l7.length c7])) := below_setRow LX.out hlx _
      have Ka : Hid (Blk (g51.setRow ka #[.slice a0 V.l0.length c0, .slice a1 V.l1.length c1, .slice a2 V.l2.length c2, .slice a3 V.l3.length c3, .slice a4 V.l4.length c4, .slice a5 V.l5.length c5, .slice a6 V.l6.length c6, .slice a7 V.l7.length c7]) ka #[.slice a0 V.l0.length c0, .slice a1 V.l1.length c1, .slice a2 V.l2.length c2, .slice a3 V.l3.length c3, .slice a4 V.l4.length c4, .slice a5 V.l5.length c5, .slice a6 V.l6.length c6, .slice a7 V.l7.length c7] 46) := setRow_heap _ _ _ _ _ _ Ka.out
      have Kb : Hid (Blk (g51.setRow ka #[.slice a0 V.l0.length c0, .slice a1 V.l1.length c1, .slice a2 V.l2.length c2, .slice a3 V.l3.length c3, .slice a4 V.l4.length c4, .slice a5 V.l5.length c5, .slice a6 V.l6.length c6, .slice a7 V.l7.length c7]) kb #[.slice none 0 0, .slice none 0 0, .slice none 0 0, .slice none 0 0, .slice none 0 0, .slice none 0 0, .slice none 0 0, .slice none 0 0] 46) := (setRow_other _ _ _ _ (by have := NEQ.out; omega)).trans Kb.out
      have K0 : Hid (Blk (g51.setRow ka #[.slice a0 V.l0.length c0, .slice a1 V.l1.length c1, .slice a2 V.l2.length c2, .slice a3 V.l3.length c3, .slice a4 V.l4.length c4, .slice a5 V.l5.length c5, .slice a6 V.l6.length c6, .slice a7 V.l7.length c7]) w.heap.size #[.slice a0 V.l0.length c0, .slice a1 V.l1.length c1, .slice a2 V.l2.length c2, .slice a3 V.l3.length c3, .slice a4 V.l4.length c4, .slice a5 V.l5.length c5, .slice a6 V.l6.length c6, .slice a7 V.l7.length c7, .bool V.sp, .bool V.kl] 27) := (setRow_other _ _ _ _ (by have := ltX; omega)).trans K0.out
      have K1 : Hid (Blk (g51.setRow ka #[.slice a0 V.l0.length c0, .slice a1 V.l1.length c1, .slice a2 V.l2.length c2, .slice a3 V.l3.length c3, .slice a4 V.l4.length c4, .slice a5 V.l5.length c5, .slice a6 V.l6.length c6, .slice a7 V.l7.length c7]) (w.heap.size + 1) #[.slice b0 U.l0.length d0, .slice b1 U.l1.length d1, .slice b2 U.l2.length d2, .slice b3 U.l3.length d3, .slice b4 U.l4.length d4, .slice b5 U.l5.length d5, .slice b6 U.l6.length d6, .slice b7 U.l7.length d7, .bool U.sp, .bool U.kl] 27) := (setRow_other _ _ _ _ (by have := ltX; omega)).trans K1.out
      have K2 : Hid (Blk (g51.setRow ka #[.slice a0 V.l0.length c0, .slice a1 V.l1.length c1, .slice a2 V.l2.length c2, .slice a3 V.l3.length c3, .slice a4 V.l4.length c4, .slice a5 V.l5.length c5, .slice a6 V.l6.length c6, .slice a7 V.l7.length c7]) (w.heap.size + 1 + 1) #[.slice none 0 0, .slice none 0 0, .slice none 0 0, .slice none 0 0, .slice none 0 0, .slice none 0 0, .slice none 0 0, .slice none 0 0, .bool false, .bool false] 27) := (setRow_other _ _ _ _ (by have := ltX; omega)).trans K2.out
      refine hK.out _ _ ?_ (fun hHeld => ?_)
      · exact ⟨K0.out, K1.out, K2.out⟩
      clear hK K
      try simp only [List.foldl, Act.put, List.setIfInBounds_toArray, List.set_cons_zero, List.set_cons_succ]
      generalize hGe : (g51.setRow ka #[.slice a0 V.l0.length c0, .slice a1 V.l1.length c1, .slice a2 V.l2.length c2, .slice a3 V.l3.length c3, .slice a4 V.l4.length c4, .slice a5 V.l5.length c5, .slice a6 V.l6.length c6, .slice a7 V.l7.length c7]) = g52 at Ka Kb hHeld LX K0 K1 K2 ⊢
      clear hGe hlx
      refine wpAnyH_ready (rs := [7]) (by kernel_rfl) (by simp) ?_
      refine AllReadyH.cons rfl (fun K hK => ?_) AllReadyH.nil
      refine wp_store_row 46 (.tmp 6) (.tmp 12) rfl kb #[.slice b0 U.l0.length d0, .slice b1 U.l1.length d1, .slice b2 U.l2.length d2, .slice b3 U.l3.length d3, .slice b4 U.l4.length d4, .slice b5 U.l5.length d5, .slice b6 U.l6.length d6, .slice b7 U.l7.length d7] rfl rfl 46 _ Kb.out (by rw [Try.infoLs]; rfl) rfl one8 ?_
      have hlx := HXb.out
      have LX : Hid (Below X.heap.size X (g52.setRow kb #[.slice b0 U.l0.length d0, .slice b1 U.l1.length d1, .slice b2 U.l2.length d2, .slice b3 U.l3.length d3, .slice b4 U.l4.length d4, .slice b5 U.l5.length d5, .slice b6 U.l6.length d6, .slice b7 U.l7.length d7])) := below_setRow LX.out hlx _
      have Kb : Hid (Blk (g52.setRow kb #[.slice b0 U.l0.length d0, .slice b1 U.l1.length d1, .slice b2 U.l2.length d2, .slice b3 U.l3.length d3, .slice b4 U.l4.length d4, .slice b5 U.l5.length d5, .slice b6 U.l6.length d6, .slice b7 U.l7.length d7]) kb #[.slice b0 U.l0.length d0, .slice b1 U.l1.length d1, .slice b2 U.l2.length d2, .slice b3 U.l3.length d3, .slice b4 U.l4.length d4, .slice b5 U.l5.length d5, .slice b6 U.l6.length d6, .slice b7 U.l7.length d7] 46) := setRow_heap _ _ _ _ _ _ Kb.out
      have Ka : Hid (Blk (g52.setRow kb #[.slice b0 U.l0.length d0, .slice b1 U.l1.length d1, .slice b2 U.l2.length d2, .slice b3 U.l3.length d3, .slice b4 U.l4.length d4, .slice b5 U.l5.length d5, .slice b6 U.l6.length d6, .slice b7 U.l7.length d7]) ka #[.slice a0 V.l0.length c0, .slice a1 V.l1.length c1, .slice a2 V.l2.length c2, .slice a3 V.l3.length c3, .slice a4 V.l4.length c4, .slice a5 V.l5.length c5, .slice a6 V.l6.length c6, .slice a7 V.l7.length c7] 46) := (setRow_other _ _ _ _ (by have := NEQ.out; omega)).trans Ka.out
      have K0 : Hid (Blk (g52.setRow kb #[.slice b0 U.l0.length d0, .slice b1 U.l1.length d1, .slice b2 U.l2.length d2, .slice b3 U.l3.length d3, .slice b4 U.l4.length d4, .slice b5 U.l5.length d5, .slice b6 U.l6.length d6, .slice b7 U.l7.length d7]) w.heap.size #[.slice a0 V.l0.length c0, .slice a1 V.l1.length c1, .slice a2 V.l2.length c2, .slice a3 V.l3.length c3, .slice a4 V.l4.length c4, .slice a5 V.l5.length c5, .slice a6 V.l6.length c6, .slice a7 V.l7.length c7, .bool V.sp, .bool V.kl] 27) := (setRow_other _ _ _ _ (by have := ltX; omega)).trans K0.out
      have K1 : Hid (Blk (g52.setRow kb #[.slice b0 U.l0.length d0, .slice b1 U.l1.length d1, .slice b2 U.l2.length d2, .slice b3 U.l3.length d3, .slice b4 U.l4.length d4, .slice b5 U.l5.length d5, .slice b6 U.l6.length d6, .slice b7 U.l7.length d7]) (w.heap.size + 1) #[.slice b0 U.l0.length d0, .slice b1 U.l1.length d1, .slice b2 U.l2.length d2, .slice b3 U.l3.length d3, .slice b4 U.l4.length d4, .slice b5 U.l5.length d5, .slice b6 U.l6.length d6, .slice b7 U.l7.length d7, .bool U.sp, .bool U.kl] 27) := (setRow_other _ _ _ _ (by have := ltX; omega)).trans K1.out
      have K2 : Hid (Blk (g52.setRow kb #[.slice b0 U.l0.length d0, .slice b1 U.l1.length d1, .slice b2 U.l2.length d2, .slice b3 U.l3.length d3, .slice b4 U.l4.length d4, .slice b5 U.l5.length d5, .slice b6 U.l6.length d6, .slice b7 U.l7.length d7]) (w.heap.size + 1 + 1) #[.slice none 0 0, .slice none 0 0, .slice none 0 0, .slice none 0 0, .slice none 0 0, .slice none 0 0, .slice none 0 0, .slice none 0 0, .bool false, .bool false] 27) := (setRow_other _ _ _ _ (by have := ltX; omega)).trans K2.out
      refine hK.out _ _ ?_ (fun hHeld => ?_)
      · exact ⟨K0.out, K1.out, K2.out⟩
      clear hK K
      try simp only [List.foldl, Act.put, List.setIfInBounds_toArray, List.set_cons_zero, List.set_cons_succ]
      generalize hGe : (g52.setRow kb #[.slice b0 U.l0.length d0, .slice b1 U.l1.length d1, .slice b2 U.l2.length d2, .slice b3 U.l3.length d3, .slice b4 U.l4.length d4, .slice b5 U.l5.length d5, .slice b6 U.l6.length d6, .slice b7 U.l7.length d7]) = g53 at Ka Kb hHeld LX K0 K1 K2 ⊢
      clear hGe hlx
      refine wpAnyH_done (by kernel_rfl) ?_ _
      go_wp2_with fail
      go_meet
      exact ⟨ka, kb, rfl, rfl, Ka.out, Kb.out, HXa.out, HXb.out, NEQ.out, LX.out⟩
    refine AllReadyH.cons rfl (fun K hK => ?_) AllReadyH.nil
    go_simp
    have hg : Below g44.heap.size g44 (g44.alloc (.cells #[.slice none 0 0, .slice none 0 0, .slice none 0 0, .slice none 0 0, .slice none 0 0, .slice none 0 0, .slice none 0 0, .slice none 0 0] 46)) := bl_alloc (Below.refl _ _) _
    have Ka : Hid (Blk (g44.alloc (.cells #[.slice none 0 0, .slice none 0 0, .slice none 0 0, .slice none 0 0, .slice none 0 0, .slice none 0 0, .slice none 0 0, .slice none 0 0] 46)) g44.heap.size #[.slice none 0 0, .slice none 0 0, .slice none 0 0, .slice none 0 0, .slice none 0 0, .slice none 0 0, .slice none 0 0, .slice none 0 0] 46) := Blk.new _ _ _
    have hxs : X.heap.size ≤ g44.heap.size := LX.out.size
    have NE : Hid (¬ kb = g44.heap.size) := by have := Kb.out.lt; show ¬ _; omega
    have LX : Hid (Below X.heap.size X (g44.alloc (.cells #[.slice none 0 0, .slice none 0 0, .slice none 0 0, .slice none 0 0, .slice none 0 0, .slice none 0 0, .slice none 0 0, .slice none 0 0] 46))) := bl_trans LX.out hg
    have K0 : Hid (Blk (g44.alloc (.cells #[.slice none 0 0, .slice none 0 0, .slice none 0 0, .slice none 0 0, .slice none 0 0, .slice none 0 0, .slice none 0 0, .slice none 0 0] 46)) w.heap.size #[.slice a0 V.l0.length c0, .slice a1 V.l1.length c1, .slice a2 V.l2.length c2, .slice a3 V.l3.length c3, .slice a4 V.l4.length c4, .slice a5 V.l5.length c5, .slice a6 V.l6.length c6, .slice a7 V.l7.length c7, .bool V.sp, .bool V.kl] 27) := K0.out.later hg
    have K1 : Hid (Blk (g44.alloc (.cells #[.slice none 0 0, .slice none 0 0, .slice none 0 0, .slice none 0 0, .slice none 0 0, .slice none 0 0, .slice none 0 0, .slice none 0 0] 46)) (w.heap.size + 1) #[.slice b0 U.l0.length d0, .slice b1 U.l1.length d1, .slice b2 U.l2.length d2, .slice b3 U.l3.length d3, .slice b4 U.l4.length d4, .slice b5 U.l5.length d5, .slice b6 U.l6.length d6, .slice b7 U.l7.length d7, .bool U.sp, .bool U.kl] 27) := K1.out.later hg
    have K2 : Hid (Blk (g44.alloc (.cells #[.slice none 0 0, .slice none 0 0, .slice none 0 0, .slice none 0 0, .slice none 0 0, .slice none 0 0, .slice none 0 0, .slice none 0 0] 46)) (w.heap.size + 1 + 1) #[.slice none 0 0, .slice none 0 0, .slice none 0 0, .slice none 0 0, .slice none 0 0, .slice none 0 0, .slice none 0 0, .slice none 0 0, .bool false, .bool false] 27) := K2.out.later hg
    have Kb : Hid (Blk (g44.alloc (.cells #[.slice none 0 0, .slice none 0 0, .slice none 0 0, .slice none 0 0, .slice none 0 0, .slice none 0 0, .slice none 0 0, .slice none 0 0] 46)) kb #[.slice none 0 0, .slice none 0 0, .slice none 0 0, .slice none 0 0, .slice none 0 0, .slice none 0 0, .slice none 0 0, .slice none 0 0] 46) := Kb.out.later hg
    clear hg
    refine hK.out _ _ ?_ (fun hHeld => ?_)
    · exact ⟨K0.out, K1.out, K2.out⟩
    clear hK K
    try simp only [List.foldl, Act.put, List.setIfInBounds_toArray, List.set_cons_zero, List.set_cons_succ]
    generalize hGe : (g44.alloc (.cells #[.slice none 0 0, .slice none 0 0, .slice none 0 0, .slice none 0 0, .slice none 0 0, .slice none 0 0, .slice none 0 0, .slice none 0 0] 46)) = g54 at Ka hHeld LX K0 K1 K2 Kb ⊢
    obtain ⟨ka, hka⟩ : ∃ k, g44.heap.size = k := ⟨_, rfl⟩
    have HXa : Hid (X.heap.size ≤ ka) := Nat.le_trans hxs (Nat.le_of_eq hka)
    clear hxs
    rw [hka] at Ka NE
    try rw [hka]
    clear hGe hka
    refine wpAnyH_ready (rs := [1]) (by kernel_rfl) (by simp) ?_
    refine AllReadyH.cons rfl (fun K hK => ?_) AllReadyH.nil
    go_simp
    refine (listsOf_any a0 a1 a2 a3 a4 a5 a6 a7 c0 c1 c2 c3 c4 c5 c6 c7 V _).mono ?_
    rintro z g55 ⟨rfl, hb⟩
    have hc : Below g54.heap.size g54 g55 := hb
    have LX : Hid (Below X.heap.size X g55) := bl_trans LX.out hc
    have K0 : Hid (Blk g55 w.heap.size #[.slice a0 V.l0.length c0, .slice a1 V.l1.length c1, .slice a2 V.l2.length c2, .slice a3 V.l3.length c3, .slice a4 V.l4.length c4, .slice a5 V.l5.length c5, .slice a6 V.l6.length c6, .slice a7 V.l7.length c7, .bool V.sp, .bool V.kl] 27) := K0.out.later hc
    have K1 : Hid (Blk g55 (w.heap.size + 1) #[.slice b0 U.l0.length d0, .slice b1 U.l1.length d1, .slice b2 U.l2.length d2, .slice b3 U.l3.length d3, .slice b4 U.l4.length d4, .slice b5 U.l5.length d5, .slice b6 U.l6.length d6, .slice b7 U.l7.length d7, .bool U.sp, .bool U.kl] 27) := K1.out.later hc
    have K2 : Hid (Blk g55 (w.heap.size + 1 + 1) #[.slice none 0 0, .slice none 0 0, .slice none 0 0, .slice none 0 0, .slice none 0 0, .slice none 0 0, .slice none 0 0, .slice none 0 0, .bool false, .bool false] 27) := K2.out.later hc
    have Kb : Hid (Blk g55 kb #[.slice none 0 0, .slice none 0 0, .slice none 0 0, .slice none 0 0, .slice none 0 0, .slice none 0 0, .slice none 0 0, .slice none 0 0] 46) := Kb.out.later hc
    have Ka : Hid (Blk g55 ka #[.slice none 0 0, .slice none 0 0, .slice none 0 0, .slice none 0 0, .slice none 0 0, .slice none 0 0, .slice none 0 0, .slice none 0 0] 46) := Ka.out.later hc
    clear hb hc
    refine hK.out _ _ ?_ (fun hHeld => ?_)
    · exact ⟨K0.out, K1.out, K2.out⟩
    clear hK K
    try simp only [List.foldl, Act.put, List.setIfInBounds_toArray, List.set_cons_zero, List.set_cons_succ]
    refine wpAnyH_ready (rs := [3]) (by kernel_rfl) (by simp) ?_
    refine AllReadyH.cons rfl (fun K hK => ?_) AllReadyH.nil
    go_simp
    refine (listsOf_any b0 b1 b2 b3 b4 b5 b6 b7 d0 d1 d2 d3 d4 d5 d6 d7 U _).mono ?_
    rintro z g56 ⟨rfl, hb⟩
    have hc : Below g55.heap.size g55 g56 := hb
    have LX : Hid (Below X.heap.size X g56) := bl_trans LX.out hc
    have K0 : Hid (Blk g56 w.heap.size #[.slice a0 V.l0.length c0, .slice a1 V.l1.length c1, .slice a2 V.l2.length c2, .slice a3 V.l3.length c3, .slice a4 V.l4.length c4, .slice a5 V.l5.length c5, .slice a6 V.l6.length c6, .slice a7 V.l7.length c7, .bool V.sp, .bool V.kl] 27) := K0.out.later hc
    have K1 : Hid (Blk g56 (w.heap.size + 1) #[.slice b0 U.l0.length d0, .slice b1 U.l1.length d1, .slice b2 U.l2.length d2, .slice b3 U.l3.length d3, .slice b4 U.l4.length d4, .slice b5 U.l5.length d5, .slice b6 U.l6.length d6, .slice b7 U.l7.length d7, .bool U.sp, .bool U.kl] 27) := K1.out.later hc
    have K2 : Hid (Blk g56 (w.heap.size + 1 + 1) #[.slice none 0 0, .slice none 0 0, .slice none 0 0, .slice none 0 0, .slice none 0 0, .slice none 0 0, .slice none 0 0, .slice none 0 0, .bool false, .bool false] 27) := K2.out.later hc
    have Kb : Hid (Blk g56 kb #[.slice none 0 0, .slice none 0 0, .slice none 0 0, .slice none 0 0, .slice none 0 0, .slice none 0 0, .slice none 0 0, .slice none 0 0] 46) := Kb.out.later hc
    have Ka : Hid (Blk g56 ka #[.slice none 0 0, .slice none 0 0, .slice none 0 0, .slice none 0 0, .slice none 0 0, .slice none 0 0, .slice none 0 0, .slice none 0 0] 46) := Ka.out.later hc
    clear hb hc
    refine hK.out _ _ ?_ (fun hHeld => ?_)
    · exact ⟨K0.out, K1.out, K2.out⟩
    clear hK K
    try simp only [List.foldl, Act.put, List.setIfInBounds_toArray, List.set_cons_zero, List.set_cons_succ]
    have NEQ : Hid (¬ ka = kb) := by first | exact NE.out | exact fun e => NE.out e.symm
    refine wpAnyH_ready (rs := [6]) (by kernel_rfl) (by simp) ?_
    refine AllReadyH.cons rfl (fun K hK => ?_) AllReadyH.nil
    refine wp_store_row 46 (.tmp 5) (.tmp 10) rfl ka #[.slice a0 V.l0.length c0, .slice a1 V.l1.length c1, .slice a2 V.l2.length c2, .slice a3 V.l3.length c3, .slice a4 V.l4.length c4, .slice a5 V.l5.length c5, .slice a6 V.l6.length c6, .slice a7 V.l7.length c7] rfl rfl 46 _ Ka.out (by rw [Try.infoLs]; rfl) rfl one8 ?_
    have hlx := HXa.out
    have LX : Hid (Below X.heap.size X (g56.setRow ka #[.slice a0 V.l0.length c0, .slice a1 V.l1.length c1, .slice a2 V.l2.length c2, .slice a3 V.l3.length c3, .slice a4 V.l4.length c4, .slice a5 V.l5.length c5, .slice a6 V.l6.length c6, .slice a7 V.l7.length c7])) := below_setRow LX.out hlx _
    have Ka : Hid (Blk (g56.setRow ka #[.slice a0 V.l0.length c0, .slice a1 V.l1.length c1, .slice a2 V.l2.length c2, .slice a3 V.l3.length c3, .slice a4 V.l4.length c4, .slice a5 V.l5.length c5, .slice a6 V.l6.length c6, .slice a7 V.l7.length c7]) ka #[.slice a0 V.l0.length c0, .slice a1 V.l1.length c1, .slice a2 V.l2.length c2, .slice a3 V.l3.length c3, .slice a4 V.l4.length c4, .slice a5 V.l5.length c5, .slice a6 V.l6.length c6, .slice a7 V.l7.length c7] 46) := setRow_heap _ _ _ _ _ _ Ka.out
    have Kb : Hid (Blk (g56.setRow ka #[.slice a0 V.l0.length c0, .slice a1 V.l1.length c1, .slice a2 V.l2.length c2, .slice a3 V.l3.length c3, .slice a4 V.l4.length c4, .slice a5 V.l5.length c5, .slice a6 V.l6.length c6, .slice a7 V.l7.length c7]) kb #[.slice none 0 0, .slice none 0 0, .slice none 0 0, .slice none 0 0, .slice none 0 0, .slice none 0 0, .slice none 0 0, .slice none 0 0] 46) := (setRow_other _ _ _ _ (by have := NEQ.out; omega)).trans Kb.out
    have K0 : Hid (Blk (g56.setRow ka #[.slice a0 V.l0.length c0, .slice a1 V.l1.length c1, .slice a2 V.l2.length c2, .slice a3 V.l3.length c3, .slice a4 V.l4.length c4, .slice a5 V.l5.length c5, .slice a6 V.l6.length c6, .slice a7 V.l7.length c7]) w.heap.size #[.slice a0 V.l0.length c0, .slice a1 V.l1.length c1, .slice a2 V.l2.length c2, .slice a3 V.l3.length c3, .slice a4 V.l4.length c4, .slice a5 V.l5.length c5, .slice a6 V.l6.length c6, .slice a7 V.l7.length c7, .bool V.sp, .bool V.kl] 27) := (setRow_other _ _ _ _ (by have := ltX; omega)).trans K0.out
    have K1 : Hid (Blk (g56.setRow ka #[.slice a0 V.l0.length c0, .slice a1 V.l1.length c1, .slice a2 V.l2.length c2, .slice a3 V.l3.length c3, .slice a4 V.l4.length c4, .slice a5 V.l5.length c5, .slice a6 V.l6.length c6, .slice a7 V.l7.length c7]) (w.heap.size + 1) #[.slice b0 U.l0.length d0, .slice b1 U.l1.length d1, .slice b2 U.l2.length d2, .slice b3 U.l3.length d3, .slice b4 U.l4.length d4, .slice b5 U.l5.length d5, .slice b6 U.l6.length d6, .slice b7 U.l7.length d7, .bool U.sp, .bool U.kl] 27) := (setRow_other _ _ _ _ (by have := ltX; omega)).trans K1.out
    have K2 : Hid (Blk (g56.setRow ka #[.slice a0 V.l0.length c0, .slice a1 V.l1.length c1, .slice a2 V.l2.length c2, .slice a3 V.l3.length c3, .slice a4 V.l4.length c4, .slice a5 V.l5.length c5, .slice a6 V.l6.length c6, .slice a7 V.l7.length c7]) (w.heap.size + 1 + 1) #[.slice none 0 0, .slice none 0 0, .slice none 0 0, .slice none 0 0, .slice none 0 0, .slice none 0 0, .slice none 0 0, .slice none 0 0, .bool false, .bool false] 27) := (setRow_other _ _ _ _ (by have := ltX; omega)).trans K2.out
    refine hK.out _ _ ?_ (fun hHeld => ?_)
    · exact ⟨K0.out, K1.out, K2.out⟩
    clear hK K
    try simp only [List.foldl, Act.put, List.setIfInBounds_toArray, List.set_cons_zero, List.set_cons_succ]
    generalize hGe : (g56.setRow ka #[.slice a0 V.l0.length c0, .slice a1 V.l1.length c1, .slice a2 V.l2.length c2, .slice a3 V.l3.length c3, .slice a4 V.l4.length c4, .slice a5 V.l5.length c5, .slice a6 V.l6.length c6, .slice a7 V.l7.length c7]) = g57 at Ka Kb hHeld LX K0 K1 K2 ⊢
    clear hGe hlx
    refine wpAnyH_ready (rs := [7]) (by kernel_rfl) (by simp) ?_
    refine AllReadyH.cons rfl (fun K hK => ?_) AllReadyH.nil
    refine wp_store_row 46 (.tmp 6) (.tmp 12) rfl kb #[.slice b0 U.l0.length d0, .slice b1 U.l1.length d1, .slice b2 U.l2.length d2, .slice b3 U.l3.length d3, .slice b4 U.l4.length d4, .slice b5 U.l5.length d5, .slice b6 U.l6.length d6, .slice b7 U.l7.length d7] rfl rfl 46 _ Kb.out (by rw [Try.infoLs]; rfl) rfl one8 ?_
    have hlx := HXb.out
    have LX : Hid (Below X.heap.size X (g57.setRow kb #[.slice b0 U.l0.length d0, .slice b1 U.l1.length d1, .slice b2 U.l2.length d2, .slice b3 U.l3.length d3, .slice b4 U.l4.length d4, .slice b5 U.l5.length d5, .slice b6 U.l6.length d6, .slice b7 U.l7.length d7])) := below_setRow LX.out hlx _
    have Kb : Hid (Blk (g57.setRow kb #[.slice b0 U.l0.length d0, .slice b1 U.l1.length d1, .slice b2 U.l2.length d2, .slice b3 U.l3.length d3, .slice b4 U.l4.length d4, .slice b5 U.l5.length d5, .slice b6 U.l6.length d6, .slice b7 U.l7.length d7]) kb #[.slice b0 U.l0.length d0, .slice b1 U.l1.length d1, .slice b2 U.l2.length d2, .slice b3 U.l3.length d3, .slice b4 U.l4.length d4, .slice b5 U.l5.length d5, .slice b6 U.l6.length d6, .slice b7 U.l7.length d7] 46) := setRow_heap _ _ _ _ _ _ Kb.out
    have Ka : Hid (Blk (g57.setRow kb #[.slice b0 U.l0.length d0, .slice b1 U.l1.length d1, .slice b2 U.l2.length d2, .slice b3 U.l3.length d3, .slice b4 U.l4.length d4, .slice b5 U.l5.length d5, .slice b6 U.l6.length d6, .slice b7 U.l7.length d7]) ka #[.slice a0 V.l0.length c0, .slice a1 V.l1.length c1, .slice a2 V.l2.length c2, .slice a3 V.l3.length c3, .slice a4 V.l4.length c4, .slice a5 V.l5.length c5, .slice a6 V.l6.length c6, .slice a7 V.l7.length c7] 46) := (setRow_other _ _ _ _ (by have := NEQ.out; omega)).trans Ka.out
    have K0 : Hid (Blk (g57.setRow kb #[.slice b0 U.l0.length d0, .slice b1 U.l1.length d1, .slice b2 U.l2.length d2, .slice b3 U.l3.length d3, .slice b4 U.l4.length d4, .slice b5 U.l5.length d5, .slice b6 U.l6.length d6, .slice b7 U.l7.length d7]) w.heap.size #[.slice a0 V.l0.length c0, .slice a1 V.l1.length c1, .slice a2 V.l2.length c2, .slice a3 V.l3.length c3, .slice a4 V.l4.length c4, .slice a5 V.l5.length c5, .slice a6 V.l6.length c6, .slice a7 V.l7.length c7, .bool V.sp, .bool V.kl] 27) := (setRow_other _ _ _ _ (by have := ltX; omega)).trans K0.out
    have K1 : Hid (Blk (g57.setRow kb #[.slice b0 U.l0.length d0, .slice b1 U.l1.length d1, .slice b2 U.l2.length d2, .slice b3 U.l3.length d3, .slice b4 U.l4.length d4, .slice b5 U.l5.length d5, .slice b6 U.l6.length d6, .slice b7 U.l7.length d7]) (w.heap.size + 1) #[.slice b0 U.l0.length d0, .slice b1 U.l1.length d1, .slice b2 U.l2.length d2, .slice b3 U.l3.length d3, .slice b4 U.l4.length d4, .slice b5 U.l5.length d5, .slice b6 U.l6.length d6, .slice b7 U.l7.length d7, .bool U.sp, .bool U.kl] 27) := (setRow_other _ _ _ _ (by have := ltX; omega)).trans K1.out
    have K2 : Hid (Blk (g57.setRow kb #[.slice b0 U.l0.length d0, .slice b1 U.l1.length d1, .slice b2 U.l2.length d2, .slice b3 U.l3.length d3, .slice b4 U.l4.length d4, .slice b5 U.l5.length d5, .slice b6 U.l6.length d6, .slice b7 U.l7.length d7]) (w.heap.size + 1 + 1) #[.slice none 0 0, .slice none 0 0, .slice none 0 0, .slice none 0 0, .slice none 0 0, .slice none 0 0, .slice none 0 0, .slice none 0 0, .bool false, .bool false] 27) := (setRow_other _ _ _ _ (by have := ltX; omega)).trans K2.out
    refine hK.out _ _ ?_ (fun hHeld => ?_)
    · exact ⟨K0.out, K1.out, K2.out⟩
    clear hK K
    try simp only [List.foldl, Act.put, List.setIfInBounds_toArray, List.set_cons_zero, List.set_cons_succ]
    generalize hGe : (g57.setRow kb #[.slice b0 U.l0.length d0, .slice b1 U.l1.length d1, .slice b2 U.l2.length d2, .slice b3 U.l3.length d3, .slice b4 U.l4.length d4, .slice b5 U.l5.length d5, .slice b6 U.l6.length d6, .slice b7 U.l7.length d7]) = g58 at Ka Kb hHeld LX K0 K1 K2 ⊢
    clear hGe hlx
    refine wpAnyH_done (by kernel_rfl) ?_ _
    go_wp2_with fail
    go_meet
    exact ⟨ka, kb, rfl, rfl, Ka.out, Kb.out, HXa.out, HXb.out, NEQ.out, LX.out⟩
  case rest =>
    obtain ⟨ka, kb, rfl, rfl, Ka, Kb, xa, xb, NE, LX⟩ := hcut
    have HK0 : Hid (Blk wc w.heap.size #[.slice a0 V.l0.length c0, .slice a1 V.l1.length c1, .slice a2 V.l2.length c2, .slice a3 V.l3.length c3, .slice a4 V.l4.length c4, .slice a5 V.l5.length c5, .slice a6 V.l6.length c6, .slice a7 V.l7.length c7, .bool V.sp, .bool V.kl] 27) := K0.out.later LX
    have HK1 : Hid (Blk wc (w.heap.size + 1) #[.slice b0 U.l0.length d0, .slice b1 U.l1.length d1, .slice b2 U.l2.length d2, .slice b3 U.l3.length d3, .slice b4 U.l4.length d4, .slice b5 U.l5.length d5, .slice b6 U.l6.length d6, .slice b7 U.l7.length d7, .bool U.sp, .bool U.kl] 27) := K1.out.later LX
    have HK2 : Hid (Blk wc (w.heap.size + 1 + 1) #[.slice none 0 0, .slice none 0 0, .slice none 0 0, .slice none 0 0, .slice none 0 0, .slice none 0 0, .slice none 0 0, .slice none 0 0, .bool false, .bool false] 27) := K2.out.later LX
    have na : Hid (ka < wc.heap.size) := Ka.lt
    have nb : Hid (kb < wc.heap.size) := Kb.lt
    have n2 : Hid (w.heap.size + 1 + 1 < wc.heap.size) := by have := LX.size; show _ < _; omega
    have Ka := Hid.mk' (Ka.alloc (.cells #[.slice none 0 0, .slice none 0 0, .slice none 0 0, .slice none 0 0, .slice none 0 0, .slice none 0 0, .slice none 0 0, .slice none 0 0] 46))
    have Kb := Hid.mk' (Kb.alloc (.cells #[.slice none 0 0, .slice none 0 0, .slice none 0 0, .slice none 0 0, .slice none 0 0, .slice none 0 0, .slice none 0 0, .slice none 0 0] 46))
    have LC : Hid (Below w.heap.size w wc) := bl_trans L0 LX
    clear K0 K1 K2 xa xb NE LX L0 ltX
    go_wp2_with fail
    have Kl := Hid.mk' (Blk.new wc #[.slice none 0 0, .slice none 0 0, .slice none 0 0, .slice none 0 0, .slice none 0 0, .slice none 0 0, .slice none 0 0, .slice none 0 0] 46)
    have hb := Hid.mk' (bl_alloc (Below.refl _ wc) (.cells #[.slice none 0 0, .slice none 0 0, .slice none 0 0, .slice none 0 0, .slice none 0 0, .slice none 0 0, .slice none 0 0, .slice none 0 0] 46))
    have CH : Hid (Ch (wc.alloc (.cells #[.slice none 0 0, .slice none 0 0, .slice none 0 0, .slice none 0 0, .slice none 0 0, .slice none 0 0, .slice none 0 0, .slice none 0 0] 46)) (wc.heap.size + 1) (fun _ => none) (fun _ => 0) (fun _ => (wc.alloc (.cells #[.slice none 0 0, .slice none 0 0, .slice none 0 0, .slice none 0 0, .slice none 0 0, .slice none 0 0, .slice none 0 0, .slice none 0 0] 46)).heap.size) (fun _ => []) 0) := (Ch.start _ _ _ _).lower (by simp)
    generalize hY : wc.alloc (.cells #[.slice none 0 0, .slice none 0 0, .slice none 0 0, .slice none 0 0, .slice none 0 0, .slice none 0 0, .slice none 0 0, .slice none 0 0] 46) = Y at Ka Kb Kl hb CH ⊢
    clear hY
    go_loopw [13] (fun v wr => ∃ (k : Nat) (P : Nat → Option Addr) (Cp N : Nat → Nat) (RR : Nat → List Int), k ≤ 8 ∧ v = .int .i64 k ∧ Hid (Blk wr ka #[.slice a0 V.l0.length c0, .slice a1 V.l1.length c1, .slice a2 V.l2.length c2, .slice a3 V.l3.length c3, .slice a4 V.l4.length c4, .slice a5 V.l5.length c5, .slice a6 V.l6.length c6, .slice a7 V.l7.length c7] 46) ∧ Hid (Blk wr kb #[.slice b0 U.l0.length d0, .slice b1 U.l1.length d1, .slice b2 U.l2.length d2, .slice b3 U.l3.length d3, .slice b4 U.l4.length d4, .slice b5 U.l5.length d5, .slice b6 U.l6.length d6, .slice b7 U.l7.length d7] 46) ∧ Hid (Blk wr wc.heap.size (rowP P Cp RR k) 46) ∧ Hid (Ch wr (wc.heap.size + 1) P Cp N RR k) ∧ Hid (∀ j, j < k → Srt (V.lst j ++ U.lst j) (RR j)) ∧ Hid (Below wc.heap.size wc wr)) (fun v _ => 8 - (intOf v).toNat)
    case atStart => exact ⟨0, _, _, _, _, by omega, rfl, Ka, Kb, Kl, CH, (fun j hj => by omega), hb⟩
    case round =>
      clear Ka Kb Kl hb CH Y
      obtain ⟨k, P, Cp, N, RR, hk, rfl, Ka, Kb, Kl, CH, hJ, hb⟩ := hrel
      by_cases h8 : k < 8
      · obtain ⟨sA, cA, r1, E1⟩ := HV.out.at c0 c1 c2 c3 c4 c5 c6 c7 h8
        obtain ⟨sB, cB, r2, E2⟩ := HU.out.at d0 d1 d2 d3 d4 d5 d6 d7 h8
        have lA := KV.out k
        have lB := KU.out k
        have E1 : Hid (Els 1 cInt wr 0 sA (V.lst k)) := (E1.drop cInt_drops (Nat.zero_le _)).later cInt_keeps (bl_trans LC.out hb.out)
        have E2 : Hid (Els 1 cInt wr 0 sB (U.lst k)) := (E2.drop cInt_drops (Nat.zero_le _)).later cInt_keeps (bl_trans LC.out hb.out)
        have i8 : decide ((k : Int) < 8) = true := by simp; omega
        have i8' : (k : Int) < 8 := by omega
        obtain ⟨A, hA⟩ : ∃ A, Hid (V.lst k = A) := ⟨_, (rfl : V.lst k = _)⟩
        obtain ⟨Bl, hB⟩ : ∃ A, Hid (U.lst k = A) := ⟨_, (rfl : U.lst k = _)⟩
        rw [hA.out] at r1 lA E1
        rw [hB.out] at r2 lB E2
        go_wp2_with fail
        have LY : Hid (Below wr.heap.size wr wr) := Below.refl _ _
        refine wp_region_held_drew (S := fun w' => Blk w' ka #[.slice a0 V.l0.length c0, .slice a1 V.l1.length c1, .slice a2 V.l2.length c2, .slice a3 V.l3.length c3, .slice a4 V.l4.length c4, .slice a5 V.l5.length c5, .slice a6 V.l6.length c6, .slice a7 V.l7.length c7] 46 ∧ Blk w' kb #[.slice b0 U.l0.length d0, .slice b1 U.l1.length d1, .slice b2 U.l2.length d2, .slice b3 U.l3.length d3, .slice b4 U.l4.length d4, .slice b5 U.l5.length d5, .slice b6 U.l6.length d6, .slice b7 U.l7.length d7] 46) (by kernel_rfl) ?_ (fun hHeld => ?_)
        · exact ⟨Ka.out, Kb.out⟩
        refine wpAnyH_one (i := 0) (d := 16) (v := ?_) rfl rfl (by kernel_rfl) (by kernel_rfl) (by kernel_rfl) (fun _ _ _ h => h) (by rfl) (by assumption) ?_ ?_
        rotate_left 1
        · intro w hSw; (try dsimp only at hSw); go_simp <;> with_reducible rfl
        simp only [List.foldl, Act.put, List.setIfInBounds_toArray, List.set_cons_zero, List.set_cons_succ]
        refine wpAnyH_one (i := 1) (d := 17) (v := ?_) rfl rfl (by kernel_rfl) (by kernel_rfl) (by kernel_rfl) (fun _ _ _ h => h) (by rfl) (by assumption) ?_ ?_
        rotate_left 1
        · intro w hSw; (try dsimp only at hSw); go_simp <;> with_reducible rfl
        simp only [List.foldl, Act.put, List.setIfInBounds_toArray, List.set_cons_zero, List.set_cons_succ]
        refine wpAnyH_one (i := 2) (d := 18) (v := ?_) rfl rfl (by kernel_rfl) (by kernel_rfl) (by kernel_rfl) (fun _ _ _ h => h) (by rfl) (by assumption) ?_ ?_
        rotate_left 1
        · intro w hSw; (try dsimp only at hSw); go_simp <;> with_reducible rfl
        simp only [List.foldl, Act.put, List.setIfInBounds_toArray, List.set_cons_zero, List.set_cons_succ]
        refine wpAnyH_one (i := 3) (d := 19) (v := ?_) rfl rfl (by kernel_rfl) (by kernel_rfl) (by kernel_rfl) (fun _ _ _ h => h) (by rfl) (by assumption) ?_ ?_
        rotate_left 1
        · intro w hSw; (try dsimp only at hSw); obtain ⟨q0, q1⟩ := hSw; have e0 := q0.cell k; rw [r1] at e0; go_simp <;> with_reducible rfl
        simp only [List.foldl, Act.put, List.setIfInBounds_toArray, List.set_cons_zero, List.set_cons_succ]
        refine wpAnyH_one (i := 4) (d := 20) (v := ?_) rfl rfl (by kernel_rfl) (by kernel_rfl) (by kernel_rfl) (fun _ _ _ h => h) (by rfl) (by assumption) ?_ ?_
        rotate_left 1
        · intro w hSw; (try dsimp only at hSw); go_simp <;> with_reducible rfl
        simp only [List.foldl, Act.put, List.setIfInBounds_toArray, List.set_cons_zero, List.set_cons_succ]
        refine wpAnyH_one (i := 5) (d := 21) (v := ?_) rfl rfl (by kernel_rfl) (by kernel_rfl) (by kernel_rfl) (fun _ _ _ h => h) (by rfl) (by assumption) ?_ ?_
        rotate_left 1
        · intro w hSw; (try dsimp only at hSw); go_simp <;> with_reducible rfl
        simp only [List.foldl, Act.put, List.setIfInBounds_toArray, List.set_cons_zero, List.set_cons_succ]
        refine wpAnyH_one (i := 6) (d := 22) (v := ?_) rfl rfl (by kernel_rfl) (by kernel_rfl) (by kernel_rfl) (fun _ _ _ h => h) (by rfl) (by assumption) ?_ ?_
        rotate_left 1
        · intro w hSw; (try dsimp only at hSw); obtain ⟨q0, q1⟩ := hSw; have e0 := q1.cell k; rw [r2] at e0; go_simp <;> with_reducible rfl
        simp only [List.foldl, Act.put, List.setIfInBounds_toArray, List.set_cons_zero, List.set_cons_succ]
        refine wpAnyH_ready (rs := [7]) (by kernel_rfl) (by simp) ?_
        refine AllReadyH.cons rfl (fun K hK => ?_) AllReadyH.nil
        go_simp
        have hg : Below wr.heap.size wr (wr.alloc (.cells #[.slice sA A.length cA, .slice sB Bl.length cB] 22)).drew := bl_drew (bl_alloc (Below.refl _ _) _)
        have KT : Hid (Blk (wr.alloc (.cells #[.slice sA A.length cA, .slice sB Bl.length cB] 22)).drew wr.heap.size #[.slice sA A.length cA, .slice sB Bl.length cB] 22) := Blk.new _ _ _
        have LY : Hid (Below wr.heap.size wr (wr.alloc (.cells #[.slice sA A.length cA, .slice sB Bl.length cB] 22)).drew) := bl_trans LY.out hg
        have Ka : Hid (Blk (wr.alloc (.cells #[.slice sA A.length cA, .slice sB Bl.length cB] 22)).drew ka #[.slice a0 V.l0.length c0, .slice a1 V.l1.length c1, .slice a2 V.l2.length c2, .slice a3 V.l3.length c3, .slice a4 V.l4.length c4, .slice a5 V.l5.length c5, .slice a6 V.l6.length c6, .slice a7 V.l7.length c7] 46) := Ka.out.later hg
        have Kb : Hid (Blk (wr.alloc (.cells #[.slice sA A.length cA, .slice sB Bl.length cB] 22)).drew kb #[.slice b0 U.l0.length d0, .slice b1 U.l1.length d1, .slice b2 U.l2.length d2, .slice b3 U.l3.length d3, .slice b4 U.l4.length d4, .slice b5 U.l5.length d5, .slice b6 U.l6.length d6, .slice b7 U.l7.length d7] 46) := Kb.out.later hg
        have Kl : Hid (Blk (wr.alloc (.cells #[.slice sA A.length cA, .slice sB Bl.length cB] 22)).drew wc.heap.size (rowP P Cp RR k) 46) := Kl.out.later hg
        have CH : Hid (Ch (wr.alloc (.cells #[.slice sA A.length cA, .slice sB Bl.length cB] 22)).drew (wc.heap.size + 1) P Cp N RR k) := CH.out.later hg
        have E1 : Hid (Els 1 cInt (wr.alloc (.cells #[.slice sA A.length cA, .slice sB Bl.length cB] 22)).drew 0 sA A) := E1.out.later cInt_keeps hg
        have E2 : Hid (Els 1 cInt (wr.alloc (.cells #[.slice sA A.length cA, .slice sB Bl.length cB] 22)).drew 0 sB Bl) := E2.out.later cInt_keeps hg
        clear hg
        refine hK.out _ _ ?_ (fun hHeld => ?_)
        · exact ⟨Ka.out, Kb.out⟩
        clear hK K
        try simp only [List.foldl, Act.put, List.setIfInBounds_toArray, List.set_cons_zero, List.set_cons_succ]
        generalize hGe : (wr.alloc (.cells #[.slice sA A.length cA, .slice sB Bl.length cB] 22)).drew = g1 at KT hHeld LY Ka Kb Kl CH E1 E2 ⊢
        obtain ⟨kt, hkt⟩ : ∃ kt, wr.heap.size = kt := ⟨_, rfl⟩
        rw [hkt] at KT
        try rw [hkt]
        clear hGe hkt
        refine wpAnyH_ready (rs := [8]) (by kernel_rfl) (by simp) ?_
        refine AllReadyH.cons rfl (fun K hK => ?_) AllReadyH.nil
        go_simp
        refine (merged_any _ 2 [A, Bl] 0 _ (els_is2 KT.out E1.out E2.out) (by simp) (by simp; omega)).mono ?_
        rintro z g2 ⟨⟨sR, cR, L3, rfl, o3, h3⟩, hb0⟩
        have LY : Hid (Below wr.heap.size wr g2) := bl_trans LY.out hb0
        have CH : Hid (Ch g2 (wc.heap.size + 1) (upd P k sR) (upd Cp k cR) (upd N (k + 1) g2.heap.size) (upd RR k L3) (k + 1)) := CH.out.push o3 hb0
        have H3 : Hid (Srt (A ++ Bl) L3) := by simpa [Hid] using h3
        have Ka : Hid (Blk g2 ka #[.slice a0 V.l0.length c0, .slice a1 V.l1.length c1, .slice a2 V.l2.length c2, .slice a3 V.l3.length c3, .slice a4 V.l4.length c4, .slice a5 V.l5.length c5, .slice a6 V.l6.length c6, .slice a7 V.l7.length c7] 46) := Ka.out.later hb0
        have Kb : Hid (Blk g2 kb #[.slice b0 U.l0.length d0, .slice b1 U.l1.length d1, .slice b2 U.l2.length d2, .slice b3 U.l3.length d3, .slice b4 U.l4.length d4, .slice b5 U.l5.length d5, .slice b6 U.l6.length d6, .slice b7 U.l7.length d7] 46) := Kb.out.later hb0
        have Kl : Hid (Blk g2 wc.heap.size (rowP P Cp RR k) 46) := Kl.out.later hb0
        clear hb0 o3 h3 KT E1 E2
        refine hK.out _ _ ?_ (fun hHeld => ?_)
        · exact ⟨Ka.out, Kb.out⟩
        clear hK K
        try simp only [List.foldl, Act.put, List.setIfInBounds_toArray, List.set_cons_zero, List.set_cons_succ]
        refine wpAnyH_one (i := 9) (d := 25) (v := ?_) rfl rfl (by kernel_rfl) (by kernel_rfl) (by kernel_rfl) (fun _ _ _ h => h) (by rfl) (by assumption) ?_ ?_
        rotate_left 1
        · intro w hSw; (try dsimp only at hSw); go_simp <;> with_reducible rfl
        simp only [List.foldl, Act.put, List.setIfInBounds_toArray, List.set_cons_zero, List.set_cons_succ]
        have e7 := Kl.out.cell k
        rw [rowP_cell P Cp RR h8] at e7
        have f7 := Kl.out.frozen k
        refine wpAnyH_ready (rs := [10]) (by kernel_rfl) (by simp) ?_
        refine AllReadyH.cons rfl (fun K hK => ?_) AllReadyH.nil
        go_simp
        have Kl : Hid (Blk (g2.setCell ⟨wc.heap.size, k, none⟩ (.slice sR L3.length cR)) wc.heap.size (rowP (upd P k sR) (upd Cp k cR) (upd RR k L3) (k + 1)) 46) := by have := Kl.out.set k (.slice sR L3.length cR); rw [rowP_set P Cp RR h8] at this; exact this
        have Ka : Hid (Blk (g2.setCell ⟨wc.heap.size, k, none⟩ (.slice sR L3.length cR)) ka #[.slice a0 V.l0.length c0, .slice a1 V.l1.length c1, .slice a2 V.l2.length c2, .slice a3 V.l3.length c3, .slice a4 V.l4.length c4, .slice a5 V.l5.length c5, .slice a6 V.l6.length c6, .slice a7 V.l7.length c7] 46) := Ka.out.other (by have := na.out; omega) _ _
        have Kb : Hid (Blk (g2.setCell ⟨wc.heap.size, k, none⟩ (.slice sR L3.length cR)) kb #[.slice b0 U.l0.length d0, .slice b1 U.l1.length d1, .slice b2 U.l2.length d2, .slice b3 U.l3.length d3, .slice b4 U.l4.length d4, .slice b5 U.l5.length d5, .slice b6 U.l6.length d6, .slice b7 U.l7.length d7] 46) := Kb.out.other (by have := nb.out; omega) _ _
        have CH : Hid (Ch (g2.setCell ⟨wc.heap.size, k, none⟩ (.slice sR L3.length cR)) (wc.heap.size + 1) (upd P k sR) (upd Cp k cR) (upd N (k + 1) g2.heap.size) (upd RR k L3) (k + 1)) := CH.out.same (fun g hg => heap_setCell_other _ _ _ _ (by simp; omega)) (by simp [World.setCell])
        have LZ : Hid (Below wc.heap.size wc (g2.setCell ⟨wc.heap.size, k, none⟩ (.slice sR L3.length cR))) := (bl_trans hb.out LY.out).setCell (by simp) _
        refine hK.out _ _ ?_ (fun hHeld => ?_)
        · exact ⟨Ka.out, Kb.out⟩
        clear hK K
        try simp only [List.foldl, Act.put, List.setIfInBounds_toArray, List.set_cons_zero, List.set_cons_succ]
        refine wpAnyH_done (by kernel_rfl) ?_ _
        have HJ : Hid (∀ j, j < k + 1 → Srt (V.lst j ++ U.lst j) (upd RR k L3 j)) := by
          intro j hj
          by_cases e : j = k
          · subst e; rw [upd_at, hA.out, hB.out]; exact H3.out
          · rw [upd_off _ _ e]; exact hJ.out j (by omega)
        go_wp2_with fail
        go_roundw
        case rel => exact ⟨k + 1, _, _, _, _, by omega, by go_num, Ka, Kb, Kl, CH, HJ, LZ⟩
        case measure => simp [intOf]; omega
      · have i8 : decide ((k : Int) < 8) = false := by simp; omega
        obtain rfl : k = 8 := by omega
        have K0 : Hid (Blk wr w.heap.size #[.slice a0 V.l0.length c0, .slice a1 V.l1.length c1, .slice a2 V.l2.length c2, .slice a3 V.l3.length c3, .slice a4 V.l4.length c4, .slice a5 V.l5.length c5, .slice a6 V.l6.length c6, .slice a7 V.l7.length c7, .bool V.sp, .bool V.kl] 27) := HK0.out.later hb.out
        have K1 : Hid (Blk wr (w.heap.size + 1) #[.slice b0 U.l0.length d0, .slice b1 U.l1.length d1, .slice b2 U.l2.length d2, .slice b3 U.l3.length d3, .slice b4 U.l4.length d4, .slice b5 U.l5.length d5, .slice b6 U.l6.length d6, .slice b7 U.l7.length d7, .bool U.sp, .bool U.kl] 27) := HK1.out.later hb.out
        have K2 : Hid (Blk wr (w.heap.size + 1 + 1) #[.slice none 0 0, .slice none 0 0, .slice none 0 0, .slice none 0 0, .slice none 0 0, .slice none 0 0, .slice none 0 0, .slice none 0 0, .bool false, .bool false] 27) := HK2.out.later hb.out
        clear Ka Kb
        go_wp2_with fail
        have Kl : Hid (Blk wr wc.heap.size #[.slice (P 0) (RR 0).length (Cp 0), .slice (P 1) (RR 1).length (Cp 1), .slice (P 2) (RR 2).length (Cp 2), .slice (P 3) (RR 3).length (Cp 3), .slice (P 4) (RR 4).length (Cp 4), .slice (P 5) (RR 5).length (Cp 5), .slice (P 6) (RR 6).length (Cp 6), .slice (P 7) (RR 7).length (Cp 7)] 46) := Kl
        have LY : Hid (Below wr.heap.size wr wr) := Below.refl _ _
        refine wp_region_held_drew (S := fun w' => Blk w' w.heap.size #[.slice a0 V.l0.length c0, .slice a1 V.l1.length c1, .slice a2 V.l2.length c2, .slice a3 V.l3.length c3, .slice a4 V.l4.length c4, .slice a5 V.l5.length c5, .slice a6 V.l6.length c6, .slice a7 V.l7.length c7, .bool V.sp, .bool V.kl] 27 ∧ Blk w' (w.heap.size + 1) #[.slice b0 U.l0.length d0, .slice b1 U.l1.length d1, .slice b2 U.l2.length d2, .slice b3 U.l3.length d3, .slice b4 U.l4.length d4, .slice b5 U.l5.length d5, .slice b6 U.l6.length d6, .slice b7 U.l7.length d7, .bool U.sp, .bool U.kl] 27 ∧ Blk w' wc.heap.size #[.slice (P 0) (RR 0).length (Cp 0), .slice (P 1) (RR 1).length (Cp 1), .slice (P 2) (RR 2).length (Cp 2), .slice (P 3) (RR 3).length (Cp 3), .slice (P 4) (RR 4).length (Cp 4), .slice (P 5) (RR 5).length (Cp 5), .slice (P 6) (RR 6).length (Cp 6), .slice (P 7) (RR 7).length (Cp 7)] 46) (by kernel_rfl) ?_ (fun hHeld => ?_)
        · exact ⟨K0.out, K1.out, Kl.out⟩
        refine wpAnyH_one (i := 0) (d := 27) (v := ?_) rfl rfl (by kernel_rfl) (by kernel_rfl) (by kernel_rfl) (fun _ _ _ h => h) (by rfl) (by assumption) ?_ ?_
        rotate_left 1
        · intro w hSw; (try dsimp only at hSw); obtain ⟨q0, q1, q2⟩ := hSw; have e0 := q2.cell 0; have e1 := q2.cell 1; have e2 := q2.cell 2; have e3 := q2.cell 3; have e4 := q2.cell 4; have e5 := q2.cell 5; have e6 := q2.cell 6; have e7 := q2.cell 7; go_simp <;> with_reducible rfl
        simp only [List.foldl, Act.put, List.setIfInBounds_toArray, List.set_cons_zero, List.set_cons_succ]
        refine wpAnyH_one (i := 1) (d := 28) (v := ?_) rfl rfl (by kernel_rfl) (by kernel_rfl) (by kernel_rfl) (fun _ _ _ h => h) (by rfl) (by assumption) ?_ ?_
        rotate_left 1
        · intro w hSw; (try dsimp only at hSw); obtain ⟨q0, q1, q2⟩ := hSw; obtain ⟨x0, x1, x2, x3, x4, x5, x6, x7, x8, x9, xf⟩ := q0.ten; go_simp <;> with_reducible rfl
        simp only [List.foldl, Act.put, List.setIfInBounds_toArray, List.set_cons_zero, List.set_cons_succ]
        refine wpAnyH_one (i := 3) (d := 30) (v := ?_) rfl rfl (by kernel_rfl) (by kernel_rfl) (by kernel_rfl) (fun _ _ _ h => h) (by rfl) (by assumption) ?_ ?_
        rotate_left 1
        · intro w hSw; (try dsimp only at hSw); obtain ⟨q0, q1, q2⟩ := hSw; obtain ⟨x0, x1, x2, x3, x4, x5, x6, x7, x8, x9, xf⟩ := q1.ten; go_simp <;> with_reducible rfl
        simp only [List.foldl, Act.put, List.setIfInBounds_toArray, List.set_cons_zero, List.set_cons_succ]
        refine wpAnyH_ready (rs := [2]) (by kernel_rfl) (by simp) ?_
        refine AllReadyH.cons rfl (fun K hK => ?_) AllReadyH.nil
        go_simp
        refine (flagsOf_any a0 a1 a2 a3 a4 a5 a6 a7 c0 c1 c2 c3 c4 c5 c6 c7 V _).mono ?_
        rintro z g1 ⟨rfl, hb0⟩
        have hc : Below wr.heap.size wr g1 := bl_trans (bl_drew (Below.refl _ _)) hb0
        have LY : Hid (Below wr.heap.size wr g1) := bl_trans LY.out hc
        have K0 : Hid (Blk g1 w.heap.size #[.slice a0 V.l0.length c0, .slice a1 V.l1.length c1, .slice a2 V.l2.length c2, .slice a3 V.l3.length c3, .slice a4 V.l4.length c4, .slice a5 V.l5.length c5, .slice a6 V.l6.length c6, .slice a7 V.l7.length c7, .bool V.sp, .bool V.kl] 27) := K0.out.later hc
        have K1 : Hid (Blk g1 (w.heap.size + 1) #[.slice b0 U.l0.length d0, .slice b1 U.l1.length d1, .slice b2 U.l2.length d2, .slice b3 U.l3.length d3, .slice b4 U.l4.length d4, .slice b5 U.l5.length d5, .slice b6 U.l6.length d6, .slice b7 U.l7.length d7, .bool U.sp, .bool U.kl] 27) := K1.out.later hc
        have Kl : Hid (Blk g1 wc.heap.size #[.slice (P 0) (RR 0).length (Cp 0), .slice (P 1) (RR 1).length (Cp 1), .slice (P 2) (RR 2).length (Cp 2), .slice (P 3) (RR 3).length (Cp 3), .slice (P 4) (RR 4).length (Cp 4), .slice (P 5) (RR 5).length (Cp 5), .slice (P 6) (RR 6).length (Cp 6), .slice (P 7) (RR 7).length (Cp 7)] 46) := Kl.out.later hc
        have K2 : Hid (Blk g1 (w.heap.size + 1 + 1) #[.slice none 0 0, .slice none 0 0, .slice none 0 0, .slice none 0 0, .slice none 0 0, .slice none 0 0, .slice none 0 0, .slice none 0 0, .bool false, .bool false] 27) := K2.out.later hc
        have CH : Hid (Ch g1 (wc.heap.size + 1) P Cp N RR 8) := CH.out.later hc
        clear hb0 hc
        refine hK.out _ _ ?_ (fun hHeld => ?_)
        · exact ⟨K0.out, K1.out, Kl.out⟩
        clear hK K
        try simp only [List.foldl, Act.put, List.setIfInBounds_toArray, List.set_cons_zero, List.set_cons_succ]
        refine wpAnyH_ready (rs := [4]) (by kernel_rfl) (by simp) ?_
        refine AllReadyH.cons rfl (fun K hK => ?_) AllReadyH.nil
        go_simp
        refine (flagsOf_any b0 b1 b2 b3 b4 b5 b6 b7 d0 d1 d2 d3 d4 d5 d6 d7 U _).mono ?_
        rintro z g2 ⟨rfl, hb0⟩
        have hc : Below g1.heap.size g1 g2 := hb0
        have LY : Hid (Below wr.heap.size wr g2) := bl_trans LY.out hc
        have K0 : Hid (Blk g2 w.heap.size #[.slice a0 V.l0.length c0, .slice a1 V.l1.length c1, .slice a2 V.l2.length c2, .slice a3 V.l3.length c3, .slice a4 V.l4.length c4, .slice a5 V.l5.length c5, .slice a6 V.l6.length c6, .slice a7 V.l7.length c7, .bool V.sp, .bool V.kl] 27) := K0.out.later hc
        have K1 : Hid (Blk g2 (w.heap.size + 1) #[.slice b0 U.l0.length d0, .slice b1 U.l1.length d1, .slice b2 U.l2.length d2, .slice b3 U.l3.length d3, .slice b4 U.l4.length d4, .slice b5 U.l5.length d5, .slice b6 U.l6.length d6, .slice b7 U.l7.length d7, .bool U.sp, .bool U.kl] 27) := K1.out.later hc
        have Kl : Hid (Blk g2 wc.heap.size #[.slice (P 0) (RR 0).length (Cp 0), .slice (P 1) (RR 1).length (Cp 1), .slice (P 2) (RR 2).length (Cp 2), .slice (P 3) (RR 3).length (Cp 3), .slice (P 4) (RR 4).length (Cp 4), .slice (P 5) (RR 5).length (Cp 5), .slice (P 6) (RR 6).length (Cp 6), .slice (P 7) (RR 7).length (Cp 7)] 46) := Kl.out.later hc
        have K2 : Hid (Blk g2 (w.heap.size + 1 + 1) #[.slice none 0 0, .slice none 0 0, .slice none 0 0, .slice none 0 0, .slice none 0 0, .slice none 0 0, .slice none 0 0, .slice none 0 0, .bool false, .bool false] 27) := K2.out.later hc
        have CH : Hid (Ch g2 (wc.heap.size + 1) P Cp N RR 8) := CH.out.later hc
        clear hb0 hc
        refine hK.out _ _ ?_ (fun hHeld => ?_)
        · exact ⟨K0.out, K1.out, Kl.out⟩
        clear hK K
        try simp only [List.foldl, Act.put, List.setIfInBounds_toArray, List.set_cons_zero, List.set_cons_succ]
        refine wpAnyH_ready (rs := [5]) (by kernel_rfl) (by simp) ?_
        refine AllReadyH.cons rfl (fun K hK => ?_) AllReadyH.nil
        refine wp_build_two (.tmp 29) (.tmp 31) rfl V.sp V.kl U.sp U.kl rfl rfl ?_
        have hg : Below g2.heap.size g2 (g2.alloc (.cells (tch (flg V.sp V.kl ++ flg U.sp U.kl)) 44)) := bl_alloc (Below.refl _ _) _
        have KT : Hid (Blk (g2.alloc (.cells (tch (flg V.sp V.kl ++ flg U.sp U.kl)) 44)) g2.heap.size (tch (flg V.sp V.kl ++ flg U.sp U.kl)) 44) := Blk.new _ _ _
        have LY : Hid (Below wr.heap.size wr (g2.alloc (.cells (tch (flg V.sp V.kl ++ flg U.sp U.kl)) 44))) := bl_trans LY.out hg
        have K0 : Hid (Blk (g2.alloc (.cells (tch (flg V.sp V.kl ++ flg U.sp U.kl)) 44)) w.heap.size #[.slice a0 V.l0.length c0, .slice a1 V.l1.length c1, .slice a2 V.l2.length c2, .slice a3 V.l3.length c3, .slice a4 V.l4.length c4, .slice a5 V.l5.length c5, .slice a6 V.l6.length c6, .slice a7 V.l7.length c7, .bool V.sp, .bool V.kl] 27) := K0.out.later hg
        have K1 : Hid (Blk (g2.alloc (.cells (tch (flg V.sp V.kl ++ flg U.sp U.kl)) 44)) (w.heap.size + 1) #[.slice b0 U.l0.length d0, .slice b1 U.l1.length d1, .slice b2 U.l2.length d2, .slice b3 U.l3.length d3, .slice b4 U.l4.length d4, .slice b5 U.l5.length d5, .slice b6 U.l6.length d6, .slice b7 U.l7.length d7, .bool U.sp, .bool U.kl] 27) := K1.out.later hg
        have Kl : Hid (Blk (g2.alloc (.cells (tch (flg V.sp V.kl ++ flg U.sp U.kl)) 44)) wc.heap.size #[.slice (P 0) (RR 0).length (Cp 0), .slice (P 1) (RR 1).length (Cp 1), .slice (P 2) (RR 2).length (Cp 2), .slice (P 3) (RR 3).length (Cp 3), .slice (P 4) (RR 4).length (Cp 4), .slice (P 5) (RR 5).length (Cp 5), .slice (P 6) (RR 6).length (Cp 6), .slice (P 7) (RR 7).length (Cp 7)] 46) := Kl.out.later hg
        have K2 : Hid (Blk (g2.alloc (.cells (tch (flg V.sp V.kl ++ flg U.sp U.kl)) 44)) (w.heap.size + 1 + 1) #[.slice none 0 0, .slice none 0 0, .slice none 0 0, .slice none 0 0, .slice none 0 0, .slice none 0 0, .slice none 0 0, .slice none 0 0, .bool false, .bool false] 27) := K2.out.later hg
        have CH : Hid (Ch (g2.alloc (.cells (tch (flg V.sp V.kl ++ flg U.sp U.kl)) 44)) (wc.heap.size + 1) P Cp N RR 8) := CH.out.later hg
        clear hg
        refine hK.out _ _ ?_ (fun hHeld => ?_)
        · exact ⟨K0.out, K1.out, Kl.out⟩
        clear hK K
        try simp only [List.foldl, Act.put, List.setIfInBounds_toArray, List.set_cons_zero, List.set_cons_succ]
        generalize hGe : (g2.alloc (.cells (tch (flg V.sp V.kl ++ flg U.sp U.kl)) 44)) = g3 at KT hHeld LY K0 K1 Kl K2 CH ⊢
        generalize g2.heap.size = kt at KT ⊢
        clear hGe
        refine wpAnyH_ready (rs := [6]) (by kernel_rfl) (by simp) ?_
        refine AllReadyH.cons rfl (fun K hK => ?_) AllReadyH.nil
        go_simp
        refine (joined_two kt 2 V.sp V.kl U.sp U.kl _ KT.out).mono ?_
        rintro z g4 ⟨rfl, hb0⟩
        have hc : Below g3.heap.size g3 g4 := hb0
        have LY : Hid (Below wr.heap.size wr g4) := bl_trans LY.out hc
        have K0 : Hid (Blk g4 w.heap.size #[.slice a0 V.l0.length c0, .slice a1 V.l1.length c1, .slice a2 V.l2.length c2, .slice a3 V.l3.length c3, .slice a4 V.l4.length c4, .slice a5 V.l5.length c5, .slice a6 V.l6.length c6, .slice a7 V.l7.length c7, .bool V.sp, .bool V.kl] 27) := K0.out.later hc
        have K1 : Hid (Blk g4 (w.heap.size + 1) #[.slice b0 U.l0.length d0, .slice b1 U.l1.length d1, .slice b2 U.l2.length d2, .slice b3 U.l3.length d3, .slice b4 U.l4.length d4, .slice b5 U.l5.length d5, .slice b6 U.l6.length d6, .slice b7 U.l7.length d7, .bool U.sp, .bool U.kl] 27) := K1.out.later hc
        have Kl : Hid (Blk g4 wc.heap.size #[.slice (P 0) (RR 0).length (Cp 0), .slice (P 1) (RR 1).length (Cp 1), .slice (P 2) (RR 2).length (Cp 2), .slice (P 3) (RR 3).length (Cp 3), .slice (P 4) (RR 4).length (Cp 4), .slice (P 5) (RR 5).length (Cp 5), .slice (P 6) (RR 6).length (Cp 6), .slice (P 7) (RR 7).length (Cp 7)] 46) := Kl.out.later hc
        have K2 : Hid (Blk g4 (w.heap.size + 1 + 1) #[.slice none 0 0, .slice none 0 0, .slice none 0 0, .slice none 0 0, .slice none 0 0, .slice none 0 0, .slice none 0 0, .slice none 0 0, .bool false, .bool false] 27) := K2.out.later hc
        have CH : Hid (Ch g4 (wc.heap.size + 1) P Cp N RR 8) := CH.out.later hc
        clear hb0 hc
        refine hK.out _ _ ?_ (fun hHeld => ?_)
        · exact ⟨K0.out, K1.out, Kl.out⟩
        clear hK K
        try simp only [List.foldl, Act.put, List.setIfInBounds_toArray, List.set_cons_zero, List.set_cons_succ]
        clear KT
        refine wpAnyH_ready (rs := [7]) (by kernel_rfl) (by simp) ?_
        refine AllReadyH.cons rfl (fun K hK => ?_) AllReadyH.nil
        go_simp
        refine (effectOf_any (P 0) (P 1) (P 2) (P 3) (P 4) (P 5) (P 6) (P 7) (RR 0).length (RR 1).length (RR 2).length (RR 3).length (RR 4).length (RR 5).length (RR 6).length (RR 7).length (Cp 0) (Cp 1) (Cp 2) (Cp 3) (Cp 4) (Cp 5) (Cp 6) (Cp 7) _ _ _).mono ?_
        rintro z g5 ⟨rfl, hb0⟩
        have hc : Below g4.heap.size g4 g5 := hb0
        have LY : Hid (Below wr.heap.size wr g5) := bl_trans LY.out hc
        have K0 : Hid (Blk g5 w.heap.size #[.slice a0 V.l0.length c0, .slice a1 V.l1.length c1, .slice a2 V.l2.length c2, .slice a3 V.l3.length c3, .slice a4 V.l4.length c4, .slice a5 V.l5.length c5, .slice a6 V.l6.length c6, .slice a7 V.l7.length c7, .bool V.sp, .bool V.kl] 27) := K0.out.later hc
        have K1 : Hid (Blk g5 (w.heap.size + 1) #[.slice b0 U.l0.length d0, .slice b1 U.l1.length d1, .slice b2 U.l2.length d2, .slice b3 U.l3.length d3, .slice b4 U.l4.length d4, .slice b5 U.l5.length d5, .slice b6 U.l6.length d6, .slice b7 U.l7.length d7, .bool U.sp, .bool U.kl] 27) := K1.out.later hc
        have Kl : Hid (Blk g5 wc.heap.size #[.slice (P 0) (RR 0).length (Cp 0), .slice (P 1) (RR 1).length (Cp 1), .slice (P 2) (RR 2).length (Cp 2), .slice (P 3) (RR 3).length (Cp 3), .slice (P 4) (RR 4).length (Cp 4), .slice (P 5) (RR 5).length (Cp 5), .slice (P 6) (RR 6).length (Cp 6), .slice (P 7) (RR 7).length (Cp 7)] 46) := Kl.out.later hc
        have K2 : Hid (Blk g5 (w.heap.size + 1 + 1) #[.slice none 0 0, .slice none 0 0, .slice none 0 0, .slice none 0 0, .slice none 0 0, .slice none 0 0, .slice none 0 0, .slice none 0 0, .bool false, .bool false] 27) := K2.out.later hc
        have CH : Hid (Ch g5 (wc.heap.size + 1) P Cp N RR 8) := CH.out.later hc
        clear hb0 hc
        refine hK.out _ _ ?_ (fun hHeld => ?_)
        · exact ⟨K0.out, K1.out, Kl.out⟩
        clear hK K
        try simp only [List.foldl, Act.put, List.setIfInBounds_toArray, List.set_cons_zero, List.set_cons_succ]
        refine wpAnyH_ready (rs := [8]) (by kernel_rfl) (by simp) ?_
        refine AllReadyH.cons rfl (fun K hK => ?_) AllReadyH.nil
        have n2x := n2.out
        refine wp_store_row 27 (.tmp 4) (.tmp 34) rfl (w.heap.size + 1 + 1) #[.slice (P 0) (RR 0).length (Cp 0), .slice (P 1) (RR 1).length (Cp 1), .slice (P 2) (RR 2).length (Cp 2), .slice (P 3) (RR 3).length (Cp 3), .slice (P 4) (RR 4).length (Cp 4), .slice (P 5) (RR 5).length (Cp 5), .slice (P 6) (RR 6).length (Cp 6), .slice (P 7) (RR 7).length (Cp 7), .bool (V.sp || U.sp), .bool (V.kl || U.kl)] rfl rfl 27 _ K2.out (by rw [Try.infoEf]; rfl) rfl one10 ?_
        have K2 : Hid (Blk (g5.setRow (w.heap.size + 1 + 1) #[.slice (P 0) (RR 0).length (Cp 0), .slice (P 1) (RR 1).length (Cp 1), .slice (P 2) (RR 2).length (Cp 2), .slice (P 3) (RR 3).length (Cp 3), .slice (P 4) (RR 4).length (Cp 4), .slice (P 5) (RR 5).length (Cp 5), .slice (P 6) (RR 6).length (Cp 6), .slice (P 7) (RR 7).length (Cp 7), .bool (V.sp || U.sp), .bool (V.kl || U.kl)]) (w.heap.size + 1 + 1) #[.slice (P 0) (RR 0).length (Cp 0), .slice (P 1) (RR 1).length (Cp 1), .slice (P 2) (RR 2).length (Cp 2), .slice (P 3) (RR 3).length (Cp 3), .slice (P 4) (RR 4).length (Cp 4), .slice (P 5) (RR 5).length (Cp 5), .slice (P 6) (RR 6).length (Cp 6), .slice (P 7) (RR 7).length (Cp 7), .bool (V.sp || U.sp), .bool (V.kl || U.kl)] 27) := setRow_heap _ _ _ _ _ _ K2.out
        have K0 : Hid (Blk (g5.setRow (w.heap.size + 1 + 1) #[.slice (P 0) (RR 0).length (Cp 0), .slice (P 1) (RR 1).length (Cp 1), .slice (P 2) (RR 2).length (Cp 2), .slice (P 3) (RR 3).length (Cp 3), .slice (P 4) (RR 4).length (Cp 4), .slice (P 5) (RR 5).length (Cp 5), .slice (P 6) (RR 6).length (Cp 6), .slice (P 7) (RR 7).length (Cp 7), .bool (V.sp || U.sp), .bool (V.kl || U.kl)]) w.heap.size #[.slice a0 V.l0.length c0, .slice a1 V.l1.length c1, .slice a2 V.l2.length c2, .slice a3 V.l3.length c3, .slice a4 V.l4.length c4, .slice a5 V.l5.length c5, .slice a6 V.l6.length c6, .slice a7 V.l7.length c7, .bool V.sp, .bool V.kl] 27) := (setRow_other _ _ _ _ (by omega)).trans K0.out
        have K1 : Hid (Blk (g5.setRow (w.heap.size + 1 + 1) #[.slice (P 0) (RR 0).length (Cp 0), .slice (P 1) (RR 1).length (Cp 1), .slice (P 2) (RR 2).length (Cp 2), .slice (P 3) (RR 3).length (Cp 3), .slice (P 4) (RR 4).length (Cp 4), .slice (P 5) (RR 5).length (Cp 5), .slice (P 6) (RR 6).length (Cp 6), .slice (P 7) (RR 7).length (Cp 7), .bool (V.sp || U.sp), .bool (V.kl || U.kl)]) (w.heap.size + 1) #[.slice b0 U.l0.length d0, .slice b1 U.l1.length d1, .slice b2 U.l2.length d2, .slice b3 U.l3.length d3, .slice b4 U.l4.length d4, .slice b5 U.l5.length d5, .slice b6 U.l6.length d6, .slice b7 U.l7.length d7, .bool U.sp, .bool U.kl] 27) := (setRow_other _ _ _ _ (by omega)).trans K1.out
        have Kl : Hid (Blk (g5.setRow (w.heap.size + 1 + 1) #[.slice (P 0) (RR 0).length (Cp 0), .slice (P 1) (RR 1).length (Cp 1), .slice (P 2) (RR 2).length (Cp 2), .slice (P 3) (RR 3).length (Cp 3), .slice (P 4) (RR 4).length (Cp 4), .slice (P 5) (RR 5).length (Cp 5), .slice (P 6) (RR 6).length (Cp 6), .slice (P 7) (RR 7).length (Cp 7), .bool (V.sp || U.sp), .bool (V.kl || U.kl)]) wc.heap.size #[.slice (P 0) (RR 0).length (Cp 0), .slice (P 1) (RR 1).length (Cp 1), .slice (P 2) (RR 2).length (Cp 2), .slice (P 3) (RR 3).length (Cp 3), .slice (P 4) (RR 4).length (Cp 4), .slice (P 5) (RR 5).length (Cp 5), .slice (P 6) (RR 6).length (Cp 6), .slice (P 7) (RR 7).length (Cp 7)] 46) := (setRow_other _ _ _ _ (by omega)).trans Kl.out
        have CH : Hid (Ch (g5.setRow (w.heap.size + 1 + 1) #[.slice (P 0) (RR 0).length (Cp 0), .slice (P 1) (RR 1).length (Cp 1), .slice (P 2) (RR 2).length (Cp 2), .slice (P 3) (RR 3).length (Cp 3), .slice (P 4) (RR 4).length (Cp 4), .slice (P 5) (RR 5).length (Cp 5), .slice (P 6) (RR 6).length (Cp 6), .slice (P 7) (RR 7).length (Cp 7), .bool (V.sp || U.sp), .bool (V.kl || U.kl)]) (wc.heap.size + 1) P Cp N RR 8) := CH.out.same (fun g hg => setRow_other _ _ _ _ (by omega)) (by simp)
        have LZ : Hid (Below w.heap.size w (g5.setRow (w.heap.size + 1 + 1) #[.slice (P 0) (RR 0).length (Cp 0), .slice (P 1) (RR 1).length (Cp 1), .slice (P 2) (RR 2).length (Cp 2), .slice (P 3) (RR 3).length (Cp 3), .slice (P 4) (RR 4).length (Cp 4), .slice (P 5) (RR 5).length (Cp 5), .slice (P 6) (RR 6).length (Cp 6), .slice (P 7) (RR 7).length (Cp 7), .bool (V.sp || U.sp), .bool (V.kl || U.kl)])) := below_setRow (bl_trans LC.out (bl_trans hb.out LY.out)) (by omega) _
        refine hK.out _ _ ?_ (fun hHeld => ?_)
        · exact ⟨K0.out, K1.out, Kl.out⟩
        clear hK K
        try simp only [List.foldl, Act.put, List.setIfInBounds_toArray, List.set_cons_zero, List.set_cons_succ]
        refine wpAnyH_done (by kernel_rfl) ?_ _
        go_wp2_with fail
        have HCJ : Ch (g5.setRow (w.heap.size + 1 + 1) #[.slice (P 0) (RR 0).length (Cp 0), .slice (P 1) (RR 1).length (Cp 1), .slice (P 2) (RR 2).length (Cp 2), .slice (P 3) (RR 3).length (Cp 3), .slice (P 4) (RR 4).length (Cp 4), .slice (P 5) (RR 5).length (Cp 5), .slice (P 6) (RR 6).length (Cp 6), .slice (P 7) (RR 7).length (Cp 7), .bool (V.sp || U.sp), .bool (V.kl || U.kl)]) w.heap.size P Cp N (Ef.lst ⟨RR 0, RR 1, RR 2, RR 3, RR 4, RR 5, RR 6, RR 7, V.sp || U.sp, V.kl || U.kl⟩) 8 := (CH.out.lower (by omega)).congr (fun j hj => by match j, hj with | 0, _ => rfl | 1, _ => rfl | 2, _ => rfl | 3, _ => rfl | 4, _ => rfl | 5, _ => rfl | 6, _ => rfl | 7, _ => rfl)
        refine bodyPost_ret (v := .agg #[.slice (P 0) (RR 0).length (Cp 0), .slice (P 1) (RR 1).length (Cp 1), .slice (P 2) (RR 2).length (Cp 2), .slice (P 3) (RR 3).length (Cp 3), .slice (P 4) (RR 4).length (Cp 4), .slice (P 5) (RR 5).length (Cp 5), .slice (P 6) (RR 6).length (Cp 6), .slice (P 7) (RR 7).length (Cp 7), .bool (V.sp || U.sp), .bool (V.kl || U.kl)]) (results_cell_row (P := Try.prog) Try.results15 _ _ (w.heap.size + 1 + 1) _ _ _ _ rfl K2.out Try.underlying27 rfl (by rw [Try.infoEf]; rfl)) rfl ⟨⟨P, Cp, N, ⟨RR 0, RR 1, RR 2, RR 3, RR 4, RR 5, RR 6, RR 7, V.sp || U.sp, V.kl || U.kl⟩, rfl, HCJ, ⟨hJ.out 0 (by omega), hJ.out 1 (by omega), hJ.out 2 (by omega), hJ.out 3 (by omega), hJ.out 4 (by omega), hJ.out 5 (by omega), hJ.out 6 (by omega), hJ.out 7 (by omega), rfl, rfl⟩⟩, LZ.out⟩
end Go.Proofs.Ytgcfhoojjgcpiaa
