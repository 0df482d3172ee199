import Derived.Test.YtgcfhoojjgcpiaaAl
import Derived.Deep.RegionHeld3
namespace Go.Proofs.Ytgcfhoojjgcpiaa
open Go.RowKit
set_option linter.unusedVariables false
set_option linter.unusedSimpArgs false

/-- two rows of lists, in boxes of one's own. -/
def TwoB (X : World) (VL UL : Array Value) (ka kb : Nat) (wx : World) : Prop := Blk wx ka VL 46 ∧ Blk wx kb UL 46 ∧ X.heap.size ≤ ka ∧ X.heap.size ≤ kb ∧ ¬ ka = kb ∧ Below X.heap.size X wx
theorem joined_two (kt c : Nat) (a b x y : Bool) (w : World) (h : Blk w kt (tch (flg a b ++ flg x y)) 44) :
    Calls Try.prog 29 #[.slice (some ⟨kt, 0, none⟩) 2 c] w fun e w' => e = .returned (.agg (tch (flg (a || x) (b || y)))) ∧ Below w.heap.size w w' := by
  have := joined_any (some ⟨kt, 0, none⟩) c [flg a b, flg x y] 0 w (els_tch2 h (flg_len _ _) (flg_len _ _)) (by simp) (by simp [flg_len])
  rw [or_flags] at this
  exact this
set_option maxRecDepth 100000 in
set_option maxHeartbeats 8000000 in
theorem implWithin_any (a0 a1 a2 a3 a4 a5 a6 a7 : Option Addr) (c0 c1 c2 c3 c4 c5 c6 c7 : Nat) (V : Ef) (b0 b1 b2 b3 b4 b5 b6 b7 : Option Addr) (d0 d1 d2 d3 d4 d5 d6 d7 : Nat) (U : Ef) (B C : Nat) (w : World) (hV : InE w B a0 a1 a2 a3 a4 a5 a6 a7 V) (hU : InE w C b0 b1 b2 b3 b4 b5 b6 b7 U) (kV : kEf V) (kU : kEf U) :
    Calls Try.prog 13 #[.agg #[.slice a0 V.l0.length c0, .slice a1 V.l1.length c1, .slice a2 V.l2.length c2, .slice a3 V.l3.length c3, .slice a4 V.l4.length c4, .slice a5 V.l5.length c5, .slice a6 V.l6.length c6, .slice a7 V.l7.length c7, .bool V.sp, .bool V.kl], .agg #[.slice b0 U.l0.length d0, .slice b1 U.l1.length d1, .slice b2 U.l2.length d2, .slice b3 U.l3.length d3, .slice b4 U.l4.length d4, .slice b5 U.l5.length d5, .slice b6 U.l6.length d6, .slice b7 U.l7.length d7, .bool U.sp, .bool U.kl]] w fun e w' => e = .returned (.bool (witB V U)) ∧ Below w.heap.size w w' := by
  obtain ⟨K0, K1, L0⟩ := blkTwoE w #[.slice a0 V.l0.length c0, .slice a1 V.l1.length c1, .slice a2 V.l2.length c2, .slice a3 V.l3.length c3, .slice a4 V.l4.length c4, .slice a5 V.l5.length c5, .slice a6 V.l6.length c6, .slice a7 V.l7.length c7, .bool V.sp, .bool V.kl] #[.slice b0 U.l0.length d0, .slice b1 U.l1.length d1, .slice b2 U.l2.length d2, .slice b3 U.l3.length d3, .slice b4 U.l4.length d4, .slice b5 U.l5.length d5, .slice b6 U.l6.length d6, .slice b7 U.l7.length d7, .bool U.sp, .bool U.kl] 27 27
  have HV : Hid (InE w B a0 a1 a2 a3 a4 a5 a6 a7 V) := hV
  have HU : Hid (InE w C b0 b1 b2 b3 b4 b5 b6 b7 U) := hU
  have KV : Hid (kEf V) := kV
  have KU : Hid (kEf U) := kU
  clear hV hU kV kU
  go_enter Try.func13, Try.ntmps13
  go_wp2_with fail
  generalize hX : (w.alloc (.cells #[.slice a0 V.l0.length c0, .slice a1 V.l1.length c1, .slice a2 V.l2.length c2, .slice a3 V.l3.length c3, .slice a4 V.l4.length c4, .slice a5 V.l5.length c5, .slice a6 V.l6.length c6, .slice a7 V.l7.length c7, .bool V.sp, .bool V.kl] 27)).alloc (.cells #[.slice b0 U.l0.length d0, .slice b1 U.l1.length d1, .slice b2 U.l2.length d2, .slice b3 U.l3.length d3, .slice b4 U.l4.length d4, .slice b5 U.l5.length d5, .slice b6 U.l6.length d6, .slice b7 U.l7.length d7, .bool U.sp, .bool U.kl] 27) = X at K0 K1 L0 ⊢
  clear hX
  have ltX := K1.lt
  have K0 : Hid (Blk X w.heap.size #[.slice a0 V.l0.length c0, .slice a1 V.l1.length c1, .slice a2 V.l2.length c2, .slice a3 V.l3.length c3, .slice a4 V.l4.length c4, .slice a5 V.l5.length c5, .slice a6 V.l6.length c6, .slice a7 V.l7.length c7, .bool V.sp, .bool V.kl] 27) := K0
  have K1 : Hid (Blk X (w.heap.size + 1) #[.slice b0 U.l0.length d0, .slice b1 U.l1.length d1, .slice b2 U.l2.length d2, .slice b3 U.l3.length d3, .slice b4 U.l4.length d4, .slice b5 U.l5.length d5, .slice b6 U.l6.length d6, .slice b7 U.l7.length d7, .bool U.sp, .bool U.kl] 27) := K1
  go_cut [5, 6] (fun p0 p1 wx => ∃ ka kb : Nat, p0 = .pointer (some ⟨ka, 0, none⟩) ∧ p1 = .pointer (some ⟨kb, 0, none⟩) ∧ TwoB X #[.slice a0 V.l0.length c0, .slice a1 V.l1.length c1, .slice a2 V.l2.length c2, .slice a3 V.l3.length c3, .slice a4 V.l4.length c4, .slice a5 V.l5.length c5, .slice a6 V.l6.length c6, .slice a7 V.l7.length c7] #[.slice b0 U.l0.length d0, .slice b1 U.l1.length d1, .slice b2 U.l2.length d2, .slice b3 U.l3.length d3, .slice b4 U.l4.length d4, .slice b5 U.l5.length d5, .slice b6 U.l6.length d6, .slice b7 U.l7.length d7] ka kb wx)
  case first =>
    refine wp_region_held_drew (S := (fun w' => Blk w' w.heap.size #[.slice a0 V.l0.length c0, .slice a1 V.l1.length c1, .slice a2 V.l2.length c2, .slice a3 V.l3.length c3, .slice a4 V.l4.length c4, .slice a5 V.l5.length c5, .slice a6 V.l6.length c6, .slice a7 V.l7.length c7, .bool V.sp, .bool V.kl] 27 ∧ Blk w' (w.heap.size + 1) #[.slice b0 U.l0.length d0, .slice b1 U.l1.length d1, .slice b2 U.l2.length d2, .slice b3 U.l3.length d3, .slice b4 U.l4.length d4, .slice b5 U.l5.length d5, .slice b6 U.l6.length d6, .slice b7 U.l7.length d7, .bool U.sp, .bool U.kl] 27)) (by kernel_rfl) ?_ (fun hHeld => ?_)
    · exact ⟨K0.out, K1.out⟩
    have LX : Hid (Below X.heap.size X X) := Below.refl _ _
    refine wpAnyH_one (i := 0) (d := 9) (v := ?_) rfl rfl (by kernel_rfl) (by kernel_rfl) (by kernel_rfl) (fun _ _ _ h => h) (by rfl) (by assumption) ?_ ?_
    rotate_left 1
    · intro w hSw; (try dsimp only at hSw); obtain ⟨q0, q1⟩ := hSw; obtain ⟨x0, x1, x2, x3, x4, x5, x6, x7, x8, x9, xf⟩ := q0.ten; go_simp <;> with_reducible rfl
    simp only [List.foldl, Act.put, List.setIfInBounds_toArray, List.set_cons_zero, List.set_cons_succ]
    refine wpAnyH_one (i := 2) (d := 11) (v := ?_) rfl rfl (by kernel_rfl) (by kernel_rfl) (by kernel_rfl) (fun _ _ _ h => h) (by rfl) (by assumption) ?_ ?_
    rotate_left 1
    · intro w hSw; (try dsimp only at hSw); obtain ⟨q0, q1⟩ := hSw; obtain ⟨x0, x1, x2, x3, x4, x5, x6, x7, x8, x9, xf⟩ := q1.ten; go_simp <;> with_reducible rfl
    simp only [List.foldl, Act.put, List.setIfInBounds_toArray, List.set_cons_zero, List.set_cons_succ]
    refine wpAnyH_ready (rs := [1, 4, 5]) (by kernel_rfl) (by simp) ?_
    refine AllReadyH.cons rfl (fun K hK => ?_) ?_
    · skip
      go_simp
      refine (listsOf_any a0 a1 a2 a3 a4 a5 a6 a7 c0 c1 c2 c3 c4 c5 c6 c7 V _).mono ?_
      rintro z g1 ⟨rfl, hb⟩
      have hc : Below X.heap.size X g1 := bl_trans (bl_drew (Below.refl _ _)) hb
      have LX : Hid (Below X.heap.size X g1) := bl_trans LX.out hc
      have K0 : Hid (Blk g1 w.heap.size #[.slice a0 V.l0.length c0, .slice a1 V.l1.length c1, .slice a2 V.l2.length c2, .slice a3 V.l3.length c3, .slice a4 V.l4.length c4, .slice a5 V.l5.length c5, .slice a6 V.l6.length c6, .slice a7 V.l7.length c7, .bool V.sp, .bool V.kl] 27) := K0.out.later hc
      have K1 : Hid (Blk g1 (w.heap.size + 1) #[.slice b0 U.l0.length d0, .slice b1 U.l1.length d1, .slice b2 U.l2.length d2, .slice b3 U.l3.length d3, .slice b4 U.l4.length d4, .slice b5 U.l5.length d5, .slice b6 U.l6.length d6, .slice b7 U.l7.length d7, .bool U.sp, .bool U.kl] 27) := K1.out.later hc
      clear hb hc
      refine hK.out _ _ ?_ (fun hHeld => ?_)
      · exact ⟨K0.out, K1.out⟩
      clear hK K
      try simp only [List.foldl, Act.put, List.setIfInBounds_toArray, List.set_cons_zero, List.set_cons_succ]
      refine wpAnyH_ready (rs := [3, 4, 5]) (by kernel_rfl) (by simp) ?_
      refine AllReadyH.cons rfl (fun K hK => ?_) ?_
      · skip
        go_simp
        refine (listsOf_any b0 b1 b2 b3 b4 b5 b6 b7 d0 d1 d2 d3 d4 d5 d6 d7 U _).mono ?_
        rintro z g2 ⟨rfl, hb⟩
        have hc : Below g1.heap.size g1 g2 := hb
        have LX : Hid (Below X.heap.size X g2) := bl_trans LX.out hc
        have K0 : Hid (Blk g2 w.heap.size #[.slice a0 V.l0.length c0, .slice a1 V.l1.length c1, .slice a2 V.l2.length c2, .slice a3 V.l3.length c3, .slice a4 V.l4.length c4, .slice a5 V.l5.length c5, .slice a6 V.l6.length c6, .slice a7 V.l7.length c7, .bool V.sp, .bool V.kl] 27) := K0.out.later hc
        have K1 : Hid (Blk g2 (w.heap.size + 1) #[.slice b0 U.l0.length d0, .slice b1 U.l1.length d1, .slice b2 U.l2.length d2, .slice b3 U.l3.length d3, .slice b4 U.l4.length d4, .slice b5 U.l5.length d5, .slice b6 U.l6.length d6, .slice b7 U.l7.length d7, .bool U.sp, .bool U.kl] 27) := K1.out.later hc
        clear hb hc
        refine hK.out _ _ ?_ (fun hHeld => ?_)
        · exact ⟨K0.out, K1.out⟩
        clear hK K
        try simp only [List.foldl, Act.put, List.setIfInBounds_toArray, List.set_cons_zero, List.set_cons_succ]
        refine wpAnyH_ready (rs := [4, 5]) (by kernel_rfl) (by simp) ?_
        refine AllReadyH.cons rfl (fun K hK => ?_) ?_
        · skip
          go_simp
          have hg : Below g2.heap.size g2 (g2.alloc (.cells #[.slice none 0 0, .slice none 0 0, .slice none 0 0, .slice none 0 0, .slice none 0 0, .slice none 0 0, .slice none 0 0, .slice none 0 0] 46)) := bl_alloc (Below.refl _ _) _
          have Ka : Hid (Blk (g2.alloc (.cells #[.slice none 0 0, .slice none 0 0, .slice none 0 0, .slice none 0 0, .slice none 0 0, .slice none 0 0, .slice none 0 0, .slice none 0 0] 46)) g2.heap.size #[.slice none 0 0, .slice none 0 0, .slice none 0 0, .slice none 0 0, .slice none 0 0, .slice none 0 0, .slice none 0 0, .slice none 0 0] 46) := Blk.new _ _ _
          have hxs : X.heap.size ≤ g2.heap.size := LX.out.size
          have LX : Hid (Below X.heap.size X (g2.alloc (.cells #[.slice none 0 0, .slice none 0 0, .slice none 0 0, .slice none 0 0, .slice none 0 0, .slice none 0 0, .slice none 0 0, .slice none 0 0] 46))) := bl_trans LX.out hg
          have K0 : Hid (Blk (g2.alloc (.cells #[.slice none 0 0, .slice none 0 0, .slice none 0 0, .slice none 0 0, .slice none 0 0, .slice none 0 0, .slice none 0 0, .slice none 0 0] 46)) w.heap.size #[.slice a0 V.l0.length c0, .slice a1 V.l1.length c1, .slice a2 V.l2.length c2, .slice a3 V.l3.length c3, .slice a4 V.l4.length c4, .slice a5 V.l5.length c5, .slice a6 V.l6.length c6, .slice a7 V.l7.length c7, .bool V.sp, .bool V.kl] 27) := K0.out.later hg
          have K1 : Hid (Blk (g2.alloc (.cells #[.slice none 0 0, .slice none 0 0, .slice none 0 0, .slice none 0 0, .slice none 0 0, .slice none 0 0, .slice none 0 0, .slice none 0 0] 46)) (w.heap.size + 1) #[.slice b0 U.l0.length d0, .slice b1 U.l1.length d1, .slice b2 U.l2.length d2, .slice b3 U.l3.length d3, .slice b4 U.l4.length d4, .slice b5 U.l5.length d5, .slice b6 U.l6.length d6, .slice b7 U.l7.length d7, .bool U.sp, .bool U.kl] 27) := K1.out.later hg
          clear hg
          refine hK.out _ _ ?_ (fun hHeld => ?_)
          · exact ⟨K0.out, K1.out⟩
          clear hK K
          try simp only [List.foldl, Act.put, List.setIfInBounds_toArray, List.set_cons_zero, List.set_cons_succ]
          generalize hGe : (g2.alloc (.cells #[.slice none 0 0, .slice none 0 0, .slice none 0 0, .slice none 0 0, .slice none 0 0, .slice none 0 0, .slice none 0 0, .slice none 0 0] 46)) = g3 at Ka hHeld LX K0 K1 ⊢
          obtain ⟨ka, hka⟩ : ∃ k, g2.heap.size = k := ⟨_, rfl⟩
          have HXa : Hid (X.heap.size ≤ ka) := Nat.le_trans hxs (Nat.le_of_eq hka)
          clear hxs
          rw [hka] at Ka
          try rw [hka]
          clear hGe hka
          refine wpAnyH_ready (rs := [5]) (by kernel_rfl) (by simp) ?_
          refine AllReadyH.cons rfl (fun K hK => ?_) AllReadyH.nil
          go_simp
          have hg : Below g3.heap.size g3 (g3.alloc (.cells #[.slice none 0 0, .slice none 0 0, .slice none 0 0, .slice none 0 0, .slice none 0 0, .slice none 0 0, .slice none 0 0, .slice none 0 0] 46)) := bl_alloc (Below.refl _ _) _
          have Kb : Hid (Blk (g3.alloc (.cells #[.slice none 0 0, .slice none 0 0, .slice none 0 0, .slice none 0 0, .slice none 0 0, .slice none 0 0, .slice none 0 0, .slice none 0 0] 46)) g3.heap.size #[.slice none 0 0, .slice none 0 0, .slice none 0 0, .slice none 0 0, .slice none 0 0, .slice none 0 0, .slice none 0 0, .slice none 0 0] 46) := Blk.new _ _ _
          have hxs : X.heap.size ≤ g3.heap.size := LX.out.size
          have NE : Hid (¬ ka = g3.heap.size) := by have := Ka.out.lt; show ¬ _; omega
          have LX : Hid (Below X.heap.size X (g3.alloc (.cells #[.slice none 0 0, .slice none 0 0, .slice none 0 0, .slice none 0 0, .slice none 0 0, .slice none 0 0, .slice none 0 0, .slice none 0 0] 46))) := bl_trans LX.out hg
          have K0 : Hid (Blk (g3.alloc (.cells #[.slice none 0 0, .slice none 0 0, .slice none 0 0, .slice none 0 0, .slice none 0 0, .slice none 0 0, .slice none 0 0, .slice none 0 0] 46)) w.heap.size #[.slice a0 V.l0.length c0, .slice a1 V.l1.length c1, .slice a2 V.l2.length c2, .slice a3 V.l3.length c3, .slice a4 V.l4.length c4, .slice a5 V.l5.length c5, .slice a6 V.l6.length c6, .slice a7 V.l7.length c7, .bool V.sp, .bool V.kl] 27) := K0.out.later hg
          have K1 : Hid (Blk (g3.alloc (.cells #[.slice none 0 0, .slice none 0 0, .slice none 0 0, .slice none 0 0, .slice none 0 0, .slice none 0 0, .slice none 0 0, .slice none 0 0] 46)) (w.heap.size + 1) #[.slice b0 U.l0.length d0, .slice b1 U.l1.length d1, .slice b2 U.l2.length d2, .slice b3 U.l3.length d3, .slice b4 U.l4.length d4, .slice b5 U.l5.length d5, .slice b6 U.l6.length d6, .slice b7 U.l7.length d7, .bool U.sp, .bool U.kl] 27) := K1.out.later hg
          have Ka : Hid (Blk (g3.alloc (.cells #[.slice none 0 0, .slice none 0 0, .slice none 0 0, .slice none 0 0, .slice none 0 0, .slice none 0 0, .slice none 0 0, .slice none 0 0] 46)) ka #[.slice none 0 0, .slice none 0 0, .slice none 0 0, .slice none 0 0, .slice none 0 0, .slice none 0 0, .slice none 0 0, .slice none 0 0] 46) := Ka.out.later hg
          clear hg
          refine hK.out _ _ ?_ (fun hHeld => ?_)
          · exact ⟨K0.out, K1.out⟩
          clear hK K
          try simp only [List.foldl, Act.put, List.setIfInBounds_toArray, List.set_cons_zero, List.set_cons_succ]
          generalize hGe : (g3.alloc (.cells #[.slice none 0 0, .slice none 0 0, .slice none 0 0, .slice none 0 0, .slice none 0 0, .slice none 0 0, .slice none 0 0, .slice none 0 0] 46)) = g4 at Kb hHeld LX K0 K1 Ka ⊢
          obtain ⟨kb, hkb⟩ : ∃ k, g3.heap.size = k := ⟨_, rfl⟩
          have HXb : Hid (X.heap.size ≤ kb) := Nat.le_trans hxs (Nat.le_of_eq hkb)
          clear hxs
          rw [hkb] at Kb NE
          try rw [hkb]
          clear hGe hkb
          have NEQ : Hid (¬ ka = kb) := by first | exact NE.out | exact fun e => NE.out e.symm
          refine wpAnyH_ready (rs := [6]) (by kernel_rfl) (by simp) ?_
          refine AllReadyH.cons rfl (fun K hK => ?_) AllReadyH.nil
          refine wp_store_row 46 (.tmp 5) (.tmp 10) rfl ka #[.slice a0 V.l0.length c0, .slice a1 V.l1.length c1, .slice a2 V.l2.length c2, .slice a3 V.l3.length c3, .slice a4 V.l4.length c4, .slice a5 V.l5.length c5, .slice a6 V.l6.length c6, .slice a7 V.l7.length c7] rfl rfl 46 _ Ka.out (by rw [Try.infoLs]; rfl) rfl one8 ?_
          have hlx := HXa.out
          have LX : Hid (Below X.heap.size X (g4.setRow ka #[.slice a0 V.l0.length c0, .slice a1 V.l1.length c1, .slice a2 V.l2.length c2, .slice a3 V.l3.length c3, .slice a4 V.l4.length c4, .slice a5 V.l5.length c5, .slice a6 V.l6.length c6, .slice a7 V.l7.length c7])) := below_setRow LX.out hlx _
          have Ka : Hid (Blk (g4.setRow ka #[.slice a0 V.l0.length c0, .slice a1 V.l1.length c1, .slice a2 V.l2.length c2, .slice a3 V.l3.length c3, .slice a4 V.l4.length c4, .slice a5 V.l5.length c5, .slice a6 V.l6.length c6, .slice a7 V.l7.length c7]) ka #[.slice a0 V.l0.length c0, .slice a1 V.l1.length c1, .slice a2 V.l2.length c2, .slice a3 V.l3.length c3, .slice a4 V.l4.length c4, .slice a5 V.l5.length c5, .slice a6 V.l6.length c6, .slice a7 V.l7.length c7] 46) := setRow_heap _ _ _ _ _ _ Ka.out
          have Kb : Hid (Blk (g4.setRow ka #[.slice a0 V.l0.length c0, .slice a1 V.l1.length c1, .slice a2 V.l2.length c2, .slice a3 V.l3.length c3, .slice a4 V.l4.length c4, .slice a5 V.l5.length c5, .slice a6 V.l6.length c6, .slice a7 V.l7.length c7]) kb #[.slice none 0 0, .slice none 0 0, .slice none 0 0, .slice none 0 0, .slice none 0 0, .slice none 0 0, .slice none 0 0, .slice none 0 0] 46) := (setRow_other _ _ _ _ (by have := NEQ.out; omega)).trans Kb.out
          have K0 : Hid (Blk (g4.setRow ka #[.slice a0 V.l0.length c0, .slice a1 V.l1.length c1, .slice a2 V.l2.length c2, .slice a3 V.l3.length c3, .slice a4 V.l4.length c4, .slice a5 V.l5.length c5, .slice a6 V.l6.length c6, .slice a7 V.l7.length c7]) w.heap.size #[.slice a0 V.l0.length c0, .slice a1 V.l1.length c1, .slice a2 V.l2.length c2, .slice a3 V.l3.length c3, .slice a4 V.l4.length c4, .slice a5 V.l5.length c5, .slice a6 V.l6.length c6, .slice a7 V.l7.length c7, .bool V.sp, .bool V.kl] 27) := (setRow_other _ _ _ _ (by have := ltX; omega)).trans K0.out
          have K1 : Hid (Blk (g4.setRow ka #[.slice a0 V.l0.length c0, .slice a1 V.l1.length c1, .slice a2 V.l2.length c2, .slice a3 V.l3.length c3, .slice a4 V.l4.length c4, .slice a5 V.l5.length c5, .slice a6 V.l6.length c6, .slice a7 V.l7.length c7]) (w.heap.size + 1) #[.slice b0 U.l0.length d0, .slice b1 U.l1.length d1, .slice b2 U.l2.length d2, .slice b3 U.l3.length d3, .slice b4 U.l4.length d4, .slice b5 U.l5.length d5, .slice b6 U.l6.length d6, .slice b7 U.l7.length d7, .bool U.sp, .bool U.kl] 27) := (setRow_other _ _ _ _ (by have := ltX; omega)).trans K1.out
          refine hK.out _ _ ?_ (fun hHeld => ?_)
          · exact ⟨K0.out, K1.out⟩
          clear hK K
          try simp only [List.foldl, Act.put, List.setIfInBounds_toArray, List.set_cons_zero, List.set_cons_succ]
          generalize hGe : (g4.setRow ka #[.slice a0 V.l0.length c0, .slice a1 V.l1.length c1, .slice a2 V.l2.length c2, .slice a3 V.l3.length c3, .slice a4 V.l4.length c4, .slice a5 V.l5.length c5, .slice a6 V.l6.length c6, .slice a7 V.l7.length c7]) = g5 at Ka Kb hHeld LX K0 K1 ⊢
          clear hGe hlx
          refine wpAnyH_ready (rs := [7]) (by kernel_rfl) (by simp) ?_
          refine AllReadyH.cons rfl (fun K hK => ?_) AllReadyH.nil
          refine wp_store_row 46 (.tmp 6) (.tmp 12) rfl kb #[.slice b0 U.l0.length d0, .slice b1 U.l1.length d1, .slice b2 U.l2.length d2, .slice b3 U.l3.length d3, .slice b4 U.l4.length d4, .slice b5 U.l5.length d5, .slice b6 U.l6.length d6, .slice b7 U.l7.length d7] rfl rfl 46 _ Kb.out (by rw [Try.infoLs]; rfl) rfl one8 ?_
          have hlx := HXb.out
          have LX : Hid (Below X.heap.size X (g5.setRow kb #[.slice b0 U.l0.length d0, .slice b1 U.l1.length d1, .slice b2 U.l2.length d2, .slice b3 U.l3.length d3, .slice b4 U.l4.length d4, .slice b5 U.l5.length d5, .slice b6 U.l6.length d6, .slice b7 U.l7.length d7])) := below_setRow LX.out hlx _
          have Kb : Hid (Blk (g5.setRow kb #[.slice b0 U.l0.length d0, .slice b1 U.l1.length d1, .slice b2 U.l2.length d2, .slice b3 U.l3.length d3, .slice b4 U.l4.length d4, .slice b5 U.l5.length d5, .slice b6 U.l6.length d6, .slice b7 U.l7.length d7]) kb #[.slice b0 U.l0.length d0, .slice b1 U.l1.length d1, .slice b2 U.l2.length d2, .slice b3 U.l3.length d3, .slice b4 U.l4.length d4, .slice b5 U.l5.length d5, .slice b6 U.l6.length d6, .slice b7 U.l7.length d7] 46) := setRow_heap _ _ _ _ _ _ Kb.out
          have Ka : Hid (Blk (g5.setRow kb #[.slice b0 U.l0.length d0, .slice b1 U.l1.length d1, .slice b2 U.l2.length d2, .slice b3 U.l3.length d3, .slice b4 U.l4.length d4, .slice b5 U.l5.length d5, .slice b6 U.l6.length d6, .slice b7 U.l7.length d7]) ka #[.slice a0 V.l0.length c0, .slice a1 V.l1.length c1, .slice a2 V.l2.length c2, .slice a3 V.l3.length c3, .slice a4 V.l4.length c4, .slice a5 V.l5.length c5, .slice a6 V.l6.length c6, .slice a7 V.l7.length c7] 46) := (setRow_other _ _ _ _ (by have := NEQ.out; omega)).trans Ka.out
          have K0 : Hid (Blk (g5.setRow kb #[.slice b0 U.l0.length d0, .slice b1 U.l1.length d1, .slice b2 U.l2.length d2, .slice b3 U.l3.length d3, .slice b4 U.l4.length d4, .slice b5 U.l5.length d5, .slice b6 U.l6.length d6, .slice b7 U.l7.length d7]) w.heap.size #[.slice a0 V.l0.length c0, .slice a1 V.l1.length c1, .slice a2 V.l2.length c2, .slice a3 V.l3.length c3, .slice a4 V.l4.length c4, .slice a5 V.l5.length c5, .slice a6 V.l6.length c6, .slice a7 V.l7.length c7, .bool V.sp, .bool V.kl] 27) := (setRow_other _ _ _ _ (by have := ltX; omega)).trans K0.out
          have K1 : Hid (Blk (g5.setRow kb #[.slice b0 U.l0.length d0, .slice b1 U.l1.length d1, .slice b2 U.l2.length d2, .slice b3 U.l3.length d3, .slice b4 U.l4.length d4, .slice b5 U.l5.length d5, .slice b6 U.l6.length d6, .slice b7 U.l7.length d7]) (w.heap.size + 1) #[.slice b0 U.l0.length d0, .slice b1 U.l1.length d1, .slice b2 U.l2.length d2, .slice b3 U.l3.length d3, .slice b4 U.l4.length d4, .slice b5 U.l5.length d5, .slice b6 U.l6.length d6, .slice b7 U.l7.length d7, .bool U.sp, .bool U.kl] 27) := (setRow_other _ _ _ _ (by have := ltX; omega)).trans K1.out
          refine hK.out _ _ ?_ (fun hHeld => ?_)
          · exact ⟨K0.out, K1.out⟩
          clear hK K
          try simp only [List.foldl, Act.put, List.setIfInBounds_toArray, List.set_cons_zero, List.set_cons_succ]
          generalize hGe : (g5.setRow kb #[.slice b0 U.l0.length d0, .slice b1 U.l1.length d1, .slice b2 U.l2.length d2, .slice b3 U.l3.length d3, .slice b4 U.l4.length d4, .slice b5 U.l5.length d5, .slice b6 U.l6.length d6, .slice b7 U.l7.length d7]) = g6 at Ka Kb hHeld LX K0 K1 ⊢
          clear hGe hlx
          refine wpAnyH_done (by kernel_rfl) ?_ _
          go_wp2_with fail
          go_meet
          exact ⟨ka, kb, rfl, rfl, Ka.out, Kb.out, HXa.out, HXb.out, NEQ.out, LX.out⟩
        refine AllReadyH.cons rfl (fun K hK => ?_) AllReadyH.nil
        go_simp
        have hg : Below g2.heap.size g2 (g2.alloc (.cells #[.slice none 0 0, .slice none 0 0, .slice none 0 0, .slice none 0 0, .slice none 0 0, .slice none 0 0, .slice none 0 0, .slice none 0 0] 46)) := bl_alloc (Below.refl _ _) _
        have Kb : Hid (Blk (g2.alloc (.cells #[.slice none 0 0, .slice none 0 0, .slice none 0 0, .slice none 0 0, .slice none 0 0, .slice none 0 0, .slice none 0 0, .slice none 0 0] 46)) g2.heap.size #[.slice none 0 0, .slice none 0 0, .slice none 0 0, .slice none 0 0, .slice none 0 0, .slice none 0 0, .slice none 0 0, .slice none 0 0] 46) := Blk.new _ _ _
        have hxs : X.heap.size ≤ g2.heap.size := LX.out.size
        have LX : Hid (Below X.heap.size X (g2.alloc (.cells #[.slice none 0 0, .slice none 0 0, .slice none 0 0, .slice none 0 0, .slice none 0 0, .slice none 0 0, .slice none 0 0, .slice none 0 0] 46))) := bl_trans LX.out hg
        have K0 : Hid (Blk (g2.alloc (.cells #[.slice none 0 0, .slice none 0 0, .slice none 0 0, .slice none 0 0, .slice none 0 0, .slice none 0 0, .slice none 0 0, .slice none 0 0] 46)) w.heap.size #[.slice a0 V.l0.length c0, .slice a1 V.l1.length c1, .slice a2 V.l2.length c2, .slice a3 V.l3.length c3, .slice a4 V.l4.length c4, .slice a5 V.l5.length c5, .slice a6 V.l6.length c6, .slice a7 V.l7.length c7, .bool V.sp, .bool V.kl] 27) := K0.out.later hg
        have K1 : Hid (Blk (g2.alloc (.cells #[.slice none 0 0, .slice none 0 0, .slice none 0 0, .slice none 0 0, .slice none 0 0, .slice none 0 0, .slice none 0 0, .slice none 0 0] 46)) (w.heap.size + 1) #[.slice b0 U.l0.length d0, .slice b1 U.l1.length d1, .slice b2 U.l2.length d2, .slice b3 U.l3.length d3, .slice b4 U.l4.length d4, .slice b5 U.l5.length d5, .slice b6 U.l6.length d6, .slice b7 U.l7.length d7, .bool U.sp, .bool U.kl] 27) := K1.out.later hg
        clear hg
        refine hK.out _ _ ?_ (fun hHeld => ?_)
        · exact ⟨K0.out, K1.out⟩
        clear hK K
        try simp only [List.foldl, Act.put, List.setIfInBounds_toArray, List.set_cons_zero, List.set_cons_succ]
        generalize hGe : (g2.alloc (.cells #[.slice none 0 0, .slice none 0 0, .slice none 0 0, .slice none 0 0, .slice none 0 0, .slice none 0 0, .slice none 0 0, .slice none 0 0] 46)) = g7 at Kb hHeld LX K0 K1 ⊢
        obtain ⟨kb, hkb⟩ : ∃ k, g2.heap.size = k := ⟨_, rfl⟩
        have HXb : Hid (X.heap.size ≤ kb) := Nat.le_trans hxs (Nat.le_of_eq hkb)
        clear hxs
        rw [hkb] at Kb
        try rw [hkb]
        clear hGe hkb
        refine wpAnyH_ready (rs := [4]) (by kernel_rfl) (by simp) ?_
        refine AllReadyH.cons rfl (fun K hK => ?_) AllReadyH.nil
        go_simp
        have hg : Below g7.heap.size g7 (g7.alloc (.cells #[.slice none 0 0, .slice none 0 0, .slice none 0 0, .slice none 0 0, .slice none 0 0, .slice none 0 0, .slice none 0 0, .slice none 0 0] 46)) := bl_alloc (Below.refl _ _) _
        have Ka : Hid (Blk (g7.alloc (.cells #[.slice none 0 0, .slice none 0 0, .slice none 0 0, .slice none 0 0, .slice none 0 0, .slice none 0 0, .slice none 0 0, .slice none 0 0] 46)) g7.heap.size #[.slice none 0 0, .slice none 0 0, .slice none 0 0, .slice none 0 0, .slice none 0 0, .slice none 0 0, .slice none 0 0, .slice none 0 0] 46) := Blk.new _ _ _
        have hxs : X.heap.size ≤ g7.heap.size := LX.out.size
        have NE : Hid (¬ kb = g7.heap.size) := by have := Kb.out.lt; show ¬ _; omega
        have LX : Hid (Below X.heap.size X (g7.alloc (.cells #[.slice none 0 0, .slice none 0 0, .slice none 0 0, .slice none 0 0, .slice none 0 0, .slice none 0 0, .slice none 0 0, .slice none 0 0] 46))) := bl_trans LX.out hg
        have K0 : Hid (Blk (g7.alloc (.cells #[.slice none 0 0, .slice none 0 0, .slice none 0 0, .slice none 0 0, .slice none 0 0, .slice none 0 0, .slice none 0 0, .slice none 0 0] 46)) w.heap.size #[.slice a0 V.l0.length c0, .slice a1 V.l1.length c1, .slice a2 V.l2.length c2, .slice a3 V.l3.length c3, .slice a4 V.l4.length c4, .slice a5 V.l5.length c5, .slice a6 V.l6.length c6, .slice a7 V.l7.length c7, .bool V.sp, .bool V.kl] 27) := K0.out.later hg
        have K1 : Hid (Blk (g7.alloc (.cells #[.slice none 0 0, .slice none 0 0, .slice none 0 0, .slice none 0 0, .slice none 0 0, .slice none 0 0, .slice none 0 0, .slice none 0 0] 46)) (w.heap.size + 1) #[.slice b0 U.l0.length d0, .slice b1 U.l1.length d1, .slice b2 U.l2.length d2, .slice b3 U.l3.length d3, .slice b4 U.l4.length d4, .slice b5 U.l5.length d5, .slice b6 U.l6.length d6, .slice b7 U.l7.length d7, .bool U.sp, .bool U.kl] 27) := K1.out.later hg
        have Kb : Hid (Blk (g7.alloc (.cells #[.slice none 0 0, .slice none 0 0, .slice none 0 0, .slice none 0 0, .slice none 0 0, .slice none 0 0, .slice none 0 0, .slice none 0 0] 46)) kb #[.slice none 0 0, .slice none 0 0, .slice none 0 0, .slice none 0 0, .slice none 0 0, .slice none 0 0, .slice none 0 0, .slice none 0 0] 46) := Kb.out.later hg
        clear hg
        refine hK.out _ _ ?_ (fun hHeld => ?_)
        · exact ⟨K0.out, K1.out⟩
        clear hK K
        try simp only [List.foldl, Act.put, List.setIfInBounds_toArray, List.set_cons_zero, List.set_cons_succ]
        generalize hGe : (g7.alloc (.cells #[.slice none 0 0, .slice none 0 0, .slice none 0 0, .slice none 0 0, .slice none 0 0, .slice none 0 0, .slice none 0 0, .slice none 0 0] 46)) = g8 at Ka hHeld LX K0 K1 Kb ⊢
        obtain ⟨ka, hka⟩ : ∃ k, g7.heap.size = k := ⟨_, rfl⟩
        have HXa : Hid (X.heap.size ≤ ka) := Nat.le_trans hxs (Nat.le_of_eq hka)
        clear hxs
        rw [hka] at Ka NE
        try rw [hka]
        clear hGe hka
        have NEQ : Hid (¬ ka = kb) := by first | exact NE.out | exact fun e => NE.out e.symm
        refine wpAnyH_ready (rs := [6]) (by kernel_rfl) (by simp) ?_
        refine AllReadyH.cons rfl (fun K hK => ?_) AllReadyH.nil
        refine wp_store_row 46 (.tmp 5) (.tmp 10) rfl ka #[.slice a0 V.l0.length c0, .slice a1 V.l1.length c1, .slice a2 V.l2.length c2, .slice a3 V.l3.length c3, .slice a4 V.l4.length c4, .slice a5 V.l5.length c5, .slice a6 V.l6.length c6, .slice a7 V.l7.length c7] rfl rfl 46 _ Ka.out (by rw [Try.infoLs]; rfl) rfl one8 ?_
        have hlx := HXa.out
        have LX : Hid (Below X.heap.size X (g8.setRow ka #[.slice a0 V.l0.length c0, .slice a1 V.l1.length c1, .slice a2 V.l2.length c2, .slice a3 V.l3.length c3, .slice a4 V.l4.length c4, .slice a5 V.l5.length c5, .slice a6 V.l6.length c6, .slice a7 V.l7.length c7])) := below_setRow LX.out hlx _
        have Ka : Hid (Blk (g8.setRow ka #[.slice a0 V.l0.length c0, .slice a1 V.l1.length c1, .slice a2 V.l2.length c2, .slice a3 V.l3.length c3, .slice a4 V.l4.length c4, .slice a5 V.l5.length c5, .slice a6 V.l6.length c6, .slice a7 V.l7.length c7]) ka #[.slice a0 V.l0.length c0, .slice a1 V.l1.length c1, .slice a2 V.l2.length c2, .slice a3 V.l3.length c3, .slice a4 V.l4.length c4, .slice a5 V.l5.length c5, .slice a6 V.l6.length c6, .slice a7 V.l7.length c7] 46) := setRow_heap _ _ _ _ _ _ Ka.out
        have Kb : Hid (Blk (g8.setRow ka #[.slice a0 V.l0.length c0, .slice a1 V.l1.length c1, .slice a2 V.l2.length c2, .slice a3 V.l3.length c3, .slice a4 V.l4.length c4, .slice a5 V.l5.length c5, .slice a6 V.l6.length c6, .slice a7 V.l7.length c7]) kb #[.slice none 0 0, .slice none 0 0, .slice none 0 0, .slice none 0 0, .slice none 0 0, .slice none 0 0, .slice none 0 0, .slice none 0 0] 46) := (setRow_other _ _ _ _ (by have := NEQ.out; omega)).trans Kb.out
        have K0 : Hid (Blk (g8.setRow ka #[.slice a0 V.l0.length c0, .slice a1 V.l1.length c1, .slice a2 V.l2.length c2, .slice a3 V.l3.length c3, .slice a4 V.l4.length c4, .slice a5 V.l5.length c5, .slice a6 V.l6.length c6, .slice a7 V.l7.length c7]) w.heap.size #[.slice a0 V.l0.length c0, .slice a1 V.l1.length c1, .slice a2 V.l2.length c2, .slice a3 V.l3.length c3, .slice a4 V.l4.length c4, .slice a5 V.l5.length c5, .slice a6 V.l6.length c6, .slice a7 V.l7.length c7, .bool V.sp, .bool V.kl] 27) := (setRow_other _ _ _ _ (by have := ltX; omega)).trans K0.out
        have K1 : Hid (Blk (g8.setRow ka #[.slice a0 V.l0.length c0, .slice a1 V.l1.length c1, .slice a2 V.l2.length c2, .slice a3 V.l3.length c3, .slice a4 V.l4.length c4, .slice a5 V.l5.length c5, .slice a6 V.l6.length c6, .slice a7 V.l7.length c7]) (w.heap.size + 1) #[.slice b0 U.l0.length d0, .slice b1 U.l1.length d1, .slice b2 U.l2.length d2, .slice b3 U.l3.length d3, .slice b4 U.l4.length d4, .slice b5 U.l5.length d5, .slice b6 U.l6.length d6, .slice b7 U.l7.length d7, .bool U.sp, .bool U.kl] 27) := (setRow_other _ _ _ _ (by have := ltX; omega)).trans K1.out
        refine hK.out _ _ ?_ (fun hHeld => ?_)
        · exact ⟨K0.out, K1.out⟩
        clear hK K
        try simp only [List.foldl, Act.put, List.setIfInBounds_toArray, List.set_cons_zero, List.set_cons_succ]
        generalize hGe : (g8.setRow ka #[.slice a0 V.l0.length c0, .slice a1 V.l1.length c1, .slice a2 V.l2.length c2, .slice a3 V.l3.length c3, .slice a4 V.l4.length c4, .slice a5 V.l5.length c5, .slice a6 V.l6.length c6, .slice a7 V.l7.length c7]) = g9 at Ka Kb hHeld LX K0 K1 ⊢
        clear hGe hlx
        refine wpAnyH_ready (rs := [7]) (by kernel_rfl) (by simp) ?_
        refine AllReadyH.cons rfl (fun K hK => ?_) AllReadyH.nil
        refine wp_store_row 46 (.tmp 6) (.tmp 12) rfl kb #[.slice b0 U.l0.length d0, .slice b1 U.l1.length d1, .slice b2 U.l2.length d2, .slice b3 U.l3.length d3, .slice b4 U.l4.length d4, .slice b5 U.l5.length d5, .slice b6 U.l6.length d6, .slice b7 U.l7.length d7] rfl rfl 46 _ Kb.out (by rw [Try.infoLs]; rfl) rfl one8 ?_
        have hlx := HXb.out
        have LX : Hid (Below X.heap.size X (g9.setRow kb #[.slice b0 U.l0.length d0, .slice b1 U.l1.length d1, .slice b2 U.l2.length d2, .slice b3 U.l3.length d3, .slice b4 U.l4.length d4, .slice b5 U.l5.length d5, .slice b6 U.l6.length d6, .slice b7 U.l7.length d7])) := below_setRow LX.out hlx _
        have Kb : Hid (Blk (g9.setRow kb #[.slice b0 U.l0.length d0, .slice b1 U.l1.length d1, .slice b2 U.l2.length d2, .slice b3 U.l3.length d3, .slice b4 U.l4.length d4, .slice b5 U.l5.length d5, .slice b6 U.l6.length d6, .slice b7 U.l7.length d7]) kb #[.slice b0 U.l0.length d0, .slice b1 U.l1.length d1, .slice b2 U.l2.length d2, .slice b3 U.l3.length d3, .slice b4 U.l4.length d4, .slice b5 U.l5.length d5, .slice b6 U.l6.length d6, .slice b7 U.l7.length d7] 46) := setRow_heap _ _ _ _ _ _ Kb.out
        have Ka : Hid (Blk (g9.setRow kb #[.slice b0 U.l0.length d0, .slice b1 U.l1.length d1, .slice b2 U.l2.length d2, .slice b3 U.l3.length d3, .slice b4 U.l4.length d4, .slice b5 U.l5.length d5, .slice b6 U.l6.length d6, .slice b7 U.l7.length d7]) ka #[.slice a0 V.l0.length c0, .slice a1 V.l1.length c1, .slice a2 V.l2.length c2, .slice a3 V.l3.length c3, .slice a4 V.l4.length c4, .slice a5 V.l5.length c5, .slice a6 V.l6.length c6, .slice a7 V.l7.length c7] 46) := (setRow_other _ _ _ _ (by have := NEQ.out; omega)).trans Ka.out
        have K0 : Hid (Blk (g9.setRow kb #[.slice b0 U.l0.length d0, .slice b1 U.l1.length d1, .slice b2 U.l2.length d2, .slice b3 U.l3.length d3, .slice b4 U.l4.length d4, .slice b5 U.l5.length d5, .slice b6 U.l6.length d6, .slice b7 U.l7.length d7]) w.heap.size #[.slice a0 V.l0.length c0, .slice a1 V.l1.length c1, .slice a2 V.l2.length c2, .slice a3 V.l3.length c3, .slice a4 V.l4.length c4, .slice a5 V.l5.length c5, .slice a6 V.l6.length c6, .slice a7 V.l7.length c7, .bool V.sp, .bool V.kl] 27) := (setRow_other _ _ _ _ (by have := ltX; omega)).trans K0.out
        have K1 : Hid (Blk (g9.setRow kb #[.slice b0 U.l0.length d0, .slice b1 U.l1.length d1, .slice b2 U.l2.length d2, .slice b3 U.l3.length d3, .slice b4 U.l4.length d4, .slice b5 U.l5.length d5, .slice b6 U.l6.length d6, .slice b7 U.l7.length d7]) (w.heap.size + 1) #[.slice b0 U.l0.length d0, .slice b1 U.l1.length d1, .slice b2 U.l2.length d2, .slice b3 U.l3.length d3, .slice b4 U.l4.length d4, .slice b5 U.l5.length d5, .slice b6 U.l6.length d6, .slice b7 U.l7.length d7, .bool U.sp, .bool U.kl] 27) := (setRow_other _ _ _ _ (by have := ltX; omega)).trans K1.out
        refine hK.out _ _ ?_ (fun hHeld => ?_)
        · exact ⟨K0.out, K1.out⟩
        clear hK K
        try simp only [List.foldl, Act.put, List.setIfInBounds_toArray, List.set_cons_zero, List.set_cons_succ]
        generalize hGe : (g9.setRow kb #[.slice b0 U.l0.length d0, .slice b1 U.l1.length d1, .slice b2 U.l2.length d2, .slice b3 U.l3.length d3, .slice b4 U.l4.length d4, .slice b5 U.l5.length d5, .slice b6 U.l6.length d6, .slice b7 U.l7.length d7]) = g10 at Ka Kb hHeld LX K0 K1 ⊢
        clear hGe hlx
        refine wpAnyH_done (by kernel_rfl) ?_ _
        go_wp2_with fail
        go_meet
        exact ⟨ka, kb, rfl, rfl, Ka.out, Kb.out, HXa.out, HXb.out, NEQ.out, LX.out⟩
      refine AllReadyH.cons rfl (fun K hK => ?_) ?_
      · skip
        go_simp
        have hg : Below g1.heap.size g1 (g1.alloc (.cells #[.slice none 0 0, .slice none 0 0, .slice none 0 0, .slice none 0 0, .slice none 0 0, .slice none 0 0, .slice none 0 0, .slice none 0 0] 46)) := bl_alloc (Below.refl _ _) _
        have Ka : Hid (Blk (g1.alloc (.cells #[.slice none 0 0, .slice none 0 0, .slice none 0 0, .slice none 0 0, .slice none 0 0, .slice none 0 0, .slice none 0 0, .slice none 0 0] 46)) g1.heap.size #[.slice none 0 0, .slice none 0 0, .slice none 0 0, .slice none 0 0, .slice none 0 0, .slice none 0 0, .slice none 0 0, .slice none 0 0] 46) := Blk.new _ _ _
        have hxs : X.heap.size ≤ g1.heap.size := LX.out.size
        have LX : Hid (Below X.heap.size X (g1.alloc (.cells #[.slice none 0 0, .slice none 0 0, .slice none 0 0, .slice none 0 0, .slice none 0 0, .slice none 0 0, .slice none 0 0, .slice none 0 0] 46))) := bl_trans LX.out hg
        have K0 : Hid (Blk (g1.alloc (.cells #[.slice none 0 0, .slice none 0 0, .slice none 0 0, .slice none 0 0, .slice none 0 0, .slice none 0 0, .slice none 0 0, .slice none 0 0] 46)) w.heap.size #[.slice a0 V.l0.length c0, .slice a1 V.l1.length c1, .slice a2 V.l2.length c2, .slice a3 V.l3.length c3, .slice a4 V.l4.length c4, .slice a5 V.l5.length c5, .slice a6 V.l6.length c6, .slice a7 V.l7.length c7, .bool V.sp, .bool V.kl] 27) := K0.out.later hg
        have K1 : Hid (Blk (g1.alloc (.cells #[.slice none 0 0, .slice none 0 0, .slice none 0 0, .slice none 0 0, .slice none 0 0, .slice none 0 0, .slice none 0 0, .slice none 0 0] 46)) (w.heap.size + 1) #[.slice b0 U.l0.length d0, .slice b1 U.l1.length d1, .slice b2 U.l2.length d2, .slice b3 U.l3.length d3, .slice b4 U.l4.length d4, .slice b5 U.l5.length d5, .slice b6 U.l6.length d6, .slice b7 U.l7.length d7, .bool U.sp, .bool U.kl] 27) := K1.out.later hg
        clear hg
        refine hK.out _ _ ?_ (fun hHeld => ?_)
        · exact ⟨K0.out, K1.out⟩
        clear hK K
        try simp only [List.foldl, Act.put, List.setIfInBounds_toArray, List.set_cons_zero, List.set_cons_succ]
        generalize hGe : (g1.alloc (.cells #[.slice none 0 0, .slice none 0 0, .slice none 0 0, .slice none 0 0, .slice none 0 0, .slice none 0 0, .slice none 0 0, .slice none 0 0] 46)) = g11 at Ka hHeld LX K0 K1 ⊢
        obtain ⟨ka, hka⟩ : ∃ k, g1.heap.size = k := ⟨_, rfl⟩
        have HXa : Hid (X.heap.size ≤ ka) := Nat.le_trans hxs (Nat.le_of_eq hka)
        clear hxs
        rw [hka] at Ka
        try rw [hka]
        clear hGe hka
        refine wpAnyH_ready (rs := [3, 5]) (by kernel_rfl) (by simp) ?_
        refine AllReadyH.cons rfl (fun K hK => ?_) ?_
        · skip
          go_simp
          refine (listsOf_any b0 b1 b2 b3 b4 b5 b6 b7 d0 d1 d2 d3 d4 d5 d6 d7 U _).mono ?_
          rintro z g12 ⟨rfl, hb⟩
          have hc : Below g11.heap.size g11 g12 := hb
          have LX : Hid (Below X.heap.size X g12) := bl_trans LX.out hc
          have K0 : Hid (Blk g12 w.heap.size #[.slice a0 V.l0.length c0, .slice a1 V.l1.length c1, .slice a2 V.l2.length c2, .slice a3 V.l3.length c3, .slice a4 V.l4.length c4, .slice a5 V.l5.length c5, .slice a6 V.l6.length c6, .slice a7 V.l7.length c7, .bool V.sp, .bool V.kl] 27) := K0.out.later hc
          have K1 : Hid (Blk g12 (w.heap.size + 1) #[.slice b0 U.l0.length d0, .slice b1 U.l1.length d1, .slice b2 U.l2.length d2, .slice b3 U.l3.length d3, .slice b4 U.l4.length d4, .slice b5 U.l5.length d5, .slice b6 U.l6.length d6, .slice b7 U.l7.length d7, .bool U.sp, .bool U.kl] 27) := K1.out.later hc
          have Ka : Hid (Blk g12 ka #[.slice none 0 0, .slice none 0 0, .slice none 0 0, .slice none 0 0, .slice none 0 0, .slice none 0 0, .slice none 0 0, .slice none 0 0] 46) := Ka.out.later hc
          clear hb hc
          refine hK.out _ _ ?_ (fun hHeld => ?_)
          · exact ⟨K0.out, K1.out⟩
          clear hK K
          try simp only [List.foldl, Act.put, List.setIfInBounds_toArray, List.set_cons_zero, List.set_cons_succ]
          refine wpAnyH_ready (rs := [5]) (by kernel_rfl) (by simp) ?_
          refine AllReadyH.cons rfl (fun K hK => ?_) AllReadyH.nil
          go_simp
          have hg : Below g12.heap.size g12 (g12.alloc (.cells #[.slice none 0 0, .slice none 0 0, .slice none 0 0, .slice none 0 0, .slice none 0 0, .slice none 0 0, .slice none 0 0, .slice none 0 0] 46)) := bl_alloc (Below.refl _ _) _
          have Kb : Hid (Blk (g12.alloc (.cells #[.slice none 0 0, .slice none 0 0, .slice none 0 0, .slice none 0 0, .slice none 0 0, .slice none 0 0, .slice none 0 0, .slice none 0 0] 46)) g12.heap.size #[.slice none 0 0, .slice none 0 0, .slice none 0 0, .slice none 0 0, .slice none 0 0, .slice none 0 0, .slice none 0 0, .slice none 0 0] 46) := Blk.new _ _ _
          have hxs : X.heap.size ≤ g12.heap.size := LX.out.size
          have NE : Hid (¬ ka = g12.heap.size) := by have := Ka.out.lt; show ¬ _; omega
          have LX : Hid (Below X.heap.size X (g12.alloc (.cells #[.slice none 0 0, .slice none 0 0, .slice none 0 0, .slice none 0 0, .slice none 0 0, .slice none 0 0, .slice none 0 0, .slice none 0 0] 46))) := bl_trans LX.out hg
          have K0 : Hid (Blk (g12.alloc (.cells #[.slice none 0 0, .slice none 0 0, .slice none 0 0, .slice none 0 0, .slice none 0 0, .slice none 0 0, .slice none 0 0, .slice none 0 0] 46)) w.heap.size #[.slice a0 V.l0.length c0, .slice a1 V.l1.length c1, .slice a2 V.l2.length c2, .slice a3 V.l3.length c3, .slice a4 V.l4.length c4, .slice a5 V.l5.length c5, .slice a6 V.l6.length c6, .slice a7 V.l7.length c7, .bool V.sp, .bool V.kl] 27) := K0.out.later hg
          have K1 : Hid (Blk (g12.alloc (.cells #[.slice none 0 0, .slice none 0 0, .slice none 0 0, .slice none 0 0, .slice none 0 0, .slice none 0 0, .slice none 0 0, .slice none 0 0] 46)) (w.heap.size + 1) #[.slice b0 U.l0.length d0, .slice b1 U.l1.length d1, .slice b2 U.l2.length d2, .slice b3 U.l3.length d3, .slice b4 U.l4.length d4, .slice b5 U.l5.length d5, .slice b6 U.l6.length d6, .slice b7 U.l7.length d7, .bool U.sp, .bool U.kl] 27) := K1.out.later hg
          have Ka : Hid (Blk (g12.alloc (.cells #[.slice none 0 0, .slice none 0 0, .slice none 0 0, .slice none 0 0, .slice none 0 0, .slice none 0 0, .slice none 0 0, .slice none 0 0] 46)) ka #[.slice none 0 0, .slice none 0 0, .slice none 0 0, .slice none 0 0, .slice none 0 0, .slice none 0 0, .slice none 0 0, .slice none 0 0] 46) := Ka.out.later hg
          clear hg
          refine hK.out _ _ ?_ (fun hHeld => ?_)
          · exact ⟨K0.out, K1.out⟩
          clear hK K
          try simp only [List.foldl, Act.put, List.setIfInBounds_toArray, List.set_cons_zero, List.set_cons_succ]
          generalize hGe : (g12.alloc (.cells #[.slice none 0 0, .slice none 0 0, .slice none 0 0, .slice none 0 0, .slice none 0 0, .slice none 0 0, .slice none 0 0, .slice none 0 0] 46)) = g13 at Kb hHeld LX K0 K1 Ka ⊢
          obtain ⟨kb, hkb⟩ : ∃ k, g12.heap.size = k := ⟨_, rfl⟩
          have HXb : Hid (X.heap.size ≤ kb) := Nat.le_trans hxs (Nat.le_of_eq hkb)
          clear hxs
          rw [hkb] at Kb NE
          try rw [hkb]
          clear hGe hkb
          have NEQ : Hid (¬ ka = kb) := by first | exact NE.out | exact fun e => NE.out e.symm
          refine wpAnyH_ready (rs := [6]) (by kernel_rfl) (by simp) ?_
          refine AllReadyH.cons rfl (fun K hK => ?_) AllReadyH.nil
          refine wp_store_row 46 (.tmp 5) (.tmp 10) rfl ka #[.slice a0 V.l0.length c0, .slice a1 V.l1.length c1, .slice a2 V.l2.length c2, .slice a3 V.l3.length c3, .slice a4 V.l4.length c4, .slice a5 V.l5.length c5, .slice a6 V.l6.length c6, .slice a7 V.l7.length c7] rfl rfl 46 _ Ka.out (by rw [Try.infoLs]; rfl) rfl one8 ?_
          have hlx := HXa.out
          have LX : Hid (Below X.heap.size X (g13.setRow ka #[.slice a0 V.l0.length c0, .slice a1 V.l1.length c1, .slice a2 V.l2.length c2, .slice a3 V.l3.length c3, .slice a4 V.l4.length c4, .slice a5 V.l5.length c5, .slice a6 V.l6.length c6, .slice a7 V.l7.length c7])) := below_setRow LX.out hlx _
          have Ka : Hid (Blk (g13.setRow ka #[.slice a0 V.l0.length c0, .slice a1 V.l1.length c1, .slice a2 V.l2.length c2, .slice a3 V.l3.length c3, .slice a4 V.l4.length c4, .slice a5 V.l5.length c5, .slice a6 V.l6.length c6, .slice a7 V.l7.length c7]) ka #[.slice a0 V.l0.length c0, .slice a1 V.l1.length c1, .slice a2 V.l2.length c2, .slice a3 V.l3.length c3, .slice a4 V.l4.length c4, .slice a5 V.l5.length c5, .slice a6 V.l6.length c6, .slice a7 V.l7.length c7] 46) := setRow_heap _ _ _ _ _ _ Ka.out
          have Kb : Hid (Blk (g13.setRow ka #[.slice a0 V.l0.length c0, .slice a1 V.l1.length c1, .slice a2 V.l2.length c2, .slice a3 V.l3.length c3, .slice a4 V.l4.length c4, .slice a5 V.l5.length c5, .slice a6 V.l6.length c6, .slice a7 V.l7.length c7]) kb #[.slice none 0 0, .slice none 0 0, .slice none 0 0, .slice none 0 0, .slice none 0 0, .slice none 0 0, .slice none 0 0, .slice none 0 0] 46) := (setRow_other _ _ _ _ (by have := NEQ.out; omega)).trans Kb.out
          have K0 : Hid (Blk (g13.setRow ka #[.slice a0 V.l0.length c0, .slice a1 V.l1.length c1, .slice a2 V.l2.length c2, .slice a3 V.l3.length c3, .slice a4 V.l4.length c4, .slice a5 V.l5.length c5, .slice a6 V.l6.length c6, .slice a7 V.l7.length c7]) w.heap.size #[.slice a0 V.l0.length c0, .slice a1 V.l1.length c1, .slice a2 V.l2.length c2, .slice a3 V.l3.length c3, .slice a4 V.l4.length c4, .slice a5 V.l5.length c5, .slice a6 V.l6.length c6, .slice a7 V.l7.length c7, .bool V.sp, .bool V.kl] 27) := (setRow_other _ _ _ _ (by have := ltX; omega)).trans K0.out
          have K1 : Hid (Blk (g13.setRow ka #[.slice a0 V.l0.length c0, .slice a1 V.l1.length c1, .slice a2 V.l2.length c2, .slice a3 V.l3.length c3, .slice a4 V.l4.length c4, .slice a5 V.l5.length c5, .slice a6 V.l6.length c6, .slice a7 V.l7.length c7]) (w.heap.size + 1) #[.slice b0 U.l0.length d0, .slice b1 U.l1.length d1, .slice b2 U.l2.length d2, .slice b3 U.l3.length d3, .slice b4 U.l4.length d4, .slice b5 U.l5.length d5, .slice b6 U.l6.length d6, .slice b7 U.l7.length d7, .bool U.sp, .bool U.kl] 27) := (setRow_other _ _ _ _ (by have := ltX; omega)).trans K1.out
          refine hK.out _ _ ?_ (fun hHeld => ?_)
          · exact ⟨K0.out, K1.out⟩
          clear hK K
          try simp only [List.foldl, Act.put, List.setIfInBounds_toArray, List.set_cons_zero, List.set_cons_succ]
          generalize hGe : (g13.setRow ka #[.slice a0 V.l0.length c0, .slice a1 V.l1.length c1, .slice a2 V.l2.length c2, .slice a3 V.l3.length c3, .slice a4 V.l4.length c4, .slice a5 V.l5.length c5, .slice a6 V.l6.length c6, .slice a7 V.l7.length c7]) = g14 at Ka Kb hHeld LX K0 K1 ⊢
          clear hGe hlx
          refine wpAnyH_ready (rs := [7]) (by kernel_rfl) (by simp) ?_
          refine AllReadyH.cons rfl (fun K hK => ?_) AllReadyH.nil
          refine wp_store_row 46 (.tmp 6) (.tmp 12) rfl kb #[.slice b0 U.l0.length d0, .slice b1 U.l1.length d1, .slice b2 U.l2.length d2, .slice b3 U.l3.length d3, .slice b4 U.l4.length d4, .slice b5 U.l5.length d5, .slice b6 U.l6.length d6, .slice b7 U.l7.length d7] rfl rfl 46 _ Kb.out (by rw [Try.infoLs]; rfl) rfl one8 ?_
          have hlx := HXb.out
          have LX : Hid (Below X.heap.size X (g14.setRow kb #[.slice b0 U.l0.length d0, .slice b1 U.l1.length d1, .slice b2 U.l2.length d2, .slice b3 U.l3.length d3, .slice b4 U.l4.length d4, .slice b5 U.l5.length d5, .slice b6 U.l6.length d6, .slice b7 U.l7.length d7])) := below_setRow LX.out hlx _
          have Kb : Hid (Blk (g14.setRow kb #[.slice b0 U.l0.length d0, .slice b1 U.l1.length d1, .slice b2 U.l2.length d2, .slice b3 U.l3.length d3, .slice b4 U.l4.length d4, .slice b5 U.l5.length d5, .slice b6 U.l6.length d6, .slice b7 U.l7.length d7]) kb #[.slice b0 U.l0.length d0, .slice b1 U.l1.length d1, .slice b2 U.l2.length d2, .slice b3 U.l3.length d3, .slice b4 U.l4.length d4, .slice b5 U.l5.length d5, .slice b6 U.l6.length d6, .slice b7 U.l7.length d7] 46) := setRow_heap _ _ _ _ _ _ Kb.out
          have Ka : Hid (Blk (g14.setRow kb #[.slice b0 U.l0.length d0, .slice b1 U.l1.length d1, .slice b2 U.l2.length d2, .slice b3 U.l3.length d3, .slice b4 U.l4.length d4, .slice b5 U.l5.length d5, .slice b6 U.l6.length d6, .slice b7 U.l7.length d7]) ka #[.slice a0 V.l0.length c0, .slice a1 V.l1.length c1, .slice a2 V.l2.length c2, .slice a3 V.l3.length c3, .slice a4 V.l4.length c4, .slice a5 V.l5.length c5, .slice a6 V.l6.length c6, .slice a7 V.l7.length c7] 46) := (setRow_other _ _ _ _ (by have := NEQ.out; omega)).trans Ka.out
          have K0 : Hid (Blk (g14.setRow kb #[.slice b0 U.l0.length d0, .slice b1 U.l1.length d1, .slice b2 U.l2.length d2, .slice b3 U.l3.length d3, .slice b4 U.l4.length d4, .slice b5 U.l5.length d5, .slice b6 U.l6.length d6, .slice b7 U.l7.length d7]) w.heap.size #[.slice a0 V.l0.length c0, .slice a1 V.l1.length c1, .slice a2 V.l2.length c2, .slice a3 V.l3.length c3, .slice a4 V.l4.length c4, .slice a5 V.l5.length c5, .slice a6 V.l6.length c6, .slice a7 V.l7.length c7, .bool V.sp, .bool V.kl] 27) := (setRow_other _ _ _ _ (by have := ltX; omega)).trans K0.out
          have K1 : Hid (Blk (g14.setRow kb #[.slice b0 U.l0.length d0, .slice b1 U.l1.length d1, .slice b2 U.l2.length d2, .slice b3 U.l3.length d3, .slice b4 U.l4.length d4, .slice b5 U.l5.length d5, .slice b6 U.l6.length d6, .slice b7 U.l7.length d7]) (w.heap.size + 1) #[.slice b0 U.l0.length d0, .slice b1 U.l1.length d1, .slice b2 U.l2.length d2, .slice b3 U.l3.length d3, .slice b4 U.l4.length d4, .slice b5 U.l5.length d5, .slice b6 U.l6.length d6, .slice b7 U.l7.length d7, .bool U.sp, .bool U.kl] 27) := (setRow_other _ _ _ _ (by have := ltX; omega)).trans K1.out
          refine hK.out _ _ ?_ (fun hHeld => ?_)
          · exact ⟨K0.out, K1.out⟩
          clear hK K
          try simp only [List.foldl, Act.put, List.setIfInBounds_toArray, List.set_cons_zero, List.set_cons_succ]
          generalize hGe : (g14.setRow kb #[.slice b0 U.l0.length d0, .slice b1 U.l1.length d1, .slice b2 U.l2.length d2, .slice b3 U.l3.length d3, .slice b4 U.l4.length d4, .slice b5 U.l5.length d5, .slice b6 U.l6.length d6, .slice b7 U.l7.length d7]) = g15 at Ka Kb hHeld LX K0 K1 ⊢
          clear hGe hlx
          refine wpAnyH_done (by kernel_rfl) ?_ _
          go_wp2_with fail
          go_meet
          exact ⟨ka, kb, rfl, rfl, Ka.out, Kb.out, HXa.out, HXb.out, NEQ.out, LX.out⟩
        refine AllReadyH.cons rfl (fun K hK => ?_) AllReadyH.nil
        go_simp
        have hg : Below g11.heap.size g11 (g11.alloc (.cells #[.slice none 0 0, .slice none 0 0, .slice none 0 0, .slice none 0 0, .slice none 0 0, .slice none 0 0, .slice none 0 0, .slice none 0 0] 46)) := bl_alloc (Below.refl _ _) _
        have Kb : Hid (Blk (g11.alloc (.cells #[.slice none 0 0, .slice none 0 0, .slice none 0 0, .slice none 0 0, .slice none 0 0, .slice none 0 0, .slice none 0 0, .slice none 0 0] 46)) g11.heap.size #[.slice none 0 0, .slice none 0 0, .slice none 0 0, .slice none 0 0, .slice none 0 0, .slice none 0 0, .slice none 0 0, .slice none 0 0] 46) := Blk.new _ _ _
        have hxs : X.heap.size ≤ g11.heap.size := LX.out.size
        have NE : Hid (¬ ka = g11.heap.size) := by have := Ka.out.lt; show ¬ _; omega
        have LX : Hid (Below X.heap.size X (g11.alloc (.cells #[.slice none 0 0, .slice none 0 0, .slice none 0 0, .slice none 0 0, .slice none 0 0, .slice none 0 0, .slice none 0 0, .slice none 0 0] 46))) := bl_trans LX.out hg
        have K0 : Hid (Blk (g11.alloc (.cells #[.slice none 0 0, .slice none 0 0, .slice none 0 0, .slice none 0 0, .slice none 0 0, .slice none 0 0, .slice none 0 0, .slice none 0 0] 46)) w.heap.size #[.slice a0 V.l0.length c0, .slice a1 V.l1.length c1, .slice a2 V.l2.length c2, .slice a3 V.l3.length c3, .slice a4 V.l4.length c4, .slice a5 V.l5.length c5, .slice a6 V.l6.length c6, .slice a7 V.l7.length c7, .bool V.sp, .bool V.kl] 27) := K0.out.later hg
        have K1 : Hid (Blk (g11.alloc (.cells #[.slice none 0 0, .slice none 0 0, .slice none 0 0, .slice none 0 0, .slice none 0 0, .slice none 0 0, .slice none 0 0, .slice none 0 0] 46)) (w.heap.size + 1) #[.slice b0 U.l0.length d0, .slice b1 U.l1.length d1, .slice b2 U.l2.length d2, .slice b3 U.l3.length d3, .slice b4 U.l4.length d4, .slice b5 U.l5.length d5, .slice b6 U.l6.length d6, .slice b7 U.l7.length d7, .bool U.sp, .bool U.kl] 27) := K1.out.later hg
        have Ka : Hid (Blk (g11.alloc (.cells #[.slice none 0 0, .slice none 0 0, .slice none 0 0, .slice none 0 0, .slice none 0 0, .slice none 0 0, .slice none 0 0, .slice none 0 0] 46)) ka #[.slice none 0 0, .slice none 0 0, .slice none 0 0, .slice none 0 0, .slice none 0 0, .slice none 0 0, .slice none 0 0, .slice none 0 0] 46) := Ka.out.later hg
        clear hg
        refine hK.out _ _ ?_ (fun hHeld => ?_)
        · exact ⟨K0.out, K1.out⟩
        clear hK K
        try simp only [List.foldl, Act.put, List.setIfInBounds_toArray, List.set_cons_zero, List.set_cons_succ]
        generalize hGe : (g11.alloc (.cells #[.slice none 0 0, .slice none 0 0, .slice none 0 0, .slice none 0 0, .slice none 0 0, .slice none 0 0, .slice none 0 0, .slice none 0 0] 46)) = g16 at Kb hHeld LX K0 K1 Ka ⊢
        obtain ⟨kb, hkb⟩ : ∃ k, g11.heap.size = k := ⟨_, rfl⟩
        have HXb : Hid (X.heap.size ≤ kb) := Nat.le_trans hxs (Nat.le_of_eq hkb)
        clear hxs
        rw [hkb] at Kb NE
        try rw [hkb]
        clear hGe hkb
        refine wpAnyH_ready (rs := [3]) (by kernel_rfl) (by simp) ?_
        refine AllReadyH.cons rfl (fun K hK => ?_) AllReadyH.nil
        go_simp
        refine (listsOf_any b0 b1 b2 b3 b4 b5 b6 b7 d0 d1 d2 d3 d4 d5 d6 d7 U _).mono ?_
        rintro z g17 ⟨rfl, hb⟩
        have hc : Below g16.heap.size g16 g17 := hb
        have LX : Hid (Below X.heap.size X g17) := bl_trans LX.out hc
        have K0 : Hid (Blk g17 w.heap.size #[.slice a0 V.l0.length c0, .slice a1 V.l1.length c1, .slice a2 V.l2.length c2, .slice a3 V.l3.length c3, .slice a4 V.l4.length c4, .slice a5 V.l5.length c5, .slice a6 V.l6.length c6, .slice a7 V.l7.length c7, .bool V.sp, .bool V.kl] 27) := K0.out.later hc
        have K1 : Hid (Blk g17 (w.heap.size + 1) #[.slice b0 U.l0.length d0, .slice b1 U.l1.length d1, .slice b2 U.l2.length d2, .slice b3 U.l3.length d3, .slice b4 U.l4.length d4, .slice b5 U.l5.length d5, .slice b6 U.l6.length d6, .slice b7 U.l7.length d7, .bool U.sp, .bool U.kl] 27) := K1.out.later hc
        have Ka : Hid (Blk g17 ka #[.slice none 0 0, .slice none 0 0, .slice none 0 0, .slice none 0 0, .slice none 0 0, .slice none 0 0, .slice none 0 0, .slice none 0 0] 46) := Ka.out.later hc
        have Kb : Hid (Blk g17 kb #[.slice none 0 0, .slice none 0 0, .slice none 0 0, .slice none 0 0, .slice none 0 0, .slice none 0 0, .slice none 0 0, .slice none 0 0] 46) := Kb.out.later hc
        clear hb hc
        refine hK.out _ _ ?_ (fun hHeld => ?_)
        · exact ⟨K0.out, K1.out⟩
        clear hK K
        try simp only [List.foldl, Act.put, List.setIfInBounds_toArray, List.set_cons_zero, List.set_cons_succ]
        have NEQ : Hid (¬ ka = kb) := by first | exact NE.out | exact fun e => NE.out e.symm
        refine wpAnyH_ready (rs := [6]) (by kernel_rfl) (by simp) ?_
        refine AllReadyH.cons rfl (fun K hK => ?_) AllReadyH.nil
        refine wp_store_row 46 (.tmp 5) (.tmp 10) rfl ka #[.slice a0 V.l0.length c0, .slice a1 V.l1.length c1, .slice a2 V.l2.length c2, .slice a3 V.l3.length c3, .slice a4 V.l4.length c4, .slice a5 V.l5.length c5, .slice a6 V.l6.length c6, .slice a7 V.l7.length c7] rfl rfl 46 _ Ka.out (by rw [Try.infoLs]; rfl) rfl one8 ?_
        have hlx := HXa.out
        have LX : Hid (Below X.heap.size X (g17.setRow ka #[.slice a0 V.l0.length c0, .slice a1 V.l1.length c1, .slice a2 V.l2.length c2, .slice a3 V.l3.length c3, .slice a4 V.l4.length c4, .slice a5 V.l5.length c5, .slice a6 V.l6.length c6, .slice a7 V.l7.length c7])) := below_setRow LX.out hlx _
        have Ka : Hid (Blk (g17.setRow ka #[.slice a0 V.l0.length c0, .slice a1 V.l1.length c1, .slice a2 V.l2.length c2, .slice a3 V.l3.length c3, .slice a4 V.l4.length c4, .slice a5 V.l5.length c5, .slice a6 V.l6.length c6, .slice a7 V.l7.length c7]) ka #[.slice a0 V.l0.length c0, .slice a1 V.l1.length c1, .slice a2 V.l2.length c2, .slice a3 V.l3.length c3, .slice a4 V.l4.length c4, .slice a5 V.l5.length c5, .slice a6 V.l6.length c6, .slice a7 V.l7.length c7] 46) := setRow_heap _ _ _ _ _ _ Ka.out
        have Kb : Hid (Blk (g17.setRow ka #[.slice a0 V.l0.length c0, .slice a1 V.l1.length c1, .slice a2 V.l2.length c2, .slice a3 V.l3.length c3, .slice a4 V.l4.length c4, .slice a5 V.l5.length c5, .slice a6 V.l6.length c6, .slice a7 V.l7.length c7]) kb #[.slice none 0 0, .slice none 0 0, .slice none 0 0, .slice none 0 0, .slice none 0 0, .slice none 0 0, .slice none 0 0, .slice none 0 0] 46) := (setRow_other _ _ _ _ (by have := NEQ.out; omega)).trans Kb.out
        have K0 : Hid (Blk (g17.setRow ka #[.slice a0 V.l0.length c0, .slice a1 V.l1.length c1, .slice a2 V.l2.length c2, .slice a3 V.l3.length c3, .slice a4 V.l4.length c4, .slice a5 V.l5.length c5, .slice a6 V.l6.length c6, .slice a7 V.l7.length c7]) w.heap.size #[.slice a0 V.l0.length c0, .slice a1 V.l1.length c1, .slice a2 V.l2.length c2, .slice a3 V.l3.length c3, .slice a4 V.l4.length c4, .slice a5 V.l5.length c5, .slice a6 V.l6.length c6, .slice a7 V.l7.length c7, .bool V.sp, .bool V.kl] 27) := (setRow_other _ _ _ _ (by have := ltX; omega)).trans K0.out
        have K1 : Hid (Blk (g17.setRow ka #[.slice a0 V.l0.length c0, .slice a1 V.l1.length c1, .slice a2 V.l2.length c2, .slice a3 V.l3.length c3, .slice a4 V.l4.length c4, .slice a5 V.l5.length c5, .slice a6 V.l6.length c6, .slice a7 V.l7.length c7]) (w.heap.size + 1) #[.slice b0 U.l0.length d0, .slice b1 U.l1.length d1, .slice b2 U.l2.length d2, .slice b3 U.l3.length d3, .slice b4 U.l4.length d4, .slice b5 U.l5.length d5, .slice b6 U.l6.length d6, .slice b7 U.l7.length d7, .bool U.sp, .bool U.kl] 27) := (setRow_other _ _ _ _ (by have := ltX; omega)).trans K1.out
        refine hK.out _ _ ?_ (fun hHeld => ?_)
        · exact ⟨K0.out, K1.out⟩
        clear hK K
        try simp only [List.foldl, Act.put, List.setIfInBounds_toArray, List.set_cons_zero, List.set_cons_succ]
        generalize hGe : (g17.setRow ka #[.slice a0 V.l0.length c0, .slice a1 V.l1.length c1, .slice a2 V.l2.length c2, .slice a3 V.l3.length c3, .slice a4 V.l4.length c4, .slice a5 V.l5.length c5, .slice a6 V.l6.length c6, .slice a7 V.l7.length c7]) = g18 at Ka Kb hHeld LX K0 K1 ⊢
        clear hGe hlx
        refine wpAnyH_ready (rs := [7]) (by kernel_rfl) (by simp) ?_
        refine AllReadyH.cons rfl (fun K hK => ?_) AllReadyH.nil
        refine wp_store_row 46 (.tmp 6) (.tmp 12) rfl kb #[.slice b0 U.l0.length d0, .slice b1 U.l1.length d1, .slice b2 U.l2.length d2, .slice b3 U.l3.length d3, .slice b4 U.l4.length d4, .slice b5 U.l5.length d5, .slice b6 U.l6.length d6, .slice b7 U.l7.length d7] rfl rfl 46 _ Kb.out (by rw [Try.infoLs]; rfl) rfl one8 ?_
        have hlx := HXb.out
        have LX : Hid (Below X.heap.size X (g18.setRow kb #[.slice b0 U.l0.length d0, .slice b1 U.l1.length d1, .slice b2 U.l2.length d2, .slice b3 U.l3.length d3, .slice b4 U.l4.length d4, .slice b5 U.l5.length d5, .slice b6 U.l6.length d6, .slice b7 U.l7.length d7])) := below_setRow LX.out hlx _
        have Kb : Hid (Blk (g18.setRow kb #[.slice b0 U.l0.length d0, .slice b1 U.l1.length d1, .slice b2 U.l2.length d2, .slice b3 U.l3.length d3, .slice b4 U.l4.length d4, .slice b5 U.l5.length d5, .slice b6 U.l6.length d6, .slice b7 U.l7.length d7]) kb #[.slice b0 U.l0.length d0, .slice b1 U.l1.length d1, .slice b2 U.l2.length d2, .slice b3 U.l3.length d3, .slice b4 U.l4.length d4, .slice b5 U.l5.length d5, .slice b6 U.l6.length d6, .slice b7 U.l7.length d7] 46) := setRow_heap _ _ _ _ _ _ Kb.out
        have Ka : Hid (Blk (g18.setRow kb #[.slice b0 U.l0.length d0, .slice b1 U.l1.length d1, .slice b2 U.l2.length d2, .slice b3 U.l3.length d3, .slice b4 U.l4.length d4, .slice b5 U.l5.length d5, .slice b6 U.l6.length d6, .slice b7 U.l7.length d7]) ka #[.slice a0 V.l0.length c0, .slice a1 V.l1.length c1, .slice a2 V.l2.length c2, .slice a3 V.l3.length c3, .slice a4 V.l4.length c4, .slice a5 V.l5.length c5, .slice a6 V.l6.length c6, .slice a7 V.l7.length c7] 46) := (setRow_other _ _ _ _ (by have := NEQ.out; omega)).trans Ka.out
        have K0 : Hid (Blk (g18.setRow kb #[.slice b0 U.l0.length d0, .slice b1 U.l1.length d1, .slice b2 U.l2.length d2, .slice b3 U.l3.length d3, .slice b4 U.l4.length d4, .slice b5 U.l5.length d5, .slice b6 U.l6.length d6, .slice b7 U.l7.length d7]) w.heap.size #[.slice a0 V.l0.length c0, .slice a1 V.l1.length c1, .slice a2 V.l2.length c2, .slice a3 V.l3.length c3, .slice a4 V.l4.length c4, .slice a5 V.l5.length c5, .slice a6 V.l6.length c6, .slice a7 V.l7.length c7, .bool V.sp, .bool V.kl] 27) := (setRow_other _ _ _ _ (by have := ltX; omega)).trans K0.out
        have K1 : Hid (Blk (g18.setRow kb #[.slice b0 U.l0.length d0, .slice b1 U.l1.length d1, .slice b2 U.l2.length d2, .slice b3 U.l3.length d3, .slice b4 U.l4.length d4, .slice b5 U.l5.length d5, .slice b6 U.l6.length d6, .slice b7 U.l7.length d7]) (w.heap.size + 1) #[.slice b0 U.l0.length d0, .slice b1 U.l1.length d1, .slice b2 U.l2.length d2, .slice b3 U.l3.length d3, .slice b4 U.l4.length d4, .slice b5 U.l5.length d5, .slice b6 U.l6.length d6, .slice b7 U.l7.length d7, .bool U.sp, .bool U.kl] 27) := (setRow_other _ _ _ _ (by have := ltX; omega)).trans K1.out
        refine hK.out _ _ ?_ (fun hHeld => ?_)
        · exact ⟨K0.out, K1.out⟩
        clear hK K
        try simp only [List.foldl, Act.put, List.setIfInBounds_toArray, List.set_cons_zero, List.set_cons_succ]
        generalize hGe : (g18.setRow kb #[.slice b0 U.l0.length d0, .slice b1 U.l1.length d1, .slice b2 U.l2.length d2, .slice b3 U.l3.length d3, .slice b4 U.l4.length d4, .slice b5 U.l5.length d5, .slice b6 U.l6.length d6, .slice b7 U.l7.length d7]) = g19 at Ka Kb hHeld LX K0 K1 ⊢
        clear hGe hlx
        refine wpAnyH_done (by kernel_rfl) ?_ _
        go_wp2_with fail
        go_meet
        exact ⟨ka, kb, rfl, rfl, Ka.out, Kb.out, HXa.out, HXb.out, NEQ.out, LX.out⟩
      refine AllReadyH.cons rfl (fun K hK => ?_) AllReadyH.nil
      go_simp
      have hg : Below g1.heap.size g1 (g1.alloc (.cells #[.slice none 0 0, .slice none 0 0, .slice none 0 0, .slice none 0 0, .slice none 0 0, .slice none 0 0, .slice none 0 0, .slice none 0 0] 46)) := bl_alloc (Below.refl _ _) _
      have Kb : Hid (Blk (g1.alloc (.cells #[.slice none 0 0, .slice none 0 0, .slice none 0 0, .slice none 0 0, .slice none 0 0, .slice none 0 0, .slice none 0 0, .slice none 0 0] 46)) g1.heap.size #[.slice none 0 0, .slice none 0 0, .slice none 0 0, .slice none 0 0, .slice none 0 0, .slice none 0 0, .slice none 0 0, .slice none 0 0] 46) := Blk.new _ _ _
      have hxs : X.heap.size ≤ g1.heap.size := LX.out.size
      have LX : Hid (Below X.heap.size X (g1.alloc (.cells #[.slice none 0 0, .slice none 0 0, .slice none 0 0, .slice none 0 0, .slice none 0 0, .slice none 0 0, .slice none 0 0, .slice none 0 0] 46))) := bl_trans LX.out hg
      have K0 : Hid (Blk (g1.alloc (.cells #[.slice none 0 0, .slice none 0 0, .slice none 0 0, .slice none 0 0, .slice none 0 0, .slice none 0 0, .slice none 0 0, .slice none 0 0] 46)) w.heap.size #[.slice a0 V.l0.length c0, .slice a1 V.l1.length c1, .slice a2 V.l2.length c2, .slice a3 V.l3.length c3, .slice a4 V.l4.length c4, .slice a5 V.l5.length c5, .slice a6 V.l6.length c6, .slice a7 V.l7.length c7, .bool V.sp, .bool V.kl] 27) := K0.out.later hg
      have K1 : Hid (Blk (g1.alloc (.cells #[.slice none 0 0, .slice none 0 0, .slice none 0 0, .slice none 0 0, .slice none 0 0, .slice none 0 0, .slice none 0 0, .slice none 0 0] 46)) (w.heap.size + 1) #[.slice b0 U.l0.length d0, .slice b1 U.l1.length d1, .slice b2 U.l2.length d2, .slice b3 U.l3.length d3, .slice b4 U.l4.length d4, .slice b5 U.l5.length d5, .slice b6 U.l6.length d6, .slice b7 U.l7.length d7, .bool U.sp, .bool U.kl] 27) := K1.out.later hg
      clear hg
      refine hK.out _ _ ?_ (fun hHeld => ?_)
      · exact ⟨K0.out, K1.out⟩
      clear hK K
      try simp only [List.foldl, Act.put, List.setIfInBounds_toArray, List.set_cons_zero, List.set_cons_succ]
      generalize hGe : (g1.alloc (.cells #[.slice none 0 0, .slice none 0 0, .slice none 0 0, .slice none 0 0, .slice none 0 0, .slice none 0 0, .slice none 0 0, .slice none 0 0] 46)) = g20 at Kb hHeld LX K0 K1 ⊢
      obtain ⟨kb, hkb⟩ : ∃ k, g1.heap.size = k := ⟨_, rfl⟩
      have HXb : Hid (X.heap.size ≤ kb) := Nat.le_trans hxs (Nat.le_of_eq hkb)
      clear hxs
      rw [hkb] at Kb
      try rw [hkb]
      clear hGe hkb
      refine wpAnyH_ready (rs := [3, 4]) (by kernel_rfl) (by simp) ?_
      refine AllReadyH.cons rfl (fun K hK => ?_) ?_
      · skip
        go_simp
        refine (listsOf_any b0 b1 b2 b3 b4 b5 b6 b7 d0 d1 d2 d3 d4 d5 d6 d7 U _).mono ?_
        rintro z g21 ⟨rfl, hb⟩
        have hc : Below g20.heap.size g20 g21 := hb
        have LX : Hid (Below X.heap.size X g21) := bl_trans LX.out hc
        have K0 : Hid (Blk g21 w.heap.size #[.slice a0 V.l0.length c0, .slice a1 V.l1.length c1, .slice a2 V.l2.length c2, .slice a3 V.l3.length c3, .slice a4 V.l4.length c4, .slice a5 V.l5.length c5, .slice a6 V.l6.length c6, .slice a7 V.l7.length c7, .bool V.sp, .bool V.kl] 27) := K0.out.later hc
        have K1 : Hid (Blk g21 (w.heap.size + 1) #[.slice b0 U.l0.length d0, .slice b1 U.l1.length d1, .slice b2 U.l2.length d2, .slice b3 U.l3.length d3, .slice b4 U.l4.length d4, .slice b5 U.l5.length d5, .slice b6 U.l6.length d6, .slice b7 U.l7.length d7, .bool U.sp, .bool U.kl] 27) := K1.out.later hc
        have Kb : Hid (Blk g21 kb #[.slice none 0 0, .slice none 0 0, .slice none 0 0, .slice none 0 0, .slice none 0 0, .slice none 0 0, .slice none 0 0, .slice none 0 0] 46) := Kb.out.later hc
        clear hb hc
        refine hK.out _ _ ?_ (fun hHeld => ?_)
        · exact ⟨K0.out, K1.out⟩
        clear hK K
        try simp only [List.foldl, Act.put, List.setIfInBounds_toArray, List.set_cons_zero, List.set_cons_succ]
        refine wpAnyH_ready (rs := [4]) (by kernel_rfl) (by simp) ?_
        refine AllReadyH.cons rfl (fun K hK => ?_) AllReadyH.nil
        go_simp
        have hg : Below g21.heap.size g21 (g21.alloc (.cells #[.slice none 0 0, .slice none 0 0, .slice none 0 0, .slice none 0 0, .slice none 0 0, .slice none 0 0, .slice none 0 0, .slice none 0 0] 46)) := bl_alloc (Below.refl _ _) _
        have Ka : Hid (Blk (g21.alloc (.cells #[.slice none 0 0, .slice none 0 0, .slice none 0 0, .slice none 0 0, .slice none 0 0, .slice none 0 0, .slice none 0 0, .slice none 0 0] 46)) g21.heap.size #[.slice none 0 0, .slice none 0 0, .slice none 0 0, .slice none 0 0, .slice none 0 0, .slice none 0 0, .slice none 0 0, .slice none 0 0] 46) := Blk.new _ _ _
        have hxs : X.heap.size ≤ g21.heap.size := LX.out.size
        have NE : Hid (¬ kb = g21.heap.size) := by have := Kb.out.lt; show ¬ _; omega
        have LX : Hid (Below X.heap.size X (g21.alloc (.cells #[.slice none 0 0, .slice none 0 0, .slice none 0 0, .slice none 0 0, .slice none 0 0, .slice none 0 0, .slice none 0 0, .slice none 0 0] 46))) := bl_trans LX.out hg
        have K0 : Hid (Blk (g21.alloc (.cells #[.slice none 0 0, .slice none 0 0, .slice none 0 0, .slice none 0 0, .slice none 0 0, .slice none 0 0, .slice none 0 0, .slice none 0 0] 46)) w.heap.size #[.slice a0 V.l0.length c0, .slice a1 V.l1.length c1, .slice a2 V.l2.length c2, .slice a3 V.l3.length c3, .slice a4 V.l4.length c4, .slice a5 V.l5.length c5, .slice a6 V.l6.length c6, .slice a7 V.l7.length c7, .bool V.sp, .bool V.kl] 27) := K0.out.later hg
        have K1 : Hid (Blk (g21.alloc (.cells #[.slice none 0 0, .slice none 0 0, .slice none 0 0, .slice none 0 0, .slice none 0 0, .slice none 0 0, .slice none 0 0, .slice none 0 0] 46)) (w.heap.size + 1) #[.slice b0 U.l0.length d0, .slice b1 U.l1.length d1, .slice b2 U.l2.length d2, .slice b3 U.l3.length d3, .slice b4 U.l4.length d4, .slice b5 U.l5.length d5, .slice b6 U.l6.length d6, .slice b7 U.l7.length d7, .bool U.sp, .bool U.kl] 27) := K1.out.later hg
        have Kb : Hid (Blk (g21.alloc (.cells #[.slice none 0 0, .slice none 0 0, .slice none 0 0, .slice none 0 0, .slice none 0 0, .slice none 0 0, .slice none 0 0, .slice none 0 0] 46)) kb #[.slice none 0 0, .slice none 0 0, .slice none 0 0, .slice none 0 0, .slice none 0 0, .slice none 0 0, .slice none 0 0, .slice none 0 0] 46) := Kb.out.later hg
        clear hg
        refine hK.out _ _ ?_ (fun hHeld => ?_)
        · exact ⟨K0.out, K1.out⟩
        clear hK K
        try simp only [List.foldl, Act.put, List.setIfInBounds_toArray, List.set_cons_zero, List.set_cons_succ]
        generalize hGe : (g21.alloc (.cells #[.slice none 0 0, .slice none 0 0, .slice none 0 0, .slice none 0 0, .slice none 0 0, .slice none 0 0, .slice none 0 0, .slice none 0 0] 46)) = g22 at Ka hHeld LX K0 K1 Kb ⊢
        obtain ⟨ka, hka⟩ : ∃ k, g21.heap.size = k := ⟨_, rfl⟩
        have HXa : Hid (X.heap.size ≤ ka) := Nat.le_trans hxs (Nat.le_of_eq hka)
        clear hxs
        rw [hka] at Ka NE
        try rw [hka]
        clear hGe hka
        have NEQ : Hid (¬ ka = kb) := by first | exact NE.out | exact fun e => NE.out e.symm
        refine wpAnyH_ready (rs := [6]) (by kernel_rfl) (by simp) ?_
        refine AllReadyH.cons rfl (fun K hK => ?_) AllReadyH.nil
        refine wp_store_row 46 (.tmp 5) (.tmp 10) rfl ka #[.slice a0 V.l0.length c0, .slice a1 V.l1.length c1, .slice a2 V.l2.length c2, .slice a3 V.l3.length c3, .slice a4 V.l4.length c4, .slice a5 V.l5.length c5, .slice a6 V.l6.length c6, .slice a7 V.l7.length c7] rfl rfl 46 _ Ka.out (by rw [Try.infoLs]; rfl) rfl one8 ?_
        have hlx := HXa.out
        have LX : Hid (Below X.heap.size X (g22.setRow ka #[.slice a0 V.l0.length c0, .slice a1 V.l1.length c1, .slice a2 V.l2.length c2, .slice a3 V.l3.length c3, .slice a4 V.l4.length c4, .slice a5 V.l5.length c5, .slice a6 V.l6.length c6, .slice a7 V.l7.length c7])) := below_setRow LX.out hlx _
        have Ka : Hid (Blk (g22.setRow ka #[.slice a0 V.l0.length c0, .slice a1 V.l1.length c1, .slice a2 V.l2.length c2, .slice a3 V.l3.length c3, .slice a4 V.l4.length c4, .slice a5 V.l5.length c5, .slice a6 V.l6.length c6, .slice a7 V.l7.length c7]) ka #[.slice a0 V.l0.length c0, .slice a1 V.l1.length c1, .slice a2 V.l2.length c2, .slice a3 V.l3.length c3, .slice a4 V.l4.length c4, .slice a5 V.l5.length c5, .slice a6 V.l6.length c6, .slice a7 V.l7.length c7] 46) := setRow_heap _ _ _ _ _ _ Ka.out
        have Kb : Hid (Blk (g22.setRow ka #[.slice a0 V.l0.length c0, .slice a1 V.l1.length c1, .slice a2 V.l2.length c2, .slice a3 V.l3.length c3, .slice a4 V.l4.length c4, .slice a5 V.l5.length c5, .slice a6 V.l6.length c6, .slice a7 V.l7.length c7]) kb #[.slice none 0 0, .slice none 0 0, .slice none 0 0, .slice none 0 0, .slice none 0 0, .slice none 0 0, .slice none 0 0, .slice none 0 0] 46) := (setRow_other _ _ _ _ (by have := NEQ.out; omega)).trans Kb.out
        have K0 : Hid (Blk (g22.setRow ka #[.slice a0 V.l0.length c0, .slice a1 V.l1.length c1, .slice a2 V.l2.length c2, .slice a3 V.l3.length c3, .slice a4 V.l4.length c4, .slice a5 V.l5.length c5, .slice a6 V.l6.length c6, .slice a7 V.l7.length c7]) w.heap.size #[.slice a0 V.l0.length c0, .slice a1 V.l1.length c1, .slice a2 V.l2.length c2, .slice a3 V.l3.length c3, .slice a4 V.l4.length c4, .slice a5 V.l5.length c5, .slice a6 V.l6.length c6, .slice a7 V.l7.length c7, .bool V.sp, .bool V.kl] 27) := (setRow_other _ _ _ _ (by have := ltX; omega)).trans K0.out
        have K1 : Hid (Blk (g22.setRow ka #[.slice a0 V.l0.length c0, .slice a1 V.l1.length c1, .slice a2 V.l2.length c2, .slice a3 V.l3.length c3, .slice a4 V.l4.length c4, .slice a5 V.l5.length c5, .slice a6 V.l6.length c6, .slice a7 V.l7.length c7]) (w.heap.size + 1) #[.slice b0 U.l0.length d0, .slice b1 U.l1.length d1, .slice b2 U.l2.length d2, .slice b3 U.l3.length d3, .slice b4 U.l4.length d4, .slice b5 U.l5.length d5, .slice b6 U.l6.length d6, .slice b7 U.l7.length d7, .bool U.sp, .bool U.kl] 27) := (setRow_other _ _ _ _ (by have := ltX; omega)).trans K1.out
        refine hK.out _ _ ?_ (fun hHeld => ?_)
        · exact ⟨K0.out, K1.out⟩
        clear hK K
        try simp only [List.foldl, Act.put, List.setIfInBounds_toArray, List.set_cons_zero, List.set_cons_succ]
        generalize hGe : (g22.setRow ka #[.slice a0 V.l0.length c0, .slice a1 V.l1.length c1, .slice a2 V.l2.length c2, .slice a3 V.l3.length c3, .slice a4 V.l4.length c4, .slice a5 V.l5.length c5, .slice a6 V.l6.length c6, .slice a7 V.l7.length c7]) = g23 at Ka Kb hHeld LX K0 K1 ⊢
        clear hGe hlx
        refine wpAnyH_ready (rs := [7]) (by kernel_rfl) (by simp) ?_
        refine AllReadyH.cons rfl (fun K hK => ?_) AllReadyH.nil
        refine wp_store_row 46 (.tmp 6) (.tmp 12) rfl kb #[.slice b0 U.l0.length d0, .slice b1 U.l1.length d1, .slice b2 U.l2.length d2, .slice b3 U.l3.length d3, .slice b4 U.l4.length d4, .slice b5 U.l5.length d5, .slice b6 U.l6.length d6, .slice b7 U.l7.length d7] rfl rfl 46 _ Kb.out (by rw [Try.infoLs]; rfl) rfl one8 ?_
        have hlx := HXb.out
        have LX : Hid (Below X.heap.size X (g23.setRow kb #[.slice b0 U.l0.length d0, .slice b1 U.l1.length d1, .slice b2 U.l2.length d2, .slice b3 U.l3.length d3, .slice b4 U.l4.length d4, .slice b5 U.l5.length d5, .slice b6 U.l6.length d6, .slice b7 U.l7.length d7])) := below_setRow LX.out hlx _
        have Kb : Hid (Blk (g23.setRow kb #[.slice b0 U.l0.length d0, .slice b1 U.l1.length d1, .slice b2 U.l2.length d2, .slice b3 U.l3.length d3, .slice b4 U.l4.length d4, .slice b5 U.l5.length d5, .slice b6 U.l6.length d6, .slice b7 U.l7.length d7]) kb #[.slice b0 U.l0.length d0, .slice b1 U.l1.length d1, .slice b2 U.l2.length d2, .slice b3 U.l3.length d3, .slice b4 U.l4.length d4, .slice b5 U.l5.length d5, .slice b6 U.l6.length d6, .slice b7 U.l7.length d7] 46) := setRow_heap _ _ _ _ _ _ Kb.out
        have Ka : Hid (Blk (g23.setRow kb #[.slice b0 U.l0.length d0, .slice b1 U.l1.length d1, .slice b2 U.l2.length d2, .slice b3 U.l3.length d3, .slice b4 U.l4.length d4, .slice b5 U.l5.length d5, .slice b6 U.l6.length d6, .slice b7 U.l7.length d7]) ka #[.slice a0 V.l0.length c0, .slice a1 V.l1.length c1, .slice a2 V.l2.length c2, .slice a3 V.l3.length c3, .slice a4 V.l4.length c4, .slice a5 V.l5.length c5, .slice a6 V.l6.length c6, .slice a7 V.l7.length c7] 46) := (setRow_other _ _ _ _ (by have := NEQ.out; omega)).trans Ka.out
        have K0 : Hid (Blk (g23.setRow kb #[.slice b0 U.l0.length d0, .slice b1 U.l1.length d1, .slice b2 U.l2.length d2, .slice b3 U.l3.length d3, .slice b4 U.l4.length d4, .slice b5 U.l5.length d5, .slice b6 U.l6.length d6, .slice b7 U.l7.length d7]) w.heap.size #[.slice a0 V.l0.length c0, .slice a1 V.l1.length c1, .slice a2 V.l2.length c2, .slice a3 V.l3.length c3, .slice a4 V.l4.length c4, .slice a5 V.l5.length c5, .slice a6 V.l6.length c6, .slice a7 V.l7.length c7, .bool V.sp, .bool V.kl] 27) := (setRow_other _ _ _ _ (by have := ltX; omega)).trans K0.out
        have K1 : Hid (Blk (g23.setRow kb #[.slice b0 U.l0.length d0, .slice b1 U.l1.length d1, .slice b2 U.l2.length d2, .slice b3 U.l3.length d3, .slice b4 U.l4.length d4, .slice b5 U.l5.length d5, .slice b6 U.l6.length d6, .slice b7 U.l7.length d7]) (w.heap.size + 1) #[.slice b0 U.l0.length d0, .slice b1 U.l1.length d1, .slice b2 U.l2.length d2, .slice b3 U.l3.length d3, .slice b4 U.l4.length d4, .slice b5 U.l5.length d5, .slice b6 U.l6.length d6, .slice b7 U.l7.length d7, .bool U.sp, .bool U.kl] 27) := (setRow_other _ _ _ _ (by have := ltX; omega)).trans K1.out
        refine hK.out _ _ ?_ (fun hHeld => ?_)
        · exact ⟨K0.out, K1.out⟩
        clear hK K
        try simp only [List.foldl, Act.put, List.setIfInBounds_toArray, List.set_cons_zero, List.set_cons_succ]
        generalize hGe : (g23.setRow kb #[.slice b0 U.l0.length d0, .slice b1 U.l1.length d1, .slice b2 U.l2.length d2, .slice b3 U.l3.length d3, .slice b4 U.l4.length d4, .slice b5 U.l5.length d5, .slice b6 U.l6.length d6, .slice b7 U.l7.length d7]) = g24 at Ka Kb hHeld LX K0 K1 ⊢
        clear hGe hlx
        refine wpAnyH_done (by kernel_rfl) ?_ _
        go_wp2_with fail
        go_meet
        exact ⟨ka, kb, rfl, rfl, Ka.out, Kb.out, HXa.out, HXb.out, NEQ.out, LX.out⟩
      refine AllReadyH.cons rfl (fun K hK => ?_) AllReadyH.nil
      go_simp
      have hg : Below g20.heap.size g20 (g20.alloc (.cells #[.slice none 0 0, .slice none 0 0, .slice none 0 0, .slice none 0 0, .slice none 0 0, .slice none 0 0, .slice none 0 0, .slice none 0 0] 46)) := bl_alloc (Below.refl _ _) _
      have Ka : Hid (Blk (g20.alloc (.cells #[.slice none 0 0, .slice none 0 0, .slice none 0 0, .slice none 0 0, .slice none 0 0, .slice none 0 0, .slice none 0 0, .slice none 0 0] 46)) g20.heap.size #[.slice none 0 0, .slice none 0 0, .slice none 0 0, .slice none 0 0, .slice none 0 0, .slice none 0 0, .slice none 0 0, .slice none 0 0] 46) := Blk.new _ _ _
      have hxs : X.heap.size ≤ g20.heap.size := LX.out.size
      have NE : Hid (¬ kb = g20.heap.size) := by have := Kb.out.lt; show ¬ _; omega
      have LX : Hid (Below X.heap.size X (g20.alloc (.cells #[.slice none 0 0, .slice none 0 0, .slice none 0 0, .slice none 0 0, .slice none 0 0, .slice none 0 0, .slice none 0 0, .slice none 0 0] 46))) := bl_trans LX.out hg
      have K0 : Hid (Blk (g20.alloc (.cells #[.slice none 0 0, .slice none 0 0, .slice none 0 0, .slice none 0 0, .slice none 0 0, .slice none 0 0, .slice none 0 0, .slice none 0 0] 46)) w.heap.size #[.slice a0 V.l0.length c0, .slice a1 V.l1.length c1, .slice a2 V.l2.length c2, .slice a3 V.l3.length c3, .slice a4 V.l4.length c4, .slice a5 V.l5.length c5, .slice a6 V.l6.length c6, .slice a7 V.l7.length c7, .bool V.sp, .bool V.kl] 27) := K0.out.later hg
      have K1 : Hid (Blk (g20.alloc (.cells #[.slice none 0 0, .slice none 0 0, .slice none 0 0, .slice none 0 0, .slice none 0 0, .slice none 0 0, .slice none 0 0, .slice none 0 0] 46)) (w.heap.size + 1) #[.slice b0 U.l0.length d0, .slice b1 U.l1.length d1, .slice b2 U.l2.length d2, .slice b3 U.l3.length d3, .slice b4 U.l4.length d4, .slice b5 U.l5.length d5, .slice b6 U.l6.length d6, .slice b7 U.l7.length d7, .bool U.sp, .bool U.kl] 27) := K1.out.later hg
      have Kb : Hid (Blk (g20.alloc (.cells #[.slice none 0 0, .slice none 0 0, .slice none 0 0, .slice none 0 0, .slice none 0 0, .slice none 0 0, .slice none 0 0, .slice none 0 0] 46)) kb #[.slice none 0 0, .slice none 0 0, .slice none 0 0, .slice none 0 0, .slice none 0 0, .slice none 0 0, .slice none 0 0, .slice none 0 0] 46) := Kb.out.later hg
      clear hg
      refine hK.out _ _ ?_ (fun hHeld => ?_)
      · exact ⟨K0.out, K1.out⟩
      clear hK K
      try simp only [List.foldl, Act.put, List.setIfInBounds_toArray, List.set_cons_zero, List.set_cons_succ]
      generalize hGe : (g20.alloc (.cells #[.slice none 0 0, .slice none 0 0, .slice none 0 0, .slice none 0 0, .slice none 0 0, .slice none 0 0, .slice none 0 0, .slice none 0 0] 46)) = g25 at Ka hHeld LX K0 K1 Kb ⊢
      obtain ⟨ka, hka⟩ : ∃ k, g20.heap.size = k := ⟨_, rfl⟩
      have HXa : Hid (X.heap.size ≤ ka) := Nat.le_trans hxs (Nat.le_of_eq hka)
      clear hxs
      rw [hka] at Ka NE
      try rw [hka]
      clear hGe hka
      refine wpAnyH_ready (rs := [3]) (by kernel_rfl) (by simp) ?_
      refine AllReadyH.cons rfl (fun K hK => ?_) AllReadyH.nil
      go_simp
      refine (listsOf_any b0 b1 b2 b3 b4 b5 b6 b7 d0 d1 d2 d3 d4 d5 d6 d7 U _).mono ?_
      rintro z g26 ⟨rfl, hb⟩
      have hc : Below g25.heap.size g25 g26 := hb
      have LX : Hid (Below X.heap.size X g26) := bl_trans LX.out hc
      have K0 : Hid (Blk g26 w.heap.size #[.slice a0 V.l0.length c0, .slice a1 V.l1.length c1, .slice a2 V.l2.length c2, .slice a3 V.l3.length c3, .slice a4 V.l4.length c4, .slice a5 V.l5.length c5, .slice a6 V.l6.length c6, .slice a7 V.l7.length c7, .bool V.sp, .bool V.kl] 27) := K0.out.later hc
      have K1 : Hid (Blk g26 (w.heap.size + 1) #[.slice b0 U.l0.length d0, .slice b1 U.l1.length d1, .slice b2 U.l2.length d2, .slice b3 U.l3.length d3, .slice b4 U.l4.length d4, .slice b5 U.l5.length d5, .slice b6 U.l6.length d6, .slice b7 U.l7.length d7, .bool U.sp, .bool U.kl] 27) := K1.out.later hc
      have Kb : Hid (Blk g26 kb #[.slice none 0 0, .slice none 0 0, .slice none 0 0, .slice none 0 0, .slice none 0 0, .slice none 0 0, .slice none 0 0, .slice none 0 0] 46) := Kb.out.later hc
      have Ka : Hid (Blk g26 ka #[.slice none 0 0, .slice none 0 0, .slice none 0 0, .slice none 0 0, .slice none 0 0, .slice none 0 0, .slice none 0 0, .slice none 0 0] 46) := Ka.out.later hc
      clear hb hc
      refine hK.out _ _ ?_ (fun hHeld => ?_)
      · exact ⟨K0.out, K1.out⟩
      clear hK K
      try simp only [List.foldl, Act.put, List.setIfInBounds_toArray, List.set_cons_zero, List.set_cons_succ]
      have NEQ : Hid (¬ ka = kb) := by first | exact NE.out | exact fun e => NE.out e.symm
      refine wpAnyH_ready (rs := [6]) (by kernel_rfl) (by simp) ?_
      refine AllReadyH.cons rfl (fun K hK => ?_) AllReadyH.nil
      refine wp_store_row 46 (.tmp 5) (.tmp 10) rfl ka #[.slice a0 V.l0.length c0, .slice a1 V.l1.length c1, .slice a2 V.l2.length c2, .slice a3 V.l3.length c3, .slice a4 V.l4.length c4, .slice a5 V.l5.length c5, .slice a6 V.l6.length c6, .slice a7 V.l7.length c7] rfl rfl 46 _ Ka.out (by rw [Try.infoLs]; rfl) rfl one8 ?_
      have hlx := HXa.out
      have LX : Hid (Below X.heap.size X (g26.setRow ka #[.slice a0 V.l0.length c0, .slice a1 V.l1.length c1, .slice a2 V.l2.length c2, .slice a3 V.l3.length c3, .slice a4 V.l4.length c4, .slice a5 V.l5.length c5, .slice a6 V.l6.length c6, .slice a7 V.l7.length c7])) := below_setRow LX.out hlx _
      have Ka : Hid (Blk (g26.setRow ka #[.slice a0 V.l0.length c0, .slice a1 V.l1.length c1, .slice a2 V.l2.length c2, .slice a3 V.l3.length c3, .slice a4 V.l4.length c4, .slice a5 V.l5.length c5, .slice a6 V.l6.length c6, .slice a7 V.l7.length c7]) ka #[.slice a0 V.l0.length c0, .slice a1 V.l1.length c1, .slice a2 V.l2.length c2, .slice a3 V.l3.length c3, .slice a4 V.l4.length c4, .slice a5 V.l5.length c5, .slice a6 V.l6.length c6, .slice a7 V.l7.length c7] 46) := setRow_heap _ _ _ _ _ _ Ka.out
      have Kb : Hid (Blk (g26.setRow ka #[.slice a0 V.l0.length c0, .slice a1 V.l1.length c1, .slice a2 V.l2.length c2, .slice a3 V.l3.length c3, .slice a4 V.l4.length c4, .slice a5 V.l5.length c5, .slice a6 V.l6.length c6, .slice a7 V.l7.length c7]) kb #[.slice none 0 0, .slice none 0 0, .slice none 0 0, .slice none 0 0, .slice none 0 0, .slice none 0 0, .slice none 0 0, .slice none 0 0] 46) := (setRow_other _ _ _ _ (by have := NEQ.out; omega)).trans Kb.out
      have K0 : Hid (Blk (g26.setRow ka #[.slice a0 V.l0.length c0, .slice a1 V.l1.length c1, .slice a2 V.l2.length c2, .slice a3 V.l3.length c3, .slice a4 V.l4.length c4, .slice a5 V.l5.length c5, .slice a6 V.l6.length c6, .slice a7 V.l7.length c7]) w.heap.size #[.slice a0 V.l0.length c0, .slice a1 V.l1.length c1, .slice a2 V.l2.length c2, .slice a3 V.l3.length c3, .slice a4 V.l4.length c4, .slice a5 V.l5.length c5, .slice a6 V.l6.length c6, .slice a7 V.l7.length c7, .bool V.sp, .bool V.kl] 27) := (setRow_other _ _ _ _ (by have := ltX; omega)).trans K0.out
      have K1 : Hid (Blk (g26.setRow ka #[.slice a0 V.l0.length c0, .slice a1 V.l1.length c1, .slice a2 V.l2.length c2, .slice a3 V.l3.length c3, .slice a4 V.l4.length c4, .slice a5 V.l5.length c5, .slice a6 V.l6.length c6, .slice a7 V.l7.length c7]) (w.heap.size + 1) #[.slice b0 U.l0.length d0, .slice b1 U.l1.length d1, .slice b2 U.l2.length d2, .slice b3 U.l3.length d3, .slice b4 U.l4.length d4, .slice b5 U.l5.length d5, .slice b6 U.l6.length d6, .slice b7 U.l7.length d7, .bool U.sp, .bool U.kl] 27) := (setRow_other _ _ _ _ (by have := ltX; omega)).trans K1.out
      refine hK.out _ _ ?_ (fun hHeld => ?_)
      · exact ⟨K0.out, K1.out⟩
      clear hK K
      try simp only [List.foldl, Act.put, List.setIfInBounds_toArray, List.set_cons_zero, List.set_cons_succ]
      generalize hGe : (g26.setRow ka #[.slice a0 V.l0.length c0, .slice a1 V.l1.length c1, .slice a2 V.l2.length c2, .slice a3 V.l3.length c3, .slice a4 V.l4.length c4, .slice a5 V.l5.length c5, .slice a6 V.l6.length c6, .slice a7 V.l7.length c7]) = g27 at Ka Kb hHeld LX K0 K1 ⊢
      clear hGe hlx
      refine wpAnyH_ready (rs := [7]) (by kernel_rfl) (by simp) ?_
      refine AllReadyH.cons rfl (fun K hK => ?_) AllReadyH.nil
      refine wp_store_row 46 (.tmp 6) (.tmp 12) rfl kb #[.slice b0 U.l0.length d0, .slice b1 U.l1.length d1, .slice b2 U.l2.length d2, .slice b3 U.l3.length d3, .slice b4 U.l4.length d4, .slice b5 U.l5.length d5, .slice b6 U.l6.length d6, .slice b7 U.l7.length d7] rfl rfl 46 _ Kb.out (by rw [Try.infoLs]; rfl) rfl one8 ?_
      have hlx := HXb.out
      have LX : Hid (Below X.heap.size X (g27.setRow kb #[.slice b0 U.l0.length d0, .slice b1 U.l1.length d1, .slice b2 U.l2.length d2, .slice b3 U.l3.length d3, .slice b4 U.l4.length d4, .slice b5 U.l5.length d5, .slice b6 U.l6.length d6, .slice b7 U.l7.length d7])) := below_setRow LX.out hlx _
      have Kb : Hid (Blk (g27.setRow kb #[.slice b0 U.l0.length d0, .slice b1 U.l1.length d1, .slice b2 U.l2.length d2, .slice b3 U.l3.length d3, .slice b4 U.l4.length d4, .slice b5 U.l5.length d5, .slice b6 U.l6.length d6, .slice b7 U.l7.length d7]) kb #[.slice b0 U.l0.length d0, .slice b1 U.l1.length d1, .slice b2 U.l2.length d2, .slice b3 U.l3.length d3, .slice b4 U.l4.length d4, .slice b5 U.l5.length d5, .slice b6 U.l6.length d6, .slice b7 U.l7.length d7] 46) := setRow_heap _ _ _ _ _ _ Kb.out
      have Ka : Hid (Blk (g27.setRow kb #[.slice b0 U.l0.length d0, .slice b1 U.l1.length d1, .slice b2 U.l2.length d2, .slice b3 U.l3.length d3, .slice b4 U.l4.length d4, .slice b5 U.l5.length d5, .slice b6 U.l6.length d6, .slice b7 U.l7.length d7]) ka #[.slice a0 V.l0.length c0, .slice a1 V.l1.length c1, .slice a2 V.l2.length c2, .slice a3 V.l3.length c3, .slice a4 V.l4.length c4, .slice a5 V.l5.length c5, .slice a6 V.l6.length c6, .slice a7 V.l7.length c7] 46) := (setRow_other _ _ _ _ (by have := NEQ.out; omega)).trans Ka.out
      have K0 : Hid (Blk (g27.setRow kb #[.slice b0 U.l0.length d0, .slice b1 U.l1.length d1, .slice b2 U.l2.length d2, .slice b3 U.l3.length d3, .slice b4 U.l4.length d4, .slice b5 U.l5.length d5, .slice b6 U.l6.length d6, .slice b7 U.l7.length d7]) w.heap.size #[.slice a0 V.l0.length c0, .slice a1 V.l1.length c1, .slice a2 V.l2.length c2, .slice a3 V.l3.length c3, .slice a4 V.l4.length c4, .slice a5 V.l5.length c5, .slice a6 V.l6.length c6, .slice a7 V.l7.length c7, .bool V.sp, .bool V.kl] 27) := (setRow_other _ _ _ _ (by have := ltX; omega)).trans K0.out
      have K1 : Hid (Blk (g27.setRow kb #[.slice b0 U.l0.length d0, .slice b1 U.l1.length d1, .slice b2 U.l2.length d2, .slice b3 U.l3.length d3, .slice b4 U.l4.length d4, .slice b5 U.l5.length d5, .slice b6 U.l6.length d6, .slice b7 U.l7.length d7]) (w.heap.size + 1) #[.slice b0 U.l0.length d0, .slice b1 U.l1.length d1, .slice b2 U.l2.length d2, .slice b3 U.l3.length d3, .slice b4 U.l4.length d4, .slice b5 U.l5.length d5, .slice b6 U.l6.length d6, .slice b7 U.l7.length d7, .bool U.sp, .bool U.kl] 27) := (setRow_other _ _ _ _ (by have := ltX; omega)).trans K1.out
      refine hK.out _ _ ?_ (fun hHeld => ?_)
      · exact ⟨K0.out, K1.out⟩
      clear hK K
      try simp only [List.foldl, Act.put, List.setIfInBounds_toArray, List.set_cons_zero, List.set_cons_succ]
      generalize hGe : (g27.setRow kb #[.slice b0 U.l0.length d0, .slice b1 U.l1.length d1, .slice b2 U.l2.length d2, .slice b3 U.l3.length d3, .slice b4 U.l4.length d4, .slice b5 U.l5.length d5, .slice b6 U.l6.length d6, .slice b7 U.l7.length d7]) = g28 at Ka Kb hHeld LX K0 K1 ⊢
      clear hGe hlx
      refine wpAnyH_done (by kernel_rfl) ?_ _
      go_wp2_with fail
      go_meet
      exact ⟨ka, kb, rfl, rfl, Ka.out, Kb.out, HXa.out, HXb.out, NEQ.out, LX.out⟩
    refine AllReadyH.cons rfl (fun K hK => ?_) ?_
    · skip
      go_simp
      have hg : Below X.heap.size X (X.alloc (.cells #[.slice none 0 0, .slice none 0 0, .slice none 0 0, .slice none 0 0, .slice none 0 0, .slice none 0 0, .slice none 0 0, .slice none 0 0] 46)).drew := bl_drew (bl_alloc (Below.refl _ _) _)
      have Ka : Hid (Blk (X.alloc (.cells #[.slice none 0 0, .slice none 0 0, .slice none 0 0, .slice none 0 0, .slice none 0 0, .slice none 0 0, .slice none 0 0, .slice none 0 0] 46)).drew X.heap.size #[.slice none 0 0, .slice none 0 0, .slice none 0 0, .slice none 0 0, .slice none 0 0, .slice none 0 0, .slice none 0 0, .slice none 0 0] 46) := Blk.new _ _ _
      have hxs : X.heap.size ≤ X.heap.size := LX.out.size
      have LX : Hid (Below X.heap.size X (X.alloc (.cells #[.slice none 0 0, .slice none 0 0, .slice none 0 0, .slice none 0 0, .slice none 0 0, .slice none 0 0, .slice none 0 0, .slice none 0 0] 46)).drew) := bl_trans LX.out hg
      have K0 : Hid (Blk (X.alloc (.cells #[.slice none 0 0, .slice none 0 0, .slice none 0 0, .slice none 0 0, .slice none 0 0, .slice none 0 0, .slice none 0 0, .slice none 0 0] 46)).drew w.heap.size #[.slice a0 V.l0.length c0, .slice a1 V.l1.length c1, .slice a2 V.l2.length c2, .slice a3 V.l3.length c3, .slice a4 V.l4.length c4, .slice a5 V.l5.length c5, .slice a6 V.l6.length c6, .slice a7 V.l7.length c7, .bool V.sp, .bool V.kl] 27) := K0.out.later hg
      have K1 : Hid (Blk (X.alloc (.cells #[.slice none 0 0, .slice none 0 0, .slice none 0 0, .slice none 0 0, .slice none 0 0, .slice none 0 0, .slice none 0 0, .slice none 0 0] 46)).drew (w.heap.size + 1) #[.slice b0 U.l0.length d0, .slice b1 U.l1.length d1, .slice b2 U.l2.length d2, .slice b3 U.l3.length d3, .slice b4 U.l4.length d4, .slice b5 U.l5.length d5, .slice b6 U.l6.length d6, .slice b7 U.l7.length d7, .bool U.sp, .bool U.kl] 27) := K1.out.later hg
      clear hg
      refine hK.out _ _ ?_ (fun hHeld => ?_)
      · exact ⟨K0.out, K1.out⟩
      clear hK K
      try simp only [List.foldl, Act.put, List.setIfInBounds_toArray, List.set_cons_zero, List.set_cons_succ]
      generalize hGe : (X.alloc (.cells #[.slice none 0 0, .slice none 0 0, .slice none 0 0, .slice none 0 0, .slice none 0 0, .slice none 0 0, .slice none 0 0, .slice none 0 0] 46)).drew = g29 at Ka hHeld LX K0 K1 ⊢
      obtain ⟨ka, hka⟩ : ∃ k, X.heap.size = k := ⟨_, rfl⟩
      have HXa : Hid (X.heap.size ≤ ka) := Nat.le_trans hxs (Nat.le_of_eq hka)
      clear hxs
      rw [hka] at Ka
      try rw [hka]
      clear hGe hka
      refine wpAnyH_ready (rs := [1, 5]) (by kernel_rfl) (by simp) ?_
      refine AllReadyH.cons rfl (fun K hK => ?_) ?_
      · skip
        go_simp
        refine (listsOf_any a0 a1 a2 a3 a4 a5 a6 a7 c0 c1 c2 c3 c4 c5 c6 c7 V _).mono ?_
        rintro z g30 ⟨rfl, hb⟩
        have hc : Below g29.heap.size g29 g30 := hb
        have LX : Hid (Below X.heap.size X g30) := bl_trans LX.out hc
        have K0 : Hid (Blk g30 w.heap.size #[.slice a0 V.l0.length c0, .slice a1 V.l1.length c1, .slice a2 V.l2.length c2, .slice a3 V.l3.length c3, .slice a4 V.l4.length c4, .slice a5 V.l5.length c5, .slice a6 V.l6.length c6, .slice a7 V.l7.length c7, .bool V.sp, .bool V.kl] 27) := K0.out.later hc
        have K1 : Hid (Blk g30 (w.heap.size + 1) #[.slice b0 U.l0.length d0, .slice b1 U.l1.length d1, .slice b2 U.l2.length d2, .slice b3 U.l3.length d3, .slice b4 U.l4.length d4, .slice b5 U.l5.length d5, .slice b6 U.l6.length d6, .slice b7 U.l7.length d7, .bool U.sp, .bool U.kl] 27) := K1.out.later hc
        have Ka : Hid (Blk g30 ka #[.slice none 0 0, .slice none 0 0, .slice none 0 0, .slice none 0 0, .slice none 0 0, .slice none 0 0, .slice none 0 0, .slice none 0 0] 46) := Ka.out.later hc
        clear hb hc
        refine hK.out _ _ ?_ (fun hHeld => ?_)
        · exact ⟨K0.out, K1.out⟩
        clear hK K
        try simp only [List.foldl, Act.put, List.setIfInBounds_toArray, List.set_cons_zero, List.set_cons_succ]
        refine wpAnyH_ready (rs := [3, 5]) (by kernel_rfl) (by simp) ?_
        refine AllReadyH.cons rfl (fun K hK => ?_) ?_
        · skip
          go_simp
          refine (listsOf_any b0 b1 b2 b3 b4 b5 b6 b7 d0 d1 d2 d3 d4 d5 d6 d7 U _).mono ?_
          rintro z g31 ⟨rfl, hb⟩
          have hc : Below g30.heap.size g30 g31 := hb
          have LX : Hid (Below X.heap.size X g31) := bl_trans LX.out hc
          have K0 : Hid (Blk g31 w.heap.size #[.slice a0 V.l0.length c0, .slice a1 V.l1.length c1, .slice a2 V.l2.length c2, .slice a3 V.l3.length c3, .slice a4 V.l4.length c4, .slice a5 V.l5.length c5, .slice a6 V.l6.length c6, .slice a7 V.l7.length c7, .bool V.sp, .bool V.kl] 27) := K0.out.later hc
          have K1 : Hid (Blk g31 (w.heap.size + 1) #[.slice b0 U.l0.length d0, .slice b1 U.l1.length d1, .slice b2 U.l2.length d2, .slice b3 U.l3.length d3, .slice b4 U.l4.length d4, .slice b5 U.l5.length d5, .slice b6 U.l6.length d6, .slice b7 U.l7.length d7, .bool U.sp, .bool U.kl] 27) := K1.out.later hc
          have Ka : Hid (Blk g31 ka #[.slice none 0 0, .slice none 0 0, .slice none 0 0, .slice none 0 0, .slice none 0 0, .slice none 0 0, .slice none 0 0, .slice none 0 0] 46) := Ka.out.later hc
          clear hb hc
          refine hK.out _ _ ?_ (fun hHeld => ?_)
          · exact ⟨K0.out, K1.out⟩
          clear hK K
          try simp only [List.foldl, Act.put, List.setIfInBounds_toArray, List.set_cons_zero, List.set_cons_succ]
          refine wpAnyH_ready (rs := [5]) (by kernel_rfl) (by simp) ?_
          refine AllReadyH.cons rfl (fun K hK => ?_) AllReadyH.nil
          go_simp
          have hg : Below g31.heap.size g31 (g31.alloc (.cells #[.slice none 0 0, .slice none 0 0, .slice none 0 0, .slice none 0 0, .slice none 0 0, .slice none 0 0, .slice none 0 0, .slice none 0 0] 46)) := bl_alloc (Below.refl _ _) _
          have Kb : Hid (Blk (g31.alloc (.cells #[.slice none 0 0, .slice none 0 0, .slice none 0 0, .slice none 0 0, .slice none 0 0, .slice none 0 0, .slice none 0 0, .slice none 0 0] 46)) g31.heap.size #[.slice none 0 0, .slice none 0 0, .slice none 0 0, .slice none 0 0, .slice none 0 0, .slice none 0 0, .slice none 0 0, .slice none 0 0] 46) := Blk.new _ _ _
          have hxs : X.heap.size ≤ g31.heap.size := LX.out.size
          have NE : Hid (¬ ka = g31.heap.size) := by have := Ka.out.lt; show ¬ _; omega
          have LX : Hid (Below X.heap.size X (g31.alloc (.cells #[.slice none 0 0, .slice none 0 0, .slice none 0 0, .slice none 0 0, .slice none 0 0, .slice none 0 0, .slice none 0 0, .slice none 0 0] 46))) := bl_trans LX.out hg
          have K0 : Hid (Blk (g31.alloc (.cells #[.slice none 0 0, .slice none 0 0, .slice none 0 0, .slice none 0 0, .slice none 0 0, .slice none 0 0, .slice none 0 0, .slice none 0 0] 46)) w.heap.size #[.slice a0 V.l0.length c0, .slice a1 V.l1.length c1, .slice a2 V.l2.length c2, .slice a3 V.l3.length c3, .slice a4 V.l4.length c4, .slice a5 V.l5.length c5, .slice a6 V.l6.length c6, .slice a7 V.l7.length c7, .bool V.sp, .bool V.kl] 27) := K0.out.later hg
          have K1 : Hid (Blk (g31.alloc (.cells #[.slice none 0 0, .slice none 0 0, .slice none 0 0, .slice none 0 0, .slice none 0 0, .slice none 0 0, .slice none 0 0, .slice none 0 0] 46)) (w.heap.size + 1) #[.slice b0 U.l0.length d0, .slice b1 U.l1.length d1, .slice b2 U.l2.length d2, .slice b3 U.l3.length d3, .slice b4 U.l4.length d4, .slice b5 U.l5.length d5, .slice b6 U.l6.length d6, .slice b7 U.l7.length d7, .bool U.sp, .bool U.kl] 27) := K1.out.later hg
          have Ka : Hid (Blk (g31.alloc (.cells #[.slice none 0 0, .slice none 0 0, .slice none 0 0, .slice none 0 0, .slice none 0 0, .slice none 0 0, .slice none 0 0, .slice none 0 0] 46)) ka #[.slice none 0 0, .slice none 0 0, .slice none 0 0, .slice none 0 0, .slice none 0 0, .slice none 0 0, .slice none 0 0, .slice none 0 0] 46) := Ka.out.later hg
          clear hg
          refine hK.out _ _ ?_ (fun hHeld => ?_)
          · exact ⟨K0.out, K1.out⟩
          clear hK K
          try simp only [List.foldl, Act.put, List.setIfInBounds_toArray, List.set_cons_zero, List.set_cons_succ]
          generalize hGe : (g31.alloc (.cells #[.slice none 0 0, .slice none 0 0, .slice none 0 0, .slice none 0 0, .slice none 0 0, .slice none 0 0, .slice none 0 0, .slice none 0 0] 46)) = g32 at Kb hHeld LX K0 K1 Ka ⊢
          obtain ⟨kb, hkb⟩ : ∃ k, g31.heap.size = k := ⟨_, rfl⟩
          have HXb : Hid (X.heap.size ≤ kb) := Nat.le_trans hxs (Nat.le_of_eq hkb)
          clear hxs
          rw [hkb] at Kb NE
          try rw [hkb]
          clear hGe hkb
          have NEQ : Hid (¬ ka = kb) := by first | exact NE.out | exact fun e => NE.out e.symm
          refine wpAnyH_ready (rs := [6]) (by kernel_rfl) (by simp) ?_
          refine AllReadyH.cons rfl (fun K hK => ?_) AllReadyH.nil
          refine wp_store_row 46 (.tmp 5) (.tmp 10) rfl ka #[.slice a0 V.l0.length c0, .slice a1 V.l1.length c1, .slice a2 V.l2.length c2, .slice a3 V.l3.length c3, .slice a4 V.l4.length c4, .slice a5 V.l5.length c5, .slice a6 V.l6.length c6, .slice a7 V.l7.length c7] rfl rfl 46 _ Ka.out (by rw [Try.infoLs]; rfl) rfl one8 ?_
          have hlx := HXa.out
          have LX : Hid (Below X.heap.size X (g32.setRow ka #[.slice a0 V.l0.length c0, .slice a1 V.l1.length c1, .slice a2 V.l2.length c2, .slice a3 V.l3.length c3, .slice a4 V.l4.length c4, .slice a5 V.l5.length c5, .slice a6 V.l6.length c6, .slice a7 V.l7.length c7])) := below_setRow LX.out hlx _
          have Ka : Hid (Blk (g32.setRow ka #[.slice a0 V.l0.length c0, .slice a1 V.l1.length c1, .slice a2 V.l2.length c2, .slice a3 V.l3.length c3, .slice a4 V.l4.length c4, .slice a5 V.l5.length c5, .slice a6 V.l6.length c6, .slice a7 V.l7.length c7]) ka #[.slice a0 V.l0.length c0, .slice a1 V.l1.length c1, .slice a2 V.l2.length c2, .slice a3 V.l3.length c3, .slice a4 V.l4.length c4, .slice a5 V.l5.length c5, .slice a6 V.l6.length c6, .slice a7 V.l7.length c7] 46) := setRow_heap _ _ _ _ _ _ Ka.out
          have Kb : Hid (Blk (g32.setRow ka #[.slice a0 V.l0.length c0, .slice a1 V.l1.length c1, .slice a2 V.l2.length c2, .slice a3 V.l3.length c3, .slice a4 V.l4.length c4, .slice a5 V.l5.length c5, .slice a6 V.l6.length c6, .slice a7 V.l7.length c7]) kb #[.slice none 0 0, .slice none 0 0, .slice none 0 0, .slice none 0 0, .slice none 0 0, .slice none 0 0, .slice none 0 0, .slice none 0 0] 46) := (setRow_other _ _ _ _ (by have := NEQ.out; omega)).trans Kb.out
          have K0 : Hid (Blk (g32.setRow ka #[.slice a0 V.l0.length c0, .slice a1 V.l1.length c1, .slice a2 V.l2.length c2, .slice a3 V.l3.length c3, .slice a4 V.l4.length c4, .slice a5 V.l5.length c5, .slice a6 V.l6.length c6, .slice a7 V.l7.length c7]) w.heap.size #[.slice a0 V.l0.length c0, .slice a1 V.l1.length c1, .slice a2 V.l2.length c2, .slice a3 V.l3.length c3, .slice a4 V.l4.length c4, .slice a5 V.l5.length c5, .slice a6 V.l6.length c6, .slice a7 V.l7.length c7, .bool V.sp, .bool V.kl] 27) := (setRow_other _ _ _ _ (by have := ltX; omega)).trans K0.out
          have K1 : Hid (Blk (g32.setRow ka #[.slice a0 V.l0.length c0, .slice a1 V.l1.length c1, .slice a2 V.l2.length c2, .slice a3 V.l3.length c3, .slice a4 V.l4.length c4, .slice a5 V.l5.length c5, .slice a6 V.l6.length c6, .slice a7 V.l7.length c7]) (w.heap.size + 1) #[.slice b0 U.l0.length d0, .slice b1 U.l1.length d1, .slice b2 U.l2.length d2, .slice b3 U.l3.length d3, .slice b4 U.l4.length d4, .slice b5 U.l5.length d5, .slice b6 U.l6.length d6, .slice b7 U.l7.length d7, .bool U.sp, .bool U.kl] 27) := (setRow_other _ _ _ _ (by have := ltX; omega)).trans K1.out
          refine hK.out _ _ ?_ (fun hHeld => ?_)
          · exact ⟨K0.out, K1.out⟩
          clear hK K
          try simp only [List.foldl, Act.put, List.setIfInBounds_toArray, List.set_cons_zero, List.set_cons_succ]
          generalize hGe : (g32.setRow ka #[.slice a0 V.l0.length c0, .slice a1 V.l1.length c1, .slice a2 V.l2.length c2, .slice a3 V.l3.length c3, .slice a4 V.l4.length c4, .slice a5 V.l5.length c5, .slice a6 V.l6.length c6, .slice a7 V.l7.length c7]) = g33 at Ka Kb hHeld LX K0 K1 ⊢
          clear hGe hlx
          refine wpAnyH_ready (rs := [7]) (by kernel_rfl) (by simp) ?_
          refine AllReadyH.cons rfl (fun K hK => ?_) AllReadyH.nil
          refine wp_store_row 46 (.tmp 6) (.tmp 12) rfl kb #[.slice b0 U.l0.length d0, .slice b1 U.l1.length d1, .slice b2 U.l2.length d2, .slice b3 U.l3.length d3, .slice b4 U.l4.length d4, .slice b5 U.l5.length d5, .slice b6 U.l6.length d6, .slice b7 U.l7.length d7] rfl rfl 46 _ Kb.out (by rw [Try.infoLs]; rfl) rfl one8 ?_
          have hlx := HXb.out
          have LX : Hid (Below X.heap.size X (g33.setRow kb #[.slice b0 U.l0.length d0, .slice b1 U.l1.length d1, .slice b2 U.l2.length d2, .slice b3 U.l3.length d3, .slice b4 U.l4.length d4, .slice b5 U.l5.length d5, .slice b6 U.l6.length d6, .slice b7 U.l7.length d7])) := below_setRow LX.out hlx _
          have Kb : Hid (Blk (g33.setRow kb #[.slice b0 U.l0.length d0, .slice b1 U.l1.length d1, .slice b2 U.l2.length d2, .slice b3 U.l3.length d3, .slice b4 U.l4.length d4, .slice b5 U.l5.length d5, .slice b6 U.l6.length d6, .slice b7 U.l7.length d7]) kb #[.slice b0 U.l0.length d0, .slice b1 U.l1.length d1, .slice b2 U.l2.length d2, .slice b3 U.l3.length d3, .slice b4 U.l4.length d4, .slice b5 U.l5.length d5, .slice b6 U.l6.length d6, .slice b7 U.l7.length d7] 46) := setRow_heap _ _ _ _ _ _ Kb.out
          have Ka : Hid (Blk (g33.setRow kb #[.slice b0 U.l0.length d0, .slice b1 U.l1.length d1, .slice b2 U.l2.length d2, .slice b3 U.l3.length d3, .slice b4 U.l4.length d4, .slice b5 U.l5.length d5, .slice b6 U.l6.length d6, .slice b7 U.l7.length d7]) ka #[.slice a0 V.l0.length c0, .slice a1 V.l1.length c1, .slice a2 V.l2.length c2, .slice a3 V.l3.length c3, .slice a4 V.l4.length c4, .slice a5 V.l5.length c5, .slice a6 V.l6.length c6, .slice a7 V.l7.length c7] 46) := (setRow_other _ _ _ _ (by have := NEQ.out; omega)).trans Ka.out
          have K0 : Hid (Blk (g33.setRow kb #[.slice b0 U.l0.length d0, .slice b1 U.l1.length d1, .slice b2 U.l2.length d2, .slice b3 U.l3.length d3, .slice b4 U.l4.length d4, .slice b5 U.l5.length d5, .slice b6 U.l6.length d6, .slice b7 U.l7.length d7]) w.heap.size #[.slice a0 V.l0.length c0, .slice a1 V.l1.length c1, .slice a2 V.l2.length c2, .slice a3 V.l3.length c3, .slice a4 V.l4.length c4, .slice a5 V.l5.length c5, .slice a6 V.l6.length c6, .slice a7 V.l7.length c7, .bool V.sp, .bool V.kl] 27) := (setRow_other _ _ _ _ (by have := ltX; omega)).trans K0.out
          have K1 : Hid (Blk (g33.setRow kb #[.slice b0 U.l0.length d0, .slice b1 U.l1.length d1, .slice b2 U.l2.length d2, .slice b3 U.l3.length d3, .slice b4 U.l4.length d4, .slice b5 U.l5.length d5, .slice b6 U.l6.length d6, .slice b7 U.l7.length d7]) (w.heap.size + 1) #[.slice b0 U.l0.length d0, .slice b1 U.l1.length d1, .slice b2 U.l2.length d2, .slice b3 U.l3.length d3, .slice b4 U.l4.length d4, .slice b5 U.l5.length d5, .slice b6 U.l6.length d6, .slice b7 U.l7.length d7, .bool U.sp, .bool U.kl] 27) := (setRow_other _ _ _ _ (by have := ltX; omega)).trans K1.out
          refine hK.out _ _ ?_ (fun hHeld => ?_)
          · exact ⟨K0.out, K1.out⟩
          clear hK K
          try simp only [List.foldl, Act.put, List.setIfInBounds_toArray, List.set_cons_zero, List.set_cons_succ]
          generalize hGe : (g33.setRow kb #[.slice b0 U.l0.length d0, .slice b1 U.l1.length d1, .slice b2 U.l2.length d2, .slice b3 U.l3.length d3, .slice b4 U.l4.length d4, .slice b5 U.l5.length d5, .slice b6 U.l6.length d6, .slice b7 U.l7.length d7]) = g34 at Ka Kb hHeld LX K0 K1 ⊢
          clear hGe hlx
          refine wpAnyH_done (by kernel_rfl) ?_ _
          go_wp2_with fail
          go_meet
          exact ⟨ka, kb, rfl, rfl, Ka.out, Kb.out, HXa.out, HXb.out, NEQ.out, LX.out⟩
        refine AllReadyH.cons rfl (fun K hK => ?_) AllReadyH.nil
        go_simp
        have hg : Below g30.heap.size g30 (g30.alloc (.cells #[.slice none 0 0, .slice none 0 0, .slice none 0 0, .slice none 0 0, .slice none 0 0, .slice none 0 0, .slice none 0 0, .slice none 0 0] 46)) := bl_alloc (Below.refl _ _) _
        have Kb : Hid (Blk (g30.alloc (.cells #[.slice none 0 0, .slice none 0 0, .slice none 0 0, .slice none 0 0, .slice none 0 0, .slice none 0 0, .slice none 0 0, .slice none 0 0] 46)) g30.heap.size #[.slice none 0 0, .slice none 0 0, .slice none 0 0, .slice none 0 0, .slice none 0 0, .slice none 0 0, .slice none 0 0, .slice none 0 0] 46) := Blk.new _ _ _
        have hxs : X.heap.size ≤ g30.heap.size := LX.out.size
        have NE : Hid (¬ ka = g30.heap.size) := by have := Ka.out.lt; show ¬ _; omega
        have LX : Hid (Below X.heap.size X (g30.alloc (.cells #[.slice none 0 0, .slice none 0 0, .slice none 0 0, .slice none 0 0, .slice none 0 0, .slice none 0 0, .slice none 0 0, .slice none 0 0] 46))) := bl_trans LX.out hg
        have K0 : Hid (Blk (g30.alloc (.cells #[.slice none 0 0, .slice none 0 0, .slice none 0 0, .slice none 0 0, .slice none 0 0, .slice none 0 0, .slice none 0 0, .slice none 0 0] 46)) w.heap.size #[.slice a0 V.l0.length c0, .slice a1 V.l1.length c1, .slice a2 V.l2.length c2, .slice a3 V.l3.length c3, .slice a4 V.l4.length c4, .slice a5 V.l5.length c5, .slice a6 V.l6.length c6, .slice a7 V.l7.length c7, .bool V.sp, .bool V.kl] 27) := K0.out.later hg
        have K1 : Hid (Blk (g30.alloc (.cells #[.slice none 0 0, .slice none 0 0, .slice none 0 0, .slice none 0 0, .slice none 0 0, .slice none 0 0, .slice none 0 0, .slice none 0 0] 46)) (w.heap.size + 1) #[.slice b0 U.l0.length d0, .slice b1 U.l1.length d1, .slice b2 U.l2.length d2, .slice b3 U.l3.length d3, .slice b4 U.l4.length d4, .slice b5 U.l5.length d5, .slice b6 U.l6.length d6, .slice b7 U.l7.length d7, .bool U.sp, .bool U.kl] 27) := K1.out.later hg
        have Ka : Hid (Blk (g30.alloc (.cells #[.slice none 0 0, .slice none 0 0, .slice none 0 0, .slice none 0 0, .slice none 0 0, .slice none 0 0, .slice none 0 0, .slice none 0 0] 46)) ka #[.slice none 0 0, .slice none 0 0, .slice none 0 0, .slice none 0 0, .slice none 0 0, .slice none 0 0, .slice none 0 0, .slice none 0 0] 46) := Ka.out.later hg
        clear hg
        refine hK.out _ _ ?_ (fun hHeld => ?_)
        · exact ⟨K0.out, K1.out⟩
        clear hK K
        try simp only [List.foldl, Act.put, List.setIfInBounds_toArray, List.set_cons_zero, List.set_cons_succ]
        generalize hGe : (g30.alloc (.cells #[.slice none 0 0, .slice none 0 0, .slice none 0 0, .slice none 0 0, .slice none 0 0, .slice none 0 0, .slice none 0 0, .slice none 0 0] 46)) = g35 at Kb hHeld LX K0 K1 Ka ⊢
        obtain ⟨kb, hkb⟩ : ∃ k, g30.heap.size = k := ⟨_, rfl⟩
        have HXb : Hid (X.heap.size ≤ kb) := Nat.le_trans hxs (Nat.le_of_eq hkb)
        clear hxs
        rw [hkb] at Kb NE
        try rw [hkb]
        clear hGe hkb
        refine wpAnyH_ready (rs := [3]) (by kernel_rfl) (by simp) ?_
        refine AllReadyH.cons rfl (fun K hK => ?_) AllReadyH.nil
        go_simp
        refine (listsOf_any b0 b1 b2 b3 b4 b5 b6 b7 d0 d1 d2 d3 d4 d5 d6 d7 U _).mono ?_
        rintro z g36 ⟨rfl, hb⟩
        have hc : Below g35.heap.size g35 g36 := hb
        have LX : Hid (Below X.heap.size X g36) := bl_trans LX.out hc
        have K0 : Hid (Blk g36 w.heap.size #[.slice a0 V.l0.length c0, .slice a1 V.l1.length c1, .slice a2 V.l2.length c2, .slice a3 V.l3.length c3, .slice a4 V.l4.length c4, .slice a5 V.l5.length c5, .slice a6 V.l6.length c6, .slice a7 V.l7.length c7, .bool V.sp, .bool V.kl] 27) := K0.out.later hc
        have K1 : Hid (Blk g36 (w.heap.size + 1) #[.slice b0 U.l0.length d0, .slice b1 U.l1.length d1, .slice b2 U.l2.length d2, .slice b3 U.l3.length d3, .slice b4 U.l4.length d4, .slice b5 U.l5.length d5, .slice b6 U.l6.length d6, .slice b7 U.l7.length d7, .bool U.sp, .bool U.kl] 27) := K1.out.later hc
        have Ka : Hid (Blk g36 ka #[.slice none 0 0, .slice none 0 0, .slice none 0 0, .slice none 0 0, .slice none 0 0, .slice none 0 0, .slice none 0 0, .slice none 0 0] 46) := Ka.out.later hc
        have Kb : Hid (Blk g36 kb #[.slice none 0 0, .slice none 0 0, .slice none 0 0, .slice none 0 0, .slice none 0 0, .slice none 0 0, .slice none 0 0, .slice none 0 0] 46) := Kb.out.later hc
        clear hb hc
        refine hK.out _ _ ?_ (fun hHeld => ?_)
        · exact ⟨K0.out, K1.out⟩
        clear hK K
        try simp only [List.foldl, Act.put, List.setIfInBounds_toArray, List.set_cons_zero, List.set_cons_succ]
        have NEQ : Hid (¬ ka = kb) := by first | exact NE.out | exact fun e => NE.out e.symm
        refine wpAnyH_ready (rs := [6]) (by kernel_rfl) (by simp) ?_
        refine AllReadyH.cons rfl (fun K hK => ?_) AllReadyH.nil
        refine wp_store_row 46 (.tmp 5) (.tmp 10) rfl ka #[.slice a0 V.l0.length c0, .slice a1 V.l1.length c1, .slice a2 V.l2.length c2, .slice a3 V.l3.length c3, .slice a4 V.l4.length c4, .slice a5 V.l5.length c5, .slice a6 V.l6.length c6, .slice a7 V.l7.length c7] rfl rfl 46 _ Ka.out (by rw [Try.infoLs]; rfl) rfl one8 ?_
        have hlx := HXa.out
        have LX : Hid (Below X.heap.size X (g36.setRow ka #[.slice a0 V.l0.length c0, .slice a1 V.l1.length c1, .slice a2 V.l2.length c2, .slice a3 V.l3.length c3, .slice a4 V.l4.length c4, .slice a5 V.l5.length c5, .slice a6 V.l6.length c6, .slice a7 V.l7.length c7])) := below_setRow LX.out hlx _
        have Ka : Hid (Blk (g36.setRow ka #[.slice a0 V.l0.length c0, .slice a1 V.l1.length c1, .slice a2 V.l2.length c2, .slice a3 V.l3.length c3, .slice a4 V.l4.length c4, .slice a5 V.l5.length c5, .slice a6 V.l6.length c6, .slice a7 V.l7.length c7]) ka #[.slice a0 V.l0.length c0, .slice a1 V.l1.length c1, .slice a2 V.l2.length c2, .slice a3 V.l3.length c3, .slice a4 V.l4.length c4, .slice a5 V.l5.length c5, .slice a6 V.l6.length c6, .slice a7 V.l7.length c7] 46) := setRow_heap _ _ _ _ _ _ Ka.out
        have Kb : Hid (Blk (g36.setRow ka #[.slice a0 V.l0.length c0, .slice a1 V.l1.length c1, .slice a2 V.l2.length c2, .slice a3 V.l3.length c3, .slice a4 V.l4.length c4, .slice a5 V.l5.length c5, .slice a6 V.l6.length c6, .slice a7 V.l7.length c7]) kb #[.slice none 0 0, .slice none 0 0, .slice none 0 0, .slice none 0 0, .slice none 0 0, .slice none 0 0, .slice none 0 0, .slice none 0 0] 46) := (setRow_other _ _ _ _ (by have := NEQ.out; omega)).trans Kb.out
        have K0 : Hid (Blk (g36.setRow ka #[.slice a0 V.l0.length c0, .slice a1 V.l1.length c1, .slice a2 V.l2.length c2, .slice a3 V.l3.length c3, .slice a4 V.l4.length c4, .slice a5 V.l5.length c5, .slice a6 V.l6.length c6, .slice a7 V.l7.length c7]) w.heap.size #[.slice a0 V.l0.length c0, .slice a1 V.l1.length c1, .slice a2 V.l2.length c2, .slice a3 V.l3.length c3, .slice a4 V.l4.length c4, .slice a5 V.l5.length c5, .slice a6 V.l6.length c6, .slice a7 V.l7.length c7, .bool V.sp, .bool V.kl] 27) := (setRow_other _ _ _ _ (by have := ltX; omega)).trans K0.out
        have K1 : Hid (Blk (g36.setRow ka #[.slice a0 V.l0.length c0, .slice a1 V.l1.length c1, .slice a2 V.l2.length c2, .slice a3 V.l3.length c3, .slice a4 V.l4.length c4, .slice a5 V.l5.length c5, .slice a6 V.l6.length c6, .slice a7 V.l7.length c7]) (w.heap.size + 1) #[.slice b0 U.l0.length d0, .slice b1 U.l1.length d1, .slice b2 U.l2.length d2, .slice b3 U.l3.length d3, .slice b4 U.l4.length d4, .slice b5 U.l5.length d5, .slice b6 U.l6.length d6, .slice b7 U.l7.length d7, .bool U.sp, .bool U.kl] 27) := (setRow_other _ _ _ _ (by have := ltX; omega)).trans K1.out
        refine hK.out _ _ ?_ (fun hHeld => ?_)
        · exact ⟨K0.out, K1.out⟩
        clear hK K
        try simp only [List.foldl, Act.put, List.setIfInBounds_toArray, List.set_cons_zero, List.set_cons_succ]
        generalize hGe : (g36.setRow ka #[.slice a0 V.l0.length c0, .slice a1 V.l1.length c1, .slice a2 V.l2.length c2, .slice a3 V.l3.length c3, .slice a4 V.l4.length c4, .slice a5 V.l5.length c5, .slice a6 V.l6.length c6, .slice a7 V.l7.length c7]) = g37 at Ka Kb hHeld LX K0 K1 ⊢
        clear hGe hlx
        refine wpAnyH_ready (rs := [7]) (by kernel_rfl) (by simp) ?_
        refine AllReadyH.cons rfl (fun K hK => ?_) AllReadyH.nil
        refine wp_store_row 46 (.tmp 6) (.tmp 12) rfl kb #[.slice b0 U.l0.length d0, .slice b1 U.l1.length d1, .slice b2 U.l2.length d2, .slice b3 U.l3.length d3, .slice b4 U.l4.length d4, .slice b5 U.l5.length d5, .slice b6 U.l6.length d6, .slice b7 U.l7.length d7] rfl rfl 46 _ Kb.out (by rw [Try.infoLs]; rfl) rfl one8 ?_
        have hlx := HXb.out
        have LX : Hid (Below X.heap.size X (g37.setRow kb #[.slice b0 U.l0.length d0, .slice b1 U.l1.length d1, .slice b2 U.l2.length d2, .slice b3 U.l3.length d3, .slice b4 U.l4.length d4, .slice b5 U.l5.length d5, .slice b6 U.l6.length d6, .slice b7 U.l7.length d7])) := below_setRow LX.out hlx _
        have Kb : Hid (Blk (g37.setRow kb #[.slice b0 U.l0.length d0, .slice b1 U.l1.length d1, .slice b2 U.l2.length d2, .slice b3 U.l3.length d3, .slice b4 U.l4.length d4, .slice b5 U.l5.length d5, .slice b6 U.l6.length d6, .slice b7 U.l7.length d7]) kb #[.slice b0 U.l0.length d0, .slice b1 U.l1.length d1, .slice b2 U.l2.length d2, .slice b3 U.l3.length d3, .slice b4 U.l4.length d4, .slice b5 U.l5.length d5, .slice b6 U.l6.length d6, .slice b7 U.l7.length d7] 46) := setRow_heap _ _ _ _ _ _ Kb.out
        have Ka : Hid (Blk (g37.setRow kb #[.slice b0 U.l0.length d0, .slice b1 U.l1.length d1, .slice b2 U.l2.length d2, .slice b3 U.l3.length d3, .slice b4 U.l4.length d4, .slice b5 U.l5.length d5, .slice b6 U.l6.length d6, .slice b7 U.l7.length d7]) ka #[.slice a0 V.l0.length c0, .slice a1 V.l1.length c1, .slice a2 V.l2.length c2, .slice a3 V.l3.length c3, .slice a4 V.l4.length c4, .slice a5 V.l5.length c5, .slice a6 V.l6.length c6, .slice a7 V.l7.length c7] 46) := (setRow_other _ _ _ _ (by have := NEQ.out; omega)).trans Ka.out
        have K0 : Hid (Blk (g37.setRow kb #[.slice b0 U.l0.length d0, .slice b1 U.l1.length d1, .slice b2 U.l2.length d2, .slice b3 U.l3.length d3, .slice b4 U.l4.length d4, .slice b5 U.l5.length d5, .slice b6 U.l6.length d6, .slice b7 U.l7.length d7]) w.heap.size #[.slice a0 V.l0.length c0, .slice a1 V.l1.length c1, .slice a2 V.l2.length c2, .slice a3 V.l3.length c3, .slice a4 V.l4.length c4, .slice a5 V.l5.length c5, .slice a6 V.l6.length c6, .slice a7 V.l7.length c7, .bool V.sp, .bool V.kl] 27) := (setRow_other _ _ _ _ (by have := ltX; omega)).trans K0.out
        have K1 : Hid (Blk (g37.setRow kb #[.slice b0 U.l0.length d0, .slice b1 U.l1.length d1, .slice b2 U.l2.length d2, .slice b3 U.l3.length d3, .slice b4 U.l4.length d4, .slice b5 U.l5.length d5, .slice b6 U.l6.length d6, .slice b7 U.l7.length d7]) (w.heap.size + 1) #[.slice b0 U.l0.length d0, .slice b1 U.l1.length d1, .slice b2 U.l2.length d2, .slice b3 U.l3.length d3, .slice b4 U.l4.length d4, .slice b5 U.l5.length d5, .slice b6 U.l6.length d6, .slice b7 U.l7.length d7, .bool U.sp, .bool U.kl] 27) := (setRow_other _ _ _ _ (by have := ltX; omega)).trans K1.out
        refine hK.out _ _ ?_ (fun hHeld => ?_)
        · exact ⟨K0.out, K1.out⟩
        clear hK K
        try simp only [List.foldl, Act.put, List.setIfInBounds_toArray, List.set_cons_zero, List.set_cons_succ]
        generalize hGe : (g37.setRow kb #[.slice b0 U.l0.length d0, .slice b1 U.l1.length d1, .slice b2 U.l2.length d2, .slice b3 U.l3.length d3, .slice b4 U.l4.length d4, .slice b5 U.l5.length d5, .slice b6 U.l6.length d6, .slice b7 U.l7.length d7]) = g38 at Ka Kb hHeld LX K0 K1 ⊢
        clear hGe hlx
        refine wpAnyH_done (by kernel_rfl) ?_ _
        go_wp2_with fail
        go_meet
        exact ⟨ka, kb, rfl, rfl, Ka.out, Kb.out, HXa.out, HXb.out, NEQ.out, LX.out⟩
      refine AllReadyH.cons rfl (fun K hK => ?_) AllReadyH.nil
      go_simp
      have hg : Below g29.heap.size g29 (g29.alloc (.cells #[.slice none 0 0, .slice none 0 0, .slice none 0 0, .slice none 0 0, .slice none 0 0, .slice none 0 0, .slice none 0 0, .slice none 0 0] 46)) := bl_alloc (Below.refl _ _) _
      have Kb : Hid (Blk (g29.alloc (.cells #[.slice none 0 0, .slice none 0 0, .slice none 0 0, .slice none 0 0, .slice none 0 0, .slice none 0 0, .slice none 0 0, .slice none 0 0] 46)) g29.heap.size #[.slice none 0 0, .slice none 0 0, .slice none 0 0, .slice none 0 0, .slice none 0 0, .slice none 0 0, .slice none 0 0, .slice none 0 0] 46) := Blk.new _ _ _
      have hxs : X.heap.size ≤ g29.heap.size := LX.out.size
      have NE : Hid (¬ ka = g29.heap.size) := by have := Ka.out.lt; show ¬ _; omega
      have LX : Hid (Below X.heap.size X (g29.alloc (.cells #[.slice none 0 0, .slice none 0 0, .slice none 0 0, .slice none 0 0, .slice none 0 0, .slice none 0 0, .slice none 0 0, .slice none 0 0] 46))) := bl_trans LX.out hg
      have K0 : Hid (Blk (g29.alloc (.cells #[.slice none 0 0, .slice none 0 0, .slice none 0 0, .slice none 0 0, .slice none 0 0, .slice none 0 0, .slice none 0 0, .slice none 0 0] 46)) w.heap.size #[.slice a0 V.l0.length c0, .slice a1 V.l1.length c1, .slice a2 V.l2.length c2, .slice a3 V.l3.length c3, .slice a4 V.l4.length c4, .slice a5 V.l5.length c5, .slice a6 V.l6.length c6, .slice a7 V.l7.length c7, .bool V.sp, .bool V.kl] 27) := K0.out.later hg
      have K1 : Hid (Blk (g29.alloc (.cells #[.slice none 0 0, .slice none 0 0, .slice none 0 0, .slice none 0 0, .slice none 0 0, .slice none 0 0, .slice none 0 0, .slice none 0 0] 46)) (w.heap.size + 1) #[.slice b0 U.l0.length d0, .slice b1 U.l1.length d1, .slice b2 U.l2.length d2, .slice b3 U.l3.length d3, .slice b4 U.l4.length d4, .slice b5 U.l5.length d5, .slice b6 U.l6.length d6, .slice b7 U.l7.length d7, .bool U.sp, .bool U.kl] 27) := K1.out.later hg
      have Ka : Hid (Blk (g29.alloc (.cells #[.slice none 0 0, .slice none 0 0, .slice none 0 0, .slice none 0 0, .slice none 0 0, .slice none 0 0, .slice none 0 0, .slice none 0 0] 46)) ka #[.slice none 0 0, .slice none 0 0, .slice none 0 0, .slice none 0 0, .slice none 0 0, .slice none 0 0, .slice none 0 0, .slice none 0 0] 46) := Ka.out.later hg
      clear hg
      refine hK.out _ _ ?_ (fun hHeld => ?_)
      · exact ⟨K0.out, K1.out⟩
      clear hK K
      try simp only [List.foldl, Act.put, List.setIfInBounds_toArray, List.set_cons_zero, List.set_cons_succ]
      generalize hGe : (g29.alloc (.cells #[.slice none 0 0, .slice none 0 0, .slice none 0 0, .slice none 0 0, .slice none 0 0, .slice none 0 0, .slice none 0 0, .slice none 0 0] 46)) = g39 at Kb hHeld LX K0 K1 Ka ⊢
      obtain ⟨kb, hkb⟩ : ∃ k, g29.heap.size = k := ⟨_, rfl⟩
      have HXb : Hid (X.heap.size ≤ kb) := Nat.le_trans hxs (Nat.le_of_eq hkb)
      clear hxs
      rw [hkb] at Kb NE
      try rw [hkb]
      clear hGe hkb
      refine wpAnyH_ready (rs := [1]) (by kernel_rfl) (by simp) ?_
      refine AllReadyH.cons rfl (fun K hK => ?_) AllReadyH.nil
      go_simp
      refine (listsOf_any a0 a1 a2 a3 a4 a5 a6 a7 c0 c1 c2 c3 c4 c5 c6 c7 V _).mono ?_
      rintro z g40 ⟨rfl, hb⟩
      have hc : Below g39.heap.size g39 g40 := hb
      have LX : Hid (Below X.heap.size X g40) := bl_trans LX.out hc
      have K0 : Hid (Blk g40 w.heap.size #[.slice a0 V.l0.length c0, .slice a1 V.l1.length c1, .slice a2 V.l2.length c2, .slice a3 V.l3.length c3, .slice a4 V.l4.length c4, .slice a5 V.l5.length c5, .slice a6 V.l6.length c6, .slice a7 V.l7.length c7, .bool V.sp, .bool V.kl] 27) := K0.out.later hc
      have K1 : Hid (Blk g40 (w.heap.size + 1) #[.slice b0 U.l0.length d0, .slice b1 U.l1.length d1, .slice b2 U.l2.length d2, .slice b3 U.l3.length d3, .slice b4 U.l4.length d4, .slice b5 U.l5.length d5, .slice b6 U.l6.length d6, .slice b7 U.l7.length d7, .bool U.sp, .bool U.kl] 27) := K1.out.later hc
      have Ka : Hid (Blk g40 ka #[.slice none 0 0, .slice none 0 0, .slice none 0 0, .slice none 0 0, .slice none 0 0, .slice none 0 0, .slice none 0 0, .slice none 0 0] 46) := Ka.out.later hc
      have Kb : Hid (Blk g40 kb #[.slice none 0 0, .slice none 0 0, .slice none 0 0, .slice none 0 0, .slice none 0 0, .slice none 0 0, .slice none 0 0, .slice none 0 0] 46) := Kb.out.later hc
      clear hb hc
      refine hK.out _ _ ?_ (fun hHeld => ?_)
      · exact ⟨K0.out, K1.out⟩
      clear hK K
      try simp only [List.foldl, Act.put, List.setIfInBounds_toArray, List.set_cons_zero, List.set_cons_succ]
      refine wpAnyH_ready (rs := [3]) (by kernel_rfl) (by simp) ?_
      refine AllReadyH.cons rfl (fun K hK => ?_) AllReadyH.nil
      go_simp
      refine (listsOf_any b0 b1 b2 b3 b4 b5 b6 b7 d0 d1 d2 d3 d4 d5 d6 d7 U _).mono ?_
      rintro z g41 ⟨rfl, hb⟩
      have hc : Below g40.heap.size g40 g41 := hb
      have LX : Hid (Below X.heap.size X g41) := bl_trans LX.out hc
      have K0 : Hid (Blk g41 w.heap.size #[.slice a0 V.l0.length c0, .slice a1 V.l1.length c1, .slice a2 V.l2.length c2, .slice a3 V.l3.length c3, .slice a4 V.l4.length c4, .slice a5 V.l5.length c5, .slice a6 V.l6.length c6, .slice a7 V.l7.length c7, .bool V.sp, .bool V.kl] 27) := K0.out.later hc
      have K1 : Hid (Blk g41 (w.heap.size + 1) #[.slice b0 U.l0.length d0, .slice b1 U.l1.length d1, .slice b2 U.l2.length d2, .slice b3 U.l3.length d3, .slice b4 U.l4.length d4, .slice b5 U.l5.length d5, .slice b6 U.l6.length d6, .slice b7 U.l7.length d7, .bool U.sp, .bool U.kl] 27) := K1.out.later hc
      have Ka : Hid (Blk g41 ka #[.slice none 0 0, .slice none 0 0, .slice none 0 0, .slice none 0 0, .slice none 0 0, .slice none 0 0, .slice none 0 0, .slice none 0 0] 46) := Ka.out.later hc
      have Kb : Hid (Blk g41 kb #[.slice none 0 0, .slice none 0 0, .slice none 0 0, .slice none 0 0, .slice none 0 0, .slice none 0 0, .slice none 0 0, .slice none 0 0] 46) := Kb.out.later hc
      clear hb hc
      refine hK.out _ _ ?_ (fun hHeld => ?_)
      · exact ⟨K0.out, K1.out⟩
      clear hK K
      try simp only [List.foldl, Act.put, List.setIfInBounds_toArray, List.set_cons_zero, List.set_cons_succ]
      have NEQ : Hid (¬ ka = kb) := by first | exact NE.out | exact fun e => NE.out e.symm
      refine wpAnyH_ready (rs := [6]) (by kernel_rfl) (by simp) ?_
      refine AllReadyH.cons rfl (fun K hK => ?_) AllReadyH.nil
      refine wp_store_row 46 (.tmp 5) (.tmp 10) rfl ka #[.slice a0 V.l0.length c0, .slice a1 V.l1.length c1, .slice a2 V.l2.length c2, .slice a3 V.l3.length c3, .slice a4 V.l4.length c4, .slice a5 V.l5.length c5, .slice a6 V.l6.length c6, .slice a7 V.l7.length c7] rfl rfl 46 _ Ka.out (by rw [Try.infoLs]; rfl) rfl one8 ?_
      have hlx := HXa.out
      have LX : Hid (Below X.heap.size X (g41.setRow ka #[.slice a0 V.l0.length c0, .slice a1 V.l1.length c1, .slice a2 V.l2.length c2, .slice a3 V.l3.length c3, .slice a4 V.l4.length c4, .slice a5 V.l5.length c5, .slice a6 V.l6.length c6, .slice a7 V.l7.length c7])) := below_setRow LX.out hlx _
      have Ka : Hid (Blk (g41.setRow ka #[.slice a0 V.l0.length c0, .slice a1 V.l1.length c1, .slice a2 V.l2.length c2, .slice a3 V.l3.length c3, .slice a4 V.l4.length c4, .slice a5 V.l5.length c5, .slice a6 V.l6.length c6, .slice a7 V.l7.length c7]) ka #[.slice a0 V.l0.length c0, .slice a1 V.l1.length c1, .slice a2 V.l2.length c2, .slice a3 V.l3.length c3, .slice a4 V.l4.length c4, .slice a5 V.l5.length c5, .slice a6 V.l6.length c6, .slice a7 V.l7.length c7] 46) := setRow_heap _ _ _ _ _ _ Ka.out
      have Kb : Hid (Blk (g41.setRow ka #[.slice a0 V.l0.length c0, .slice a1 V.l1.length c1, .slice a2 V.l2.length c2, .slice a3 V.l3.length c3, .slice a4 V.l4.length c4, .slice a5 V.l5.length c5, .slice a6 V.l6.length c6, .slice a7 V.l7.length c7]) kb #[.slice none 0 0, .slice none 0 0, .slice none 0 0, .slice none 0 0, .slice none 0 0, .slice none 0 0, .slice none 0 0, .slice none 0 0] 46) := (setRow_other _ _ _ _ (by have := NEQ.out; omega)).trans Kb.out
      have K0 : Hid (Blk (g41.setRow ka #[.slice a0 V.l0.length c0, .slice a1 V.l1.length c1, .slice a2 V.l2.length c2, .slice a3 V.l3.length c3, .slice a4 V.l4.length c4, .slice a5 V.l5.length c5, .slice a6 V.l6.length c6, .slice a7 V.l7.length c7]) w.heap.size #[.slice a0 V.l0.length c0, .slice a1 V.l1.length c1, .slice a2 V.l2.length c2, .slice a3 V.l3.length c3, .slice a4 V.l4.length c4, .slice a5 V.l5.length c5, .slice a6 V.l6.length c6, .slice a7 V.l7.length c7, .bool V.sp, .bool V.kl] 27) := (setRow_other _ _ _ _ (by have := ltX; omega)).trans K0.out
      have K1 : Hid (Blk (g41.setRow ka #[.slice a0 V.l0.length c0, .slice a1 V.l1.length c1, .slice a2 V.l2.length c2, .slice a3 V.l3.length c3, .slice a4 V.l4.length c4, .slice a5 V.l5.length c5, .slice a6 V.l6.length c6, .slice a7 V.l7.length c7]) (w.heap.size + 1) #[.slice b0 U.l0.length d0, .slice b1 U.l1.length d1, .slice b2 U.l2.length d2, .slice b3 U.l3.length d3, .slice b4 U.l4.length d4, .slice b5 U.l5.length d5, .slice b6 U.l6.length d6, .slice b7 U.l7.length d7, .bool U.sp, .bool U.kl] 27) := (setRow_other _ _ _ _ (by have := ltX; omega)).trans K1.out
      refine hK.out _ _ ?_ (fun hHeld => ?_)
      · exact ⟨K0.out, K1.out⟩
      clear hK K
      try simp only [List.foldl, Act.put, List.setIfInBounds_toArray, List.set_cons_zero, List.set_cons_succ]
      generalize hGe : (g41.setRow ka #[.slice a0 V.l0.length c0, .slice a1 V.l1.length c1, .slice a2 V.l2.length c2, .slice a3 V.l3.length c3, .slice a4 V.l4.length c4, .slice a5 V.l5.length c5, .slice a6 V.l6.length c6, .slice a7 V.l7.length c7]) = g42 at Ka Kb hHeld LX K0 K1 ⊢
      clear hGe hlx
      refine wpAnyH_ready (rs := [7]) (by kernel_rfl) (by simp) ?_
      refine AllReadyH.cons rfl (fun K hK => ?_) AllReadyH.nil
      refine wp_store_row 46 (.tmp 6) (.tmp 12) rfl kb #[.slice b0 U.l0.length d0, .slice b1 U.l1.length d1, .slice b2 U.l2.length d2, .slice b3 U.l3.length d3, .slice b4 U.l4.length d4, .slice b5 U.l5.length d5, .slice b6 U.l6.length d6, .slice b7 U.l7.length d7] rfl rfl 46 _ Kb.out (by rw [Try.infoLs]; rfl) rfl one8 ?_
      have hlx := HXb.out
      have LX : Hid (Below X.heap.size X (g42.setRow kb #[.slice b0 U.l0.length d0, .slice b1 U.l1.length d1, .slice b2 U.l2.length d2, .slice b3 U.l3.length d3, .slice b4 U.l4.length d4, .slice b5 U.l5.length d5, .slice b6 U.l6.length d6, .slice b7 U.l7.length d7])) := below_setRow LX.out hlx _
      have Kb : Hid (Blk (g42.setRow kb #[.slice b0 U.l0.length d0, .slice b1 U.l1.length d1, .slice b2 U.l2.length d2, .slice b3 U.l3.length d3, .slice b4 U.l4.length d4, .slice b5 U.l5.length d5, .slice b6 U.l6.length d6, .slice b7 U.l7.length d7]) kb #[.slice b0 U.l0.length d0, .slice b1 U.l1.length d1, .slice b2 U.l2.length d2, .slice b3 U.l3.length d3, .slice b4 U.l4.length d4, .slice b5 U.l5.length d5, .slice b6 U.l6.length d6, .slice b7 U.l7.length d7] 46) := setRow_heap _ _ _ _ _ _ Kb.out
      have Ka : Hid (Blk (g42.setRow kb #[.slice b0 U.l0.length d0, .slice b1 U.l1.length d1, .slice b2 U.l2.length d2, .slice b3 U.l3.length d3, .slice b4 U.l4.length d4, .slice b5 U.l5.length d5, .slice b6 U.l6.length d6, .slice b7 U.l7.length d7]) ka #[.slice a0 V.l0.length c0, .slice a1 V.l1.length c1, .slice a2 V.l2.length c2, .slice a3 V.l3.length c3, .slice a4 V.l4.length c4, .slice a5 V.l5.length c5, .slice a6 V.l6.length c6, .slice a7 V.l7.length c7] 46) := (setRow_other _ _ _ _ (by have := NEQ.out; omega)).trans Ka.out
      have K0 : Hid (Blk (g42.setRow kb #[.slice b0 U.l0.length d0, .slice b1 U.l1.length d1, .slice b2 U.l2.length d2, .slice b3 U.l3.length d3, .slice b4 U.l4.length d4, .slice b5 U.l5.length d5, .slice b6 U.l6.length d6, .slice b7 U.l7.length d7]) w.heap.size #[.slice a0 V.l0.length c0, .slice a1 V.l1.length c1, .slice a2 V.l2.length c2, .slice a3 V.l3.length c3, .slice a4 V.l4.length c4, .slice a5 V.l5.length c5, .slice a6 V.l6.length c6, .slice a7 V.l7.length c7, .bool V.sp, .bool V.kl] 27) := (setRow_other _ _ _ _ (by have := ltX; omega)).trans K0.out
      have K1 : Hid (Blk (g42.setRow kb #[.slice b0 U.l0.length d0, .slice b1 U.l1.length d1, .slice b2 U.l2.length d2, .slice b3 U.l3.length d3, .slice b4 U.l4.length d4, .slice b5 U.l5.length d5, .slice b6 U.l6.length d6, .slice b7 U.l7.length d7]) (w.heap.size + 1) #[.slice b0 U.l0.length d0, .slice b1 U.l1.length d1, .slice b2 U.l2.length d2, .slice b3 U.l3.length d3, .slice b4 U.l4.length d4, .slice b5 U.l5.length d5, .slice b6 U.l6.length d6, .slice b7 U.l7.length d7, .bool U.sp, .bool U.kl] 27) := (setRow_other _ _ _ _ (by have := ltX; omega)).trans K1.out
      refine hK.out _ _ ?_ (fun hHeld => ?_)
      · exact ⟨K0.out, K1.out⟩
      clear hK K
      try simp only [List.foldl, Act.put, List.setIfInBounds_toArray, List.set_cons_zero, List.set_cons_succ]
      generalize hGe : (g42.setRow kb #[.slice b0 U.l0.length d0, .slice b1 U.l1.length d1, .slice b2 U.l2.length d2, .slice b3 U.l3.length d3, .slice b4 U.l4.length d4, .slice b5 U.l5.length d5, .slice b6 U.l6.length d6, .slice b7 U.l7.length d7]) = g43 at Ka Kb hHeld LX K0 K1 ⊢
      clear hGe hlx
      refine wpAnyH_done (by kernel_rfl) ?_ _
      go_wp2_with fail
      go_meet
      exact ⟨ka, kb, rfl, rfl, Ka.out, Kb.out, HXa.out, HXb.out, NEQ.out, LX.out⟩
    refine AllReadyH.cons rfl (fun K hK => ?_) AllReadyH.nil
    go_simp
    have hg : Below X.heap.size X (X.alloc (.cells #[.slice none 0 0, .slice none 0 0, .slice none 0 0, .slice none 0 0, .slice none 0 0, .slice none 0 0, .slice none 0 0, .slice none 0 0] 46)).drew := bl_drew (bl_alloc (Below.refl _ _) _)
    have Kb : Hid (Blk (X.alloc (.cells #[.slice none 0 0, .slice none 0 0, .slice none 0 0, .slice none 0 0, .slice none 0 0, .slice none 0 0, .slice none 0 0, .slice none 0 0] 46)).drew X.heap.size #[.slice none 0 0, .slice none 0 0, .slice none 0 0, .slice none 0 0, .slice none 0 0, .slice none 0 0, .slice none 0 0, .slice none 0 0] 46) := Blk.new _ _ _
    have hxs : X.heap.size ≤ X.heap.size := LX.out.size
    have LX : Hid (Below X.heap.size X (X.alloc (.cells #[.slice none 0 0, .slice none 0 0, .slice none 0 0, .slice none 0 0, .slice none 0 0, .slice none 0 0, .slice none 0 0, .slice none 0 0] 46)).drew) := bl_trans LX.out hg
    have K0 : Hid (Blk (X.alloc (.cells #[.slice none 0 0, .slice none 0 0, .slice none 0 0, .slice none 0 0, .slice none 0 0, .slice none 0 0, .slice none 0 0, .slice none 0 0] 46)).drew w.heap.size #[.slice a0 V.l0.length c0, .slice a1 V.l1.length c1, .slice a2 V.l2.length c2, .slice a3 V.l3.length c3, .slice a4 V.l4.length c4, .slice a5 V.l5.length c5, .slice a6 V.l6.length c6, .slice a7 V.l7.length c7, .bool V.sp, .bool V.kl] 27) := K0.out.later hg
    have K1 : Hid (Blk (X.alloc (.cells #[.slice none 0 0, .slice none 0 0, .slice none 0 0, .slice none 0 0, .slice none 0 0, .slice none 0 0, .slice none 0 0, .slice none 0 0] 46)).drew (w.heap.size + 1) #[.slice b0 U.l0.length d0, .slice b1 U.l1.length d1, .slice b2 U.l2.length d2, .slice b3 U.l3.length d3, .slice b4 U.l4.length d4, .slice b5 U.l5.length d5, .slice b6 U.l6.length d6, .slice b7 U.l7.length d7, .bool U.sp, .bool U.kl] 27) := K1.out.later hg
    clear hg
    refine hK.out _ _ ?_ (fun hHeld => ?_)
    · exact ⟨K0.out, K1.out⟩
    clear hK K
    try simp only [List.foldl, Act.put, List.setIfInBounds_toArray, List.set_cons_zero, List.set_cons_succ]
    generalize hGe : (X.alloc (.cells #[.slice none 0 0, .slice none 0 0, .slice none 0 0, .slice none 0 0, .slice none 0 0, .slice none 0 0, .slice none 0 0, .slice none 0 0] 46)).drew = g44 at Kb hHeld LX K0 K1 ⊢
    obtain ⟨kb, hkb⟩ : ∃ k, X.heap.size = k := ⟨_, rfl⟩
    have HXb : Hid (X.heap.size ≤ kb) := Nat.le_trans hxs (Nat.le_of_eq hkb)
    clear hxs
    rw [hkb] at Kb
    try rw [hkb]
    clear hGe hkb
    refine wpAnyH_ready (rs := [1, 4]) (by kernel_rfl) (by simp) ?_
    refine AllReadyH.cons rfl (fun K hK => ?_) ?_
    · skip
      go_simp
      refine (listsOf_any a0 a1 a2 a3 a4 a5 a6 a7 c0 c1 c2 c3 c4 c5 c6 c7 V _).mono ?_
      rintro z g45 ⟨rfl, hb⟩
      have hc : Below g44.heap.size g44 g45 := hb
      have LX : Hid (Below X.heap.size X g45) := bl_trans LX.out hc
      have K0 : Hid (Blk g45 w.heap.size #[.slice a0 V.l0.length c0, .slice a1 V.l1.length c1, .slice a2 V.l2.length c2, .slice a3 V.l3.length c3, .slice a4 V.l4.length c4, .slice a5 V.l5.length c5, .slice a6 V.l6.length c6, .slice a7 V.l7.length c7, .bool V.sp, .bool V.kl] 27) := K0.out.later hc
      have K1 : Hid (Blk g45 (w.heap.size + 1) #[.slice b0 U.l0.length d0, .slice b1 U.l1.length d1, .slice b2 U.l2.length d2, .slice b3 U.l3.length d3, .slice b4 U.l4.length d4, .slice b5 U.l5.length d5, .slice b6 U.l6.length d6, .slice b7 U.l7.length d7, .bool U.sp, .bool U.kl] 27) := K1.out.later hc
      have Kb : Hid (Blk g45 kb #[.slice none 0 0, .slice none 0 0, .slice none 0 0, .slice none 0 0, .slice none 0 0, .slice none 0 0, .slice none 0 0, .slice none 0 0] 46) := Kb.out.later hc
      clear hb hc
      refine hK.out _ _ ?_ (fun hHeld => ?_)
      · exact ⟨K0.out, K1.out⟩
      clear hK K
      try simp only [List.foldl, Act.put, List.setIfInBounds_toArray, List.set_cons_zero, List.set_cons_succ]
      refine wpAnyH_ready (rs := [3, 4]) (by kernel_rfl) (by simp) ?_
      refine AllReadyH.cons rfl (fun K hK => ?_) ?_
      · skip
        go_simp
        refine (listsOf_any b0 b1 b2 b3 b4 b5 b6 b7 d0 d1 d2 d3 d4 d5 d6 d7 U _).mono ?_
        rintro z g46 ⟨rfl, hb⟩
        have hc : Below g45.heap.size g45 g46 := hb
        have LX : Hid (Below X.heap.size X g46) := bl_trans LX.out hc
        have K0 : Hid (Blk g46 w.heap.size #[.slice a0 V.l0.length c0, .slice a1 V.l1.length c1, .slice a2 V.l2.length c2, .slice a3 V.l3.length c3, .slice a4 V.l4.length c4, .slice a5 V.l5.length c5, .slice a6 V.l6.length c6, .slice a7 V.l7.length c7, .bool V.sp, .bool V.kl] 27) := K0.out.later hc
        have K1 : Hid (Blk g46 (w.heap.size + 1) #[.slice b0 U.l0.length d0, .slice b1 U.l1.length d1, .slice b2 U.l2.length d2, .slice b3 U.l3.length d3, .slice b4 U.l4.length d4, .slice b5 U.l5.length d5, .slice b6 U.l6.length d6, .slice b7 U.l7.length d7, .bool U.sp, .bool U.kl] 27) := K1.out.later hc
        have Kb : Hid (Blk g46 kb #[.slice none 0 0, .slice none 0 0, .slice none 0 0, .slice none 0 0, .slice none 0 0, .slice none 0 0, .slice none 0 0, .slice none 0 0] 46) := Kb.out.later hc
        clear hb hc
        refine hK.out _ _ ?_ (fun hHeld => ?_)
        · exact ⟨K0.out, K1.out⟩
        clear hK K
        try simp only [List.foldl, Act.put, List.setIfInBounds_toArray, List.set_cons_zero, List.set_cons_succ]
        refine wpAnyH_ready (rs := [4]) (by kernel_rfl) (by simp) ?_
        refine AllReadyH.cons rfl (fun K hK => ?_) AllReadyH.nil
        go_simp
        have hg : Below g46.heap.size g46 (g46.alloc (.cells #[.slice none 0 0, .slice none 0 0, .slice none 0 0, .slice none 0 0, .slice none 0 0, .slice none 0 0, .slice none 0 0, .slice none 0 0] 46)) := bl_alloc (Below.refl _ _) _
        have Ka : Hid (Blk (g46.alloc (.cells #[.slice none 0 0, .slice none 0 0, .slice none 0 0, .slice none 0 0, .slice none 0 0, .slice none 0 0, .slice none 0 0, .slice none 0 0] 46)) g46.heap.size #[.slice none 0 0, .slice none 0 0, .slice none 0 0, .slice none 0 0, .slice none 0 0, .slice none 0 0, .slice none 0 0, .slice none 0 0] 46) := Blk.new _ _ _
        have hxs : X.heap.size ≤ g46.heap.size := LX.out.size
        have NE : Hid (¬ kb = g46.heap.size) := by have := Kb.out.lt; show ¬ _; omega
        have LX : Hid (Below X.heap.size X (g46.alloc (.cells #[.slice none 0 0, .slice none 0 0, .slice none 0 0, .slice none 0 0, .slice none 0 0, .slice none 0 0, .slice none 0 0, .slice none 0 0] 46))) := bl_trans LX.out hg
        have K0 : Hid (Blk (g46.alloc (.cells #[.slice none 0 0, .slice none 0 0, .slice none 0 0, .slice none 0 0, .slice none 0 0, .slice none 0 0, .slice none 0 0, .slice none 0 0] 46)) w.heap.size #[.slice a0 V.l0.length c0, .slice a1 V.l1.length c1, .slice a2 V.l2.length c2, .slice a3 V.l3.length c3, .slice a4 V.l4.length c4, .slice a5 V.l5.length c5, .slice a6 V.l6.length c6, .slice a7 V.l7.length c7, .bool V.sp, .bool V.kl] 27) := K0.out.later hg
        have K1 : Hid (Blk (g46.alloc (.cells #[.slice none 0 0, .slice none 0 0, .slice none 0 0, .slice none 0 0, .slice none 0 0, .slice none 0 0, .slice none 0 0, .slice none 0 0] 46)) (w.heap.size + 1) #[.slice b0 U.l0.length d0, .slice b1 U.l1.length d1, .slice b2 U.l2.length d2, .slice b3 U.l3.length d3, .slice b4 U.l4.length d4, .slice b5 U.l5.length d5, .slice b6 U.l6.length d6, .slice b7 U.l7.length d7, .bool U.sp, .bool U.kl] 27) := K1.out.later hg
        have Kb : Hid (Blk (g46.alloc (.cells #[.slice none 0 0, .slice none 0 0, .slice none 0 0, .slice none 0 0, .slice none 0 0, .slice none 0 0, .slice none 0 0, .slice none 0 0] 46)) kb #[.slice none 0 0, .slice none 0 0, .slice none 0 0, .slice none 0 0, .slice none 0 0, .slice none 0 0, .slice none 0 0, .slice none 0 0] 46) := Kb.out.later hg
        clear hg
        refine hK.out _ _ ?_ (fun hHeld => ?_)
        · exact ⟨K0.out, K1.out⟩
        clear hK K
        try simp only [List.foldl, Act.put, List.setIfInBounds_toArray, List.set_cons_zero, List.set_cons_succ]
        generalize hGe : (g46.alloc (.cells #[.slice none 0 0, .slice none 0 0, .slice none 0 0, .slice none 0 0, .slice none 0 0, .slice none 0 0, .slice none 0 0, .slice none 0 0] 46)) = g47 at Ka hHeld LX K0 K1 Kb ⊢
        obtain ⟨ka, hka⟩ : ∃ k, g46.heap.size = k := ⟨_, rfl⟩
        have HXa : Hid (X.heap.size ≤ ka) := Nat.le_trans hxs (Nat.le_of_eq hka)
        clear hxs
        rw [hka] at Ka NE
        try rw [hka]
        clear hGe hka
        have NEQ : Hid (¬ ka = kb) := by first | exact NE.out | exact fun e => NE.out e.symm
        refine wpAnyH_ready (rs := [6]) (by kernel_rfl) (by simp) ?_
        refine AllReadyH.cons rfl (fun K hK => ?_) AllReadyH.nil
        refine wp_store_row 46 (.tmp 5) (.tmp 10) rfl ka #[.slice a0 V.l0.length c0, .slice a1 V.l1.length c1, .slice a2 V.l2.length c2, .slice a3 V.l3.length c3, .slice a4 V.l4.length c4, .slice a5 V.l5.length c5, .slice a6 V.l6.length c6, .slice a7 V.l7.length c7] rfl rfl 46 _ Ka.out (by rw [Try.infoLs]; rfl) rfl one8 ?_
        have hlx := HXa.out
        have LX : Hid (Below X.heap.size X (g47.setRow ka #[.slice a0 V.l0.length c0, .slice a1 V.l1.length c1, .slice a2 V.l2.length c2, .slice a3 V.l3.length c3, .slice a4 V.l4.length c4, .slice a5 V.l5.length c5, .slice a6 V.l6.length c6, .slice a7 V.l7.length c7])) := below_setRow LX.out hlx _
        have Ka : Hid (Blk (g47.setRow ka #[.slice a0 V.l0.length c0, .slice a1 V.l1.length c1, .slice a2 V.l2.length c2, .slice a3 V.l3.length c3, .slice a4 V.l4.length c4, .slice a5 V.l5.length c5, .slice a6 V.l6.length c6, .slice a7 V.l7.length c7]) ka #[.slice a0 V.l0.length c0, .slice a1 V.l1.length c1, .slice a2 V.l2.length c2, .slice a3 V.l3.length c3, .slice a4 V.l4.length c4, .slice a5 V.l5.length c5, .slice a6 V.l6.length c6, .slice a7 V.l7.length c7] 46) := setRow_heap _ _ _ _ _ _ Ka.out
        have Kb : Hid (Blk (g47.setRow ka #[.slice a0 V.l0.length c0, .slice a1 V.l1.length c1, .slice a2 V.l2.length c2, .slice a3 V.l3.length c3, .slice a4 V.l4.length c4, .slice a5 V.l5.length c5, .slice a6 V.l6.length c6, .slice a7 V.l7.length c7]) kb #[.slice none 0 0, .slice none 0 0, .slice none 0 0, .slice none 0 0, .slice none 0 0, .slice none 0 0, .slice none 0 0, .slice none 0 0] 46) := (setRow_other _ _ _ _ (by have := NEQ.out; omega)).trans Kb.out
        have K0 : Hid (Blk (g47.setRow ka #[.slice a0 V.l0.length c0, .slice a1 V.l1.length c1, .slice a2 V.l2.length c2, .slice a3 V.l3.length c3, .slice a4 V.l4.length c4, .slice a5 V.l5.length c5, .slice a6 V.l6.length c6, .slice a7 V.l7.length c7]) w.heap.size #[.slice a0 V.l0.length c0, .slice a1 V.l1.length c1, .slice a2 V.l2.length c2, .slice a3 V.l3.length c3, .slice a4 V.l4.length c4, .slice a5 V.l5.length c5, .slice a6 V.l6.length c6, .slice a7 V.l7.length c7, .bool V.sp, .bool V.kl] 27) := (setRow_other _ _ _ _ (by have := ltX; omega)).trans K0.out
        have K1 : Hid (Blk (g47.setRow ka #[.slice a0 V.l0.length c0, .slice a1 V.l1.length c1, .slice a2 V.l2.length c2, .slice a3 V.l3.length c3, .slice a4 V.l4.length c4, .slice a5 V.l5.length c5, .slice a6 V.l6.length c6, .slice a7 V.l7.length c7]) (w.heap.size + 1) #[.slice b0 U.l0.length d0, .slice b1 U.l1.length d1, .slice b2 U.l2.length d2, .slice b3 U.l3.length d3, .slice b4 U.l4.length d4, .slice b5 U.l5.length d5, .slice b6 U.l6.length d6, .slice b7 U.l7.length d7, .bool U.sp, .bool U.kl] 27) := (setRow_other _ _ _ _ (by have := ltX; omega)).trans K1.out
        refine hK.out _ _ ?_ (fun hHeld => ?_)
        · exact ⟨K0.out, K1.out⟩
        clear hK K
        try simp only [List.foldl, Act.put, List.setIfInBounds_toArray, List.set_cons_zero, List.set_cons_succ]
        generalize hGe : (g47.setRow ka #[.slice a0 V.l0.length c0, .slice a1 V.l1.length c1, .slice a2 V.l2.length c2, .slice a3 V.l3.length c3, .slice a4 V.l4.length c4, .slice a5 V.l5.length c5, .slice a6 V.l6.length c6, .slice a7 V.l7.length c7]) = g48 at Ka Kb hHeld LX K0 K1 ⊢
        clear hGe hlx
        refine wpAnyH_ready (rs := [7]) (by kernel_rfl) (by simp) ?_
        refine AllReadyH.cons rfl (fun K hK => ?_) AllReadyH.nil
        refine wp_store_row 46 (.tmp 6) (.tmp 12) rfl kb #[.slice b0 U.l0.length d0, .slice b1 U.l1.length d1, .slice b2 U.l2.length d2, .slice b3 U.l3.length d3, .slice b4 U.l4.length d4, .slice b5 U.l5.length d5, .slice b6 U.l6.length d6, .slice b7 U.l7.length d7] rfl rfl 46 _ Kb.out (by rw [Try.infoLs]; rfl) rfl one8 ?_
        have hlx := HXb.out
        have LX : Hid (Below X.heap.size X (g48.setRow kb #[.slice b0 U.l0.length d0, .slice b1 U.l1.length d1, .slice b2 U.l2.length d2, .slice b3 U.l3.length d3, .slice b4 U.l4.length d4, .slice b5 U.l5.length d5, .slice b6 U.l6.length d6, .slice b7 U.l7.length d7])) := below_setRow LX.out hlx _
        have Kb : Hid (Blk (g48.setRow kb #[.slice b0 U.l0.length d0, .slice b1 U.l1.length d1, .slice b2 U.l2.length d2, .slice b3 U.l3.length d3, .slice b4 U.l4.length d4, .slice b5 U.l5.length d5, .slice b6 U.l6.length d6, .slice b7 U.l7.length d7]) kb #[.slice b0 U.l0.length d0, .slice b1 U.l1.length d1, .slice b2 U.l2.length d2, .slice b3 U.l3.length d3, .slice b4 U.l4.length d4, .slice b5 U.l5.length d5, .slice b6 U.l6.length d6, .slice b7 U.l7.length d7] 46) := setRow_heap _ _ _ _ _ _ Kb.out
        have Ka : Hid (Blk (g48.setRow kb #[.slice b0 U.l0.length d0, .slice b1 U.l1.length d1, .slice b2 U.l2.length d2, .slice b3 U.l3.length d3, .slice b4 U.l4.length d4, .slice b5 U.l5.length d5, .slice b6 U.l6.length d6, .slice b7 U.l7.length d7]) ka #[.slice a0 V.l0.length c0, .slice a1 V.l1.length c1, .slice a2 V.l2.length c2, .slice a3 V.l3.length c3, .slice a4 V.l4.length c4, .slice a5 V.l5.length c5, .slice a6 V.l6.length c6, .slice a7 V.l7.length c7] 46) := (setRow_other _ _ _ _ (by have := NEQ.out; omega)).trans Ka.out
        have K0 : Hid (Blk (g48.setRow kb #[.slice b0 U.l0.length d0, .slice b1 U.l1.length d1, .slice b2 U.l2.length d2, .slice b3 U.l3.length d3, .slice b4 U.l4.length d4, .slice b5 U.l5.length d5, .slice b6 U.l6.length d6, .slice b7 U.l7.length d7]) w.heap.size #[.slice a0 V.l0.length c0, .slice a1 V.l1.length c1, .slice a2 V.l2.length c2, .slice a3 V.l3.length c3, .slice a4 V.l4.length c4, .slice a5 V.l5.length c5, .slice a6 V.l6.length c6, .slice a7 V.l7.length c7, .bool V.sp, .bool V.kl] 27) := (setRow_other _ _ _ _ (by have := ltX; omega)).trans K0.out
        have K1 : Hid (Blk (g48.setRow kb #[.slice b0 U.l0.length d0, .slice b1 U.l1.length d1, .slice b2 U.l2.length d2, .slice b3 U.l3.length d3, .slice b4 U.l4.length d4, .slice b5 U.l5.length d5, .slice b6 U.l6.length d6, .slice b7 U.l7.length d7]) (w.heap.size + 1) #[.slice b0 U.l0.length d0, .slice b1 U.l1.length d1, .slice b2 U.l2.length d2, .slice b3 U.l3.length d3, .slice b4 U.l4.length d4, .slice b5 U.l5.length d5, .slice b6 U.l6.length d6, .slice b7 U.l7.length d7, .bool U.sp, .bool U.kl] 27) := (setRow_other _ _ _ _ (by have := ltX; omega)).trans K1.out
        refine hK.out _ _ ?_ (fun hHeld => ?_)
        · exact ⟨K0.out, K1.out⟩
        clear hK K
        try simp only [List.foldl, Act.put, List.setIfInBounds_toArray, List.set_cons_zero, List.set_cons_succ]
        generalize hGe : (g48.setRow kb #[.slice b0 U.l0.length d0, .slice b1 U.l1.length d1, .slice b2 U.l2.length d2, .slice b3 U.l3.length d3, .slice b4 U.l4.length d4, .slice b5 U.l5.length d5, .slice b6 U.l6.length d6, .slice b7 U.l7.length d7]) = g49 at Ka Kb hHeld LX K0 K1 ⊢
        clear hGe hlx
        refine wpAnyH_done (by kernel_rfl) ?_ _
        go_wp2_with fail
        go_meet
        exact ⟨ka, kb, rfl, rfl, Ka.out, Kb.out, HXa.out, HXb.out, NEQ.out, LX.out⟩
      refine AllReadyH.cons rfl (fun K hK => ?_) AllReadyH.nil
      go_simp
      have hg : Below g45.heap.size g45 (g45.alloc (.cells #[.slice none 0 0, .slice none 0 0, .slice none 0 0, .slice none 0 0, .slice none 0 0, .slice none 0 0, .slice none 0 0, .slice none 0 0] 46)) := bl_alloc (Below.refl _ _) _
      have Ka : Hid (Blk (g45.alloc (.cells #[.slice none 0 0, .slice none 0 0, .slice none 0 0, .slice none 0 0, .slice none 0 0, .slice none 0 0, .slice none 0 0, .slice none 0 0] 46)) g45.heap.size #[.slice none 0 0, .slice none 0 0, .slice none 0 0, .slice none 0 0, .slice none 0 0, .slice none 0 0, .slice none 0 0, .slice none 0 0] 46) := Blk.new _ _ _
      have hxs : X.heap.size ≤ g45.heap.size := LX.out.size
      have NE : Hid (¬ kb = g45.heap.size) := by have := Kb.out.lt; show ¬ _; omega
      have LX : Hid (Below X.heap.size X (g45.alloc (.cells #[.slice none 0 0, .slice none 0 0, .slice none 0 0, .slice none 0 0, .slice none 0 0, .slice none 0 0, .slice none 0 0, .slice none 0 0] 46))) := bl_trans LX.out hg
      have K0 : Hid (Blk (g45.alloc (.cells #[.slice none 0 0, .slice none 0 0, .slice none 0 0, .slice none 0 0, .slice none 0 0, .slice none 0 0, .slice none 0 0, .slice none 0 0] 46)) w.heap.size #[.slice a0 V.l0.length c0, .slice a1 V.l1.length c1, .slice a2 V.l2.length c2, .slice a3 V.l3.length c3, .slice a4 V.l4.length c4, .slice a5 V.l5.length c5, .slice a6 V.l6.length c6, .slice a7 V.l7.length c7, .bool V.sp, .bool V.kl] 27) := K0.out.later hg
      have K1 : Hid (Blk (g45.alloc (.cells #[.slice none 0 0, .slice none 0 0, .slice none 0 0, .slice none 0 0, .slice none 0 0, .slice none 0 0, .slice none 0 0, .slice none 0 0] 46)) (w.heap.size + 1) #[.slice b0 U.l0.length d0, .slice b1 U.l1.length d1, .slice b2 U.l2.length d2, .slice b3 U.l3.length d3, .slice b4 U.l4.length d4, .slice b5 U.l5.length d5, .slice b6 U.l6.length d6, .slice b7 U.l7.length d7, .bool U.sp, .bool U.kl] 27) := K1.out.later hg
      have Kb : Hid (Blk (g45.alloc (.cells #[.slice none 0 0, .slice none 0 0, .slice none 0 0, .slice none 0 0, .slice none 0 0, .slice none 0 0, .slice none 0 0, .slice none 0 0] 46)) kb #[.slice none 0 0, .slice none 0 0, .slice none 0 0, .slice none 0 0, .slice none 0 0, .slice none 0 0, .slice none 0 0, .slice none 0 0] 46) := Kb.out.later hg
      clear hg
      refine hK.out _ _ ?_ (fun hHeld => ?_)
      · exact ⟨K0.out, K1.out⟩
      clear hK K
      try simp only [List.foldl, Act.put, List.setIfInBounds_toArray, List.set_cons_zero, List.set_cons_succ]
      generalize hGe : (g45.alloc (.cells #[.slice none 0 0, .slice none 0 0, .slice none 0 0, .slice none 0 0, .slice none 0 0, .slice none 0 0, .slice none 0 0, .slice none 0 0] 46)) = g50 at Ka hHeld LX K0 K1 Kb ⊢
      obtain ⟨ka, hka⟩ : ∃ k, g45.heap.size = k := ⟨_, rfl⟩
      have HXa : Hid (X.heap.size ≤ ka) := Nat.le_trans hxs (Nat.le_of_eq hka)
      clear hxs
      rw [hka] at Ka NE
      try rw [hka]
      clear hGe hka
      refine wpAnyH_ready (rs := [3]) (by kernel_rfl) (by simp) ?_
      refine AllReadyH.cons rfl (fun K hK => ?_) AllReadyH.nil
      go_simp
      refine (listsOf_any b0 b1 b2 b3 b4 b5 b6 b7 d0 d1 d2 d3 d4 d5 d6 d7 U _).mono ?_
      rintro z g51 ⟨rfl, hb⟩
      have hc : Below g50.heap.size g50 g51 := hb
      have LX : Hid (Below X.heap.size X g51) := bl_trans LX.out hc
      have K0 : Hid (Blk g51 w.heap.size #[.slice a0 V.l0.length c0, .slice a1 V.l1.length c1, .slice a2 V.l2.length c2, .slice a3 V.l3.length c3, .slice a4 V.l4.length c4, .slice a5 V.l5.length c5, .slice a6 V.l6.length c6, .slice a7 V.l7.length c7, .bool V.sp, .bool V.kl] 27) := K0.out.later hc
      have K1 : Hid (Blk g51 (w.heap.size + 1) #[.slice b0 U.l0.length d0, .slice b1 U.l1.length d1, .slice b2 U.l2.length d2, .slice b3 U.l3.length d3, .slice b4 U.l4.length d4, .slice b5 U.l5.length d5, .slice b6 U.l6.length d6, .slice b7 U.l7.length d7, .bool U.sp, .bool U.kl] 27) := K1.out.later hc
      have Kb : Hid (Blk g51 kb #[.slice none 0 0, .slice none 0 0, .slice none 0 0, .slice none 0 0, .slice none 0 0, .slice none 0 0, .slice none 0 0, .slice none 0 0] 46) := Kb.out.later hc
      have Ka : Hid (Blk g51 ka #[.slice none 0 0, .slice none 0 0, .slice none 0 0, .slice none 0 0, .slice none 0 0, .slice none 0 0, .slice none 0 0, .slice none 0 0] 46) := Ka.out.later hc
      clear hb hc
      refine hK.out _ _ ?_ (fun hHeld => ?_)
      · exact ⟨K0.out, K1.out⟩
      clear hK K
      try simp only [List.foldl, Act.put, List.setIfInBounds_toArray, List.set_cons_zero, List.set_cons_succ]
      have NEQ : Hid (¬ ka = kb) := by first | exact NE.out | exact fun e => NE.out e.symm
      refine wpAnyH_ready (rs := [6]) (by kernel_rfl) (by simp) ?_
      refine AllReadyH.cons rfl (fun K hK => ?_) AllReadyH.nil
      refine wp_store_row 46 (.tmp 5) (.tmp 10) rfl ka #[.slice a0 V.l0.length c0, .slice a1 V.l1.length c1, .slice a2 V.l2.length c2, .slice a3 V.l3.length c3, .slice a4 V.l4.length c4, .slice a5 V.l5.length c5, .slice a6 V.l6.length c6, .slice a7 V.l7.length c7] rfl rfl 46 _ Ka.out (by rw [Try.infoLs]; rfl) rfl one8 ?_
      have hlx := HXa.out
      have LX : Hid (Below X.heap.size X (g51.setRow ka #[.slice a0 V.l0.length c0, .slice a1 V.l1.length c1, .slice a2 V.l2.length c2, .slice a3 V.l3.length c3, .slice a4 V.l4.length c4, .slice a5 V.l5.length c5, .slice a6 V.l6.length c6, .slice a7 V.l7.length c7])) := below_setRow LX.out hlx _
      have Ka : Hid (Blk (g51.setRow ka #[.slice a0 V.l0.length c0, .slice a1 V.l1.length c1, .slice a2 V.l2.length c2, .slice a3 V.l3.length c3, .slice a4 V.l4.length c4, .slice a5 V.l5.length c5, .slice a6 V.l6.length c6, .slice a7 V.l7.length c7]) ka #[.slice a0 V.l0.length c0, .slice a1 V.l1.length c1, .slice a2 V.l2.length c2, .slice a3 V.l3.length c3, .slice a4 V.l4.length c4, .slice a5 V.l5.length c5, .slice a6 V.l6.length c6, .slice a7 V.l7.length c7] 46) := setRow_heap _ _ _ _ _ _ Ka.out
      have Kb : Hid (Blk (g51.setRow ka #[.slice a0 V.l0.length c0, .slice a1 V.l1.length c1, .slice a2 V.l2.length c2, .slice a3 V.l3.length c3, .slice a4 V.l4.length c4, .slice a5 V.l5.length c5, .slice a6 V.l6.length c6, .slice a7 V.l7.length c7]) kb #[.slice none 0 0, .slice none 0 0, .slice none 0 0, .slice none 0 0, .slice none 0 0, .slice none 0 0, .slice none 0 0, .slice none 0 0] 46) := (setRow_other _ _ _ _ (by have := NEQ.out; omega)).trans Kb.out
      have K0 : Hid (Blk (g51.setRow ka #[.slice a0 V.l0.length c0, .slice a1 V.l1.length c1, .slice a2 V.l2.length c2, .slice a3 V.l3.length c3, .slice a4 V.l4.length c4, .slice a5 V.l5.length c5, .slice a6 V.l6.length c6, .slice a7 V.l7.length c7]) w.heap.size #[.slice a0 V.l0.length c0, .slice a1 V.l1.length c1, .slice a2 V.l2.length c2, .slice a3 V.l3.length c3, .slice a4 V.l4.length c4, .slice a5 V.l5.length c5, .slice a6 V.l6.length c6, .slice a7 V.l7.length c7, .bool V.sp, .bool V.kl] 27) := (setRow_other _ _ _ _ (by have := ltX; omega)).trans K0.out
      have K1 : Hid (Blk (g51.setRow ka #[.slice a0 V.l0.length c0, .slice a1 V.l1.length c1, .slice a2 V.l2.length c2, .slice a3 V.l3.length c3, .slice a4 V.l4.length c4, .slice a5 V.l5.length c5, .slice a6 V.l6.length c6, .slice a7 V.l7.length c7]) (w.heap.size + 1) #[.slice b0 U.l0.length d0, .slice b1 U.l1.length d1, .slice b2 U.l2.length d2, .slice b3 U.l3.length d3, .slice b4 U.l4.length d4, .slice b5 U.l5.length d5, .slice b6 U.l6.length d6, .slice b7 U.l7.length d7, .bool U.sp, .bool U.kl] 27) := (setRow_other _ _ _ _ (by have := ltX; omega)).trans K1.out
      refine hK.out _ _ ?_ (fun hHeld => ?_)
      · exact ⟨K0.out, K1.out⟩
      clear hK K
      try simp only [List.foldl, Act.put, List.setIfInBounds_toArray, List.set_cons_zero, List.set_cons_succ]
      generalize hGe : (g51.setRow ka #[.slice a0 V.l0.length c0, .slice a1 V.l1.length c1, .slice a2 V.l2.length c2, .slice a3 V.l3.length c3, .slice a4 V.l4.length c4, .slice a5 V.l5.length c5, .slice a6 V.l6.length c6, .slice a7 V.l7.length c7]) = g52 at Ka Kb hHeld LX K0 K1 ⊢
      clear hGe hlx
      refine wpAnyH_ready (rs := [7]) (by kernel_rfl) (by simp) ?_
      refine AllReadyH.cons rfl (fun K hK => ?_) AllReadyH.nil
      refine wp_store_row 46 (.tmp 6) (.tmp 12) rfl kb #[.slice b0 U.l0.length d0, .slice b1 U.l1.length d1, .slice b2 U.l2.length d2, .slice b3 U.l3.length d3, .slice b4 U.l4.length d4, .slice b5 U.l5.length d5, .slice b6 U.l6.length d6, .slice b7 U.l7.length d7] rfl rfl 46 _ Kb.out (by rw [Try.infoLs]; rfl) rfl one8 ?_
      have hlx := HXb.out
      have LX : Hid (Below X.heap.size X (g52.setRow kb #[.slice b0 U.l0.length d0, .slice b1 U.l1.length d1, .slice b2 U.l2.length d2, .slice b3 U.l3.length d3, .slice b4 U.l4.length d4, .slice b5 U.l5.length d5, .slice b6 U.l6.length d6, .slice b7 U.l7.length d7])) := below_setRow LX.out hlx _
      have Kb : Hid (Blk (g52.setRow kb #[.slice b0 U.l0.length d0, .slice b1 U.l1.length d1, .slice b2 U.l2.length d2, .slice b3 U.l3.length d3, .slice b4 U.l4.length d4, .slice b5 U.l5.length d5, .slice b6 U.l6.length d6, .slice b7 U.l7.length d7]) kb #[.slice b0 U.l0.length d0, .slice b1 U.l1.length d1, .slice b2 U.l2.length d2, .slice b3 U.l3.length d3, .slice b4 U.l4.length d4, .slice b5 U.l5.length d5, .slice b6 U.l6.length d6, .slice b7 U.l7.length d7] 46) := setRow_heap _ _ _ _ _ _ Kb.out
      have Ka : Hid (Blk (g52.setRow kb #[.slice b0 U.l0.length d0, .slice b1 U.l1.length d1, .slice b2 U.l2.length d2, .slice b3 U.l3.length d3, .slice b4 U.l4.length d4, .slice b5 U.l5.length d5, .slice b6 U.l6.length d6, .slice b7 U.l7.length d7]) ka #[.slice a0 V.l0.length c0, .slice a1 V.l1.length c1, .slice a2 V.l2.length c2, .slice a3 V.l3.length c3, .slice a4 V.l4.length c4, .slice a5 V.l5.length c5, .slice a6 V.l6.length c6, .slice a7 V.l7.length c7] 46) := (setRow_other _ _ _ _ (by have := NEQ.out; omega)).trans Ka.out
      have K0 : Hid (Blk (g52.setRow kb #[.slice b0 U.l0.length d0, .slice b1 U.l1.length d1, .slice b2 U.l2.length d2, .slice b3 U.l3.length d3, .slice b4 U.l4.length d4, .slice b5 U.l5.length d5, .slice b6 U.l6.length d6, .slice b7 U.l7.length d7]) w.heap.size #[.slice a0 V.l0.length c0, .slice a1 V.l1.length c1, .slice a2 V.l2.length c2, .slice a3 V.l3.length c3, .slice a4 V.l4.length c4, .slice a5 V.l5.length c5, .slice a6 V.l6.length c6, .slice a7 V.l7.length c7, .bool V.sp, .bool V.kl] 27) := (setRow_other _ _ _ _ (by have := ltX; omega)).trans K0.out
      have K1 : Hid (Blk (g52.setRow kb #[.slice b0 U.l0.length d0, .slice b1 U.l1.length d1, .slice b2 U.l2.length d2, .slice b3 U.l3.length d3, .slice b4 U.l4.length d4, .slice b5 U.l5.length d5, .slice b6 U.l6.length d6, .slice b7 U.l7.length d7]) (w.heap.size + 1) #[.slice b0 U.l0.length d0, .slice b1 U.l1.length d1, .slice b2 U.l2.length d2, .slice b3 U.l3.length d3, .slice b4 U.l4.length d4, .slice b5 U.l5.length d5, .slice b6 U.l6.length d6, .slice b7 U.l7.length d7, .bool U.sp, .bool U.kl] 27) := (setRow_other _ _ _ _ (by have := ltX; omega)).trans K1.out
      refine hK.out _ _ ?_ (fun hHeld => ?_)
      · exact ⟨K0.out, K1.out⟩
      clear hK K
      try simp only [List.foldl, Act.put, List.setIfInBounds_toArray, List.set_cons_zero, List.set_cons_succ]
      generalize hGe : (g52.setRow kb #[.slice b0 U.l0.length d0, .slice b1 U.l1.length d1, .slice b2 U.l2.length d2, .slice b3 U.l3.length d3, .slice b4 U.l4.length d4, .slice b5 U.l5.length d5, .slice b6 U.l6.length d6, .slice b7 U.l7.length d7]) = g53 at Ka Kb hHeld LX K0 K1 ⊢
      clear hGe hlx
      refine wpAnyH_done (by kernel_rfl) ?_ _
      go_wp2_with fail
      go_meet
      exact ⟨ka, kb, rfl, rfl, Ka.out, Kb.out, HXa.out, HXb.out, NEQ.out, LX.out⟩
    refine AllReadyH.cons rfl (fun K hK => ?_) AllReadyH.nil
    go_simp
    have hg : Below g44.heap.size g44 (g44.alloc (.cells #[.slice none 0 0, .slice none 0 0, .slice none 0 0, .slice none 0 0, .slice none 0 0, .slice none 0 0, .slice none 0 0, .slice none 0 0] 46)) := bl_alloc (Below.refl _ _) _
    have Ka : Hid (Blk (g44.alloc (.cells #[.slice none 0 0, .slice none 0 0, .slice none 0 0, .slice none 0 0, .slice none 0 0, .slice none 0 0, .slice none 0 0, .slice none 0 0] 46)) g44.heap.size #[.slice none 0 0, .slice none 0 0, .slice none 0 0, .slice none 0 0, .slice none 0 0, .slice none 0 0, .slice none 0 0, .slice none 0 0] 46) := Blk.new _ _ _
    have hxs : X.heap.size ≤ g44.heap.size := LX.out.size
    have NE : Hid (¬ kb = g44.heap.size) := by have := Kb.out.lt; show ¬ _; omega
    have LX : Hid (Below X.heap.size X (g44.alloc (.cells #[.slice none 0 0, .slice none 0 0, .slice none 0 0, .slice none 0 0, .slice none 0 0, .slice none 0 0, .slice none 0 0, .slice none 0 0] 46))) := bl_trans LX.out hg
    have K0 : Hid (Blk (g44.alloc (.cells #[.slice none 0 0, .slice none 0 0, .slice none 0 0, .slice none 0 0, .slice none 0 0, .slice none 0 0, .slice none 0 0, .slice none 0 0] 46)) w.heap.size #[.slice a0 V.l0.length c0, .slice a1 V.l1.length c1, .slice a2 V.l2.length c2, .slice a3 V.l3.length c3, .slice a4 V.l4.length c4, .slice a5 V.l5.length c5, .slice a6 V.l6.length c6, .slice a7 V.l7.length c7, .bool V.sp, .bool V.kl] 27) := K0.out.later hg
    have K1 : Hid (Blk (g44.alloc (.cells #[.slice none 0 0, .slice none 0 0, .slice none 0 0, .slice none 0 0, .slice none 0 0, .slice none 0 0, .slice none 0 0, .slice none 0 0] 46)) (w.heap.size + 1) #[.slice b0 U.l0.length d0, .slice b1 U.l1.length d1, .slice b2 U.l2.length d2, .slice b3 U.l3.length d3, .slice b4 U.l4.length d4, .slice b5 U.l5.length d5, .slice b6 U.l6.length d6, .slice b7 U.l7.length d7, .bool U.sp, .bool U.kl] 27) := K1.out.later hg
    have Kb : Hid (Blk (g44.alloc (.cells #[.slice none 0 0, .slice none 0 0, .slice none 0 0, .slice none 0 0, .slice none 0 0, .slice none 0 0, .slice none 0 0, .slice none 0 0] 46)) kb #[.slice none 0 0, .slice none 0 0, .slice none 0 0, .slice none 0 0, .slice none 0 0, .slice none 0 0, .slice none 0 0, .slice none 0 0] 46) := Kb.out.later hg
    clear hg
    refine hK.out _ _ ?_ (fun hHeld => ?_)
    · exact ⟨K0.out, K1.out⟩
    clear hK K
    try simp only [List.foldl, Act.put, List.setIfInBounds_toArray, List.set_cons_zero, List.set_cons_succ]
    generalize hGe : (g44.alloc (.cells #[.slice none 0 0, .slice none 0 0, .slice none 0 0, .slice none 0 0, .slice none 0 0, .slice none 0 0, .slice none 0 0, .slice none 0 0] 46)) = g54 at Ka hHeld LX K0 K1 Kb ⊢
    obtain ⟨ka, hka⟩ : ∃ k, g44.heap.size = k := ⟨_, rfl⟩
    have HXa : Hid (X.heap.size ≤ ka) := Nat.le_trans hxs (Nat.le_of_eq hka)
    clear hxs
    rw [hka] at Ka NE
    try rw [hka]
    clear hGe hka
    refine wpAnyH_ready (rs := [1]) (by kernel_rfl) (by simp) ?_
    refine AllReadyH.cons rfl (fun K hK => ?_) AllReadyH.nil
    go_simp
    refine (listsOf_any a0 a1 a2 a3 a4 a5 a6 a7 c0 c1 c2 c3 c4 c5 c6 c7 V _).mono ?_
    rintro z g55 ⟨rfl, hb⟩
    have hc : Below g54.heap.size g54 g55 := hb
    have LX : Hid (Below X.heap.size X g55) := bl_trans LX.out hc
    have K0 : Hid (Blk g55 w.heap.size #[.slice a0 V.l0.length c0, .slice a1 V.l1.length c1, .slice a2 V.l2.length c2, .slice a3 V.l3.length c3, .slice a4 V.l4.length c4, .slice a5 V.l5.length c5, .slice a6 V.l6.length c6, .slice a7 V.l7.length c7, .bool V.sp, .bool V.kl] 27) := K0.out.later hc
    have K1 : Hid (Blk g55 (w.heap.size + 1) #[.slice b0 U.l0.length d0, .slice b1 U.l1.length d1, .slice b2 U.l2.length d2, .slice b3 U.l3.length d3, .slice b4 U.l4.length d4, .slice b5 U.l5.length d5, .slice b6 U.l6.length d6, .slice b7 U.l7.length d7, .bool U.sp, .bool U.kl] 27) := K1.out.later hc
    have Kb : Hid (Blk g55 kb #[.slice none 0 0, .slice none 0 0, .slice none 0 0, .slice none 0 0, .slice none 0 0, .slice none 0 0, .slice none 0 0, .slice none 0 0] 46) := Kb.out.later hc
    have Ka : Hid (Blk g55 ka #[.slice none 0 0, .slice none 0 0, .slice none 0 0, .slice none 0 0, .slice none 0 0, .slice none 0 0, .slice none 0 0, .slice none 0 0] 46) := Ka.out.later hc
    clear hb hc
    refine hK.out _ _ ?_ (fun hHeld => ?_)
    · exact ⟨K0.out, K1.out⟩
    clear hK K
    try simp only [List.foldl, Act.put, List.setIfInBounds_toArray, List.set_cons_zero, List.set_cons_succ]
    refine wpAnyH_ready (rs := [3]) (by kernel_rfl) (by simp) ?_
    refine AllReadyH.cons rfl (fun K hK => ?_) AllReadyH.nil
    go_simp
    refine (listsOf_any b0 b1 b2 b3 b4 b5 b6 b7 d0 d1 d2 d3 d4 d5 d6 d7 U _).mono ?_
    rintro z g56 ⟨rfl, hb⟩
    have hc : Below g55.heap.size g55 g56 := hb
    have LX : Hid (Below X.heap.size X g56) := bl_trans LX.out hc
    have K0 : Hid (Blk g56 w.heap.size #[.slice a0 V.l0.length c0, .slice a1 V.l1.length c1, .slice a2 V.l2.length c2, .slice a3 V.l3.length c3, .slice a4 V.l4.length c4, .slice a5 V.l5.length c5, .slice a6 V.l6.length c6, .slice a7 V.l7.length c7, .bool V.sp, .bool V.kl] 27) := K0.out.later hc
    have K1 : Hid (Blk g56 (w.heap.size + 1) #[.slice b0 U.l0.length d0, .slice b1 U.l1.length d1, .slice b2 U.l2.length d2, .slice b3 U.l3.length d3, .slice b4 U.l4.length d4, .slice b5 U.l5.length d5, .slice b6 U.l6.length d6, .slice b7 U.l7.length d7, .bool U.sp, .bool U.kl] 27) := K1.out.later hc
    have Kb : Hid (Blk g56 kb #[.slice none 0 0, .slice none 0 0, .slice none 0 0, .slice none 0 0, .slice none 0 0, .slice none 0 0, .slice none 0 0, .slice none 0 0] 46) := Kb.out.later hc
    have Ka : Hid (Blk g56 ka #[.slice none 0 0, .slice none 0 0, .slice none 0 0, .slice none 0 0, .slice none 0 0, .slice none 0 0, .slice none 0 0, .slice none 0 0] 46) := Ka.out.later hc
    clear hb hc
    refine hK.out _ _ ?_ (fun hHeld => ?_)
    · exact ⟨K0.out, K1.out⟩
    clear hK K
    try simp only [List.foldl, Act.put, List.setIfInBounds_toArray, List.set_cons_zero, List.set_cons_succ]
    have NEQ : Hid (¬ ka = kb) := by first | exact NE.out | exact fun e => NE.out e.symm
    refine wpAnyH_ready (rs := [6]) (by kernel_rfl) (by simp) ?_
    refine AllReadyH.cons rfl (fun K hK => ?_) AllReadyH.nil
    refine wp_store_row 46 (.tmp 5) (.tmp 10) rfl ka #[.slice a0 V.l0.length c0, .slice a1 V.l1.length c1, .slice a2 V.l2.length c2, .slice a3 V.l3.length c3, .slice a4 V.l4.length c4, .slice a5 V.l5.length c5, .slice a6 V.l6.length c6, .slice a7 V.l7.length c7] rfl rfl 46 _ Ka.out (by rw [Try.infoLs]; rfl) rfl one8 ?_
    have hlx := HXa.out
    have LX : Hid (Below X.heap.size X (g56.setRow ka #[.slice a0 V.l0.length c0, .slice a1 V.l1.length c1, .slice a2 V.l2.length c2, .slice a3 V.l3.length c3, .slice a4 V.l4.length c4, .slice a5 V.l5.length c5, .slice a6 V.l6.length c6, .slice a7 V.l7.length c7])) := below_setRow LX.out hlx _
    have Ka : Hid (Blk (g56.setRow ka #[.slice a0 V.l0.length c0, .slice a1 V.l1.length c1, .slice a2 V.l2.length c2, .slice a3 V.l3.length c3, .slice a4 V.l4.length c4, .slice a5 V.l5.length c5, .slice a6 V.l6.length c6, .slice a7 V.l7.length c7]) ka #[.slice a0 V.l0.length c0, .slice a1 V.l1.length c1, .slice a2 V.l2.length c2, .slice a3 V.l3.length c3, .slice a4 V.l4.length c4, .slice a5 V.l5.length c5, .slice a6 V.l6.length c6, .slice a7 V.l7.length c7] 46) := setRow_heap _ _ _ _ _ _ Ka.out
    have Kb : Hid (Blk (g56.setRow ka #[.slice a0 V.l0.length c0, .slice a1 V.l1.length c1, .slice a2 V.l2.length c2, .slice a3 V.l3.length c3, .slice a4 V.l4.length c4, .slice a5 V.l5.length c5, .slice a6 V.l6.length c6, .slice a7 V.l7.length c7]) kb #[.slice none 0 0, .slice none 0 0, .slice none 0 0, .slice none 0 0, .slice none 0 0, .slice none 0 0, .slice none 0 0, .slice none 0 0] 46) := (setRow_other _ _ _ _ (by have := NEQ.out; omega)).trans Kb.out
    have K0 : Hid (Blk (g56.setRow ka #[.slice a0 V.l0.length c0, .slice a1 V.l1.length c1, .slice a2 V.l2.length c2, .slice a3 V.l3.length c3, .slice a4 V.l4.length c4, .slice a5 V.l5.length c5, .slice a6 V.l6.length c6, .slice a7 V.l7.length c7]) w.heap.size #[.slice a0 V.l0.length c0, .slice a1 V.l1.length c1, .slice a2 V.l2.length c2, .slice a3 V.l3.length c3, .slice a4 V.l4.length c4, .slice a5 V.l5.length c5, .slice a6 V.l6.length c6, .slice a7 V.l7.length c7, .bool V.sp, .bool V.kl] 27) := (setRow_other _ _ _ _ (by have := ltX; omega)).trans K0.out
    have K1 : Hid (Blk (g56.setRow ka #[.slice a0 V.l0.length c0, .slice a1 V.l1.length c1, .slice a2 V.l2.length c2, .slice a3 V.l3.length c3, .slice a4 V.l4.length c4, .slice a5 V.l5.length c5, .slice a6 V.l6.length c6, .slice a7 V.l7.length c7]) (w.heap.size + 1) #[.slice b0 U.l0.length d0, .slice b1 U.l1.length d1, .slice b2 U.l2.length d2, .slice b3 U.l3.length d3, .slice b4 U.l4.length d4, .slice b5 U.l5.length d5, .slice b6 U.l6.length d6, .slice b7 U.l7.length d7, .bool U.sp, .bool U.kl] 27) := (setRow_other _ _ _ _ (by have := ltX; omega)).trans K1.out
    refine hK.out _ _ ?_ (fun hHeld => ?_)
    · exact ⟨K0.out, K1.out⟩
    clear hK K
    try simp only [List.foldl, Act.put, List.setIfInBounds_toArray, List.set_cons_zero, List.set_cons_succ]
    generalize hGe : (g56.setRow ka #[.slice a0 V.l0.length c0, .slice a1 V.l1.length c1, .slice a2 V.l2.length c2, .slice a3 V.l3.length c3, .slice a4 V.l4.length c4, .slice a5 V.l5.length c5, .slice a6 V.l6.length c6, .slice a7 V.l7.length c7]) = g57 at Ka Kb hHeld LX K0 K1 ⊢
    clear hGe hlx
    refine wpAnyH_ready (rs := [7]) (by kernel_rfl) (by simp) ?_
    refine AllReadyH.cons rfl (fun K hK => ?_) AllReadyH.nil
    refine wp_store_row 46 (.tmp 6) (.tmp 12) rfl kb #[.slice b0 U.l0.length d0, .slice b1 U.l1.length d1, .slice b2 U.l2.length d2, .slice b3 U.l3.length d3, .slice b4 U.l4.length d4, .slice b5 U.l5.length d5, .slice b6 U.l6.length d6, .slice b7 U.l7.length d7] rfl rfl 46 _ Kb.out (by rw [Try.infoLs]; rfl) rfl one8 ?_
    have hlx := HXb.out
    have LX : Hid (Below X.heap.size X (g57.setRow kb #[.slice b0 U.l0.length d0, .slice b1 U.l1.length d1, .slice b2 U.l2.length d2, .slice b3 U.l3.length d3, .slice b4 U.l4.length d4, .slice b5 U.l5.length d5, .slice b6 U.l6.length d6, .slice b7 U.l7.length d7])) := below_setRow LX.out hlx _
    have Kb : Hid (Blk (g57.setRow kb #[.slice b0 U.l0.length d0, .slice b1 U.l1.length d1, .slice b2 U.l2.length d2, .slice b3 U.l3.length d3, .slice b4 U.l4.length d4, .slice b5 U.l5.length d5, .slice b6 U.l6.length d6, .slice b7 U.l7.length d7]) kb #[.slice b0 U.l0.length d0, .slice b1 U.l1.length d1, .slice b2 U.l2.length d2, .slice b3 U.l3.length d3, .slice b4 U.l4.length d4, .slice b5 U.l5.length d5, .slice b6 U.l6.length d6, .slice b7 U.l7.length d7] 46) := setRow_heap _ _ _ _ _ _ Kb.out
    have Ka : Hid (Blk (g57.setRow kb #[.slice b0 U.l0.length d0, .slice b1 U.l1.length d1, .slice b2 U.l2.length d2, .slice b3 U.l3.length d3, .slice b4 U.l4.length d4, .slice b5 U.l5.length d5, .slice b6 U.l6.length d6, .slice b7 U.l7.length d7]) ka #[.slice a0 V.l0.length c0, .slice a1 V.l1.length c1, .slice a2 V.l2.length c2, .slice a3 V.l3.length c3, .slice a4 V.l4.length c4, .slice a5 V.l5.length c5, .slice a6 V.l6.length c6, .slice a7 V.l7.length c7] 46) := (setRow_other _ _ _ _ (by have := NEQ.out; omega)).trans Ka.out
    have K0 : Hid (Blk (g57.setRow kb #[.slice b0 U.l0.length d0, .slice b1 U.l1.length d1, .slice b2 U.l2.length d2, .slice b3 U.l3.length d3, .slice b4 U.l4.length d4, .slice b5 U.l5.length d5, .slice b6 U.l6.length d6, .slice b7 U.l7.length d7]) w.heap.size #[.slice a0 V.l0.length c0, .slice a1 V.l1.length c1, .slice a2 V.l2.length c2, .slice a3 V.l3.length c3, .slice a4 V.l4.length c4, .slice a5 V.l5.length c5, .slice a6 V.l6.length c6, .slice a7 V.l7.length c7, .bool V.sp, .bool V.kl] 27) := (setRow_other _ _ _ _ (by have := ltX; omega)).trans K0.out
    have K1 : Hid (Blk (g57.setRow kb #[.slice b0 U.l0.length d0, .slice b1 U.l1.length d1, .slice b2 U.l2.length d2, .slice b3 U.l3.length d3, .slice b4 U.l4.length d4, .slice b5 U.l5.length d5, .slice b6 U.l6.length d6, .slice b7 U.l7.length d7]) (w.heap.size + 1) #[.slice b0 U.l0.length d0, .slice b1 U.l1.length d1, .slice b2 U.l2.length d2, .slice b3 U.l3.length d3, .slice b4 U.l4.length d4, .slice b5 U.l5.length d5, .slice b6 U.l6.length d6, .slice b7 U.l7.length d7, .bool U.sp, .bool U.kl] 27) := (setRow_other _ _ _ _ (by have := ltX; omega)).trans K1.out
    refine hK.out _ _ ?_ (fun hHeld => ?_)
    · exact ⟨K0.out, K1.out⟩
    clear hK K
    try simp only [List.foldl, Act.put, List.setIfInBounds_toArray, List.set_cons_zero, List.set_cons_succ]
    generalize hGe : (g57.setRow kb #[.slice b0 U.l0.length d0, .slice b1 U.l1.length d1, .slice b2 U.l2.length d2, .slice b3 U.l3.length d3, .slice b4 U.l4.length d4, .slice b5 U.l5.length d5, .slice b6 U.l6.length d6, .slice b7 U.l7.length d7]) = g58 at Ka Kb hHeld LX K0 K1 ⊢
    clear hGe hlx
    refine wpAnyH_done (by kernel_rfl) ?_ _
    go_wp2_with fail
    go_meet
    exact ⟨ka, kb, rfl, rfl, Ka.out, Kb.out, HXa.out, HXb.out, NEQ.out, LX.out⟩
  case rest =>
    obtain ⟨ka, kb, rfl, rfl, Ka, Kb, xa, xb, NE, LX⟩ := hcut
    have HK0 : Hid (Blk wc w.heap.size #[.slice a0 V.l0.length c0, .slice a1 V.l1.length c1, .slice a2 V.l2.length c2, .slice a3 V.l3.length c3, .slice a4 V.l4.length c4, .slice a5 V.l5.length c5, .slice a6 V.l6.length c6, .slice a7 V.l7.length c7, .bool V.sp, .bool V.kl] 27) := K0.out.later LX
    have HK1 : Hid (Blk wc (w.heap.size + 1) #[.slice b0 U.l0.length d0, .slice b1 U.l1.length d1, .slice b2 U.l2.length d2, .slice b3 U.l3.length d3, .slice b4 U.l4.length d4, .slice b5 U.l5.length d5, .slice b6 U.l6.length d6, .slice b7 U.l7.length d7, .bool U.sp, .bool U.kl] 27) := K1.out.later LX
    have HKa : Hid (Blk wc ka #[.slice a0 V.l0.length c0, .slice a1 V.l1.length c1, .slice a2 V.l2.length c2, .slice a3 V.l3.length c3, .slice a4 V.l4.length c4, .slice a5 V.l5.length c5, .slice a6 V.l6.length c6, .slice a7 V.l7.length c7] 46) := Ka
    have LC : Hid (Below w.heap.size w wc) := bl_trans L0 LX
    have hldb := run_loadVar_row (P := Try.prog) _ _ _ _ _ _ _ Kb Try.underlying46 rfl (by rw [Try.infoLs]; rfl)
    clear K0 K1 Ka xa xb NE LX L0 ltX
    go_wp2_with (refine wpList_load_run rfl 46 (.tmp 6) rfl _ rfl _ hldb ?_)
    clear hldb Kb
    go_loopw [14] (fun v wr => ∃ k : Nat, k ≤ 8 ∧ v = .int .i64 k ∧ Hid (subN V U k = true) ∧ Hid (Below wc.heap.size wc wr)) (fun v _ => 8 - (intOf v).toNat)
    case atStart => exact ⟨0, by omega, rfl, (show subN V U 0 = true from rfl), Below.refl _ _⟩
    case round =>
      obtain ⟨k, hk, rfl, hs, hb⟩ := hrel
      by_cases h8 : k < 8
      · obtain ⟨s1, c1, r1, E1⟩ := HV.out.at c0 c1 c2 c3 c4 c5 c6 c7 h8
        obtain ⟨s2, c2, r2, E2⟩ := HU.out.at d0 d1 d2 d3 d4 d5 d6 d7 h8
        have hix := idx_row _ k h8 _ _ _ r2
        have ea : wr.cell? ⟨ka, k, none⟩ = some (.slice s1 (V.lst k).length c1) := by rw [(HKa.out.later hb.out).cell]; exact r1
        have lA := Ef.lst_len KV.out k
        have lB := Ef.lst_len KU.out k
        have E1 : Hid (Els 1 cInt wr 0 s1 (V.lst k)) := (E1.drop cInt_drops (Nat.zero_le _)).later cInt_keeps (bl_trans LC.out hb.out)
        have E2 : Hid (Els 1 cInt wr 0 s2 (U.lst k)) := (E2.drop cInt_drops (Nat.zero_le _)).later cInt_keeps (bl_trans LC.out hb.out)
        have HF : Hid (subB (V.lst k) (U.lst k) = false → false = witB V U) := fun h => subN_false h8 h
        have HT : Hid (subB (V.lst k) (U.lst k) = true → subN V U (k + 1) = true) := fun h => by rw [subN_succ, hs.out, h]; rfl
        have i8 : decide ((k : Int) < 8) = true := by simp; omega
        have i8' : (k : Int) < 8 := by omega
        clear r1 r2 hs
        generalize V.lst k = A at ea lA E1 HF HT
        generalize U.lst k = Bl at hix lB E2 HF HT
        go_wp2_with fail
        refine (merged_any _ 2 [A, Bl] 0 _ (els_is2 (Blk.new wr _ _) (E1.out.later cInt_keeps (bl_alloc (Below.refl _ _) _)) (E2.out.later cInt_keeps (bl_alloc (Below.refl _ _) _))) (by simp) (by simp; omega)).mono ?_
        rintro e w1 ⟨⟨s3, c3, R1, rfl, o1, h1⟩, hb1⟩
        have hw1 : Below wr.heap.size wr w1 := bl_trans (bl_alloc (Below.refl _ _) _) hb1
        have O1 : Hid (OI w1 0 (.slice s3 R1.length c3) R1) := o1.mono (Nat.zero_le _)
        have H1 : Hid (Srt [A, Bl].flatten R1) := h1
        have l1 : R1.length ≤ 2097152 := by have := h1.2.2; simp at this; omega
        clear o1 h1 hb1
        go_wp2_with fail
        refine (merged_any _ 1 [Bl] 0 _ (els_is1 (Blk.new w1 _ _) (E2.out.later cInt_keeps (bl_alloc hw1 _))) (by simp) (by simp; omega)).mono ?_
        rintro e w2 ⟨⟨s4, c4, R2, rfl, o2, h2⟩, hb2⟩
        have hw2 : Below w1.heap.size w1 w2 := bl_trans (bl_alloc (Below.refl _ _) _) hb2
        have O2 : Hid (OI w2 0 (.slice s4 R2.length c4) R2) := o2.mono (Nat.zero_le _)
        have l2 : R2.length ≤ 1048576 := by have := h2.2.2; simp at this; omega
        have HE : Hid (sl eqI R1 R2 = subB A Bl) := within_by_join H1.out h2
        clear o2 h2 hb2 H1
        go_wp2_with fail
        refine (equalI_wide s3 s4 c3 c4 R1 R2 _ _ w2 (O1.out.later hw2).els O2.out.els (by omega) (by omega)).mono ?_
        rintro e w3 ⟨rfl, hb3⟩
        have LD : Hid (Below wc.heap.size wc w3) := bl_trans (bl_trans (bl_trans hb.out hw1) hw2) hb3
        rw [HE.out]
        clear O1 O2 hw1 hw2 hb3 HE E1 E2 ea hix
        cases hc : subB A Bl
        · have hF := HF.out hc
          have HFF : Hid (false = witB V U) := hF
          clear hF HF HT hc
          go_wp2_with fail
          go_ret
          exact ⟨congrArg (fun b => Ending.returned (.bool b)) HFF.out, bl_trans LC.out LD.out⟩
        · have hN : Hid (subN V U (k + 1) = true) := HT.out hc
          clear HF HT hc
          go_wp2_with fail
          go_roundw
          case rel => exact ⟨k + 1, by omega, by go_num, hN, LD⟩
          case measure => simp [intOf]; omega
      · have i8 : decide ((k : Int) < 8) = false := by simp; omega
        have HS8 : Hid (subN V U 8 = true) := by have := hs.out; rw [show k = 8 by omega] at this; exact this
        have K0 : Hid (Blk wr w.heap.size #[.slice a0 V.l0.length c0, .slice a1 V.l1.length c1, .slice a2 V.l2.length c2, .slice a3 V.l3.length c3, .slice a4 V.l4.length c4, .slice a5 V.l5.length c5, .slice a6 V.l6.length c6, .slice a7 V.l7.length c7, .bool V.sp, .bool V.kl] 27) := HK0.out.later hb.out
        have K1 : Hid (Blk wr (w.heap.size + 1) #[.slice b0 U.l0.length d0, .slice b1 U.l1.length d1, .slice b2 U.l2.length d2, .slice b3 U.l3.length d3, .slice b4 U.l4.length d4, .slice b5 U.l5.length d5, .slice b6 U.l6.length d6, .slice b7 U.l7.length d7, .bool U.sp, .bool U.kl] 27) := HK1.out.later hb.out
        have hcmp : ∀ W : World, (Op.equalIn 10000 44 (.agg (tch (flg (V.sp || U.sp) (V.kl || U.kl)))) (.agg (tch (flg U.sp U.kl)))).run Try.prog W = .ok ((U.sp || !V.sp) && (U.kl || !V.kl)) W := by
          intro W
          rw [sets_equal _ _ (flg_len _ _) (flg_len _ _) W]
          congr 1
          rw [Bool.eq_iff_iff, decide_eq_true_eq, flg_inj]
          cases V.sp <;> cases V.kl <;> cases U.sp <;> cases U.kl <;> simp
        clear hs HKa
        go_wp2_with fail
        have LY : Hid (Below wr.heap.size wr wr) := Below.refl _ _
        refine wp_region_held_drew (S := fun w' => Blk w' w.heap.size #[.slice a0 V.l0.length c0, .slice a1 V.l1.length c1, .slice a2 V.l2.length c2, .slice a3 V.l3.length c3, .slice a4 V.l4.length c4, .slice a5 V.l5.length c5, .slice a6 V.l6.length c6, .slice a7 V.l7.length c7, .bool V.sp, .bool V.kl] 27 ∧ Blk w' (w.heap.size + 1) #[.slice b0 U.l0.length d0, .slice b1 U.l1.length d1, .slice b2 U.l2.length d2, .slice b3 U.l3.length d3, .slice b4 U.l4.length d4, .slice b5 U.l5.length d5, .slice b6 U.l6.length d6, .slice b7 U.l7.length d7, .bool U.sp, .bool U.kl] 27) (by kernel_rfl) ?_ (fun hHeld => ?_)
        · exact ⟨K0.out, K1.out⟩
        refine wpAnyH_one (i := 0) (d := 30) (v := ?_) rfl rfl (by kernel_rfl) (by kernel_rfl) (by kernel_rfl) (fun _ _ _ h => h) (by rfl) (by assumption) ?_ ?_
        rotate_left 1
        · intro w hSw; (try dsimp only at hSw); obtain ⟨q0, q1⟩ := hSw; obtain ⟨x0, x1, x2, x3, x4, x5, x6, x7, x8, x9, xf⟩ := q0.ten; go_simp <;> with_reducible rfl
        simp only [List.foldl, Act.put, List.setIfInBounds_toArray, List.set_cons_zero, List.set_cons_succ]
        refine wpAnyH_one (i := 2) (d := 32) (v := ?_) rfl rfl (by kernel_rfl) (by kernel_rfl) (by kernel_rfl) (fun _ _ _ h => h) (by rfl) (by assumption) ?_ ?_
        rotate_left 1
        · intro w hSw; (try dsimp only at hSw); obtain ⟨q0, q1⟩ := hSw; obtain ⟨x0, x1, x2, x3, x4, x5, x6, x7, x8, x9, xf⟩ := q1.ten; go_simp <;> with_reducible rfl
        simp only [List.foldl, Act.put, List.setIfInBounds_toArray, List.set_cons_zero, List.set_cons_succ]
        refine wpAnyH_one (i := 6) (d := 36) (v := ?_) rfl rfl (by kernel_rfl) (by kernel_rfl) (by kernel_rfl) (fun _ _ _ h => h) (by rfl) (by assumption) ?_ ?_
        rotate_left 1
        · intro w hSw; (try dsimp only at hSw); obtain ⟨q0, q1⟩ := hSw; obtain ⟨x0, x1, x2, x3, x4, x5, x6, x7, x8, x9, xf⟩ := q1.ten; go_simp <;> with_reducible rfl
        simp only [List.foldl, Act.put, List.setIfInBounds_toArray, List.set_cons_zero, List.set_cons_succ]
        refine wpAnyH_ready (rs := [1]) (by kernel_rfl) (by simp) ?_
        refine AllReadyH.cons rfl (fun K hK => ?_) AllReadyH.nil
        go_simp
        refine (flagsOf_any a0 a1 a2 a3 a4 a5 a6 a7 c0 c1 c2 c3 c4 c5 c6 c7 V _).mono ?_
        rintro z g1 ⟨rfl, hb0⟩
        have hc : Below wr.heap.size wr g1 := bl_trans (bl_drew (Below.refl _ _)) hb0
        have LY : Hid (Below wr.heap.size wr g1) := bl_trans LY.out hc
        have K0 : Hid (Blk g1 w.heap.size #[.slice a0 V.l0.length c0, .slice a1 V.l1.length c1, .slice a2 V.l2.length c2, .slice a3 V.l3.length c3, .slice a4 V.l4.length c4, .slice a5 V.l5.length c5, .slice a6 V.l6.length c6, .slice a7 V.l7.length c7, .bool V.sp, .bool V.kl] 27) := K0.out.later hc
        have K1 : Hid (Blk g1 (w.heap.size + 1) #[.slice b0 U.l0.length d0, .slice b1 U.l1.length d1, .slice b2 U.l2.length d2, .slice b3 U.l3.length d3, .slice b4 U.l4.length d4, .slice b5 U.l5.length d5, .slice b6 U.l6.length d6, .slice b7 U.l7.length d7, .bool U.sp, .bool U.kl] 27) := K1.out.later hc
        clear hb0 hc
        refine hK.out _ _ ?_ (fun hHeld => ?_)
        · exact ⟨K0.out, K1.out⟩
        clear hK K
        try simp only [List.foldl, Act.put, List.setIfInBounds_toArray, List.set_cons_zero, List.set_cons_succ]
        refine wpAnyH_ready (rs := [3]) (by kernel_rfl) (by simp) ?_
        refine AllReadyH.cons rfl (fun K hK => ?_) AllReadyH.nil
        go_simp
        refine (flagsOf_any b0 b1 b2 b3 b4 b5 b6 b7 d0 d1 d2 d3 d4 d5 d6 d7 U _).mono ?_
        rintro z g2 ⟨rfl, hb0⟩
        have hc : Below g1.heap.size g1 g2 := hb0
        have LY : Hid (Below wr.heap.size wr g2) := bl_trans LY.out hc
        have K0 : Hid (Blk g2 w.heap.size #[.slice a0 V.l0.length c0, .slice a1 V.l1.length c1, .slice a2 V.l2.length c2, .slice a3 V.l3.length c3, .slice a4 V.l4.length c4, .slice a5 V.l5.length c5, .slice a6 V.l6.length c6, .slice a7 V.l7.length c7, .bool V.sp, .bool V.kl] 27) := K0.out.later hc
        have K1 : Hid (Blk g2 (w.heap.size + 1) #[.slice b0 U.l0.length d0, .slice b1 U.l1.length d1, .slice b2 U.l2.length d2, .slice b3 U.l3.length d3, .slice b4 U.l4.length d4, .slice b5 U.l5.length d5, .slice b6 U.l6.length d6, .slice b7 U.l7.length d7, .bool U.sp, .bool U.kl] 27) := K1.out.later hc
        clear hb0 hc
        refine hK.out _ _ ?_ (fun hHeld => ?_)
        · exact ⟨K0.out, K1.out⟩
        clear hK K
        try simp only [List.foldl, Act.put, List.setIfInBounds_toArray, List.set_cons_zero, List.set_cons_succ]
        refine wpAnyH_ready (rs := [4]) (by kernel_rfl) (by simp) ?_
        refine AllReadyH.cons rfl (fun K hK => ?_) AllReadyH.nil
        refine wp_build_two (.tmp 31) (.tmp 33) rfl V.sp V.kl U.sp U.kl rfl rfl ?_
        have hg : Below g2.heap.size g2 (g2.alloc (.cells (tch (flg V.sp V.kl ++ flg U.sp U.kl)) 44)) := bl_alloc (Below.refl _ _) _
        have KT : Hid (Blk (g2.alloc (.cells (tch (flg V.sp V.kl ++ flg U.sp U.kl)) 44)) g2.heap.size (tch (flg V.sp V.kl ++ flg U.sp U.kl)) 44) := Blk.new _ _ _
        have LY : Hid (Below wr.heap.size wr (g2.alloc (.cells (tch (flg V.sp V.kl ++ flg U.sp U.kl)) 44))) := bl_trans LY.out hg
        have K0 : Hid (Blk (g2.alloc (.cells (tch (flg V.sp V.kl ++ flg U.sp U.kl)) 44)) w.heap.size #[.slice a0 V.l0.length c0, .slice a1 V.l1.length c1, .slice a2 V.l2.length c2, .slice a3 V.l3.length c3, .slice a4 V.l4.length c4, .slice a5 V.l5.length c5, .slice a6 V.l6.length c6, .slice a7 V.l7.length c7, .bool V.sp, .bool V.kl] 27) := K0.out.later hg
        have K1 : Hid (Blk (g2.alloc (.cells (tch (flg V.sp V.kl ++ flg U.sp U.kl)) 44)) (w.heap.size + 1) #[.slice b0 U.l0.length d0, .slice b1 U.l1.length d1, .slice b2 U.l2.length d2, .slice b3 U.l3.length d3, .slice b4 U.l4.length d4, .slice b5 U.l5.length d5, .slice b6 U.l6.length d6, .slice b7 U.l7.length d7, .bool U.sp, .bool U.kl] 27) := K1.out.later hg
        clear hg
        refine hK.out _ _ ?_ (fun hHeld => ?_)
        · exact ⟨K0.out, K1.out⟩
        clear hK K
        try simp only [List.foldl, Act.put, List.setIfInBounds_toArray, List.set_cons_zero, List.set_cons_succ]
        generalize hGe : (g2.alloc (.cells (tch (flg V.sp V.kl ++ flg U.sp U.kl)) 44)) = g3 at KT hHeld LY K0 K1 ⊢
        generalize g2.heap.size = kt at KT ⊢
        clear hGe
        refine wpAnyH_ready (rs := [5]) (by kernel_rfl) (by simp) ?_
        refine AllReadyH.cons rfl (fun K hK => ?_) AllReadyH.nil
        go_simp
        refine (joined_two kt 2 V.sp V.kl U.sp U.kl _ KT.out).mono ?_
        rintro z g4 ⟨rfl, hb0⟩
        have hc : Below g3.heap.size g3 g4 := hb0
        have LY : Hid (Below wr.heap.size wr g4) := bl_trans LY.out hc
        have K0 : Hid (Blk g4 w.heap.size #[.slice a0 V.l0.length c0, .slice a1 V.l1.length c1, .slice a2 V.l2.length c2, .slice a3 V.l3.length c3, .slice a4 V.l4.length c4, .slice a5 V.l5.length c5, .slice a6 V.l6.length c6, .slice a7 V.l7.length c7, .bool V.sp, .bool V.kl] 27) := K0.out.later hc
        have K1 : Hid (Blk g4 (w.heap.size + 1) #[.slice b0 U.l0.length d0, .slice b1 U.l1.length d1, .slice b2 U.l2.length d2, .slice b3 U.l3.length d3, .slice b4 U.l4.length d4, .slice b5 U.l5.length d5, .slice b6 U.l6.length d6, .slice b7 U.l7.length d7, .bool U.sp, .bool U.kl] 27) := K1.out.later hc
        clear hb0 hc
        refine hK.out _ _ ?_ (fun hHeld => ?_)
        · exact ⟨K0.out, K1.out⟩
        clear hK K
        try simp only [List.foldl, Act.put, List.setIfInBounds_toArray, List.set_cons_zero, List.set_cons_succ]
        clear KT
        refine wpAnyH_ready (rs := [7]) (by kernel_rfl) (by simp) ?_
        refine AllReadyH.cons rfl (fun K hK => ?_) AllReadyH.nil
        go_simp
        refine (flagsOf_any b0 b1 b2 b3 b4 b5 b6 b7 d0 d1 d2 d3 d4 d5 d6 d7 U _).mono ?_
        rintro z g5 ⟨rfl, hb0⟩
        have hc : Below g4.heap.size g4 g5 := hb0
        have LY : Hid (Below wr.heap.size wr g5) := bl_trans LY.out hc
        have K0 : Hid (Blk g5 w.heap.size #[.slice a0 V.l0.length c0, .slice a1 V.l1.length c1, .slice a2 V.l2.length c2, .slice a3 V.l3.length c3, .slice a4 V.l4.length c4, .slice a5 V.l5.length c5, .slice a6 V.l6.length c6, .slice a7 V.l7.length c7, .bool V.sp, .bool V.kl] 27) := K0.out.later hc
        have K1 : Hid (Blk g5 (w.heap.size + 1) #[.slice b0 U.l0.length d0, .slice b1 U.l1.length d1, .slice b2 U.l2.length d2, .slice b3 U.l3.length d3, .slice b4 U.l4.length d4, .slice b5 U.l5.length d5, .slice b6 U.l6.length d6, .slice b7 U.l7.length d7, .bool U.sp, .bool U.kl] 27) := K1.out.later hc
        clear hb0 hc
        refine hK.out _ _ ?_ (fun hHeld => ?_)
        · exact ⟨K0.out, K1.out⟩
        clear hK K
        try simp only [List.foldl, Act.put, List.setIfInBounds_toArray, List.set_cons_zero, List.set_cons_succ]
        refine wpAnyH_one (i := 8) (d := 38) (v := ?_) rfl rfl (by kernel_rfl) (by kernel_rfl) (by kernel_rfl) (fun _ _ _ h => h) (by rfl) (by assumption) ?_ ?_
        rotate_left 1
        · intro w hSw; (try dsimp only at hSw); go_simp <;> with_reducible rfl
        simp only [List.foldl, Act.put, List.setIfInBounds_toArray, List.set_cons_zero, List.set_cons_succ]
        refine wpAnyH_one (i := 9) (d := 4) (v := ?_) rfl rfl (by kernel_rfl) (by kernel_rfl) (by kernel_rfl) (fun _ _ _ h => h) (by rfl) (by assumption) ?_ ?_
        rotate_left 1
        · intro w hSw; (try dsimp only at hSw); go_simp <;> with_reducible rfl
        simp only [List.foldl, Act.put, List.setIfInBounds_toArray, List.set_cons_zero, List.set_cons_succ]
        refine wpAnyH_done (by kernel_rfl) ?_ _
        go_wp2_with fail
        go_ret
        exact ⟨congrArg (fun b => Ending.returned (.bool b)) (by rw [witB_subN, HS8.out]; rfl), bl_trans LC.out (bl_trans hb.out LY.out)⟩
end Go.Proofs.Ytgcfhoojjgcpiaa
