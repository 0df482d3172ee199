import Derived.Test.YtedobocaagdjfaaDoorN15
import Derived.Test.YtedobocaagdjfaaDoorN11
namespace Go.Proofs.YtedobocaagdjfaaDoor
open Go.RowKit
set_option linter.unusedVariables false
set_option linter.unusedSimpArgs false

theorem next_B {A : List Int} {k : Int} {x : Nat} (hx : x < A.length) (h : (k = 1 ∧ A.getD x 0 = 1) ∨ (k = 2 ∧ A.getD x 0 = 0)) : nb (fun i => if k = 2 then fB A i || decide (i = x) else fB A i) = nb (fB (doM A (k, (x : Int)))) := by
  refine nb_congr fun i _ => ?_
  rcases h with ⟨rfl, h1⟩ | ⟨rfl, h1⟩
  · rw [end_B hx h1]; simp
  · rw [beg_B hx]; simp
theorem next_D {A : List Int} {k : Int} {x : Nat} (hx : x < A.length) (h : (k = 1 ∧ A.getD x 0 = 1) ∨ (k = 2 ∧ A.getD x 0 = 0)) : nb (fun i => if k = 2 then fD A i else fD A i || decide (i = x)) = nb (fD (doM A (k, (x : Int)))) := by
  refine nb_congr fun i _ => ?_
  rcases h with ⟨rfl, h1⟩ | ⟨rfl, h1⟩
  · rw [end_D hx]; simp
  · rw [beg_D hx h1]; simp
theorem nb_B0 (m : Nat) : nb (fB (List.replicate m 0)) = 0 := by rw [nb_congr (g := fun _ => false) (fun i _ => zeros_B m i), nb_zero]
theorem nb_D0 (m : Nat) : nb (fD (List.replicate m 0)) = 0 := by rw [nb_congr (g := fun _ => false) (fun i _ => zeros_D m i), nb_zero]

set_option maxHeartbeats 8000000 in
theorem implPoolMoves_any (n wk : Int) (s : Option Addr) (c : Nat) (L : List (Int × Int)) (sd : Option Addr) (cd : Nat) (D : List (Int × Int)) (w : World) (hL : Eds w s L) (hl : L.length ≤ 1048576) (hD : Eds w sd D) (hd : D.length ≤ 1048576) (hT : DbT w) :
    Calls Tryd.prog 7 #[.int .i64 n, .slice s L.length c, .int .i64 wk, .slice sd D.length cd] w fun e w' => PlS w (plB n L wk D) e w' := by
  cases hgk : (gOk n L && wkOk wk)
  · have hA : Hid (plB n L wk D = none) := by simp [Hid, plB, hgk]
    go_enter Tryd.func7, Tryd.ntmps7
    go_wp2_with fail
    refine (newPool_bad n wk s c L w hL hl hgk).mono ?_
    rintro e w1 ⟨rfl, hb1⟩
    have k1 : Blk (w1.alloc (.cells (pl 0 (fun _ _ => false) 0) 52)) w1.heap.size (pl 0 (fun _ _ => false) 0) 52 := Blk.new _ _ _
    rw [show Obj.cells (pl 0 (fun _ _ => false) 0) 52 (0, 0) = Obj.cells #[.int .i64 0, .int .u16 0, .int .u16 0, .int .u16 0, .int .u16 0, .int .u16 0, .int .u16 0, .int .u16 0, .int .u16 0, .int .u16 0, .int .u16 0, .int .u16 0, .int .u16 0, .int .u16 0, .int .u16 0, .int .u16 0, .int .u16 0, .int .i64 0] 52 (0, 0) by rw [pl_zero]] at k1
    have l1 := bl_alloc hb1 (.cells #[.int .i64 0, .int .u16 0, .int .u16 0, .int .u16 0, .int .u16 0, .int .u16 0, .int .u16 0, .int .u16 0, .int .u16 0, .int .u16 0, .int .u16 0, .int .u16 0, .int .u16 0, .int .u16 0, .int .u16 0, .int .u16 0, .int .u16 0, .int .i64 0] 52)
    generalize hP : pl 0 (fun _ _ => false) 0 = P0 at k1 ⊢
    have hP1 : (P0.all (·.oneCell')) = true := by rw [← hP]; exact pl_one _ _ _
    have hP2 : P0.size = 18 := by rw [← hP]; exact pl_size _ _ _
    go_wp2_with (refine wpList_store_row rfl 52 (.tmp 10) (.tmp 20) rfl w1.heap.size P0 rfl rfl _ _ k1 (by rw [Tryd.infoPl, hP2]) (by rw [hP2]) hP1 ?_)
    refine bodyPost_ret (v := .tuple #[.slice none 0 0, .bool false]) (by simp [results, Tryd.results7]) rfl ?_
    rw [hA.out]
    exact PlS.none (below_setRow l1 hb1.size _)
  simp only [Bool.and_eq_true] at hgk
  obtain ⟨hg, hk⟩ := hgk
  obtain ⟨m, rfl, hm, hl2, hin, h16⟩ := gOk_open hg
  have HA : Hid (plB m L wk D = plG L wk (List.replicate m 0) D) := by simp [Hid, plB, hg, hk]
  have HI : Hid (Inn m L) := hin
  have HD : Hid (Eds w sd D) := hD
  have HT : Hid (DbT w) := hT
  go_enter Tryd.func7, Tryd.ntmps7
  go_wp2_with fail
  refine (newPool_ok m wk s c L w hL hl hg hk h16).mono ?_
  rintro e w1 ⟨rfl, hb1⟩
  have k1 : Blk (w1.alloc (.cells (pl 0 (fun _ _ => false) 0) 52)) w1.heap.size (pl 0 (fun _ _ => false) 0) 52 := Blk.new _ _ _
  have l1 : Below w.heap.size w (w1.alloc (.cells (pl 0 (fun _ _ => false) 0) 52)) := bl_alloc hb1 _
  have k2 : Blk ((w1.alloc (.cells (pl 0 (fun _ _ => false) 0) 52)).setRow w1.heap.size (pl m (eF L) wk)) w1.heap.size (pl m (eF L) wk) 52 := setRow_heap _ _ _ _ _ _ k1
  have l2 : Below w.heap.size w ((w1.alloc (.cells (pl 0 (fun _ _ => false) 0) 52)).setRow w1.heap.size (pl m (eF L) wk)) := below_setRow l1 hb1.size _
  have z2 : ((w1.alloc (.cells (pl 0 (fun _ _ => false) 0) 52)).setRow w1.heap.size (pl m (eF L) wk)).heap.size = w1.heap.size + 1 := by simp
  obtain ⟨Y, hY⟩ : ∃ Y, (w1.alloc (.cells (pl 0 (fun _ _ => false) 0) 52)).setRow w1.heap.size (pl m (eF L) wk) = Y := ⟨_, rfl⟩
  rw [hY] at k2 l2 z2
  rw [pl_zero] at k1 hY
  have HY : Hid ((w1.alloc (.cells #[.int .i64 0, .int .u16 0, .int .u16 0, .int .u16 0, .int .u16 0, .int .u16 0, .int .u16 0, .int .u16 0, .int .u16 0, .int .u16 0, .int .u16 0, .int .u16 0, .int .u16 0, .int .u16 0, .int .u16 0, .int .u16 0, .int .u16 0, .int .i64 0] 52)).setRow w1.heap.size (pl m (eF L) wk) = Y) := hY
  clear hY
  go_upto_region 2 with (refine wpList_store_row rfl 52 (.tmp 10) (.tmp 20) rfl w1.heap.size (pl m (eF L) wk) rfl rfl _ _ k1 (by rw [Tryd.infoPl, pl_size]) (by rw [pl_size]; rfl) (pl_one _ _ _) ?_)
  rw [HY.out]
  obtain ⟨gb, hgb⟩ : ∃ gb, w1.heap.size = gb := ⟨_, rfl⟩
  rw [hgb] at k2 z2 ⊢
  have hgw : w.heap.size ≤ gb := by rw [← hgb]; exact hb1.size
  have K2 : Hid (Blk (Y.alloc (.cells #[.int .u16 0, .int .u16 0] 56)) gb (pl m (eF L) wk) 52) := k2.alloc _
  have Q2 : Hid (Blk (Y.alloc (.cells #[.int .u16 0, .int .u16 0] 56)) (gb + 1) #[.int .u16 0, .int .u16 0] 56) := Blk.new' Y _ _ (by rw [z2])
  have L2 : Hid (Below w.heap.size w (Y.alloc (.cells #[.int .u16 0, .int .u16 0] 56))) := bl_alloc l2 _
  clear k1 k2 l1 l2 hb1 HY hgb hL hD hin hT
  go_wp2_with fail
  try rw [z2]
  go_loopw [26] (fun iv wr => ∃ (k : Nat) (A : List Int), k ≤ D.length ∧ iv = .int .i64 k ∧ Hid (A.length = m) ∧ Hid (Thr A) ∧ Hid (plG L wk (List.replicate m 0) D = plG L wk A (D.drop k)) ∧ Hid (Blk wr gb (pl m (eF L) wk) 52) ∧ Hid (Blk wr (gb + 1) #[.int .u16 (nb (fB A)), .int .u16 (nb (fD A))] 56) ∧ Hid (Below w.heap.size w wr)) (fun iv _ => D.length - (intOf iv).toNat)
  case atStart =>
    refine ⟨0, List.replicate m 0, Nat.zero_le _, rfl, by simp [Hid], zeros_thr m, rfl, K2, ?_, L2⟩
    rw [nb_B0, nb_D0]; exact Q2
  case round =>
    clear K2 Q2 L2
    obtain ⟨k, A, hkk, rfl, hAl, hTA, hP, KP, KQ, hb⟩ := hrel
    have hA16 : A.length ≤ 16 := by have := hAl.out; omega
    have HI' : Hid (Inn A.length L) := by rw [hAl.out]; exact HI
    have KP : Hid (Blk wr gb (pl A.length (eF L) wk) 52) := by rw [hAl.out]; exact KP
    have hgr : gb + 1 < wr.heap.size := KQ.out.lt
    by_cases hlt : k < D.length
    · obtain ⟨b, o, rfl, hp, e1, e2⟩ := (HD.out.later hb.out).get hlt
      obtain ⟨⟨p1, p2⟩, hx⟩ : ∃ x, Hid (D[k]?.getD (0, 0) = x) := ⟨_, rfl⟩
      rw [hx.out] at e1 e2
      have HSt : Hid (plG L wk A (D.drop k) = if (p1, p2) ∈ mvs L wk A then plG L wk (doM A (p1, p2)) (D.drop (k + 1)) else none) := plG_step (L := L) (wk := wk) (A := A) hlt hx.out
      have t0 : decide ((k : Int) < (D.length : Int)) = true := by simp; omega
      have kI : (k : Int) < (D.length : Int) := by omega
      have km := Blk.new wr #[.int .i64 p1, .int .i64 p2] 33
      have KM : Hid (Blk (wr.alloc (.cells #[.int .i64 p1, .int .i64 p2] 33)) wr.heap.size #[.int .i64 p1, .int .i64 p2] 33) := km
      have KP3 : Hid (Blk (wr.alloc (.cells #[.int .i64 p1, .int .i64 p2] 33)) gb (pl A.length (eF L) wk) 52) := KP.out.alloc _
      have KQ3 : Hid (Blk (wr.alloc (.cells #[.int .i64 p1, .int .i64 p2] 33)) (gb + 1) #[.int .u16 (nb (fB A)), .int .u16 (nb (fD A))] 56) := KQ.out.alloc _
      have L3 : Hid (Below w.heap.size w (wr.alloc (.cells #[.int .i64 p1, .int .i64 p2] 33))) := bl_alloc hb.out _
      clear km
      go_wp2_with fail
      obtain ⟨Z, hZ⟩ : ∃ Z, wr.alloc (.cells #[.int .i64 p1, .int .i64 p2] 33) = Z := ⟨_, rfl⟩
      rw [hZ] at KM KP3 KQ3 L3 ⊢
      obtain ⟨mb, hmb⟩ : ∃ mb, wr.heap.size = mb := ⟨_, rfl⟩
      rw [hmb] at KM hgr ⊢
      clear hZ hmb e1 e2 hp KP KQ hb
      refine wp_region_held_drew (S := fun W => Blk W gb (pl A.length (eF L) wk) 52 ∧ Blk W (gb + 1) #[.int .u16 (nb (fB A)), .int .u16 (nb (fD A))] 56 ∧ Blk W mb #[.int .i64 p1, .int .i64 p2] 33) (by kernel_rfl) ?_ (fun hHeld => ?_)
      · exact ⟨KP3.out, KQ3.out, KM.out⟩
      refine wpAnyH_one (i := 0) (d := 30) (v := .agg (pl A.length (eF L) wk)) rfl rfl (by kernel_rfl) (by kernel_rfl) (by kernel_rfl) (fun _ _ _ h => h) (by rfl) (by assumption) ?_ ?_
      · intro w hSw; exact run_load rfl rfl (load_pl _ _ _ _ _ hSw.1)
      simp only [List.foldl, Act.put, List.setIfInBounds_toArray, List.set_cons_zero, List.set_cons_succ]
      refine wpAnyH_one (i := 1) (d := 31) (v := .agg #[.int .u16 (nb (fB A)), .int .u16 (nb (fD A))]) rfl rfl (by kernel_rfl) (by kernel_rfl) (by kernel_rfl) (fun _ _ _ h => h) (by rfl) (by assumption) ?_ ?_
      · intro w hSw; exact run_load rfl rfl (load_two hSw.2.1)
      simp only [List.foldl, Act.put, List.setIfInBounds_toArray, List.set_cons_zero, List.set_cons_succ]
      refine wpAnyH_one (i := 3) (d := 33) (v := .agg #[.int .i64 p1, .int .i64 p2]) rfl rfl (by kernel_rfl) (by kernel_rfl) (by kernel_rfl) (fun _ _ _ h => h) (by rfl) (by assumption) ?_ ?_
      · intro w hSw; exact run_load rfl rfl (load_mv hSw.2.2)
      simp only [List.foldl, Act.put, List.setIfInBounds_toArray, List.set_cons_zero, List.set_cons_succ]
      refine wpAnyH_ready (rs := [2]) (by kernel_rfl) (by simp) ?_
      refine AllReadyH.cons rfl (fun K hK => ?_) AllReadyH.nil
      go_simp
      refine (moves_any wk L A _ (HT.out.later (bl_trans L3.out (bl_drew (Below.refl _ _)))) hTA.out hA16 HI'.out).mono ?_
      rintro z w4 ⟨⟨v, rfl, hM⟩, hb4⟩
      have b4 : Below Z.heap.size Z w4 := bl_trans (bl_drew (Below.refl _ _)) hb4
      have hlM := mvs_len L wk A
      obtain ⟨M, hMM⟩ : ∃ M, Hid (mvs L wk A = M) := ⟨_, rfl⟩
      rw [hMM.out] at hM HSt hlM
      obtain ⟨sv, cv, e⟩ := hM.shape
      subst e
      have hME : Hid (Eds w4 sv M) := hM.eds
      have KM4 : Hid (Blk w4 mb #[.int .i64 p1, .int .i64 p2] 33) := KM.out.later b4
      have KP4 : Hid (Blk w4 gb (pl A.length (eF L) wk) 52) := KP3.out.later b4
      have KQ4 : Hid (Blk w4 (gb + 1) #[.int .u16 (nb (fB A)), .int .u16 (nb (fD A))] 56) := KQ3.out.later b4
      have L4 : Hid (Below w.heap.size w w4) := bl_trans L3.out b4
      clear hM hb4 b4 KM KP3 KQ3 L3
      refine hK.out _ _ ⟨KP4.out, KQ4.out, KM4.out⟩ (fun hHeld => ?_)
      clear hK K
      try simp only [List.foldl, Act.put, List.setIfInBounds_toArray, List.set_cons_zero, List.set_cons_succ]
      refine wpAnyH_ready (rs := [4]) (by kernel_rfl) (by simp) ?_
      refine AllReadyH.cons rfl (fun K hK => ?_) AllReadyH.nil
      go_simp
      refine (containsMv_any sv cv M p1 p2 _ hME.out (by omega)).mono ?_
      rintro z w5 ⟨rfl, hb5⟩
      have KM5 : Hid (Blk w5 mb #[.int .i64 p1, .int .i64 p2] 33) := KM4.out.later hb5
      have KP5 : Hid (Blk w5 gb (pl A.length (eF L) wk) 52) := KP4.out.later hb5
      have KQ5 : Hid (Blk w5 (gb + 1) #[.int .u16 (nb (fB A)), .int .u16 (nb (fD A))] 56) := KQ4.out.later hb5
      have L5 : Hid (Below w.heap.size w w5) := bl_trans L4.out hb5
      clear hb5 KM4 KP4 KQ4 L4 hME
      refine hK.out _ _ ⟨KP5.out, KQ5.out, KM5.out⟩ (fun hHeld => ?_)
      clear hK K
      try simp only [List.foldl, Act.put, List.setIfInBounds_toArray, List.set_cons_zero, List.set_cons_succ]
      refine wpAnyH_one (i := 5) (d := 35) (v := ?_) rfl rfl (by kernel_rfl) (by kernel_rfl) (by kernel_rfl) (fun _ _ _ h => h) (by rfl) (by assumption) ?_ ?_
      rotate_left 1
      · intro w hSw; (try dsimp only at hSw); clear hSw; go_simp <;> with_reducible rfl
      simp only [List.foldl, Act.put, List.setIfInBounds_toArray, List.set_cons_zero, List.set_cons_succ]
      refine wpAnyH_done (by kernel_rfl) ?_ _
      by_cases hmem : (p1, p2) ∈ M
      · have hmem2 := hmem
        rw [← hMM.out] at hmem2
        obtain ⟨x, hxl, hcase⟩ := mem_mvs hmem2
        have hp2 : p2 = (x : Int) := by
          rcases hcase with ⟨e, _⟩ | ⟨e, _⟩
          · exact (Prod.mk.inj e).2
          · exact (Prod.mk.inj e).2
        have hc2 : (p1 = 1 ∧ A.getD x 0 = 1) ∨ (p1 = 2 ∧ A.getD x 0 = 0) := by
          rcases hcase with ⟨e, h⟩ | ⟨e, h⟩
          · exact Or.inl ⟨(Prod.mk.inj e).1, h⟩
          · exact Or.inr ⟨(Prod.mk.inj e).1, h⟩
        subst hp2
        have hnext : Hid (plG L wk (List.replicate m 0) D = plG L wk (doM A (p1, (x : Int))) (D.drop (k + 1))) := by
          rw [hP.out, HSt.out, if_pos hmem]; rfl
        have hT' : Hid (Thr (doM A (p1, (x : Int)))) := doM_thr hTA.out _
        have hl' : Hid ((doM A (p1, (x : Int))).length = m) := by rw [doM_len]; exact hAl
        have nB := next_B hxl hc2
        have nD := next_D hxl hc2
        have tm : decide ((p1, (x : Int)) ∈ M) = true := by simp [hmem]
        rw [tm]
        have KP6 : Hid (Blk w5 gb (pl m (eF L) wk) 52) := by rw [← hAl.out]; exact KP5
        clear hmem hmem2 hcase hc2 HSt hP tm KP5
        obtain ⟨y0, y1, y2⟩ := KM5.out.two
        obtain ⟨x0, x1, x2⟩ := KQ5.out.two
        go_wp2_with fail
        refine (behind_any (fB A) (fD A) p1 x (by omega) _).mono ?_
        rintro e w6 ⟨rfl, hb6⟩
        rw [nB, nD]
        have KQ6 : Blk w6 (gb + 1) #[.int .u16 (nb (fB A)), .int .u16 (nb (fD A))] 56 := KQ5.out.later hb6
        have KP7 : Blk w6 gb (pl m (eF L) wk) 52 := KP6.out.later hb6
        have L6 : Below w.heap.size w w6 := bl_trans L5.out hb6
        obtain ⟨vB, hvB⟩ : ∃ v, nb (fB (doM A (p1, (x : Int)))) = v := ⟨_, rfl⟩
        obtain ⟨vD, hvD⟩ : ∃ v, nb (fD (doM A (p1, (x : Int)))) = v := ⟨_, rfl⟩
        rw [hvB, hvD]
        have KQ8 : Hid (Blk ((w6.setCell ⟨gb + 1, 0, none⟩ (.int .u16 vB)).setCell ⟨gb + 1, 1, none⟩ (.int .u16 vD)) (gb + 1) #[.int .u16 vB, .int .u16 vD] 56) := (KQ6.set 0 (.int .u16 vB)).set 1 (.int .u16 vD)
        have KP8 : Hid (Blk ((w6.setCell ⟨gb + 1, 0, none⟩ (.int .u16 vB)).setCell ⟨gb + 1, 1, none⟩ (.int .u16 vD)) gb (pl m (eF L) wk) 52) := (KP7.other (by omega) _ _).other (by omega) _ _
        have L8 : Hid (Below w.heap.size w ((w6.setCell ⟨gb + 1, 0, none⟩ (.int .u16 vB)).setCell ⟨gb + 1, 1, none⟩ (.int .u16 vD))) := (L6.setCell (by simp; omega) _).setCell (by simp; omega) _
        clear KP7 L6 KP6 KQ5 KM5 L5 y0 y1 y2 x0 x1 x2 nB nD
        obtain ⟨x0, x1, x2⟩ := KQ6.two
        go_wp2_with fail
        go_roundw
        case rel => exact ⟨k + 1, doM A (p1, (x : Int)), by omega, by go_num, hl', hT', hnext, KP8, by rw [hvB, hvD]; exact KQ8, L8⟩
        case measure => simp [intOf]; omega
      · have hnone : Hid (plB m L wk D = none) := by rw [HA.out, hP.out, HSt.out, if_neg hmem]; rfl
        have tm : decide ((p1, p2) ∈ M) = false := by simp [hmem]
        rw [tm]
        clear hmem HSt hP tm
        go_wp2_with fail
        refine bodyPost_ret (v := .tuple #[.slice none 0 0, .bool false]) (by simp [results, Tryd.results7]) rfl ?_
        rw [hnone.out]; exact PlS.none L5.out
    · have hk' : k = D.length := by omega
      subst hk'
      have t0 : decide ((D.length : Int) < (D.length : Int)) = false := by simp
      have hfin : Hid (plB m L wk D = some (mvs L wk A)) := by
        rw [HA.out, hP.out, List.drop_length]; rfl
      have hbs := hb.out.size
      go_wp2_with (first
        | refine wpList_load_row rfl 52 (.tmp 10) rfl gb rfl _ _ _ _ KP.out Tryd.underlying52 rfl (by rw [Tryd.infoPl, pl_size]) ?_
        | refine wpList_load_row rfl 56 (.tmp 12) rfl (gb + 1) rfl _ _ _ _ KQ.out Tryd.underlying56 rfl (by rw [Tryd.infoPr2]; rfl) ?_
        | (go_at_call 22; refine (moves_any wk L A _ (HT.out.later hb.out) hTA.out hA16 HI'.out).mono ?_; rintro e w4 ⟨⟨v, rfl, hM⟩, hb4⟩))
      refine bodyPost_ret (v := .tuple #[v, .bool true]) (by simp [results, Tryd.results7]) rfl ?_
      rw [hfin.out]
      exact ⟨v, rfl, hM.mono hbs, bl_trans hb.out hb4⟩
end Go.Proofs.YtedobocaagdjfaaDoor
