import Derived.Test.YtbgeobpdojmdaaaGreatSq20
import Derived.Test.YtbgeobpdojmdaaaGreatSq15
namespace Go.Proofs.YtbgeobpdojmdaaaGreat
open Go.RowKit Go.Maps Go.WideMaps
set_option linter.unusedVariables false
set_option linter.unusedSimpArgs false
set_option maxRecDepth 100000
theorem all_false {L : List V4} {f : V4 → Bool} {k : Nat} {v : V4} (h : L[k]? = some v) (hf : f v = false) : L.all f = false := by
 rw [List.all_eq_false]
 exact ⟨v, List.mem_of_getElem? h, by simp [hf]⟩
theorem all_true {L : List V4} {f : V4 → Bool} (h : ∀ (j : Nat) v, L[j]? = some v → f v = true) : L.all f = true := by
 rw [List.all_eq_true]
 intro v hv
 obtain ⟨j, hj, rfl⟩ := List.getElem_of_mem hv
 exact h j _ (List.getElem?_eq_getElem hj)
set_option maxHeartbeats 4000000 in
theorem tableOk_any (s1 s2 s3 : Option Addr) (c1 c2 c3 : Nat) (A B C : List (ByteArray × Int)) (t1 t2 t3 : Option Addr) (d1 d2 d3 : Nat) (t : Tab) (Bs : Nat) (w : World) (hA : Decls w s1 A) (h1 : Els 1 cInt w Bs t1 t.cols) (h3 : Els 1 cVals w Bs t3 t.cells) (l1 : A.length ≤ 1048576) (e1 : t.cols.length ≤ 1048576) (e2 : t.rows.length ≤ 1048576) (e3 : t.cells.length ≤ 1048576) (e4 : ∀ (j : Nat) L, t.cells[j]? = some L → L.length ≤ 1048576) :
  Calls Tryz.prog 99 #[.agg #[.slice s1 A.length c1, .slice s2 B.length c2, .slice s3 C.length c3], .agg #[.slice t1 t.cols.length d1, .slice t2 t.rows.length d2, .slice t3 t.cells.length d3]] w fun e w' => e = .returned (.bool (tabB A t)) ∧ Below w.heap.size w w' := by
 have hal := alloc_old
 have haf := alloc_oldf
 obtain ⟨k0, k1, L0⟩ := boxTwo w #[.slice s1 A.length c1, .slice s2 B.length c2, .slice s3 C.length c3] #[.slice t1 t.cols.length d1, .slice t2 t.rows.length d2, .slice t3 t.cells.length d3] 47 119
 obtain ⟨x0, x1, x2, x3⟩ := k0.three'
 obtain ⟨y0, y1, y2, y3⟩ := k1.three'
 by_cases hn : t.cells.length = t.cols.length
 ·
  have t0 : ((t.cells.length : Int) != (t.cols.length : Int)) = false := by simp [hn]
  have HN : Hid (t.cells.length = t.cols.length) := hn
  clear hn; go_enter Tryz.func99, Tryz.ntmps99
  go_wp2_with fail; clear t0 x0 x1 x2 x3 y0 y1 y2 y3; generalize hX : (w.alloc (.cells #[.slice s1 A.length c1, .slice s2 B.length c2, .slice s3 C.length c3] 47)).alloc (.cells #[.slice t1 t.cols.length d1, .slice t2 t.rows.length d2, .slice t3 t.cells.length d3] 119) = X at k0 k1 L0 ⊢
  clear hX; have HA1 : Hid (Decls X s1 A) := hA.later L0
  have H1 : Hid (Els 1 cInt X Bs t1 t.cols) := h1.later cInt_keeps L0
  have H3 : Hid (Els 1 cVals X Bs t3 t.cells) := h3.later cVals_keeps L0
  have HX : Hid (Below w.heap.size w X) := L0
  have K0 : Hid (Blk X w.heap.size #[.slice s1 A.length c1, .slice s2 B.length c2, .slice s3 C.length c3] 47) := k0
  have K1 : Hid (Blk X (w.heap.size + 1) #[.slice t1 t.cols.length d1, .slice t2 t.rows.length d2, .slice t3 t.cells.length d3] 119) := k1
  clear hA h1 h3 L0 k0 k1; go_loopw [19] (fun i wr => ∃ (m : Nat), m ≤ t.cols.length ∧ i = .int .i64 m ∧ Hid (Below X.heap.size X wr ∧ ∀ (j : Nat), j < m → colB A t j = true)) (fun i _ => t.cols.length - (intOf i).toNat)
  case atStart => exact ⟨0, Nat.zero_le _, rfl, Below.refl _ _, fun j hj => absurd hj (Nat.not_lt_zero _)⟩
  obtain ⟨m, hm, rfl, hN⟩ := hrel
  by_cases hlt : m < t.cols.length
  ·
   obtain ⟨c, hc⟩ : ∃ c, t.cols[m]? = some c := ⟨_, List.getElem?_eq_getElem hlt⟩
   obtain ⟨L, hL⟩ : ∃ L, t.cells[m]? = some L := ⟨_, List.getElem?_eq_getElem (by rw [HN.out]; exact hlt)⟩
   have EC : Hid (t.cols.getD m 0 = c) := getD_of hc
   have EL : Hid (t.cells.getD m [] = L) := getD_of hL
   have lL := e4 m L hL
   obtain ⟨ib, io, rfl, i1, i2, i3⟩ := eInt_cells (H1.out.later cInt_keeps hN.out.1) hc
   obtain ⟨vb, vo, rfl, v1, v2, sL, cL, v3, hE⟩ := eVals_cells (H3.out.later cVals_keeps hN.out.1) hL
   have HE : Hid (Els 4 cVal wr Bs sL L) := hE
   clear hE; obtain ⟨x0, x1, x2, x3⟩ := (K0.out.later hN.out.1).three'
   obtain ⟨y0, y1, y2, y3⟩ := (K1.out.later hN.out.1).three'
   have hmc : m < t.cells.length := by rw [HN.out]; exact hlt
   go_wp2_with fail; cases hcm : cmpB A c
   ·
    have HB : Hid (colB A t m = false) := by
     show _ = _
     rw [colB_eq EC.out EL.out, hcm]; rfl
    refine wp_region_held_drew (S := (fun w' => w'.cell? ⟨w.heap.size, 0, none⟩ = some (.slice s1 A.length c1) ∧ w'.cell? ⟨w.heap.size, 1, none⟩ = some (.slice s2 B.length c2) ∧ w'.cell? ⟨w.heap.size, 2, none⟩ = some (.slice s3 C.length c3))) (by kernel_rfl) ?_ (fun hHeld => ?_)
    ·
     exact ⟨x0, x1, x2⟩
    refine wpr 0 24 ?_; simp only [zs]; refine wpr 1 25 ?_; simp only [zs]; refine wpy 2 fun K hK => ?_
    go_simp; refine (compOk_any s1 s2 s3 c1 c2 c3 A B C c _ l1).mono ?_
    rintro e w2 ⟨rfl, hb2⟩
    rw [hcm]
    have hb3 : Below wr.heap.size wr w2 := bl_trans (bl_drew (Below.refl _ _)) hb2
    have hw2 : Hid (Below X.heap.size X w2) := bl_trans hN.out.1 hb3
    have hw3 : Hid (Below wr.heap.size wr w2) := hb3
    have x0 := kcell hb3 x0
    have x1 := kcell hb3 x1
    have x2 := kcell hb3 x2
    clear hb2 hb3; refine hK.out _ _ ?_ (fun hHeld => ?_)
    ·
     exact ⟨x0, x1, x2⟩
    clear hK K; try simp only [zs]
    refine wpr 3 27 ?_; simp only [zs]; refine wpr 4 28 ?_; simp only [zs]; refine wpAnyH_skip (by kernel_rfl) (fun _ _ _ _ h => h) [(5, 29), (6, 30), (7, 31), (8, 32), (9, 33), (10, 34), (11, 35), (12, 36), (13, 37), (14, 38), (15, 39), (16, 40)] 13 _ _ _ (by assumption) (by kernel_rfl) ?_ _ rfl
    simp only [zs]; refine wpr 17 41 ?_; simp only [zs]; refine wpr 18 42 ?_; simp only [zs]; refine wpAnyH_skip (by kernel_rfl) (fun _ _ _ _ h => h) [(19, 43), (20, 44), (21, 45), (22, 46), (23, 47), (24, 48), (25, 49), (26, 50), (27, 51), (28, 52)] 1 _ _ _ (by assumption) (by kernel_rfl) ?_ _ rfl
    simp only [zs]; refine wpr 29 53 ?_; simp only [zs]; refine wpAnyH_done (by kernel_rfl) ?_ _
    go_wp2_with fail; go_ret; exact ⟨ret_bool' (tabB_at hlt HB.out), bl_trans HX.out hw2.out⟩
   obtain ⟨cn, rfl⟩ : ∃ cn : Nat, c = (cn : Int) := ⟨c.toNat, by simp [cmpB] at hcm; omega⟩
   have hcn : cn < A.length := by simp [cmpB] at hcm; omega
   obtain ⟨pb, po, rfl, hpb, e1, e2⟩ := (HA1.out.later hN.out.1).get hcn
   obtain ⟨q2, hq0⟩ : ∃ q2, Hid ((dAt A cn).2 = q2) := ⟨_, rfl⟩
   have HP : Hid ((dAt A (cn : Int).toNat).2 = q2) := by show _ = _; rw [Int.toNat_natCast]; exact hq0.out
   rw [hq0.out] at e2
   have cI0 : (0 : Int) ≤ (cn : Int) := by omega
   have cI1 : (cn : Int) < (A.length : Int) := by omega
   rcases Nat.eq_zero_or_pos m with hz | hz
   ·
    have gz : decide ((m : Int) > 0) = false := by simp; omega
    have HZ : Hid (m = 0) := hz
    have hz0 : ¬ 0 < m := by omega
    clear hz; by_cases hl : L.length = t.rows.length
    ·
     have HQ : Hid (colB A t m = L.all (vofB (dAt A (cn : Int).toNat).2)) := by
      show _ = _
      rw [colB_eq EC.out EL.out, hcm]; simp [HZ.out, hl]
     have hl0 : ((L.length : Int) != (t.rows.length : Int)) = false := by simp [hl]
     refine wp_region_held_drew (S := (fun w' => w'.cell? ⟨w.heap.size, 0, none⟩ = some (.slice (some ⟨pb, po, none⟩) A.length c1) ∧ w'.cell? ⟨w.heap.size, 1, none⟩ = some (.slice s2 B.length c2) ∧ w'.cell? ⟨w.heap.size, 2, none⟩ = some (.slice s3 C.length c3) ∧ w'.cell? ⟨w.heap.size + 1, 1, none⟩ = some (.slice t2 t.rows.length d2) ∧ w'.cell? ⟨w.heap.size + 1, 2, none⟩ = some (.slice (some ⟨vb, vo, none⟩) t.cells.length d3) ∧ w'.cell? ⟨vb, vo + m, none⟩ = some (.slice sL L.length cL))) (by kernel_rfl) ?_ (fun hHeld => ?_)
     ·
      exact ⟨x0, x1, x2, y1, y2, v3⟩
     refine wpr 0 24 ?_; simp only [zs]; refine wpr 1 25 ?_; simp only [zs]; refine wpy 2 fun K hK => ?_
     go_simp; refine (compOk_any (some ⟨pb, po, none⟩) s2 s3 c1 c2 c3 A B C cn _ l1).mono ?_
     rintro e w2 ⟨rfl, hb2⟩
     rw [hcm]
     have hb3 : Below wr.heap.size wr w2 := bl_trans (bl_drew (Below.refl _ _)) hb2
     have hw2 : Hid (Below X.heap.size X w2) := bl_trans hN.out.1 hb3
     have hw3 : Hid (Below wr.heap.size wr w2) := hb3
     have x0 := kcell hb3 x0
     have x1 := kcell hb3 x1
     have x2 := kcell hb3 x2
     have y1 := kcell hb3 y1
     have y2 := kcell hb3 y2
     have v3 := kcell hb3 v3
     clear hb2 hb3; refine hK.out _ _ ?_ (fun hHeld => ?_)
     ·
      exact ⟨x0, x1, x2, y1, y2, v3⟩
     clear hK K; try simp only [zs]
     refine wpr 3 27 ?_; simp only [zs]; refine wpr 4 28 ?_; simp only [zs]; refine wpr 5 29 ?_; simp only [zs]; refine wpr 6 30 ?_; simp only [zs]; refine wpr 7 31 ?_; simp only [zs]; refine wpAnyH_skip (by kernel_rfl) (fun _ _ _ _ h => h) [(8, 32), (9, 33), (10, 34), (11, 35), (12, 36), (13, 37), (14, 38), (15, 39)] 14 _ _ _ (by assumption) (by kernel_rfl) ?_ _ rfl
     simp only [zs]; refine wpr 16 40 ?_; simp only [zs]; refine wpr 17 41 ?_; simp only [zs]; refine wpr 18 42 ?_; simp only [zs]; refine wpr 19 43 ?_; simp only [zs]; refine wpr 20 44 ?_; simp only [zs]; refine wpr 21 45 ?_; simp only [zs]; refine wpr 22 46 ?_; simp only [zs]; refine wpr 23 47 ?_; simp only [zs]; refine wpr 24 48 ?_; simp only [zs]; refine wpr 25 49 ?_; simp only [zs]; refine wpr 26 50 ?_
     simp only [zs]; refine wpr 27 51 ?_; simp only [zs]; refine wpr 28 52 ?_; simp only [zs]; refine wpr 29 53 ?_; simp only [zs]; refine wpAnyH_done (by kernel_rfl) ?_ _
     go_wp2_with fail; have HW : Hid (w2.cell? ⟨w.heap.size, 0, none⟩ = some (.slice (some ⟨pb, po, none⟩) A.length c1) ∧ w2.cell? ⟨pb, po + cn * 2 + 1, none⟩ = some (.int .i64 q2)) := ⟨x0, kcell hw3.out e2⟩
     have HE2 : Hid (Els 4 cVal w2 Bs sL L) := HE.out.later cVal_keeps hw3.out
     clear x0 x1 x2 x3 y0 y1 y2 y3 e1 e2 v3 i3; go_loopw [60] (fun i wr => ∃ (k : Nat), k ≤ L.length ∧ i = .int .i64 k ∧ Hid (Below w2.heap.size w2 wr ∧ ∀ (j : Nat) v, j < k → L[j]? = some v → vofB q2 v = true)) (fun i _ => L.length - (intOf i).toNat)
     case atStart => exact ⟨0, Nat.zero_le _, rfl, Below.refl _ _, fun j v hj => absurd hj (Nat.not_lt_zero _)⟩
     obtain ⟨k, hk, rfl, hNi⟩ := hrel
     by_cases hlk : k < L.length
     ·
      obtain ⟨v, hv⟩ := get_some hlk
      obtain ⟨qb, qo, rfl, hq1, hq2, hok, f1, f2, f3, f4⟩ := eVal_cells (HE2.out.later cVal_keeps hNi.out.1) hv
      have x0 := kcell hNi.out.1 HW.out.1
      have e2 := kcell hNi.out.1 HW.out.2
      have HV : Hid (L[k]? = some v) := hv
      clear hv hok; go_wp2_with fail; have KD := Blk.new wr #[.int .i64 v.1, .int .i64 v.2.1, .float .f64 v.2.2.1, .float .f64 v.2.2.2] 75
      obtain ⟨g1, g2, g3, g4, _⟩ := KD.four'
      have hY1 : Below wr.heap.size wr (wr.alloc (.cells #[.int .i64 v.1, .int .i64 v.2.1, .float .f64 v.2.2.1, .float .f64 v.2.2.2] 75)) := bl_alloc (Below.refl _ _) _
      have hY0 : Hid (Below w2.heap.size w2 (wr.alloc (.cells #[.int .i64 v.1, .int .i64 v.2.1, .float .f64 v.2.2.1, .float .f64 v.2.2.2] 75))) := bl_trans hNi.out.1 hY1
      have x0 := kcell hY1 x0
      have e2 := kcell hY1 e2
      generalize hY : wr.alloc (.cells #[.int .i64 v.1, .int .i64 v.2.1, .float .f64 v.2.2.1, .float .f64 v.2.2.2] 75) = Y at KD x0 e2 g1 g2 g3 g4 hY0 ⊢
      clear hY hY1 f1 f2 f3 f4 KD; go_region_held3 (fun w' => w'.cell? ⟨w.heap.size, 0, none⟩ = some (.slice (some ⟨pb, po, none⟩) A.length c1) ∧ w'.cell? ⟨pb, po + cn * 2 + 1, none⟩ = some (.int .i64 q2) ∧ w'.cell? ⟨wr.heap.size, 0, none⟩ = some (.int .i64 v.1) ∧ w'.cell? ⟨wr.heap.size, 1, none⟩ = some (.int .i64 v.2.1) ∧ w'.cell? ⟨wr.heap.size, 2, none⟩ = some (.float .f64 v.2.2.1) ∧ w'.cell? ⟨wr.heap.size, 3, none⟩ = some (.float .f64 v.2.2.2)) (simp [x0, e2, g1, g2, g3, g4]) (first | (go_at_call 107; refine (valOf_any q2 v _).mono ?_; rintro e w4 ⟨rfl, hb4⟩; have hw4 : Hid (Below w2.heap.size w2 w4) := bl_trans (bl_drew hY0.out) hb4; have hb5 : Below Y.heap.size Y w4 := bl_trans (bl_drew (Below.refl _ _)) hb4; have x0 := kcell hb5 x0; have e2 := kcell hb5 e2; have g1 := kcell hb5 g1; have g2 := kcell hb5 g2; have g3 := kcell hb5 g3; have g4 := kcell hb5 g4))
      cases hvo : vofB q2 v
      ·
       have HB : Hid (colB A t m = false) := by
        show _ = _
        rw [HQ.out]
        exact all_false HV.out (by rw [HP.out]; exact hvo)
       go_wp2_with fail; go_ret; exact ⟨ret_bool' (tabB_at hlt HB.out), bl_trans HX.out (bl_trans hw2.out hw4.out)⟩
      go_wp2_with fail; go_roundw
      case rel => exact ⟨k + 1, by omega, by go_num, hw4.out, fun j u hj hu => by
       by_cases hjm : j = k
       ·
        subst hjm
        rw [HV.out] at hu
        cases hu
        exact hvo
       exact hNi.out.2 j u (by omega) hu⟩
      case measure => simp [intOf]; omega
     have hk' : k = L.length := by omega
     subst hk'
     have HB : Hid (colB A t m = true) := by
      show _ = _
      rw [HQ.out]
      exact all_true (fun j u hu => by rw [HP.out]; exact hNi.out.2 j u (List.getElem?_eq_some_iff.mp hu).1 hu)
     go_wp2_with fail; go_roundw
     case rel => exact ⟨m + 1, by omega, by go_num, bl_trans hw2.out hNi.out.1, fun j hj => by
      by_cases hjm : j = m
      ·
       subst hjm; exact HB.out
      exact hN.out.2 j (by omega)⟩
     case measure => simp [intOf]; omega
    have HB : Hid (colB A t m = false) := by
     show _ = _
     rw [colB_eq EC.out EL.out]; simp [hl]
    have hl0 : ((L.length : Int) != (t.rows.length : Int)) = true := by simp; omega
    refine wp_region_held_drew (S := (fun w' => w'.cell? ⟨w.heap.size, 0, none⟩ = some (.slice (some ⟨pb, po, none⟩) A.length c1) ∧ w'.cell? ⟨w.heap.size, 1, none⟩ = some (.slice s2 B.length c2) ∧ w'.cell? ⟨w.heap.size, 2, none⟩ = some (.slice s3 C.length c3) ∧ w'.cell? ⟨w.heap.size + 1, 1, none⟩ = some (.slice t2 t.rows.length d2) ∧ w'.cell? ⟨w.heap.size + 1, 2, none⟩ = some (.slice (some ⟨vb, vo, none⟩) t.cells.length d3) ∧ w'.cell? ⟨vb, vo + m, none⟩ = some (.slice sL L.length cL))) (by kernel_rfl) ?_ (fun hHeld => ?_)
    ·
     exact ⟨x0, x1, x2, y1, y2, v3⟩
    refine wpr 0 24 ?_; simp only [zs]; refine wpr 1 25 ?_; simp only [zs]; refine wpy 2 fun K hK => ?_
    go_simp; refine (compOk_any (some ⟨pb, po, none⟩) s2 s3 c1 c2 c3 A B C cn _ l1).mono ?_
    rintro e w2 ⟨rfl, hb2⟩
    rw [hcm]
    have hb3 : Below wr.heap.size wr w2 := bl_trans (bl_drew (Below.refl _ _)) hb2
    have hw2 : Hid (Below X.heap.size X w2) := bl_trans hN.out.1 hb3
    have hw3 : Hid (Below wr.heap.size wr w2) := hb3
    have x0 := kcell hb3 x0
    have x1 := kcell hb3 x1
    have x2 := kcell hb3 x2
    have y1 := kcell hb3 y1
    have y2 := kcell hb3 y2
    have v3 := kcell hb3 v3
    clear hb2 hb3; refine hK.out _ _ ?_ (fun hHeld => ?_)
    ·
     exact ⟨x0, x1, x2, y1, y2, v3⟩
    clear hK K; try simp only [zs]
    refine wpr 3 27 ?_; simp only [zs]; refine wpr 4 28 ?_; simp only [zs]; refine wpr 5 29 ?_; simp only [zs]; refine wpr 6 30 ?_; simp only [zs]; refine wpr 7 31 ?_; simp only [zs]; refine wpAnyH_skip (by kernel_rfl) (fun _ _ _ _ h => h) [(8, 32), (9, 33), (10, 34), (11, 35), (12, 36), (13, 37), (14, 38), (15, 39)] 14 _ _ _ (by assumption) (by kernel_rfl) ?_ _ rfl
    simp only [zs]; refine wpr 16 40 ?_; simp only [zs]; refine wpr 17 41 ?_; simp only [zs]; refine wpr 18 42 ?_; simp only [zs]; refine wpr 19 43 ?_; simp only [zs]; refine wpr 20 44 ?_; simp only [zs]; refine wpr 21 45 ?_; simp only [zs]; refine wpr 22 46 ?_; simp only [zs]; refine wpr 23 47 ?_; simp only [zs]; refine wpr 24 48 ?_; simp only [zs]; refine wpr 25 49 ?_; simp only [zs]; refine wpr 26 50 ?_
    simp only [zs]; refine wpr 27 51 ?_; simp only [zs]; refine wpr 28 52 ?_; simp only [zs]; refine wpr 29 53 ?_; simp only [zs]; refine wpAnyH_done (by kernel_rfl) ?_ _
    go_wp2_with fail; go_ret; exact ⟨ret_bool' (tabB_at hlt HB.out), bl_trans HX.out hw2.out⟩
   have gz : decide ((m : Int) > 0) = true := by simp; omega
   obtain ⟨p, hp⟩ : ∃ p, t.cols[m - 1]? = some p := ⟨_, List.getElem?_eq_getElem (by omega)⟩
   have EP : Hid (t.cols.getD (m - 1) 0 = p) := getD_of hp
   obtain ⟨ib', io', eb, _, _, i4⟩ := eInt_cells (H1.out.later cInt_keeps hN.out.1) hp
   obtain ⟨rfl, rfl⟩ : ib = ib' ∧ io = io' := by cases eb; exact ⟨rfl, rfl⟩
   clear eb; have hwr : IntKind.i64.wrap ((m : Int) - 1) = ((m - 1 : Nat) : Int) := by rw [IntKind.wrap_i64]; omega
   have hz0 : ¬ m = 0 := by omega
   have hz1 : m - 1 < t.cols.length := by omega
   have hz2 : (0 : Int) ≤ ((m - 1 : Nat) : Int) := by omega
   have hz3 : ((m - 1 : Nat) : Int) < (t.cols.length : Int) := by omega
   by_cases hpc : (cn : Int) ≤ p
   ·
    have HB : Hid (colB A t m = false) := by
     show _ = _
     rw [colB_eq EC.out EL.out, EP.out]; simp [hz0]; omega
    have gp : decide ((cn : Int) ≤ p) = true := by simp; omega
    refine wp_region_held_drew (S := (fun w' => w'.cell? ⟨w.heap.size, 0, none⟩ = some (.slice (some ⟨pb, po, none⟩) A.length c1) ∧ w'.cell? ⟨w.heap.size, 1, none⟩ = some (.slice s2 B.length c2) ∧ w'.cell? ⟨w.heap.size, 2, none⟩ = some (.slice s3 C.length c3) ∧ w'.cell? ⟨w.heap.size + 1, 0, none⟩ = some (.slice (some ⟨ib, io, none⟩) t.cols.length d1) ∧ w'.cell? ⟨ib, io + (m - 1), none⟩ = some (.int .i64 p))) (by kernel_rfl) ?_ (fun hHeld => ?_)
    ·
     exact ⟨x0, x1, x2, y0, i4⟩
    refine wpr 0 24 ?_; simp only [zs]; refine wpr 1 25 ?_; simp only [zs]; refine wpy 2 fun K hK => ?_
    go_simp; refine (compOk_any (some ⟨pb, po, none⟩) s2 s3 c1 c2 c3 A B C cn _ l1).mono ?_
    rintro e w2 ⟨rfl, hb2⟩
    rw [hcm]
    have hb3 : Below wr.heap.size wr w2 := bl_trans (bl_drew (Below.refl _ _)) hb2
    have hw2 : Hid (Below X.heap.size X w2) := bl_trans hN.out.1 hb3
    have hw3 : Hid (Below wr.heap.size wr w2) := hb3
    have x0 := kcell hb3 x0
    have x1 := kcell hb3 x1
    have x2 := kcell hb3 x2
    have y0 := kcell hb3 y0
    have i4 := kcell hb3 i4
    clear hb2 hb3; refine hK.out _ _ ?_ (fun hHeld => ?_)
    ·
     exact ⟨x0, x1, x2, y0, i4⟩
    clear hK K; try simp only [zs]
    refine wpr 3 27 ?_; simp only [zs]; refine wpr 4 28 ?_; simp only [zs]; refine wpr 5 29 ?_; simp only [zs]; refine wpr 6 30 ?_; simp only [zs]; refine wpr 7 31 ?_; simp only [zs]; refine wpr 8 32 ?_; simp only [zs]; refine wpr 9 33 ?_; simp only [zs]; refine wpr 10 34 ?_; simp only [zs]; refine wpr 11 35 ?_; simp only [zs]; refine wpr 12 36 ?_; simp only [zs]; refine wpr 13 37 ?_; simp only [zs]
    refine wpr 14 38 ?_; simp only [zs]; refine wpr 15 39 ?_; simp only [zs]; refine wpr 16 40 ?_; simp only [zs]; refine wpr 17 41 ?_; simp only [zs]; refine wpr 18 42 ?_; simp only [zs]; refine wpAnyH_skip (by kernel_rfl) (fun _ _ _ _ h => h) [(19, 43), (20, 44), (21, 45), (22, 46), (23, 47), (24, 48), (25, 49), (26, 50), (27, 51), (28, 52)] 1 _ _ _ (by assumption) (by kernel_rfl) ?_ _ rfl
    simp only [zs]; refine wpr 29 53 ?_; simp only [zs]; refine wpAnyH_done (by kernel_rfl) ?_ _
    go_wp2_with fail; go_ret; exact ⟨ret_bool' (tabB_at hlt HB.out), bl_trans HX.out hw2.out⟩
   have gp : decide ((cn : Int) ≤ p) = false := by simp; omega
   by_cases hl : L.length = t.rows.length
   ·
    have HQ : Hid (colB A t m = L.all (vofB (dAt A (cn : Int).toNat).2)) := by
     show _ = _
     have hpc' : p < (cn : Int) := by omega
     rw [colB_eq EC.out EL.out, EP.out, hcm]; simp [hpc', hl]
    have hl0 : ((L.length : Int) != (t.rows.length : Int)) = false := by simp [hl]
    refine wp_region_held_drew (S := (fun w' => w'.cell? ⟨w.heap.size, 0, none⟩ = some (.slice (some ⟨pb, po, none⟩) A.length c1) ∧ w'.cell? ⟨w.heap.size, 1, none⟩ = some (.slice s2 B.length c2) ∧ w'.cell? ⟨w.heap.size, 2, none⟩ = some (.slice s3 C.length c3) ∧ w'.cell? ⟨w.heap.size + 1, 0, none⟩ = some (.slice (some ⟨ib, io, none⟩) t.cols.length d1) ∧ w'.cell? ⟨w.heap.size + 1, 1, none⟩ = some (.slice t2 t.rows.length d2) ∧ w'.cell? ⟨w.heap.size + 1, 2, none⟩ = some (.slice (some ⟨vb, vo, none⟩) t.cells.length d3) ∧ w'.cell? ⟨vb, vo + m, none⟩ = some (.slice sL L.length cL) ∧ w'.cell? ⟨ib, io + (m - 1), none⟩ = some (.int .i64 p))) (by kernel_rfl) ?_ (fun hHeld => ?_)
    ·
     exact ⟨x0, x1, x2, y0, y1, y2, v3, i4⟩
    refine wpr 0 24 ?_; simp only [zs]; refine wpr 1 25 ?_; simp only [zs]; refine wpy 2 fun K hK => ?_
    go_simp; refine (compOk_any (some ⟨pb, po, none⟩) s2 s3 c1 c2 c3 A B C cn _ l1).mono ?_
    rintro e w2 ⟨rfl, hb2⟩
    rw [hcm]
    have hb3 : Below wr.heap.size wr w2 := bl_trans (bl_drew (Below.refl _ _)) hb2
    have hw2 : Hid (Below X.heap.size X w2) := bl_trans hN.out.1 hb3
    have hw3 : Hid (Below wr.heap.size wr w2) := hb3
    have x0 := kcell hb3 x0
    have x1 := kcell hb3 x1
    have x2 := kcell hb3 x2
    have y0 := kcell hb3 y0
    have y1 := kcell hb3 y1
    have y2 := kcell hb3 y2
    have v3 := kcell hb3 v3
    have i4 := kcell hb3 i4
    clear hb2 hb3; refine hK.out _ _ ?_ (fun hHeld => ?_)
    ·
     exact ⟨x0, x1, x2, y0, y1, y2, v3, i4⟩
    clear hK K; try simp only [zs]
    refine wpr 3 27 ?_; simp only [zs]; refine wpr 4 28 ?_; simp only [zs]; refine wpr 5 29 ?_; simp only [zs]; refine wpr 6 30 ?_; simp only [zs]; refine wpr 7 31 ?_; simp only [zs]; refine wpr 8 32 ?_; simp only [zs]; refine wpr 9 33 ?_; simp only [zs]; refine wpr 10 34 ?_; simp only [zs]; refine wpr 11 35 ?_; simp only [zs]; refine wpr 12 36 ?_; simp only [zs]; refine wpr 13 37 ?_; simp only [zs]
    refine wpr 14 38 ?_; simp only [zs]; refine wpr 15 39 ?_; simp only [zs]; refine wpr 16 40 ?_; simp only [zs]; refine wpr 17 41 ?_; simp only [zs]; refine wpr 18 42 ?_; simp only [zs]; refine wpr 19 43 ?_; simp only [zs]; refine wpr 20 44 ?_; simp only [zs]; refine wpr 21 45 ?_; simp only [zs]; refine wpr 22 46 ?_; simp only [zs]; refine wpr 23 47 ?_; simp only [zs]; refine wpr 24 48 ?_; simp only [zs]
    refine wpr 25 49 ?_; simp only [zs]; refine wpr 26 50 ?_; simp only [zs]; refine wpr 27 51 ?_; simp only [zs]; refine wpr 28 52 ?_; simp only [zs]; refine wpr 29 53 ?_; simp only [zs]; refine wpAnyH_done (by kernel_rfl) ?_ _
    go_wp2_with fail; have HW : Hid (w2.cell? ⟨w.heap.size, 0, none⟩ = some (.slice (some ⟨pb, po, none⟩) A.length c1) ∧ w2.cell? ⟨pb, po + cn * 2 + 1, none⟩ = some (.int .i64 q2)) := ⟨x0, kcell hw3.out e2⟩
    have HE2 : Hid (Els 4 cVal w2 Bs sL L) := HE.out.later cVal_keeps hw3.out
    clear x0 x1 x2 x3 y0 y1 y2 y3 e1 e2 v3 i3 i4; go_loopw [60] (fun i wr => ∃ (k : Nat), k ≤ L.length ∧ i = .int .i64 k ∧ Hid (Below w2.heap.size w2 wr ∧ ∀ (j : Nat) v, j < k → L[j]? = some v → vofB q2 v = true)) (fun i _ => L.length - (intOf i).toNat)
    case atStart => exact ⟨0, Nat.zero_le _, rfl, Below.refl _ _, fun j v hj => absurd hj (Nat.not_lt_zero _)⟩
    obtain ⟨k, hk, rfl, hNi⟩ := hrel
    by_cases hlk : k < L.length
    ·
     obtain ⟨v, hv⟩ := get_some hlk
     obtain ⟨qb, qo, rfl, hq1, hq2, hok, f1, f2, f3, f4⟩ := eVal_cells (HE2.out.later cVal_keeps hNi.out.1) hv
     have x0 := kcell hNi.out.1 HW.out.1
     have e2 := kcell hNi.out.1 HW.out.2
     have HV : Hid (L[k]? = some v) := hv
     clear hv hok; go_wp2_with fail; have KD := Blk.new wr #[.int .i64 v.1, .int .i64 v.2.1, .float .f64 v.2.2.1, .float .f64 v.2.2.2] 75
     obtain ⟨g1, g2, g3, g4, _⟩ := KD.four'
     have hY1 : Below wr.heap.size wr (wr.alloc (.cells #[.int .i64 v.1, .int .i64 v.2.1, .float .f64 v.2.2.1, .float .f64 v.2.2.2] 75)) := bl_alloc (Below.refl _ _) _
     have hY0 : Hid (Below w2.heap.size w2 (wr.alloc (.cells #[.int .i64 v.1, .int .i64 v.2.1, .float .f64 v.2.2.1, .float .f64 v.2.2.2] 75))) := bl_trans hNi.out.1 hY1
     have x0 := kcell hY1 x0
     have e2 := kcell hY1 e2
     generalize hY : wr.alloc (.cells #[.int .i64 v.1, .int .i64 v.2.1, .float .f64 v.2.2.1, .float .f64 v.2.2.2] 75) = Y at KD x0 e2 g1 g2 g3 g4 hY0 ⊢
     clear hY hY1 f1 f2 f3 f4 KD; go_region_held3 (fun w' => w'.cell? ⟨w.heap.size, 0, none⟩ = some (.slice (some ⟨pb, po, none⟩) A.length c1) ∧ w'.cell? ⟨pb, po + cn * 2 + 1, none⟩ = some (.int .i64 q2) ∧ w'.cell? ⟨wr.heap.size, 0, none⟩ = some (.int .i64 v.1) ∧ w'.cell? ⟨wr.heap.size, 1, none⟩ = some (.int .i64 v.2.1) ∧ w'.cell? ⟨wr.heap.size, 2, none⟩ = some (.float .f64 v.2.2.1) ∧ w'.cell? ⟨wr.heap.size, 3, none⟩ = some (.float .f64 v.2.2.2)) (simp [x0, e2, g1, g2, g3, g4]) (first | (go_at_call 107; refine (valOf_any q2 v _).mono ?_; rintro e w4 ⟨rfl, hb4⟩; have hw4 : Hid (Below w2.heap.size w2 w4) := bl_trans (bl_drew hY0.out) hb4; have hb5 : Below Y.heap.size Y w4 := bl_trans (bl_drew (Below.refl _ _)) hb4; have x0 := kcell hb5 x0; have e2 := kcell hb5 e2; have g1 := kcell hb5 g1; have g2 := kcell hb5 g2; have g3 := kcell hb5 g3; have g4 := kcell hb5 g4))
     cases hvo : vofB q2 v
     ·
      have HB : Hid (colB A t m = false) := by
       show _ = _
       rw [HQ.out]
       exact all_false HV.out (by rw [HP.out]; exact hvo)
      go_wp2_with fail; go_ret; exact ⟨ret_bool' (tabB_at hlt HB.out), bl_trans HX.out (bl_trans hw2.out hw4.out)⟩
     go_wp2_with fail; go_roundw
     case rel => exact ⟨k + 1, by omega, by go_num, hw4.out, fun j u hj hu => by
      by_cases hjm : j = k
      ·
       subst hjm
       rw [HV.out] at hu
       cases hu
       exact hvo
      exact hNi.out.2 j u (by omega) hu⟩
     case measure => simp [intOf]; omega
    have hk' : k = L.length := by omega
    subst hk'
    have HB : Hid (colB A t m = true) := by
     show _ = _
     rw [HQ.out]
     exact all_true (fun j u hu => by rw [HP.out]; exact hNi.out.2 j u (List.getElem?_eq_some_iff.mp hu).1 hu)
    go_wp2_with fail; go_roundw
    case rel => exact ⟨m + 1, by omega, by go_num, bl_trans hw2.out hNi.out.1, fun j hj => by
     by_cases hjm : j = m
     ·
      subst hjm; exact HB.out
     exact hN.out.2 j (by omega)⟩
    case measure => simp [intOf]; omega
   have HB : Hid (colB A t m = false) := by
    show _ = _
    rw [colB_eq EC.out EL.out]; simp [hl]
   have hl0 : ((L.length : Int) != (t.rows.length : Int)) = true := by simp; omega
   refine wp_region_held_drew (S := (fun w' => w'.cell? ⟨w.heap.size, 0, none⟩ = some (.slice (some ⟨pb, po, none⟩) A.length c1) ∧ w'.cell? ⟨w.heap.size, 1, none⟩ = some (.slice s2 B.length c2) ∧ w'.cell? ⟨w.heap.size, 2, none⟩ = some (.slice s3 C.length c3) ∧ w'.cell? ⟨w.heap.size + 1, 0, none⟩ = some (.slice (some ⟨ib, io, none⟩) t.cols.length d1) ∧ w'.cell? ⟨w.heap.size + 1, 1, none⟩ = some (.slice t2 t.rows.length d2) ∧ w'.cell? ⟨w.heap.size + 1, 2, none⟩ = some (.slice (some ⟨vb, vo, none⟩) t.cells.length d3) ∧ w'.cell? ⟨vb, vo + m, none⟩ = some (.slice sL L.length cL) ∧ w'.cell? ⟨ib, io + (m - 1), none⟩ = some (.int .i64 p))) (by kernel_rfl) ?_ (fun hHeld => ?_)
   ·
    exact ⟨x0, x1, x2, y0, y1, y2, v3, i4⟩
   refine wpr 0 24 ?_; simp only [zs]; refine wpr 1 25 ?_; simp only [zs]; refine wpy 2 fun K hK => ?_
   go_simp; refine (compOk_any (some ⟨pb, po, none⟩) s2 s3 c1 c2 c3 A B C cn _ l1).mono ?_
   rintro e w2 ⟨rfl, hb2⟩
   rw [hcm]
   have hb3 : Below wr.heap.size wr w2 := bl_trans (bl_drew (Below.refl _ _)) hb2
   have hw2 : Hid (Below X.heap.size X w2) := bl_trans hN.out.1 hb3
   have hw3 : Hid (Below wr.heap.size wr w2) := hb3
   have x0 := kcell hb3 x0
   have x1 := kcell hb3 x1
   have x2 := kcell hb3 x2
   have y0 := kcell hb3 y0
   have y1 := kcell hb3 y1
   have y2 := kcell hb3 y2
   have v3 := kcell hb3 v3
   have i4 := kcell hb3 i4
   clear hb2 hb3; refine hK.out _ _ ?_ (fun hHeld => ?_)
   ·
    exact ⟨x0, x1, x2, y0, y1, y2, v3, i4⟩
   clear hK K; try simp only [zs]
   refine wpr 3 27 ?_; simp only [zs]; refine wpr 4 28 ?_; simp only [zs]; refine wpr 5 29 ?_; simp only [zs]; refine wpr 6 30 ?_; simp only [zs]; refine wpr 7 31 ?_; simp only [zs]; refine wpr 8 32 ?_; simp only [zs]; refine wpr 9 33 ?_; simp only [zs]; refine wpr 10 34 ?_; simp only [zs]; refine wpr 11 35 ?_; simp only [zs]; refine wpr 12 36 ?_; simp only [zs]; refine wpr 13 37 ?_; simp only [zs]
   refine wpr 14 38 ?_; simp only [zs]; refine wpr 15 39 ?_; simp only [zs]; refine wpr 16 40 ?_; simp only [zs]; refine wpr 17 41 ?_; simp only [zs]; refine wpr 18 42 ?_; simp only [zs]; refine wpr 19 43 ?_; simp only [zs]; refine wpr 20 44 ?_; simp only [zs]; refine wpr 21 45 ?_; simp only [zs]; refine wpr 22 46 ?_; simp only [zs]; refine wpr 23 47 ?_; simp only [zs]; refine wpr 24 48 ?_; simp only [zs]
   refine wpr 25 49 ?_; simp only [zs]; refine wpr 26 50 ?_; simp only [zs]; refine wpr 27 51 ?_; simp only [zs]; refine wpr 28 52 ?_; simp only [zs]; refine wpr 29 53 ?_; simp only [zs]; refine wpAnyH_done (by kernel_rfl) ?_ _
   go_wp2_with fail; go_ret; exact ⟨ret_bool' (tabB_at hlt HB.out), bl_trans HX.out hw2.out⟩
  have hm' : m = t.cols.length := by omega
  subst hm'
  go_wp2_with fail; go_ret; exact ⟨ret_bool' (tabB_all HN.out (fun j hj => hN.out.2 j hj)), bl_trans HX.out hN.out.1⟩
 have t0 : ((t.cells.length : Int) != (t.cols.length : Int)) = true := by simp; omega
 go_enter Tryz.func99, Tryz.ntmps99
 go_wp2_with fail; go_ret; exact ⟨ret_bool' (tabB_len hn), L0⟩
end Go.Proofs.YtbgeobpdojmdaaaGreat
