import Derived.Test.YtbgeobpdojmdaaaGreatSq28
import Derived.Test.YtbgeobpdojmdaaaGreatSq21
namespace Go.Proofs.YtbgeobpdojmdaaaGreat
open Go.RowKit Go.Maps Go.WideMaps
set_option linter.unusedVariables false
set_option linter.unusedSimpArgs false
set_option maxRecDepth 100000
def scolA (A : List (ByteArray × Int)) (t : Tab) (i : Nat) : Bool := decide ((t.cells.getD i []).length = t.rows.length) && (t.cells.getD i []).all (fitB A (t.cols.getD i 0))
def stabB (A : List (ByteArray × Int)) (t : Tab) : Bool := decide (t.cols.length ≤ 12) && risB t.cols A.length && decide (t.cells.length = t.cols.length) && decide (t.rows.length ≤ 2000) && (List.range t.cells.length).all (scolA A t)
theorem stabB_at {A : List (ByteArray × Int)} {t : Tab} {j : Nat} (hj : j < t.cells.length) (h : scolA A t j = false) : false = stabB A t := by
 cases hs : stabB A t
 ·
  rfl
 simp only [stabB, Bool.and_eq_true, List.all_eq_true, List.mem_range] at hs
 have := hs.2 j hj
 rw [h] at this; cases this
theorem stabB_all {A : List (ByteArray × Int)} {t : Tab} (h1 : t.cols.length ≤ 12) (h2 : risB t.cols A.length = true) (h3 : t.cells.length = t.cols.length) (h4 : t.rows.length ≤ 2000) (h : ∀ (j : Nat), j < t.cells.length → scolA A t j = true) : true = stabB A t := by
 symm
 simp only [stabB, Bool.and_eq_true, decide_eq_true_eq, List.all_eq_true, List.mem_range]
 exact ⟨⟨⟨⟨h1, h2⟩, h3⟩, h4⟩, h⟩
theorem scolA_eq {A : List (ByteArray × Int)} {t : Tab} {j : Nat} {c : Int} {L : List V4} (EC : t.cols.getD j 0 = c) (EL : t.cells.getD j [] = L) : scolA A t j = (decide (L.length = t.rows.length) && L.all (fitB A c)) := by
 unfold scolA
 rw [EC, EL]
set_option maxHeartbeats 8000000 in
theorem l4TableOk_any (s1 s2 s3 : Option Addr) (c1 c2 c3 : Nat) (A B C : List (ByteArray × Int)) (t1 t2 t3 : Option Addr) (d1 d2 d3 : Nat) (t : Tab) (Bs : Nat) (w : World) (hA : Decls w s1 A) (h1 : Els 1 cInt w Bs t1 t.cols) (h3 : Els 1 cVals w Bs t3 t.cells) (l1 : A.length ≤ 1048576) (e1 : t.cols.length ≤ 1048576) (e2 : t.rows.length ≤ 1048576) (e3 : t.cells.length ≤ 1048576) (e4 : ∀ (j : Nat) L, t.cells[j]? = some L → L.length ≤ 1048576) :
  Calls Tryz.prog 56 #[.agg #[.slice s1 A.length c1, .slice s2 B.length c2, .slice s3 C.length c3], .agg #[.slice t1 t.cols.length d1, .slice t2 t.rows.length d2, .slice t3 t.cells.length d3]] w fun e w' => e = .returned (.bool (stabB A t)) ∧ Below w.heap.size w w' := by
 have hal := alloc_old
 have haf := alloc_oldf
 obtain ⟨k0, k1, L0⟩ := boxTwo w #[.slice s1 A.length c1, .slice s2 B.length c2, .slice s3 C.length c3] #[.slice t1 t.cols.length d1, .slice t2 t.rows.length d2, .slice t3 t.cells.length d3] 47 119
 obtain ⟨x0, x1, x2, x3⟩ := k0.three'
 obtain ⟨y0, y1, y2, y3⟩ := k1.three'
 by_cases hc12 : t.cols.length ≤ 12
 ·
  have g0 : decide ((t.cols.length : Int) > 12) = false := by simp; omega
  have g0' : ¬ 12 < t.cols.length := by omega
  go_enter Tryz.func56, Tryz.ntmps56
  go_wp2_with fail; refine (l4Rising_any t1 d1 t.cols Bs A.length _ (h1.later cInt_keeps L0) e1 l1).mono ?_
  rintro e w1 ⟨rfl, hb1⟩
  have L1 := bl_trans L0 hb1
  have k0 := k0.later hb1
  have k1 := k1.later hb1
  clear x0 x1 x2 x3 y0 y1 y2 y3 hb1 L0; obtain ⟨x0, x1, x2, x3⟩ := k0.three'
  obtain ⟨y0, y1, y2, y3⟩ := k1.three'
  cases hri : risB t.cols A.length
  ·
   go_wp2_with fail; go_ret; exact ⟨ret_bool' (by simp [stabB, hri]), L1⟩
  by_cases hn : t.cells.length = t.cols.length
  ·
   have t0 : ((t.cells.length : Int) != (t.cols.length : Int)) = false := by simp [hn]
   have HN : Hid (t.cells.length = t.cols.length) := hn
   clear hn; by_cases hr : t.rows.length ≤ 2000
   ·
    have g1 : decide ((t.rows.length : Int) > 2000) = false := by simp; omega
    have g1' : ¬ 2000 < t.rows.length := by omega
    have HRI : Hid (risB t.cols A.length = true) := hri
    clear hri; go_wp2_with fail; clear t0 g0 g0' g1 g1' x0 x1 x2 x3 y0 y1 y2 y3; obtain ⟨X, hX⟩ : ∃ X, w1 = X := ⟨_, rfl⟩
    rw [hX] at k0 k1 L1 ⊢
    clear hX; have HA1 : Hid (Decls X s1 A) := hA.later L1
    have H1 : Hid (Els 1 cInt X Bs t1 t.cols) := h1.later cInt_keeps L1
    have H3 : Hid (Els 1 cVals X Bs t3 t.cells) := h3.later cVals_keeps L1
    have HX : Hid (Below w.heap.size w X) := L1
    have K0 : Hid (Blk X w.heap.size #[.slice s1 A.length c1, .slice s2 B.length c2, .slice s3 C.length c3] 47) := k0
    have K1 : Hid (Blk X (w.heap.size + 1) #[.slice t1 t.cols.length d1, .slice t2 t.rows.length d2, .slice t3 t.cells.length d3] 119) := k1
    have E4 : Hid (∀ (j : Nat) L, t.cells[j]? = some L → L.length ≤ 1048576) := e4
    clear hA h1 h3 L1 k0 k1 e4; go_loopw [5] (fun i wr => ∃ (m : Nat), m ≤ t.cells.length ∧ i = .int .i64 m ∧ Hid (Below X.heap.size X wr ∧ ∀ (j : Nat), j < m → scolA A t j = true)) (fun i _ => t.cells.length - (intOf i).toNat)
    case atStart => exact ⟨0, Nat.zero_le _, rfl, Below.refl _ _, fun j hj => absurd hj (Nat.not_lt_zero _)⟩
    obtain ⟨m, hm, rfl, hN⟩ := hrel
    obtain ⟨x0, x1, x2, x3⟩ := (K0.out.later hN.out.1).three'
    obtain ⟨y0, y1, y2, y3⟩ := (K1.out.later hN.out.1).three'
    by_cases hlt : m < t.cells.length
    ·
     obtain ⟨c, hc⟩ : ∃ c, t.cols[m]? = some c := ⟨_, List.getElem?_eq_getElem (by rw [← HN.out]; exact hlt)⟩
     obtain ⟨L, hL⟩ : ∃ L, t.cells[m]? = some L := ⟨_, List.getElem?_eq_getElem hlt⟩
     have SE : Hid (scolA A t m = (decide (L.length = t.rows.length) && L.all (fitB A c))) := scolA_eq (getD_of hc) (getD_of hL)
     have lL := E4.out m L hL
     obtain ⟨ib, io, rfl, i1, i2, i3⟩ := eInt_cells (H1.out.later cInt_keeps hN.out.1) hc
     obtain ⟨vb, vo, rfl, v1, v2, sL, cL, v3, hE⟩ := eVals_cells (H3.out.later cVals_keeps hN.out.1) hL
     have HE : Hid (Els 4 cVal wr Bs sL L) := hE
     have mI0 : (0 : Int) ≤ (m : Int) := by omega
     have mI1 : (m : Int) < (t.cells.length : Int) := by omega
     have mI2 : (m : Int) < (t.cols.length : Int) := by have := HN.out; omega
     clear hE hc hL; go_wp2_with fail; by_cases hl : L.length = t.rows.length
     ·
      have hl0 : ((L.length : Int) != (t.rows.length : Int)) = false := by simp [hl]
      have HLR : Hid (L.length = t.rows.length) := hl
      clear hl; refine wp_region_held_drew (S := (fun w' => w'.cell? ⟨w.heap.size + 1, 1, none⟩ = some (.slice t2 t.rows.length d2) ∧ w'.cell? ⟨w.heap.size + 1, 2, none⟩ = some (.slice (some ⟨vb, vo, none⟩) t.cells.length d3) ∧ w'.cell? ⟨vb, vo + m, none⟩ = some (.slice sL L.length cL))) (by kernel_rfl) ?_ (fun hHeld => ?_)
      ·
       exact ⟨y1, y2, v3⟩
      refine wpr 0 42 ?_; simp only [zs]; refine wpr 1 43 ?_; simp only [zs]; refine wpr 2 44 ?_; simp only [zs]; refine wpr 3 45 ?_; simp only [zs]; refine wpr 4 46 ?_; simp only [zs]; refine wpr 5 47 ?_; simp only [zs]; refine wpr 6 48 ?_; simp only [zs]; refine wpr 7 49 ?_; simp only [zs]; refine wpr 8 50 ?_; simp only [zs]; refine wpr 9 51 ?_; simp only [zs]; refine wpAnyH_done (by kernel_rfl) ?_ _
      have HW : Hid (Below X.heap.size X wr.drew) := bl_drew hN.out.1
      have HE2 : Hid (Els 4 cVal wr.drew Bs sL L) := HE.out.later cVal_keeps (bl_drew (Below.refl _ _))
      have i3 : wr.drew.cell? ⟨ib, io + m, none⟩ = some (.int .i64 c) := i3
      have v3 : wr.drew.cell? ⟨vb, vo + m, none⟩ = some (.slice sL L.length cL) := v3
      have HI : Hid (wr.drew.cell? ⟨ib, io + m, none⟩ = some (.int .i64 c) ∧ wr.drew.cell? ⟨vb, vo + m, none⟩ = some (.slice sL L.length cL)) := ⟨i3, v3⟩
      have KX : Hid (Blk wr.drew w.heap.size #[.slice s1 A.length c1, .slice s2 B.length c2, .slice s3 C.length c3] 47 ∧ Blk wr.drew (w.heap.size + 1) #[.slice (some ⟨ib, io, none⟩) t.cols.length d1, .slice t2 t.rows.length d2, .slice (some ⟨vb, vo, none⟩) t.cells.length d3] 119) := ⟨K0.out.later HW.out, K1.out.later HW.out⟩
      clear hHeld i3 v3 i1 i2 v1 v2; go_wp2_with fail; clear x0 x1 x2 x3 y0 y1 y2 y3 hl0; obtain ⟨Z, hZ⟩ : ∃ Z, wr.drew = Z := ⟨_, rfl⟩
      rw [hZ] at HW HE2 HI KX ⊢
      clear hZ HE; go_loopw [6] (fun i wr => ∃ (k : Nat), k ≤ L.length ∧ i = .int .i64 k ∧ Hid (Below Z.heap.size Z wr ∧ ∀ (j : Nat) v, j < k → L[j]? = some v → fitB A c v = true)) (fun i _ => L.length - (intOf i).toNat)
      case atStart => exact ⟨0, Nat.zero_le _, rfl, Below.refl _ _, fun j v hj => absurd hj (Nat.not_lt_zero _)⟩
      obtain ⟨k, hk, rfl, hNz⟩ := hrel
      obtain ⟨x0, x1, x2, x3⟩ := (KX.out.1.later hNz.out.1).three'
      obtain ⟨y0, y1, y2, y3⟩ := (KX.out.2.later hNz.out.1).three'
      have hNi : Hid (Below X.heap.size X wr ∧ True) := ⟨bl_trans HW.out hNz.out.1, trivial⟩
      have hlr := HLR.out
      by_cases hlk : k < L.length
      ·
       obtain ⟨v, hv⟩ := get_some hlk
       obtain ⟨qb, qo, rfl, hq1, hq2, hok, f1, f2, f3, f4⟩ := eVal_cells (HE2.out.later cVal_keeps hNz.out.1) hv
       have i3 := kcell hNz.out.1 HI.out.1
       have v3 := kcell hNz.out.1 HI.out.2
       have HV : Hid (L[k]? = some v) := hv
       have hok : Hid (okV v) := hok
       have kI0 : (0 : Int) ≤ (k : Int) := by omega
       have kI1 : (k : Int) < (L.length : Int) := by omega
       have kR : k < t.rows.length := by omega
       clear hv hq1 hq2 hlr; go_wp2_with fail; cases hfit : fitB A c v
       ·
        have HB : Hid (scolA A t m = false) := by show _ = _; rw [SE.out, all_false HV.out hfit]; simp
        refine wp_region_held_drew (S := (fun w' => w'.cell? ⟨w.heap.size, 0, none⟩ = some (.slice s1 A.length c1) ∧ w'.cell? ⟨w.heap.size, 1, none⟩ = some (.slice s2 B.length c2) ∧ w'.cell? ⟨w.heap.size, 2, none⟩ = some (.slice s3 C.length c3) ∧ w'.cell? ⟨w.heap.size + 1, 0, none⟩ = some (.slice (some ⟨ib, io, none⟩) t.cols.length d1) ∧ w'.cell? ⟨w.heap.size + 1, 2, none⟩ = some (.slice (some ⟨vb, vo, none⟩) t.cells.length d3) ∧ w'.cell? ⟨ib, io + m, none⟩ = some (.int .i64 c) ∧ w'.cell? ⟨vb, vo + m, none⟩ = some (.slice (some ⟨qb, qo, none⟩) L.length cL) ∧ w'.cell? ⟨qb, qo + k * 4, none⟩ = some (.int .i64 v.1) ∧ w'.cell? ⟨qb, qo + k * 4 + 1, none⟩ = some (.int .i64 v.2.1) ∧ w'.cell? ⟨qb, qo + k * 4 + 2, none⟩ = some (.float .f64 v.2.2.1) ∧ w'.cell? ⟨qb, qo + k * 4 + 3, none⟩ = some (.float .f64 v.2.2.2))) (by kernel_rfl) ?_ (fun hHeld => ?_)
        ·
         exact ⟨x0, x1, x2, y0, y2, i3, v3, f1, f2, f3, f4⟩
        refine wpr 0 59 ?_; simp only [zs]; refine wpr 1 60 ?_; simp only [zs]; refine wpr 2 61 ?_; simp only [zs]; refine wpr 3 62 ?_; simp only [zs]; refine wpr 4 63 ?_; simp only [zs]; refine wpr 5 64 ?_; simp only [zs]; refine wpr 6 65 ?_; simp only [zs]; refine wpr 7 66 ?_; simp only [zs]; refine wpr 8 67 ?_; simp only [zs]; refine wpr 9 68 ?_; simp only [zs]; refine wpr 10 69 ?_; simp only [zs]
        refine wpr 11 70 ?_; simp only [zs]; refine wpr 12 71 ?_; simp only [zs]; refine wpr 13 72 ?_; simp only [zs]; refine wpy 14 fun K hK => ?_
        go_simp; refine (l4Fits_any s1 s2 s3 c1 c2 c3 A B C c v _ (HA1.out.later (bl_trans hNi.out.1 (bl_drew (Below.refl _ _)))) l1 hok.out).mono ?_
        rintro e w4 ⟨rfl, hb4⟩
        rw [hfit]
        have hc_w4 : Below wr.heap.size wr w4 := bl_trans (bl_drew (Below.refl _ _)) hb4
        have hX_w4 : Hid (Below X.heap.size X w4) := bl_trans hNi.out.1 hc_w4
        have hZ_w4 : Hid (Below Z.heap.size Z w4) := bl_trans hNz.out.1 hc_w4
        have x0 := kcell hc_w4 x0
        have x1 := kcell hc_w4 x1
        have x2 := kcell hc_w4 x2
        have y0 := kcell hc_w4 y0
        have y2 := kcell hc_w4 y2
        have i3 := kcell hc_w4 i3
        have v3 := kcell hc_w4 v3
        have f1 := kcell hc_w4 f1
        have f2 := kcell hc_w4 f2
        have f3 := kcell hc_w4 f3
        have f4 := kcell hc_w4 f4
        clear hc_w4 hb4; refine hK.out _ _ ?_ (fun hHeld => ?_)
        ·
         exact ⟨x0, x1, x2, y0, y2, i3, v3, f1, f2, f3, f4⟩
        clear hK K; try simp only [zs]
        refine wpr 15 74 ?_; simp only [zs]; refine wpAnyH_done (by kernel_rfl) ?_ _
        go_wp2_with fail; go_ret; exact ⟨ret_bool' (stabB_at hlt HB.out), bl_trans HX.out hX_w4.out⟩
       have hfit : Hid (fitB A c v = true) := hfit
       refine wp_region_held_drew (S := (fun w' => w'.cell? ⟨w.heap.size, 0, none⟩ = some (.slice s1 A.length c1) ∧ w'.cell? ⟨w.heap.size, 1, none⟩ = some (.slice s2 B.length c2) ∧ w'.cell? ⟨w.heap.size, 2, none⟩ = some (.slice s3 C.length c3) ∧ w'.cell? ⟨w.heap.size + 1, 0, none⟩ = some (.slice (some ⟨ib, io, none⟩) t.cols.length d1) ∧ w'.cell? ⟨w.heap.size + 1, 2, none⟩ = some (.slice (some ⟨vb, vo, none⟩) t.cells.length d3) ∧ w'.cell? ⟨ib, io + m, none⟩ = some (.int .i64 c) ∧ w'.cell? ⟨vb, vo + m, none⟩ = some (.slice (some ⟨qb, qo, none⟩) L.length cL) ∧ w'.cell? ⟨qb, qo + k * 4, none⟩ = some (.int .i64 v.1) ∧ w'.cell? ⟨qb, qo + k * 4 + 1, none⟩ = some (.int .i64 v.2.1) ∧ w'.cell? ⟨qb, qo + k * 4 + 2, none⟩ = some (.float .f64 v.2.2.1) ∧ w'.cell? ⟨qb, qo + k * 4 + 3, none⟩ = some (.float .f64 v.2.2.2))) (by kernel_rfl) ?_ (fun hHeld => ?_)
       ·
        exact ⟨x0, x1, x2, y0, y2, i3, v3, f1, f2, f3, f4⟩
       refine wpr 0 59 ?_; simp only [zs]; refine wpr 1 60 ?_; simp only [zs]; refine wpr 2 61 ?_; simp only [zs]; refine wpr 3 62 ?_; simp only [zs]; refine wpr 4 63 ?_; simp only [zs]; refine wpr 5 64 ?_; simp only [zs]; refine wpr 6 65 ?_; simp only [zs]; refine wpr 7 66 ?_; simp only [zs]; refine wpr 8 67 ?_; simp only [zs]; refine wpr 9 68 ?_; simp only [zs]; refine wpr 10 69 ?_; simp only [zs]
       refine wpr 11 70 ?_; simp only [zs]; refine wpr 12 71 ?_; simp only [zs]; refine wpr 13 72 ?_; simp only [zs]; refine wpy 14 fun K hK => ?_
       go_simp; refine (l4Fits_any s1 s2 s3 c1 c2 c3 A B C c v _ (HA1.out.later (bl_trans hNi.out.1 (bl_drew (Below.refl _ _)))) l1 hok.out).mono ?_
       rintro e w4 ⟨rfl, hb4⟩
       rw [hfit.out]
       have hc_w4 : Below wr.heap.size wr w4 := bl_trans (bl_drew (Below.refl _ _)) hb4
       have hX_w4 : Hid (Below X.heap.size X w4) := bl_trans hNi.out.1 hc_w4
       have hZ_w4 : Hid (Below Z.heap.size Z w4) := bl_trans hNz.out.1 hc_w4
       have x0 := kcell hc_w4 x0
       have x1 := kcell hc_w4 x1
       have x2 := kcell hc_w4 x2
       have y0 := kcell hc_w4 y0
       have y2 := kcell hc_w4 y2
       have i3 := kcell hc_w4 i3
       have v3 := kcell hc_w4 v3
       have f1 := kcell hc_w4 f1
       have f2 := kcell hc_w4 f2
       have f3 := kcell hc_w4 f3
       have f4 := kcell hc_w4 f4
       clear hc_w4 hb4; refine hK.out _ _ ?_ (fun hHeld => ?_)
       ·
        exact ⟨x0, x1, x2, y0, y2, i3, v3, f1, f2, f3, f4⟩
       clear hK K; try simp only [zs]
       refine wpr 15 74 ?_; simp only [zs]; refine wpAnyH_done (by kernel_rfl) ?_ _
       have hQ : Hid (Below Z.heap.size Z w4) := hZ_w4
       go_wp2_with fail; go_roundw
       case rel => exact ⟨k + 1, by omega, by go_num, hQ.out, fun j u hj hu => by
        by_cases hjm : j = k
        ·
         subst hjm
         rw [HV.out] at hu
         cases hu
         exact hfit.out
        exact hNz.out.2 j u (by omega) hu⟩
       case measure => simp [intOf]; omega
      have hk' : k = L.length := by omega
      subst hk'
      have HB : Hid (scolA A t m = true) := by
       show _ = _
       rw [SE.out, all_true (fun j u hu => hNz.out.2 j u (List.getElem?_eq_some_iff.mp hu).1 hu)]
       simp [HLR.out]
      have kR : ¬ L.length < t.rows.length := by omega
      go_wp2_with fail; go_roundw
      case rel => exact ⟨m + 1, by omega, by go_num, bl_trans HW.out hNz.out.1, fun j hj => by
       by_cases hjm : j = m
       ·
        subst hjm; exact HB.out
       exact hN.out.2 j (by omega)⟩
      case measure => simp [intOf]; omega
     have hl0 : ((L.length : Int) != (t.rows.length : Int)) = true := by simp; omega
     have HB : Hid (scolA A t m = false) := by show _ = _; rw [SE.out]; simp [hl]
     refine wp_region_held_drew (S := (fun w' => w'.cell? ⟨w.heap.size + 1, 1, none⟩ = some (.slice t2 t.rows.length d2) ∧ w'.cell? ⟨w.heap.size + 1, 2, none⟩ = some (.slice (some ⟨vb, vo, none⟩) t.cells.length d3) ∧ w'.cell? ⟨vb, vo + m, none⟩ = some (.slice sL L.length cL))) (by kernel_rfl) ?_ (fun hHeld => ?_)
     ·
      exact ⟨y1, y2, v3⟩
     refine wpr 0 42 ?_; simp only [zs]; refine wpr 1 43 ?_; simp only [zs]; refine wpr 2 44 ?_; simp only [zs]; refine wpr 3 45 ?_; simp only [zs]; refine wpr 4 46 ?_; simp only [zs]; refine wpr 5 47 ?_; simp only [zs]; refine wpr 6 48 ?_; simp only [zs]; refine wpr 7 49 ?_; simp only [zs]; refine wpr 8 50 ?_; simp only [zs]; refine wpr 9 51 ?_; simp only [zs]; refine wpAnyH_done (by kernel_rfl) ?_ _
     go_wp2_with fail; go_ret; exact ⟨ret_bool' (stabB_at hlt HB.out), bl_trans HX.out (bl_drew hN.out.1)⟩
    have hm' : m = t.cells.length := by omega
    subst hm'
    go_wp2_with fail; go_ret; exact ⟨ret_bool' (stabB_all hc12 HRI.out HN.out hr (fun j hj => hN.out.2 j hj)), bl_trans HX.out hN.out.1⟩
   have g1 : decide ((t.rows.length : Int) > 2000) = true := by simp; omega
   have g1' : 2000 < t.rows.length := by omega
   go_wp2_with fail; go_ret; exact ⟨ret_bool' (by simp [stabB, hr]), L1⟩
  have t0 : ((t.cells.length : Int) != (t.cols.length : Int)) = true := by simp; omega
  go_wp2_with fail; go_ret; exact ⟨ret_bool' (by simp [stabB, hn]), L1⟩
 have g0 : decide ((t.cols.length : Int) > 12) = true := by simp; omega
 have g0' : 12 < t.cols.length := by omega
 go_enter Tryz.func56, Tryz.ntmps56
 go_wp2_with fail; go_ret; exact ⟨ret_bool' (by simp [stabB, hc12]), L0⟩
end Go.Proofs.YtbgeobpdojmdaaaGreat
