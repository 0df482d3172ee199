import Derived.Test.YtbgeobpdojmdaaaGreatSq13
import Derived.Test.YtbgeobpdojmdaaaGreatSq15
namespace Go.Proofs.YtbgeobpdojmdaaaGreat
open Go.RowKit Go.Maps Go.WideMaps
set_option linter.unusedVariables false
set_option linter.unusedSimpArgs false
set_option maxRecDepth 100000
theorem in_cmp (A : List (ByteArray × Int)) (c : Int) : (decide (0 ≤ c) && decide (c ≤ (A.length : Int) - 1)) = cmpB A c := by
 unfold cmpB
 congr 1
 rw [decide_eq_decide]
 omega
set_option maxHeartbeats 2000000 in
theorem l4Fits_any (s1 s2 s3 : Option Addr) (c1 c2 c3 : Nat) (A B C : List (ByteArray × Int)) (c : Int) (v : V4) (w : World) (hA : Decls w s1 A) (l1 : A.length ≤ 1048576) (ok : okV v) :
  Calls Tryz.prog 51 #[.agg #[.slice s1 A.length c1, .slice s2 B.length c2, .slice s3 C.length c3], .int .i64 c, .agg #[.int .i64 v.1, .int .i64 v.2.1, .float .f64 v.2.2.1, .float .f64 v.2.2.2]] w fun e w' => e = .returned (.bool (fitB A c v)) ∧ Below w.heap.size w w' := by
 have hal := alloc_old
 have haf := alloc_oldf
 obtain ⟨k0, k1, L0⟩ := boxTwo w #[.slice s1 A.length c1, .slice s2 B.length c2, .slice s3 C.length c3] #[.int .i64 v.1, .int .i64 v.2.1, .float .f64 v.2.2.1, .float .f64 v.2.2.2] 47 75
 have HA : Hid (Decls ((w.alloc (.cells #[.slice s1 A.length c1, .slice s2 B.length c2, .slice s3 C.length c3] 47)).alloc (.cells #[.int .i64 v.1, .int .i64 v.2.1, .float .f64 v.2.2.1, .float .f64 v.2.2.2] 75)) s1 A) := hA.later L0
 have HO : Hid (okV v) := ok
 have tw : IntKind.i64.wrap ((A.length : Int) - 1) = (A.length : Int) - 1 := by rw [IntKind.wrap_i64]; omega
 clear hA ok; go_enter Tryz.func51, Tryz.ntmps51
 go_wp2_with fail; generalize hX : (w.alloc (.cells #[.slice s1 A.length c1, .slice s2 B.length c2, .slice s3 C.length c3] 47)).alloc (.cells #[.int .i64 v.1, .int .i64 v.2.1, .float .f64 v.2.2.1, .float .f64 v.2.2.2] 75) = X at k0 k1 L0 HA ⊢
 clear hX; have LX : Hid (Below w.heap.size w X) := L0
 obtain ⟨x0, x1, x2, x3⟩ := k0.three'
 obtain ⟨y0, y1, y2, y3, y4⟩ := k1.four'
 clear L0 x1 x2 x3 y4 k0 k1; cases hcm : cmpB A c
 ·
  have E : Hid (false = fitB A c v) := by simp [Hid, fitB, hcm]
  refine wp_region_held_drew (S := (fun w' => w'.cell? ⟨w.heap.size, 0, none⟩ = some (.slice s1 A.length c1))) (by kernel_rfl) ?_ (fun hHeld => ?_)
  ·
   exact x0
  refine wpr 0 7 ?_; simp only [zs]; refine wpr 1 8 ?_; simp only [zs]; refine wpr 2 9 ?_; simp only [zs]; refine wpr 3 10 ?_; simp only [zs]; refine wpr 4 11 ?_; simp only [zs]; refine wpy 5 fun K hK => ?_
  go_simp; refine (l1In_any c 0 ((A.length : Int) - 1) _).mono ?_
  rintro e w2 ⟨rfl, hw_w2⟩
  rw [in_cmp A, hcm]
  have hb_w2 : Below X.drew.heap.size X.drew w2 := by rw [hw_w2]; exact Below.refl _ _
  clear hw_w2; have hc_w2 : Below X.heap.size X w2 := bl_trans (bl_drew (Below.refl _ _)) hb_w2
  have hX_w2 : Hid (Below X.heap.size X w2) := hc_w2
  have x0 := kcell hc_w2 x0
  clear hb_w2 hc_w2; refine hK.out _ _ ?_ (fun hHeld => ?_)
  ·
   exact x0
  clear hK K; try simp only [zs]
  refine wpr 6 13 ?_; simp only [zs]; refine wpAnyH_skip (by kernel_rfl) (fun _ _ _ _ h => h) [(7, 14), (8, 15)] 13 _ _ _ (by assumption) (by kernel_rfl) ?_ _ rfl
  simp only [zs]; refine wpr 9 16 ?_; simp only [zs]; refine wpr 10 17 ?_; simp only [zs]; refine wpAnyH_skip (by kernel_rfl) (fun _ _ _ _ h => h) [(11, 18), (12, 19), (13, 20), (14, 21), (15, 22), (16, 23), (17, 24), (18, 25), (19, 26)] 2 _ _ _ (by assumption) (by kernel_rfl) ?_ _ rfl
  simp only [zs]; refine wpr 20 27 ?_; simp only [zs]; refine wpr 21 6 ?_; simp only [zs]; refine wpAnyH_done (by kernel_rfl) ?_ _
  go_wp2_with fail; go_ret; exact ⟨ret_bool' E.out, bl_trans LX.out hX_w2.out⟩
 cases hov : okV4 v
 ·
  have E : Hid (false = fitB A c v) := by simp [Hid, fitB, vofB, hov]
  refine wp_region_held_drew (S := (fun w' => w'.cell? ⟨w.heap.size, 0, none⟩ = some (.slice s1 A.length c1) ∧ w'.cell? ⟨w.heap.size + 1, 0, none⟩ = some (.int .i64 v.1) ∧ w'.cell? ⟨w.heap.size + 1, 1, none⟩ = some (.int .i64 v.2.1) ∧ w'.cell? ⟨w.heap.size + 1, 2, none⟩ = some (.float .f64 v.2.2.1) ∧ w'.cell? ⟨w.heap.size + 1, 3, none⟩ = some (.float .f64 v.2.2.2))) (by kernel_rfl) ?_ (fun hHeld => ?_)
  ·
   exact ⟨x0, y0, y1, y2, y3⟩
  refine wpr 0 7 ?_; simp only [zs]; refine wpr 1 8 ?_; simp only [zs]; refine wpr 2 9 ?_; simp only [zs]; refine wpr 3 10 ?_; simp only [zs]; refine wpr 4 11 ?_; simp only [zs]; refine wpy 5 fun K hK => ?_
  go_simp; refine (l1In_any c 0 ((A.length : Int) - 1) _).mono ?_
  rintro e w2 ⟨rfl, hw_w2⟩
  rw [in_cmp A, hcm]
  have hb_w2 : Below X.drew.heap.size X.drew w2 := by rw [hw_w2]; exact Below.refl _ _
  clear hw_w2; have hc_w2 : Below X.heap.size X w2 := bl_trans (bl_drew (Below.refl _ _)) hb_w2
  have hX_w2 : Hid (Below X.heap.size X w2) := hc_w2
  have x0 := kcell hc_w2 x0
  have y0 := kcell hc_w2 y0
  have y1 := kcell hc_w2 y1
  have y2 := kcell hc_w2 y2
  have y3 := kcell hc_w2 y3
  clear hb_w2 hc_w2; refine hK.out _ _ ?_ (fun hHeld => ?_)
  ·
   exact ⟨x0, y0, y1, y2, y3⟩
  clear hK K; try simp only [zs]
  refine wpr 6 13 ?_; simp only [zs]; refine wpr 7 14 ?_; simp only [zs]; refine wpy 8 fun K hK => ?_
  go_simp; refine (specOk_any v.1 v.2.1 v.2.2.1 v.2.2.2 _ HO.out.2.1 HO.out.2.2).mono ?_
  rintro e w4 ⟨rfl, hw_w4⟩
  rw [show okB v.1 v.2.1 v.2.2.1 v.2.2.2 = okV4 v from rfl, hov]
  have hb_w4 : Below w2.heap.size w2 w4 := by rw [hw_w4]; exact bl_alloc (Below.refl _ _) _
  clear hw_w4; have hc_w4 : Below w2.heap.size w2 w4 := hb_w4
  have hX_w4 : Hid (Below X.heap.size X w4) := bl_trans hX_w2.out hc_w4
  have x0 := kcell hc_w4 x0
  have y0 := kcell hc_w4 y0
  have y1 := kcell hc_w4 y1
  have y2 := kcell hc_w4 y2
  have y3 := kcell hc_w4 y3
  clear hb_w4 hc_w4; refine hK.out _ _ ?_ (fun hHeld => ?_)
  ·
   exact ⟨x0, y0, y1, y2, y3⟩
  clear hK K; try simp only [zs]
  refine wpr 9 16 ?_; simp only [zs]; refine wpr 10 17 ?_; simp only [zs]; refine wpAnyH_skip (by kernel_rfl) (fun _ _ _ _ h => h) [(11, 18), (12, 19), (13, 20), (14, 21), (15, 22), (16, 23), (17, 24), (18, 25), (19, 26)] 2 _ _ _ (by assumption) (by kernel_rfl) ?_ _ rfl
  simp only [zs]; refine wpr 20 27 ?_; simp only [zs]; refine wpr 21 6 ?_; simp only [zs]; refine wpAnyH_done (by kernel_rfl) ?_ _
  go_wp2_with fail; go_ret; exact ⟨ret_bool' E.out, bl_trans LX.out hX_w4.out⟩
 obtain ⟨cn, rfl⟩ : ∃ cn : Nat, c = (cn : Int) := ⟨c.toNat, by simp [cmpB] at hcm; omega⟩
 have hcn : cn < A.length := by simp [cmpB] at hcm; omega
 obtain ⟨pb, po, rfl, hpb, e1, e2⟩ := HA.out.get hcn
 obtain ⟨q2, hq0⟩ : ∃ q2, Hid ((dAt A cn).2 = q2) := ⟨_, rfl⟩
 have E : Hid ((v.1 == q2) = fitB A (cn : Int) v) := by show _ = _; rw [fitB, hcm, Int.toNat_natCast, hq0.out, vofB, hov]; simp
 rw [hq0.out] at e2
 have cI0 : (0 : Int) ≤ (cn : Int) := by omega
 have cI1 : (cn : Int) < (A.length : Int) := by omega
 clear e1; refine wp_region_held_drew (S := (fun w' => w'.cell? ⟨w.heap.size, 0, none⟩ = some (.slice (some ⟨pb, po, none⟩) A.length c1) ∧ w'.cell? ⟨w.heap.size + 1, 0, none⟩ = some (.int .i64 v.1) ∧ w'.cell? ⟨w.heap.size + 1, 1, none⟩ = some (.int .i64 v.2.1) ∧ w'.cell? ⟨w.heap.size + 1, 2, none⟩ = some (.float .f64 v.2.2.1) ∧ w'.cell? ⟨w.heap.size + 1, 3, none⟩ = some (.float .f64 v.2.2.2) ∧ w'.cell? ⟨pb, po + cn * 2 + 1, none⟩ = some (.int .i64 q2))) (by kernel_rfl) ?_ (fun hHeld => ?_)
 ·
  exact ⟨x0, y0, y1, y2, y3, e2⟩
 refine wpr 0 7 ?_; simp only [zs]; refine wpr 1 8 ?_; simp only [zs]; refine wpr 2 9 ?_; simp only [zs]; refine wpr 3 10 ?_; simp only [zs]; refine wpr 4 11 ?_; simp only [zs]; refine wpy 5 fun K hK => ?_
 go_simp; refine (l1In_any cn 0 ((A.length : Int) - 1) _).mono ?_
 rintro e w2 ⟨rfl, hw_w2⟩
 rw [in_cmp A, hcm]
 have hb_w2 : Below X.drew.heap.size X.drew w2 := by rw [hw_w2]; exact Below.refl _ _
 clear hw_w2; have hc_w2 : Below X.heap.size X w2 := bl_trans (bl_drew (Below.refl _ _)) hb_w2
 have hX_w2 : Hid (Below X.heap.size X w2) := hc_w2
 have x0 := kcell hc_w2 x0
 have y0 := kcell hc_w2 y0
 have y1 := kcell hc_w2 y1
 have y2 := kcell hc_w2 y2
 have y3 := kcell hc_w2 y3
 have e2 := kcell hc_w2 e2
 clear hb_w2 hc_w2; refine hK.out _ _ ?_ (fun hHeld => ?_)
 ·
  exact ⟨x0, y0, y1, y2, y3, e2⟩
 clear hK K; try simp only [zs]
 refine wpr 6 13 ?_; simp only [zs]; refine wpr 7 14 ?_; simp only [zs]; refine wpy 8 fun K hK => ?_
 go_simp; refine (specOk_any v.1 v.2.1 v.2.2.1 v.2.2.2 _ HO.out.2.1 HO.out.2.2).mono ?_
 rintro e w4 ⟨rfl, hw_w4⟩
 rw [show okB v.1 v.2.1 v.2.2.1 v.2.2.2 = okV4 v from rfl, hov]
 have hb_w4 : Below w2.heap.size w2 w4 := by rw [hw_w4]; exact bl_alloc (Below.refl _ _) _
 clear hw_w4; have hc_w4 : Below w2.heap.size w2 w4 := hb_w4
 have hX_w4 : Hid (Below X.heap.size X w4) := bl_trans hX_w2.out hc_w4
 have x0 := kcell hc_w4 x0
 have y0 := kcell hc_w4 y0
 have y1 := kcell hc_w4 y1
 have y2 := kcell hc_w4 y2
 have y3 := kcell hc_w4 y3
 have e2 := kcell hc_w4 e2
 clear hb_w4 hc_w4; refine hK.out _ _ ?_ (fun hHeld => ?_)
 ·
  exact ⟨x0, y0, y1, y2, y3, e2⟩
 clear hK K; try simp only [zs]
 refine wpr 9 16 ?_; simp only [zs]; refine wpr 10 17 ?_; simp only [zs]; refine wpr 11 18 ?_; simp only [zs]; refine wpr 12 19 ?_; simp only [zs]; refine wpr 13 20 ?_; simp only [zs]; refine wpr 14 21 ?_; simp only [zs]; refine wpr 15 22 ?_; simp only [zs]; refine wpr 16 23 ?_; simp only [zs]; refine wpr 17 24 ?_; simp only [zs]; refine wpr 18 25 ?_; simp only [zs]; refine wpr 19 26 ?_; simp only [zs]
 refine wpr 20 27 ?_; simp only [zs]; refine wpr 21 6 ?_; simp only [zs]; refine wpAnyH_done (by kernel_rfl) ?_ _
 go_wp2_with fail; go_ret; exact ⟨ret_bool' E.out, bl_trans LX.out hX_w4.out⟩
end Go.Proofs.YtbgeobpdojmdaaaGreat
