import Derived.Test.YtjfpflejnbnhnaaSl28
namespace Go.Proofs.Ytjfpflejnbnhnaa
open Go.RowKit Go.Maps Go.WideMaps
set_option linter.unusedVariables false
set_option linter.unusedSimpArgs false
set_option maxRecDepth 100000
set_option maxHeartbeats 8000000 in
theorem exactStateOk_any (s1 s2 s3 : Option Addr) (c1 c2 c3 : Nat) (A B C : List (ByteArray × Int)) (i1 i2 i3 i4 i5 i6 : Option Addr) (j1 j2 j3 j4 j5 j6 : Nat) (S : Sta) (w : World) (gA : Dc w s1 A) (gB : Dc w s2 B) (gC : Dc w s3 C) (hW : InS w 0 i1 i2 i3 i4 i5 i6 S) (hm : mS S) (bR : ∀ t ∈ S.w.tabs, ∀ x ∈ t.rows, bE x) :
  Calls Try.prog 3 #[.agg #[.slice s1 A.length c1, .slice s2 B.length c2, .slice s3 C.length c3], .agg #[.slice i1 S.w.gens.length j1, .slice i2 S.w.free.length j2, .slice i3 S.w.tabs.length j3, .slice i4 S.w.res.length j4, .slice i5 S.ss.length j5, .slice i6 S.cu.length j6]] w fun e w' => e = .returned (.bool true) ∧ Below w.heap.size w w' := by
 have hal := alloc_old
 have haf := alloc_oldf
 obtain ⟨hA, nA, mA⟩ := gA
 obtain ⟨hB, nB, mB⟩ := gB
 obtain ⟨hC, nC, mC⟩ := gC
 have NM := nms3 nA nB nC
 obtain ⟨k0, k1, L0⟩ := boxTwo w #[.slice s1 A.length c1, .slice s2 B.length c2, .slice s3 C.length c3] #[.slice i1 S.w.gens.length j1, .slice i2 S.w.free.length j2, .slice i3 S.w.tabs.length j3, .slice i4 S.w.res.length j4, .slice i5 S.ss.length j5, .slice i6 S.cu.length j6] 24 34
 have HW : Hid (InS w 0 i1 i2 i3 i4 i5 i6 S) := hW
 have BR : Hid (∀ t ∈ S.w.tabs, ∀ x ∈ t.rows, bE x) := bR
 have HD : Hid (Decls w s1 A ∧ Decls w s2 B ∧ Decls w s3 C) := ⟨hA, hB, hC⟩
 clear hW bR
 go_enter Try.func3, Try.ntmps3
 go_wp2_with fail
 refine (szReg_top s1 s2 s3 c1 c2 c3 A B C _ (hA.later L0) (hB.later L0) (hC.later L0) nA nB nC mA mB mC).mono ?_
 rintro e w1 ⟨⟨r, rfl, hr⟩, hb1⟩
 have L1 := bl_trans L0 hb1
 have K0 := k0.later hb1
 have K1 := k1.later hb1
 have NMH : Hid (∀ i, i < (A ++ B ++ C).length → (dAt (A ++ B ++ C) i).1.size ≤ maxLen) := NM
 have L1H : Hid (Below w.heap.size w w1) := L1
 clear k0 k1 L0 hb1 nA nB nC mA mB mC NM hA hB hC L1
 obtain ⟨y0, y1, y2, y3, y4, y5, y9⟩ := K1.six'
 rcases hr with rfl | ⟨r0, r1, lA, lB, lC⟩
 ·
  go_wp2_with fail
  go_ret
  exact ⟨rfl, L1H.out⟩
 ·
  have t1 : decide (r < 0) = false := by simp; omega
  go_wp2_with fail
  refine (szState_gen i1 i2 i3 i4 i5 i6 j1 j2 j3 j4 j5 j6 S 0 r _ (HW.out.later L1H.out) hm r0 r1).mono ?_
  rintro e w2 ⟨⟨q, rfl, hq⟩, hb2⟩
  have LH2 : Hid (Below w.heap.size w w2) := bl_trans L1H.out hb2
  have K0 := K0.later hb2
  have K1 := K1.later hb2
  clear y0 y1 y2 y3 y4 y5 y9 hb2 L1H
  rcases hq with rfl | ⟨q0, q1, hk⟩
  ·
   go_wp2_with fail
   go_ret
   exact ⟨rfl, LH2.out⟩
  ·
   have t2 : decide (q < 0) = false := by simp; omega
   have HK : Hid (kS S) := hk
   obtain ⟨x0, x1, x2, x3⟩ := K0.three'
   obtain ⟨y0, y1, y2, y3, y4, y5, y9⟩ := K1.six'
   clear K0 K1 x3 y9 hm r1 q1 hk
   go_wp2_with fail
   refine wp_region_held_drew (S := (fun w' => w'.cell? ⟨w.heap.size, 0, none⟩ = some (.slice s1 A.length c1) ∧ w'.cell? ⟨w.heap.size, 1, none⟩ = some (.slice s2 B.length c2) ∧ w'.cell? ⟨w.heap.size, 2, none⟩ = some (.slice s3 C.length c3) ∧ w'.cell? ⟨w.heap.size + 1, 0, none⟩ = some (.slice i1 S.w.gens.length j1) ∧ w'.cell? ⟨w.heap.size + 1, 1, none⟩ = some (.slice i2 S.w.free.length j2) ∧ w'.cell? ⟨w.heap.size + 1, 2, none⟩ = some (.slice i3 S.w.tabs.length j3) ∧ w'.cell? ⟨w.heap.size + 1, 3, none⟩ = some (.slice i4 S.w.res.length j4) ∧ w'.cell? ⟨w.heap.size + 1, 4, none⟩ = some (.slice i5 S.ss.length j5) ∧ w'.cell? ⟨w.heap.size + 1, 5, none⟩ = some (.slice i6 S.cu.length j6))) (by kernel_rfl) ?_ (fun hHeld => ?_)
   ·
    exact ⟨x0, x1, x2, y0, y1, y2, y3, y4, y5⟩
   refine wpAnyH_one (i := 0) (d := 20) (v := ?_) rfl rfl (by kernel_rfl) (by kernel_rfl) (by kernel_rfl) (fun _ _ _ h => h) (by rfl) (by assumption) ?_ ?_
   rotate_left 1
   ·
    intro w hSw; (try dsimp only at hSw); go_simp <;> with_reducible rfl
   simp only [List.foldl, Act.put, List.setIfInBounds_toArray, List.set_cons_zero, List.set_cons_succ]
   refine wpAnyH_one (i := 2) (d := 22) (v := ?_) rfl rfl (by kernel_rfl) (by kernel_rfl) (by kernel_rfl) (fun _ _ _ h => h) (by rfl) (by assumption) ?_ ?_
   rotate_left 1
   ·
    intro w hSw; (try dsimp only at hSw); go_simp <;> with_reducible rfl
   simp only [List.foldl, Act.put, List.setIfInBounds_toArray, List.set_cons_zero, List.set_cons_succ]
   refine wpAnyH_ready (rs := [1]) (by kernel_rfl) (by simp) ?_
   refine AllReadyH.cons rfl (fun K hK => ?_) AllReadyH.nil
   go_simp
   refine (toReg_any s1 s2 s3 c1 c2 c3 A B C _ (HD.out.1.later (bl_trans LH2.out (bl_drew (Below.refl _ _)))) (HD.out.2.1.later (bl_trans LH2.out (bl_drew (Below.refl _ _)))) (HD.out.2.2.later (bl_trans LH2.out (bl_drew (Below.refl _ _)))) lA lB lC).mono ?_
   rintro e w3 ⟨⟨a3, b3, d3, rfl, dA3, dB3, dC3⟩, hb_w3⟩
   have hc_w3 : Below w2.heap.size w2 w3 := bl_trans (bl_drew (Below.refl _ _)) hb_w3
   have x0 := kcell hc_w3 x0
   have x1 := kcell hc_w3 x1
   have x2 := kcell hc_w3 x2
   have y0 := kcell hc_w3 y0
   have y1 := kcell hc_w3 y1
   have y2 := kcell hc_w3 y2
   have y3 := kcell hc_w3 y3
   have y4 := kcell hc_w3 y4
   have y5 := kcell hc_w3 y5
   have LH3 : Hid (Below w.heap.size w w3) := bl_trans LH2.out hc_w3
   have D3 : Hid (Decls w3 (some ⟨a3, 0, none⟩) A ∧ Decls w3 (some ⟨b3, 0, none⟩) B ∧ Decls w3 (some ⟨d3, 0, none⟩) C) := ⟨dA3, dB3, dC3⟩
   clear dA3 dB3 dC3 hc_w3
   clear hb_w3
   refine hK.out _ _ ?_ (fun hHeld => ?_)
   ·
    exact ⟨x0, x1, x2, y0, y1, y2, y3, y4, y5⟩
   clear hK K
   try simp only [List.foldl, Act.put, List.setIfInBounds_toArray, List.set_cons_zero, List.set_cons_succ]
   refine wpAnyH_ready (rs := [3]) (by kernel_rfl) (by simp) ?_
   refine AllReadyH.cons rfl (fun K hK => ?_) AllReadyH.nil
   go_simp
   refine (toState_made i1 i2 i3 i4 i5 i6 j1 j2 j3 j4 j5 j6 S 0 _ (HW.out.later LH3.out) HK.out).mono ?_
   rintro e w4 ⟨⟨m4, n4, o4, p4, r4, s4, rfl, hE4⟩, hb_w4⟩
   have hc_w4 : Below w3.heap.size w3 w4 := hb_w4
   have x0 := kcell hc_w4 x0
   have x1 := kcell hc_w4 x1
   have x2 := kcell hc_w4 x2
   have y0 := kcell hc_w4 y0
   have y1 := kcell hc_w4 y1
   have y2 := kcell hc_w4 y2
   have y3 := kcell hc_w4 y3
   have y4 := kcell hc_w4 y4
   have y5 := kcell hc_w4 y5
   have LH4 : Hid (Below w.heap.size w w4) := bl_trans LH3.out hc_w4
   have E4 : Hid (InS w4 0 (some ⟨m4, 0, none⟩) (some ⟨n4, 0, none⟩) (some ⟨o4, 0, none⟩) (some ⟨p4, 0, none⟩) (some ⟨r4, 0, none⟩) (some ⟨s4, 0, none⟩) S) := hE4.drop (Nat.zero_le _)
   have D4 : Hid (Below w3.heap.size w3 w4) := hc_w4
   clear hE4 hc_w4
   clear hb_w4
   refine hK.out _ _ ?_ (fun hHeld => ?_)
   ·
    exact ⟨x0, x1, x2, y0, y1, y2, y3, y4, y5⟩
   clear hK K
   try simp only [List.foldl, Act.put, List.setIfInBounds_toArray, List.set_cons_zero, List.set_cons_succ]
   refine wpAnyH_ready (rs := [4]) (by kernel_rfl) (by simp) ?_
   refine AllReadyH.cons rfl (fun K hK => ?_) AllReadyH.nil
   go_simp
   refine (specStateOk_any a3 0 A.length b3 0 B.length d3 0 C.length A B C (some ⟨m4, 0, none⟩) (some ⟨n4, 0, none⟩) (some ⟨o4, 0, none⟩) (some ⟨p4, 0, none⟩) (some ⟨r4, 0, none⟩) (some ⟨s4, 0, none⟩) S.w.gens.length S.w.free.length S.w.tabs.length S.w.res.length S.ss.length S.cu.length S _ (D3.out.1.later D4.out) (D3.out.2.1.later D4.out) (D3.out.2.2.later D4.out) lC E4.out HK.out).mono ?_
   rintro e w5 ⟨rfl, hb_w5⟩
   have hc_w5 : Below w4.heap.size w4 w5 := hb_w5
   have x0 := kcell hc_w5 x0
   have x1 := kcell hc_w5 x1
   have x2 := kcell hc_w5 x2
   have y0 := kcell hc_w5 y0
   have y1 := kcell hc_w5 y1
   have y2 := kcell hc_w5 y2
   have y3 := kcell hc_w5 y3
   have y4 := kcell hc_w5 y4
   have y5 := kcell hc_w5 y5
   have LH5 : Hid (Below w.heap.size w w5) := bl_trans LH4.out hc_w5
   clear hc_w5
   clear hb_w5
   refine hK.out _ _ ?_ (fun hHeld => ?_)
   ·
    exact ⟨x0, x1, x2, y0, y1, y2, y3, y4, y5⟩
   clear hK K
   try simp only [List.foldl, Act.put, List.setIfInBounds_toArray, List.set_cons_zero, List.set_cons_succ]
   refine wpAnyH_one (i := 5) (d := 6) (v := ?_) rfl rfl (by kernel_rfl) (by kernel_rfl) (by kernel_rfl) (fun _ _ _ h => h) (by rfl) (by assumption) ?_ ?_
   rotate_left 1
   ·
    intro w hSw; (try dsimp only at hSw); go_simp <;> with_reducible rfl
   simp only [List.foldl, Act.put, List.setIfInBounds_toArray, List.set_cons_zero, List.set_cons_succ]
   refine wpAnyH_done (by kernel_rfl) ?_ _
   clear D3 D4 E4 LH2 LH3 LH4 hHeld
   obtain ⟨bb, hbb⟩ : ∃ bb, Hid (staB A B C S = bb) := ⟨_, rfl⟩
   rw [hbb.out]
   go_wp2_with fail
   refine (toReg_any s1 s2 s3 c1 c2 c3 A B C _ (HD.out.1.later LH5.out) (HD.out.2.1.later LH5.out) (HD.out.2.2.later LH5.out) lA lB lC).mono ?_
   rintro e w6 ⟨⟨a6, b6, d6, rfl, dA6, dB6, dC6⟩, hb6⟩
   have ha6 : Below w6.heap.size w6 (w6.alloc (.cells #[.slice (some ⟨a6, 0, none⟩) A.length A.length, .slice (some ⟨b6, 0, none⟩) B.length B.length, .slice (some ⟨d6, 0, none⟩) C.length C.length] 40)) := bl_alloc (Below.refl _ _) _
   have LH6 : Hid (Below w.heap.size w (w6.alloc (.cells #[.slice (some ⟨a6, 0, none⟩) A.length A.length, .slice (some ⟨b6, 0, none⟩) B.length B.length, .slice (some ⟨d6, 0, none⟩) C.length C.length] 40))) := bl_trans (bl_trans LH5.out hb6) ha6
   have D6 : Hid (Decls (w6.alloc (.cells #[.slice (some ⟨a6, 0, none⟩) A.length A.length, .slice (some ⟨b6, 0, none⟩) B.length B.length, .slice (some ⟨d6, 0, none⟩) C.length C.length] 40)) (some ⟨a6, 0, none⟩) A ∧ Decls (w6.alloc (.cells #[.slice (some ⟨a6, 0, none⟩) A.length A.length, .slice (some ⟨b6, 0, none⟩) B.length B.length, .slice (some ⟨d6, 0, none⟩) C.length C.length] 40)) (some ⟨b6, 0, none⟩) B ∧ Decls (w6.alloc (.cells #[.slice (some ⟨a6, 0, none⟩) A.length A.length, .slice (some ⟨b6, 0, none⟩) B.length B.length, .slice (some ⟨d6, 0, none⟩) C.length C.length] 40)) (some ⟨d6, 0, none⟩) C) := ⟨dA6.later ha6, dB6.later ha6, dC6.later ha6⟩
   have KR : Hid (Blk (w6.alloc (.cells #[.slice (some ⟨a6, 0, none⟩) A.length A.length, .slice (some ⟨b6, 0, none⟩) B.length B.length, .slice (some ⟨d6, 0, none⟩) C.length C.length] 40)) w6.heap.size #[.slice (some ⟨a6, 0, none⟩) A.length A.length, .slice (some ⟨b6, 0, none⟩) B.length B.length, .slice (some ⟨d6, 0, none⟩) C.length C.length] 40) := Blk.new w6 _ _
   have x0 := kcell (bl_trans hb6 ha6) x0
   have x1 := kcell (bl_trans hb6 ha6) x1
   have x2 := kcell (bl_trans hb6 ha6) x2
   have y0 := kcell (bl_trans hb6 ha6) y0
   have y1 := kcell (bl_trans hb6 ha6) y1
   have y2 := kcell (bl_trans hb6 ha6) y2
   have y3 := kcell (bl_trans hb6 ha6) y3
   have y4 := kcell (bl_trans hb6 ha6) y4
   have y5 := kcell (bl_trans hb6 ha6) y5
   clear dA6 dB6 dC6 hb6 ha6 LH5
   go_wp2_with fail
   generalize hX6 : w6.alloc (.cells #[.slice (some ⟨a6, 0, none⟩) A.length A.length, .slice (some ⟨b6, 0, none⟩) B.length B.length, .slice (some ⟨d6, 0, none⟩) C.length C.length] 40) = X6 at LH6 D6 KR x0 x1 x2 y0 y1 y2 y3 y4 y5 ⊢
   clear hX6
   refine (toState_made i1 i2 i3 i4 i5 i6 j1 j2 j3 j4 j5 j6 S 0 _ (HW.out.later LH6.out) HK.out).mono ?_
   rintro e w7 ⟨⟨m7, n7, o7, p7, r7, s7, rfl, hE7⟩, hb7⟩
   have ha7 : Below w7.heap.size w7 (w7.alloc (.cells #[.slice (some ⟨m7, 0, none⟩) S.w.gens.length S.w.gens.length, .slice (some ⟨n7, 0, none⟩) S.w.free.length S.w.free.length, .slice (some ⟨o7, 0, none⟩) S.w.tabs.length S.w.tabs.length, .slice (some ⟨p7, 0, none⟩) S.w.res.length S.w.res.length, .slice (some ⟨r7, 0, none⟩) S.ss.length S.ss.length, .slice (some ⟨s7, 0, none⟩) S.cu.length S.cu.length] 49)) := bl_alloc (Below.refl _ _) _
   have hc7 := bl_trans hb7 ha7
   have LH7 : Hid (Below w.heap.size w (w7.alloc (.cells #[.slice (some ⟨m7, 0, none⟩) S.w.gens.length S.w.gens.length, .slice (some ⟨n7, 0, none⟩) S.w.free.length S.w.free.length, .slice (some ⟨o7, 0, none⟩) S.w.tabs.length S.w.tabs.length, .slice (some ⟨p7, 0, none⟩) S.w.res.length S.w.res.length, .slice (some ⟨r7, 0, none⟩) S.ss.length S.ss.length, .slice (some ⟨s7, 0, none⟩) S.cu.length S.cu.length] 49))) := bl_trans LH6.out hc7
   have D7 : Hid (Decls (w7.alloc (.cells #[.slice (some ⟨m7, 0, none⟩) S.w.gens.length S.w.gens.length, .slice (some ⟨n7, 0, none⟩) S.w.free.length S.w.free.length, .slice (some ⟨o7, 0, none⟩) S.w.tabs.length S.w.tabs.length, .slice (some ⟨p7, 0, none⟩) S.w.res.length S.w.res.length, .slice (some ⟨r7, 0, none⟩) S.ss.length S.ss.length, .slice (some ⟨s7, 0, none⟩) S.cu.length S.cu.length] 49)) (some ⟨a6, 0, none⟩) A ∧ Decls (w7.alloc (.cells #[.slice (some ⟨m7, 0, none⟩) S.w.gens.length S.w.gens.length, .slice (some ⟨n7, 0, none⟩) S.w.free.length S.w.free.length, .slice (some ⟨o7, 0, none⟩) S.w.tabs.length S.w.tabs.length, .slice (some ⟨p7, 0, none⟩) S.w.res.length S.w.res.length, .slice (some ⟨r7, 0, none⟩) S.ss.length S.ss.length, .slice (some ⟨s7, 0, none⟩) S.cu.length S.cu.length] 49)) (some ⟨b6, 0, none⟩) B ∧ Decls (w7.alloc (.cells #[.slice (some ⟨m7, 0, none⟩) S.w.gens.length S.w.gens.length, .slice (some ⟨n7, 0, none⟩) S.w.free.length S.w.free.length, .slice (some ⟨o7, 0, none⟩) S.w.tabs.length S.w.tabs.length, .slice (some ⟨p7, 0, none⟩) S.w.res.length S.w.res.length, .slice (some ⟨r7, 0, none⟩) S.ss.length S.ss.length, .slice (some ⟨s7, 0, none⟩) S.cu.length S.cu.length] 49)) (some ⟨d6, 0, none⟩) C) := ⟨D6.out.1.later hc7, D6.out.2.1.later hc7, D6.out.2.2.later hc7⟩
   have E7 : Hid (InS (w7.alloc (.cells #[.slice (some ⟨m7, 0, none⟩) S.w.gens.length S.w.gens.length, .slice (some ⟨n7, 0, none⟩) S.w.free.length S.w.free.length, .slice (some ⟨o7, 0, none⟩) S.w.tabs.length S.w.tabs.length, .slice (some ⟨p7, 0, none⟩) S.w.res.length S.w.res.length, .slice (some ⟨r7, 0, none⟩) S.ss.length S.ss.length, .slice (some ⟨s7, 0, none⟩) S.cu.length S.cu.length] 49)) 0 (some ⟨m7, 0, none⟩) (some ⟨n7, 0, none⟩) (some ⟨o7, 0, none⟩) (some ⟨p7, 0, none⟩) (some ⟨r7, 0, none⟩) (some ⟨s7, 0, none⟩) S) := (hE7.later ha7).drop (Nat.zero_le _)
   have KR7 : Hid (Blk (w7.alloc (.cells #[.slice (some ⟨m7, 0, none⟩) S.w.gens.length S.w.gens.length, .slice (some ⟨n7, 0, none⟩) S.w.free.length S.w.free.length, .slice (some ⟨o7, 0, none⟩) S.w.tabs.length S.w.tabs.length, .slice (some ⟨p7, 0, none⟩) S.w.res.length S.w.res.length, .slice (some ⟨r7, 0, none⟩) S.ss.length S.ss.length, .slice (some ⟨s7, 0, none⟩) S.cu.length S.cu.length] 49)) w6.heap.size #[.slice (some ⟨a6, 0, none⟩) A.length A.length, .slice (some ⟨b6, 0, none⟩) B.length B.length, .slice (some ⟨d6, 0, none⟩) C.length C.length] 40) := KR.out.later hc7
   have KC : Hid (Blk (w7.alloc (.cells #[.slice (some ⟨m7, 0, none⟩) S.w.gens.length S.w.gens.length, .slice (some ⟨n7, 0, none⟩) S.w.free.length S.w.free.length, .slice (some ⟨o7, 0, none⟩) S.w.tabs.length S.w.tabs.length, .slice (some ⟨p7, 0, none⟩) S.w.res.length S.w.res.length, .slice (some ⟨r7, 0, none⟩) S.ss.length S.ss.length, .slice (some ⟨s7, 0, none⟩) S.cu.length S.cu.length] 49)) w7.heap.size #[.slice (some ⟨m7, 0, none⟩) S.w.gens.length S.w.gens.length, .slice (some ⟨n7, 0, none⟩) S.w.free.length S.w.free.length, .slice (some ⟨o7, 0, none⟩) S.w.tabs.length S.w.tabs.length, .slice (some ⟨p7, 0, none⟩) S.w.res.length S.w.res.length, .slice (some ⟨r7, 0, none⟩) S.ss.length S.ss.length, .slice (some ⟨s7, 0, none⟩) S.cu.length S.cu.length] 49) := Blk.new w7 _ _
   have x0 := kcell hc7 x0
   have x1 := kcell hc7 x1
   have x2 := kcell hc7 x2
   have y0 := kcell hc7 y0
   have y1 := kcell hc7 y1
   have y2 := kcell hc7 y2
   have y3 := kcell hc7 y3
   have y4 := kcell hc7 y4
   have y5 := kcell hc7 y5
   obtain ⟨u0, u1, u2, u3⟩ := KR7.out.three'
   clear hE7 hb7 ha7 hc7 LH6 D6 KR
   go_wp2_with fail
   generalize hX7 : w7.alloc (.cells #[.slice (some ⟨m7, 0, none⟩) S.w.gens.length S.w.gens.length, .slice (some ⟨n7, 0, none⟩) S.w.free.length S.w.free.length, .slice (some ⟨o7, 0, none⟩) S.w.tabs.length S.w.tabs.length, .slice (some ⟨p7, 0, none⟩) S.w.res.length S.w.res.length, .slice (some ⟨r7, 0, none⟩) S.ss.length S.ss.length, .slice (some ⟨s7, 0, none⟩) S.cu.length S.cu.length] 49) = X7 at LH7 D7 E7 KR7 KC u0 u1 u2 x0 x1 x2 y0 y1 y2 y3 y4 y5 ⊢
   clear hX7 u3
   refine (implStateOk_any _ _ _ _ _ _ A B C _ _ _ _ _ _ _ _ _ _ _ _ S _ D7.out.1 D7.out.2.1 D7.out.2.2 NMH.out lA lB lC E7.out HK.out (Nat.le_refl _) BR.out).mono ?_
   rintro e w8 ⟨rfl, hb8⟩
   rw [hbb.out]
   have LH8 : Hid (Below w.heap.size w w8) := bl_trans LH7.out hb8
   have D8 : Hid (Decls w8 (some ⟨a6, 0, none⟩) A ∧ Decls w8 (some ⟨b6, 0, none⟩) B ∧ Decls w8 (some ⟨d6, 0, none⟩) C) := ⟨D7.out.1.later hb8, D7.out.2.1.later hb8, D7.out.2.2.later hb8⟩
   have E8 : Hid (InS w8 0 (some ⟨m7, 0, none⟩) (some ⟨n7, 0, none⟩) (some ⟨o7, 0, none⟩) (some ⟨p7, 0, none⟩) (some ⟨r7, 0, none⟩) (some ⟨s7, 0, none⟩) S) := E7.out.later hb8
   have x0 := kcell hb8 x0
   have x1 := kcell hb8 x1
   have x2 := kcell hb8 x2
   have y0 := kcell hb8 y0
   have y1 := kcell hb8 y1
   have y2 := kcell hb8 y2
   have y3 := kcell hb8 y3
   have y4 := kcell hb8 y4
   have y5 := kcell hb8 y5
   have u0 := kcell hb8 u0
   have u1 := kcell hb8 u1
   have u2 := kcell hb8 u2
   obtain ⟨v0, v1, v2, v3, v4, v5, v9⟩ := (KC.out.later hb8).six'
   clear hb8 LH7 D7 E7 KR7 KC v9
   have hq : (bb != bb) = false := by simp
   go_wp2_with fail
   refine wp_region_held_drew (S := (fun w' => w'.cell? ⟨w.heap.size, 0, none⟩ = some (.slice s1 A.length c1) ∧ w'.cell? ⟨w.heap.size, 1, none⟩ = some (.slice s2 B.length c2) ∧ w'.cell? ⟨w.heap.size, 2, none⟩ = some (.slice s3 C.length c3) ∧ w'.cell? ⟨w.heap.size + 1, 0, none⟩ = some (.slice i1 S.w.gens.length j1) ∧ w'.cell? ⟨w.heap.size + 1, 1, none⟩ = some (.slice i2 S.w.free.length j2) ∧ w'.cell? ⟨w.heap.size + 1, 2, none⟩ = some (.slice i3 S.w.tabs.length j3) ∧ w'.cell? ⟨w.heap.size + 1, 3, none⟩ = some (.slice i4 S.w.res.length j4) ∧ w'.cell? ⟨w.heap.size + 1, 4, none⟩ = some (.slice i5 S.ss.length j5) ∧ w'.cell? ⟨w.heap.size + 1, 5, none⟩ = some (.slice i6 S.cu.length j6) ∧ w'.cell? ⟨w6.heap.size, 0, none⟩ = some (.slice (some ⟨a6, 0, none⟩) A.length A.length) ∧ w'.cell? ⟨w6.heap.size, 1, none⟩ = some (.slice (some ⟨b6, 0, none⟩) B.length B.length) ∧ w'.cell? ⟨w6.heap.size, 2, none⟩ = some (.slice (some ⟨d6, 0, none⟩) C.length C.length) ∧ w'.cell? ⟨w7.heap.size, 0, none⟩ = some (.slice (some ⟨m7, 0, none⟩) S.w.gens.length S.w.gens.length) ∧ w'.cell? ⟨w7.heap.size, 1, none⟩ = some (.slice (some ⟨n7, 0, none⟩) S.w.free.length S.w.free.length) ∧ w'.cell? ⟨w7.heap.size, 2, none⟩ = some (.slice (some ⟨o7, 0, none⟩) S.w.tabs.length S.w.tabs.length) ∧ w'.cell? ⟨w7.heap.size, 3, none⟩ = some (.slice (some ⟨p7, 0, none⟩) S.w.res.length S.w.res.length) ∧ w'.cell? ⟨w7.heap.size, 4, none⟩ = some (.slice (some ⟨r7, 0, none⟩) S.ss.length S.ss.length) ∧ w'.cell? ⟨w7.heap.size, 5, none⟩ = some (.slice (some ⟨s7, 0, none⟩) S.cu.length S.cu.length))) (by kernel_rfl) ?_ (fun hHeld => ?_)
   ·
    exact ⟨x0, x1, x2, y0, y1, y2, y3, y4, y5, u0, u1, u2, v0, v1, v2, v3, v4, v5⟩
   refine wpAnyH_one (i := 0) (d := 35) (v := ?_) rfl rfl (by kernel_rfl) (by kernel_rfl) (by kernel_rfl) (fun _ _ _ h => h) (by rfl) (by assumption) ?_ ?_
   rotate_left 1
   ·
    intro w hSw; (try dsimp only at hSw); go_simp <;> with_reducible rfl
   simp only [List.foldl, Act.put, List.setIfInBounds_toArray, List.set_cons_zero, List.set_cons_succ]
   refine wpAnyH_one (i := 1) (d := 36) (v := ?_) rfl rfl (by kernel_rfl) (by kernel_rfl) (by kernel_rfl) (fun _ _ _ h => h) (by rfl) (by assumption) ?_ ?_
   rotate_left 1
   ·
    intro w hSw; (try dsimp only at hSw); go_simp <;> with_reducible rfl
   simp only [List.foldl, Act.put, List.setIfInBounds_toArray, List.set_cons_zero, List.set_cons_succ]
   refine wpAnyH_ready (rs := [2]) (by kernel_rfl) (by simp) ?_
   refine AllReadyH.cons rfl (fun K hK => ?_) AllReadyH.nil
   go_simp
   refine (toReg_any s1 s2 s3 c1 c2 c3 A B C _ (HD.out.1.later (bl_trans LH8.out (bl_drew (Below.refl _ _)))) (HD.out.2.1.later (bl_trans LH8.out (bl_drew (Below.refl _ _)))) (HD.out.2.2.later (bl_trans LH8.out (bl_drew (Below.refl _ _)))) lA lB lC).mono ?_
   rintro e w9 ⟨⟨a9, b9, d9, rfl, dA9, dB9, dC9⟩, hb_w9⟩
   have hc_w9 : Below w8.heap.size w8 w9 := bl_trans (bl_drew (Below.refl _ _)) hb_w9
   have x0 := kcell hc_w9 x0
   have x1 := kcell hc_w9 x1
   have x2 := kcell hc_w9 x2
   have y0 := kcell hc_w9 y0
   have y1 := kcell hc_w9 y1
   have y2 := kcell hc_w9 y2
   have y3 := kcell hc_w9 y3
   have y4 := kcell hc_w9 y4
   have y5 := kcell hc_w9 y5
   have u0 := kcell hc_w9 u0
   have u1 := kcell hc_w9 u1
   have u2 := kcell hc_w9 u2
   have v0 := kcell hc_w9 v0
   have v1 := kcell hc_w9 v1
   have v2 := kcell hc_w9 v2
   have v3 := kcell hc_w9 v3
   have v4 := kcell hc_w9 v4
   have v5 := kcell hc_w9 v5
   have LH9 : Hid (Below w.heap.size w w9) := bl_trans LH8.out hc_w9
   have H89 : Hid (Below w8.heap.size w8 w9) := hc_w9
   have D9 : Hid (Decls w9 (some ⟨a9, 0, none⟩) A ∧ Decls w9 (some ⟨b9, 0, none⟩) B ∧ Decls w9 (some ⟨d9, 0, none⟩) C) := ⟨dA9, dB9, dC9⟩
   clear dA9 dB9 dC9 hc_w9
   clear hb_w9
   refine hK.out _ _ ?_ (fun hHeld => ?_)
   ·
    exact ⟨x0, x1, x2, y0, y1, y2, y3, y4, y5, u0, u1, u2, v0, v1, v2, v3, v4, v5⟩
   clear hK K
   try simp only [List.foldl, Act.put, List.setIfInBounds_toArray, List.set_cons_zero, List.set_cons_succ]
   refine wpAnyH_ready (rs := [3]) (by kernel_rfl) (by simp) ?_
   refine AllReadyH.cons rfl (fun K hK => ?_) AllReadyH.nil
   go_simp
   refine (eqReg_same _ _ _ _ _ _ _ _ _ _ _ _ A B C _ (D8.out.1.later H89.out) (D8.out.2.1.later H89.out) (D8.out.2.2.later H89.out) D9.out.1 D9.out.2.1 D9.out.2.2 lA lB lC).mono ?_
   rintro e wa ⟨rfl, hb_wa⟩
   have hc_wa : Below w9.heap.size w9 wa := hb_wa
   have x0 := kcell hc_wa x0
   have x1 := kcell hc_wa x1
   have x2 := kcell hc_wa x2
   have y0 := kcell hc_wa y0
   have y1 := kcell hc_wa y1
   have y2 := kcell hc_wa y2
   have y3 := kcell hc_wa y3
   have y4 := kcell hc_wa y4
   have y5 := kcell hc_wa y5
   have u0 := kcell hc_wa u0
   have u1 := kcell hc_wa u1
   have u2 := kcell hc_wa u2
   have v0 := kcell hc_wa v0
   have v1 := kcell hc_wa v1
   have v2 := kcell hc_wa v2
   have v3 := kcell hc_wa v3
   have v4 := kcell hc_wa v4
   have v5 := kcell hc_wa v5
   have LHa : Hid (Below w.heap.size w wa) := bl_trans LH9.out hc_wa
   have Ea : Hid (InS wa 0 (some ⟨m7, 0, none⟩) (some ⟨n7, 0, none⟩) (some ⟨o7, 0, none⟩) (some ⟨p7, 0, none⟩) (some ⟨r7, 0, none⟩) (some ⟨s7, 0, none⟩) S) := (E8.out.later H89.out).later hc_wa
   clear hc_wa
   clear hb_wa
   refine hK.out _ _ ?_ (fun hHeld => ?_)
   ·
    exact ⟨x0, x1, x2, y0, y1, y2, y3, y4, y5, u0, u1, u2, v0, v1, v2, v3, v4, v5⟩
   clear hK K
   try simp only [List.foldl, Act.put, List.setIfInBounds_toArray, List.set_cons_zero, List.set_cons_succ]
   refine wpAnyH_one (i := 4) (d := 39) (v := ?_) rfl rfl (by kernel_rfl) (by kernel_rfl) (by kernel_rfl) (fun _ _ _ h => h) (by rfl) (by assumption) ?_ ?_
   rotate_left 1
   ·
    intro w hSw; (try dsimp only at hSw); go_simp <;> with_reducible rfl
   simp only [List.foldl, Act.put, List.setIfInBounds_toArray, List.set_cons_zero, List.set_cons_succ]
   refine wpAnyH_done (by kernel_rfl) ?_ _
   clear LH8 LH9 D8 D9 E8 H89 hHeld
   go_wp2_with fail
   refine wp_region_held_drew (S := (fun w' => w'.cell? ⟨w.heap.size, 0, none⟩ = some (.slice s1 A.length c1) ∧ w'.cell? ⟨w.heap.size, 1, none⟩ = some (.slice s2 B.length c2) ∧ w'.cell? ⟨w.heap.size, 2, none⟩ = some (.slice s3 C.length c3) ∧ w'.cell? ⟨w.heap.size + 1, 0, none⟩ = some (.slice i1 S.w.gens.length j1) ∧ w'.cell? ⟨w.heap.size + 1, 1, none⟩ = some (.slice i2 S.w.free.length j2) ∧ w'.cell? ⟨w.heap.size + 1, 2, none⟩ = some (.slice i3 S.w.tabs.length j3) ∧ w'.cell? ⟨w.heap.size + 1, 3, none⟩ = some (.slice i4 S.w.res.length j4) ∧ w'.cell? ⟨w.heap.size + 1, 4, none⟩ = some (.slice i5 S.ss.length j5) ∧ w'.cell? ⟨w.heap.size + 1, 5, none⟩ = some (.slice i6 S.cu.length j6) ∧ w'.cell? ⟨w6.heap.size, 0, none⟩ = some (.slice (some ⟨a6, 0, none⟩) A.length A.length) ∧ w'.cell? ⟨w6.heap.size, 1, none⟩ = some (.slice (some ⟨b6, 0, none⟩) B.length B.length) ∧ w'.cell? ⟨w6.heap.size, 2, none⟩ = some (.slice (some ⟨d6, 0, none⟩) C.length C.length) ∧ w'.cell? ⟨w7.heap.size, 0, none⟩ = some (.slice (some ⟨m7, 0, none⟩) S.w.gens.length S.w.gens.length) ∧ w'.cell? ⟨w7.heap.size, 1, none⟩ = some (.slice (some ⟨n7, 0, none⟩) S.w.free.length S.w.free.length) ∧ w'.cell? ⟨w7.heap.size, 2, none⟩ = some (.slice (some ⟨o7, 0, none⟩) S.w.tabs.length S.w.tabs.length) ∧ w'.cell? ⟨w7.heap.size, 3, none⟩ = some (.slice (some ⟨p7, 0, none⟩) S.w.res.length S.w.res.length) ∧ w'.cell? ⟨w7.heap.size, 4, none⟩ = some (.slice (some ⟨r7, 0, none⟩) S.ss.length S.ss.length) ∧ w'.cell? ⟨w7.heap.size, 5, none⟩ = some (.slice (some ⟨s7, 0, none⟩) S.cu.length S.cu.length))) (by kernel_rfl) ?_ (fun hHeld => ?_)
   ·
    exact ⟨x0, x1, x2, y0, y1, y2, y3, y4, y5, u0, u1, u2, v0, v1, v2, v3, v4, v5⟩
   refine wpAnyH_one (i := 0) (d := 40) (v := ?_) rfl rfl (by kernel_rfl) (by kernel_rfl) (by kernel_rfl) (fun _ _ _ h => h) (by rfl) (by assumption) ?_ ?_
   rotate_left 1
   ·
    intro w hSw; (try dsimp only at hSw); go_simp <;> with_reducible rfl
   simp only [List.foldl, Act.put, List.setIfInBounds_toArray, List.set_cons_zero, List.set_cons_succ]
   refine wpAnyH_one (i := 1) (d := 41) (v := ?_) rfl rfl (by kernel_rfl) (by kernel_rfl) (by kernel_rfl) (fun _ _ _ h => h) (by rfl) (by assumption) ?_ ?_
   rotate_left 1
   ·
    intro w hSw; (try dsimp only at hSw); go_simp <;> with_reducible rfl
   simp only [List.foldl, Act.put, List.setIfInBounds_toArray, List.set_cons_zero, List.set_cons_succ]
   refine wpAnyH_ready (rs := [2]) (by kernel_rfl) (by simp) ?_
   refine AllReadyH.cons rfl (fun K hK => ?_) AllReadyH.nil
   go_simp
   refine (toState_made i1 i2 i3 i4 i5 i6 j1 j2 j3 j4 j5 j6 S 0 _ (HW.out.later (bl_trans LHa.out (bl_drew (Below.refl _ _)))) HK.out).mono ?_
   rintro e wb ⟨⟨mb, nb, ob, pb, rb, sb, rfl, hEb⟩, hb_wb⟩
   have hc_wb : Below wa.heap.size wa wb := bl_trans (bl_drew (Below.refl _ _)) hb_wb
   have x0 := kcell hc_wb x0
   have x1 := kcell hc_wb x1
   have x2 := kcell hc_wb x2
   have y0 := kcell hc_wb y0
   have y1 := kcell hc_wb y1
   have y2 := kcell hc_wb y2
   have y3 := kcell hc_wb y3
   have y4 := kcell hc_wb y4
   have y5 := kcell hc_wb y5
   have u0 := kcell hc_wb u0
   have u1 := kcell hc_wb u1
   have u2 := kcell hc_wb u2
   have v0 := kcell hc_wb v0
   have v1 := kcell hc_wb v1
   have v2 := kcell hc_wb v2
   have v3 := kcell hc_wb v3
   have v4 := kcell hc_wb v4
   have v5 := kcell hc_wb v5
   have LHb : Hid (Below w.heap.size w wb) := bl_trans LHa.out hc_wb
   have Eb : Hid (InS wb 0 (some ⟨mb, 0, none⟩) (some ⟨nb, 0, none⟩) (some ⟨ob, 0, none⟩) (some ⟨pb, 0, none⟩) (some ⟨rb, 0, none⟩) (some ⟨sb, 0, none⟩) S) := hEb.drop (Nat.zero_le _)
   have Ec : Hid (InS wb 0 (some ⟨m7, 0, none⟩) (some ⟨n7, 0, none⟩) (some ⟨o7, 0, none⟩) (some ⟨p7, 0, none⟩) (some ⟨r7, 0, none⟩) (some ⟨s7, 0, none⟩) S) := Ea.out.later hc_wb
   clear hEb hc_wb
   clear hb_wb
   refine hK.out _ _ ?_ (fun hHeld => ?_)
   ·
    exact ⟨x0, x1, x2, y0, y1, y2, y3, y4, y5, u0, u1, u2, v0, v1, v2, v3, v4, v5⟩
   clear hK K
   try simp only [List.foldl, Act.put, List.setIfInBounds_toArray, List.set_cons_zero, List.set_cons_succ]
   refine wpAnyH_ready (rs := [3]) (by kernel_rfl) (by simp) ?_
   refine AllReadyH.cons rfl (fun K hK => ?_) AllReadyH.nil
   go_simp
   refine (eqState_gen _ _ _ _ _ _ _ _ _ _ _ _ _ _ _ _ _ _ _ _ _ _ _ _ S _ _ _ Ec.out Eb.out HK.out).mono ?_
   rintro e wc ⟨rfl, hb_wc⟩
   have hc_wc : Below wb.heap.size wb wc := hb_wc
   have x0 := kcell hc_wc x0
   have x1 := kcell hc_wc x1
   have x2 := kcell hc_wc x2
   have y0 := kcell hc_wc y0
   have y1 := kcell hc_wc y1
   have y2 := kcell hc_wc y2
   have y3 := kcell hc_wc y3
   have y4 := kcell hc_wc y4
   have y5 := kcell hc_wc y5
   have u0 := kcell hc_wc u0
   have u1 := kcell hc_wc u1
   have u2 := kcell hc_wc u2
   have v0 := kcell hc_wc v0
   have v1 := kcell hc_wc v1
   have v2 := kcell hc_wc v2
   have v3 := kcell hc_wc v3
   have v4 := kcell hc_wc v4
   have v5 := kcell hc_wc v5
   have LHc : Hid (Below w.heap.size w wc) := bl_trans LHb.out hc_wc
   clear hc_wc
   clear hb_wc
   refine hK.out _ _ ?_ (fun hHeld => ?_)
   ·
    exact ⟨x0, x1, x2, y0, y1, y2, y3, y4, y5, u0, u1, u2, v0, v1, v2, v3, v4, v5⟩
   clear hK K
   try simp only [List.foldl, Act.put, List.setIfInBounds_toArray, List.set_cons_zero, List.set_cons_succ]
   refine wpAnyH_one (i := 4) (d := 44) (v := ?_) rfl rfl (by kernel_rfl) (by kernel_rfl) (by kernel_rfl) (fun _ _ _ h => h) (by rfl) (by assumption) ?_ ?_
   rotate_left 1
   ·
    intro w hSw; (try dsimp only at hSw); go_simp <;> with_reducible rfl
   simp only [List.foldl, Act.put, List.setIfInBounds_toArray, List.set_cons_zero, List.set_cons_succ]
   refine wpAnyH_done (by kernel_rfl) ?_ _
   go_wp2_with fail
   go_ret
   exact ⟨rfl, LHc.out⟩
end Go.Proofs.Ytjfpflejnbnhnaa
