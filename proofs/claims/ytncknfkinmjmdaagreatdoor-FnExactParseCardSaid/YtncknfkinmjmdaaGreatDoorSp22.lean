import Derived.Test.YtncknfkinmjmdaaGreatDoorSp21
namespace Go.Proofs.YtncknfkinmjmdaaGreatDoor
open Go.RowKit
set_option linter.unusedVariables false
set_option linter.unusedSimpArgs false
set_option maxRecDepth 100000
set_option maxHeartbeats 8000000 in
theorem node_live (T : List Tk) (E : Int) (k g : Nat) (sl : Option Addr) (cp i d : Nat) (v : Value) (Q : List NK) (P : List OR) (X : World) (B : Nat) (a b : Int) (t : ByteArray) (kids : List Int) (sk : Option Addr) (ck : Nat) (w : World) (hR : Rs X B w (sR T E k sl cp i d v Q (rI (.slice sk kids.length ck) kids :: P))) (hq : Q.length ≤ 1000000) :
  Calls Tryz.prog 14 #[.pointer (some ⟨k, 0, none⟩), .agg #[.int .i64 a, .string t, .int .i64 b, .slice sk kids.length ck]] w fun e w' => e = .returned (.int .i64 (Q.length : Int)) ∧ ∃ v', Rs X B w' (sR T E k sl cp i d v' (Q ++ [(nd a t b kids, .slice sk kids.length ck)]) P) := by
 have hal := alloc_old
 have haf := alloc_oldf
 obtain ⟨iN, hiN, hzN, hsN, hbN⟩ := info_parts Tryz.infoNd
 have hR := hid (hR.addB [.int .i64 a, .string t, .int .i64 b, .slice sk kids.length ck] 42)
 obtain ⟨x0, x1, x2, x3, x4, x5, x6, xf⟩ := (hR.out.box [rB w.heap.size 42 [.int .i64 a, .string t, .int .i64 b, .slice sk kids.length ck]] (rN v Q :: (rK Q ++ (rI (.slice sk kids.length ck) kids :: P)))).seven
 have hz : ((0 : Int) != 0) = false := rfl
 go_enter Tryz.func14, Tryz.ntmps14
 go_upto_region 3 with fail
 clear x0 x1 x2 x3 x4 x5 x6 xf; generalize hW : w.alloc (.cells #[.int .i64 a, .string t, .int .i64 b, .slice sk kids.length ck] 42) = W0 at hR ⊢
 generalize hka : w.heap.size = ka at hR ⊢
 clear hW hka; go_cut [4] (fun _ wx => ∃ ka kb sv2 cv2, Rs X B wx ([rB ka 42 [.int .i64 a, .string t, .int .i64 b, .slice sk kids.length ck], rB k 36 [.slice sl T.length cp, .int .i64 i, .slice sv2 (Q.length + 1) cv2, .int .i64 0, .int .i64 0, .int .i64 d, .int .i64 E], (⟨42, 4, .slice sv2 (Q.length + 1) cv2, Q.length + 1, Q.flatMap nc ++ [.int .i64 a, .string t, .int .i64 b, .slice sk kids.length ck]⟩ : OR), rB kb 42 [.int .i64 a, .string t, .int .i64 b, .slice sk kids.length ck]] ++ (rK Q ++ (rI (.slice sk kids.length ck) kids :: P))))
 case first =>
  refine wp_region_held_drew (S := (fun w' => Blk w' ka #[.int .i64 a, .string t, .int .i64 b, .slice sk kids.length ck] 42)) (by kernel_rfl) ?_ (fun hHeld => ?_)
  ·
   exact hR.out.box [] ([rB k 36 [.slice sl T.length cp, .int .i64 i, v, .int .i64 0, .int .i64 0, .int .i64 d, .int .i64 E], rN v Q] ++ (rK Q ++ (rI (.slice sk kids.length ck) kids :: P)))
  have hR := Hid.mk' hR.out.drew
  refine wpr 0 10 ?_; simp only [zs]; refine wpr 1 11 ?_; simp only [zs]; refine wpr 2 12 ?_; simp only [zs]; refine wpr 3 13 ?_; simp only [zs]; refine wpq (v := ?_) 5 15 rfl rfl ?_ ?_
  rotate_left 1
  ·
   intro w hSw; (try dsimp only at hSw); obtain ⟨x0, x1, x2, x3, x4⟩ := hSw.four'; go_simp <;> with_reducible rfl
  simp only [zs]; refine wpAnyH_ready (rs := [4, 6]) (by kernel_rfl) (by simp) ?_
  refine AllReadyH.cons rfl (fun K hK => ?_) ?_
  ·
   skip
   have hbx := hR.out.box [rB ka 42 [.int .i64 a, .string t, .int .i64 b, .slice sk kids.length ck]] ([rN v Q] ++ (rK Q ++ (rI (.slice sk kids.length ck) kids :: P)))
   have x0 := hbx.cell 2
   have x1 := hbx.frozen 2
   clear hbx; go_simp; clear x0 x1; refine hK.out _ _ ?_ (fun hHeld => ?_)
   ·
    exact hR.out.box [] ([rB k 36 [.slice sl T.length cp, .int .i64 i, v, .int .i64 0, .int .i64 0, .int .i64 d, .int .i64 E], rN v Q] ++ (rK Q ++ (rI (.slice sk kids.length ck) kids :: P)))
   clear hK K; try simp only [zs]
   refine wpy 6 fun K hK => ?_
   refine step_bs4 [rB ka 42 [.int .i64 a, .string t, .int .i64 b, .slice sk kids.length ck], rB k 36 [.slice sl T.length cp, .int .i64 i, v, .int .i64 0, .int .i64 0, .int .i64 d, .int .i64 E], rN v Q] (rK Q ++ (rI (.slice sk kids.length ck) kids :: P)) hR.out rfl (d0 := (some 16)) rfl 22 42 Tryz.underlying22 hiN hzN hsN (.tmp 15) rfl (.int .i64 a) (.string t) (.int .i64 b) (.slice sk kids.length ck) rfl ?_
   intro kb g2 hR'
   have hR : Hid (Rs X B g2 ([rB ka 42 [.int .i64 a, .string t, .int .i64 b, .slice sk kids.length ck], rB k 36 [.slice sl T.length cp, .int .i64 i, v, .int .i64 0, .int .i64 0, .int .i64 d, .int .i64 E], rN v Q, rB kb 42 [.int .i64 a, .string t, .int .i64 b, .slice sk kids.length ck]] ++ (rK Q ++ (rI (.slice sk kids.length ck) kids :: P)))) := hR'
   clear hR'; refine hK.out _ _ ?_ (fun hHeld => ?_)
   ·
    exact hR.out.box [] ([rB k 36 [.slice sl T.length cp, .int .i64 i, v, .int .i64 0, .int .i64 0, .int .i64 d, .int .i64 E], rN v Q, rB kb 42 [.int .i64 a, .string t, .int .i64 b, .slice sk kids.length ck]] ++ (rK Q ++ (rI (.slice sk kids.length ck) kids :: P)))
   clear hK K; try simp only [zs]
   refine wpy 7 fun K hK => ?_
   refine step_app [rB ka 42 [.int .i64 a, .string t, .int .i64 b, .slice sk kids.length ck], rB k 36 [.slice sl T.length cp, .int .i64 i, v, .int .i64 0, .int .i64 0, .int .i64 d, .int .i64 E]] ([rB kb 42 [.int .i64 a, .string t, .int .i64 b, .slice sk kids.length ck]] ++ (rK Q ++ (rI (.slice sk kids.length ck) kids :: P))) hR.out rfl (d0 := (some 17)) rfl (.tmp 14) (.tmp 16) 22 56 rfl Tryz.underlying22 hiN hzN hsN hbN rfl (Nat.succ_pos _) rfl (some ⟨kb, 0, none⟩) 1 1 [.int .i64 a, .string t, .int .i64 b, .slice sk kids.length ck] rfl rfl (Or.inr ⟨_, rfl, news4 (hR.out.box [rB ka 42 [.int .i64 a, .string t, .int .i64 b, .slice sk kids.length ck], rB k 36 [.slice sl T.length cp, .int .i64 i, v, .int .i64 0, .int .i64 0, .int .i64 d, .int .i64 E], rN v Q] (rK Q ++ (rI (.slice sk kids.length ck) kids :: P)))⟩) (by intro u hu; simp only [List.mem_cons, List.not_mem_nil, or_false] at hu; rcases hu with rfl | rfl | rfl | rfl <;> rfl) (by show Q.length + 1 ≤ _; unfold maxLen; omega) (by show (Q.length + 1) * 56 ≤ _; omega) (Q.length + 1) rfl (fun v => (⟨42, 4, v, Q.length + 1, Q.flatMap nc ++ [.int .i64 a, .string t, .int .i64 b, .slice sk kids.length ck]⟩ : OR)) (fun _ => rfl) ?_
   intro sv2 cv2 g3 hR'
   have hR : Hid (Rs X B g3 ([rB ka 42 [.int .i64 a, .string t, .int .i64 b, .slice sk kids.length ck], rB k 36 [.slice sl T.length cp, .int .i64 i, v, .int .i64 0, .int .i64 0, .int .i64 d, .int .i64 E], (⟨42, 4, (.slice sv2 (Q.length + 1) cv2), Q.length + 1, Q.flatMap nc ++ [.int .i64 a, .string t, .int .i64 b, .slice sk kids.length ck]⟩ : OR), rB kb 42 [.int .i64 a, .string t, .int .i64 b, .slice sk kids.length ck]] ++ (rK Q ++ (rI (.slice sk kids.length ck) kids :: P)))) := hR'
   clear hR'; refine hK.out _ _ ?_ (fun hHeld => ?_)
   ·
    exact hR.out.box [] ([rB k 36 [.slice sl T.length cp, .int .i64 i, v, .int .i64 0, .int .i64 0, .int .i64 d, .int .i64 E], (⟨42, 4, (.slice sv2 (Q.length + 1) cv2), Q.length + 1, Q.flatMap nc ++ [.int .i64 a, .string t, .int .i64 b, .slice sk kids.length ck]⟩ : OR), rB kb 42 [.int .i64 a, .string t, .int .i64 b, .slice sk kids.length ck]] ++ (rK Q ++ (rI (.slice sk kids.length ck) kids :: P)))
   clear hK K; try simp only [zs]
   refine wpr 8 18 ?_; simp only [zs]; refine wpr 9 19 ?_; simp only [zs]; refine wpy 10 fun K hK => ?_
   have hbx := hR.out.box [rB ka 42 [.int .i64 a, .string t, .int .i64 b, .slice sk kids.length ck]] ([(⟨42, 4, (.slice sv2 (Q.length + 1) cv2), Q.length + 1, Q.flatMap nc ++ [.int .i64 a, .string t, .int .i64 b, .slice sk kids.length ck]⟩ : OR), rB kb 42 [.int .i64 a, .string t, .int .i64 b, .slice sk kids.length ck]] ++ (rK Q ++ (rI (.slice sk kids.length ck) kids :: P)))
   have x0 := hbx.cell 2
   have x1 := hbx.frozen 2
   clear hbx; go_simp; clear x0 x1; have hR : Hid (Rs X B _ ([rB ka 42 [.int .i64 a, .string t, .int .i64 b, .slice sk kids.length ck], rB k 36 [.slice sl T.length cp, .int .i64 i, .slice sv2 (Q.length + 1) cv2, .int .i64 0, .int .i64 0, .int .i64 d, .int .i64 E], (⟨42, 4, (.slice sv2 (Q.length + 1) cv2), Q.length + 1, Q.flatMap nc ++ [.int .i64 a, .string t, .int .i64 b, .slice sk kids.length ck]⟩ : OR), rB kb 42 [.int .i64 a, .string t, .int .i64 b, .slice sk kids.length ck]] ++ (rK Q ++ (rI (.slice sk kids.length ck) kids :: P)))) := Hid.mk' (hR.out.setB [rB ka 42 [.int .i64 a, .string t, .int .i64 b, .slice sk kids.length ck]] ([(⟨42, 4, (.slice sv2 (Q.length + 1) cv2), Q.length + 1, Q.flatMap nc ++ [.int .i64 a, .string t, .int .i64 b, .slice sk kids.length ck]⟩ : OR), rB kb 42 [.int .i64 a, .string t, .int .i64 b, .slice sk kids.length ck]] ++ (rK Q ++ (rI (.slice sk kids.length ck) kids :: P))) 2 (.slice sv2 (Q.length + 1) cv2))
   refine hK.out _ _ ?_ (fun hHeld => ?_)
   ·
    exact hR.out.box [] ([rB k 36 [.slice sl T.length cp, .int .i64 i, .slice sv2 (Q.length + 1) cv2, .int .i64 0, .int .i64 0, .int .i64 d, .int .i64 E], (⟨42, 4, (.slice sv2 (Q.length + 1) cv2), Q.length + 1, Q.flatMap nc ++ [.int .i64 a, .string t, .int .i64 b, .slice sk kids.length ck]⟩ : OR), rB kb 42 [.int .i64 a, .string t, .int .i64 b, .slice sk kids.length ck]] ++ (rK Q ++ (rI (.slice sk kids.length ck) kids :: P)))
   clear hK K; try simp only [zs]
   refine wpAnyH_done (by kernel_rfl) ?_ _
   clear hHeld; go_wp2_with fail; go_meet; exact ⟨ka, kb, sv2, cv2, hR.out⟩
  refine AllReadyH.cons rfl (fun K hK => ?_) AllReadyH.nil
  refine step_bs4 [rB ka 42 [.int .i64 a, .string t, .int .i64 b, .slice sk kids.length ck], rB k 36 [.slice sl T.length cp, .int .i64 i, v, .int .i64 0, .int .i64 0, .int .i64 d, .int .i64 E], rN v Q] (rK Q ++ (rI (.slice sk kids.length ck) kids :: P)) hR.out rfl (d0 := (some 16)) rfl 22 42 Tryz.underlying22 hiN hzN hsN (.tmp 15) rfl (.int .i64 a) (.string t) (.int .i64 b) (.slice sk kids.length ck) rfl ?_
  intro kb g5 hR'
  have hR : Hid (Rs X B g5 ([rB ka 42 [.int .i64 a, .string t, .int .i64 b, .slice sk kids.length ck], rB k 36 [.slice sl T.length cp, .int .i64 i, v, .int .i64 0, .int .i64 0, .int .i64 d, .int .i64 E], rN v Q, rB kb 42 [.int .i64 a, .string t, .int .i64 b, .slice sk kids.length ck]] ++ (rK Q ++ (rI (.slice sk kids.length ck) kids :: P)))) := hR'
  clear hR'; refine hK.out _ _ ?_ (fun hHeld => ?_)
  ·
   exact hR.out.box [] ([rB k 36 [.slice sl T.length cp, .int .i64 i, v, .int .i64 0, .int .i64 0, .int .i64 d, .int .i64 E], rN v Q, rB kb 42 [.int .i64 a, .string t, .int .i64 b, .slice sk kids.length ck]] ++ (rK Q ++ (rI (.slice sk kids.length ck) kids :: P)))
  clear hK K; try simp only [zs]
  refine wpy 4 fun K hK => ?_
  have hbx := hR.out.box [rB ka 42 [.int .i64 a, .string t, .int .i64 b, .slice sk kids.length ck]] ([rN v Q, rB kb 42 [.int .i64 a, .string t, .int .i64 b, .slice sk kids.length ck]] ++ (rK Q ++ (rI (.slice sk kids.length ck) kids :: P)))
  have x0 := hbx.cell 2
  have x1 := hbx.frozen 2
  clear hbx; go_simp; clear x0 x1; refine hK.out _ _ ?_ (fun hHeld => ?_)
  ·
   exact hR.out.box [] ([rB k 36 [.slice sl T.length cp, .int .i64 i, v, .int .i64 0, .int .i64 0, .int .i64 d, .int .i64 E], rN v Q, rB kb 42 [.int .i64 a, .string t, .int .i64 b, .slice sk kids.length ck]] ++ (rK Q ++ (rI (.slice sk kids.length ck) kids :: P)))
  clear hK K; try simp only [zs]
  refine wpy 7 fun K hK => ?_
  refine step_app [rB ka 42 [.int .i64 a, .string t, .int .i64 b, .slice sk kids.length ck], rB k 36 [.slice sl T.length cp, .int .i64 i, v, .int .i64 0, .int .i64 0, .int .i64 d, .int .i64 E]] ([rB kb 42 [.int .i64 a, .string t, .int .i64 b, .slice sk kids.length ck]] ++ (rK Q ++ (rI (.slice sk kids.length ck) kids :: P))) hR.out rfl (d0 := (some 17)) rfl (.tmp 14) (.tmp 16) 22 56 rfl Tryz.underlying22 hiN hzN hsN hbN rfl (Nat.succ_pos _) rfl (some ⟨kb, 0, none⟩) 1 1 [.int .i64 a, .string t, .int .i64 b, .slice sk kids.length ck] rfl rfl (Or.inr ⟨_, rfl, news4 (hR.out.box [rB ka 42 [.int .i64 a, .string t, .int .i64 b, .slice sk kids.length ck], rB k 36 [.slice sl T.length cp, .int .i64 i, v, .int .i64 0, .int .i64 0, .int .i64 d, .int .i64 E], rN v Q] (rK Q ++ (rI (.slice sk kids.length ck) kids :: P)))⟩) (by intro u hu; simp only [List.mem_cons, List.not_mem_nil, or_false] at hu; rcases hu with rfl | rfl | rfl | rfl <;> rfl) (by show Q.length + 1 ≤ _; unfold maxLen; omega) (by show (Q.length + 1) * 56 ≤ _; omega) (Q.length + 1) rfl (fun v => (⟨42, 4, v, Q.length + 1, Q.flatMap nc ++ [.int .i64 a, .string t, .int .i64 b, .slice sk kids.length ck]⟩ : OR)) (fun _ => rfl) ?_
  intro sv2 cv2 g7 hR'
  have hR : Hid (Rs X B g7 ([rB ka 42 [.int .i64 a, .string t, .int .i64 b, .slice sk kids.length ck], rB k 36 [.slice sl T.length cp, .int .i64 i, v, .int .i64 0, .int .i64 0, .int .i64 d, .int .i64 E], (⟨42, 4, (.slice sv2 (Q.length + 1) cv2), Q.length + 1, Q.flatMap nc ++ [.int .i64 a, .string t, .int .i64 b, .slice sk kids.length ck]⟩ : OR), rB kb 42 [.int .i64 a, .string t, .int .i64 b, .slice sk kids.length ck]] ++ (rK Q ++ (rI (.slice sk kids.length ck) kids :: P)))) := hR'
  clear hR'; refine hK.out _ _ ?_ (fun hHeld => ?_)
  ·
   exact hR.out.box [] ([rB k 36 [.slice sl T.length cp, .int .i64 i, v, .int .i64 0, .int .i64 0, .int .i64 d, .int .i64 E], (⟨42, 4, (.slice sv2 (Q.length + 1) cv2), Q.length + 1, Q.flatMap nc ++ [.int .i64 a, .string t, .int .i64 b, .slice sk kids.length ck]⟩ : OR), rB kb 42 [.int .i64 a, .string t, .int .i64 b, .slice sk kids.length ck]] ++ (rK Q ++ (rI (.slice sk kids.length ck) kids :: P)))
  clear hK K; try simp only [zs]
  refine wpr 8 18 ?_; simp only [zs]; refine wpr 9 19 ?_; simp only [zs]; refine wpy 10 fun K hK => ?_
  have hbx := hR.out.box [rB ka 42 [.int .i64 a, .string t, .int .i64 b, .slice sk kids.length ck]] ([(⟨42, 4, (.slice sv2 (Q.length + 1) cv2), Q.length + 1, Q.flatMap nc ++ [.int .i64 a, .string t, .int .i64 b, .slice sk kids.length ck]⟩ : OR), rB kb 42 [.int .i64 a, .string t, .int .i64 b, .slice sk kids.length ck]] ++ (rK Q ++ (rI (.slice sk kids.length ck) kids :: P)))
  have x0 := hbx.cell 2
  have x1 := hbx.frozen 2
  clear hbx; go_simp; clear x0 x1; have hR : Hid (Rs X B _ ([rB ka 42 [.int .i64 a, .string t, .int .i64 b, .slice sk kids.length ck], rB k 36 [.slice sl T.length cp, .int .i64 i, .slice sv2 (Q.length + 1) cv2, .int .i64 0, .int .i64 0, .int .i64 d, .int .i64 E], (⟨42, 4, (.slice sv2 (Q.length + 1) cv2), Q.length + 1, Q.flatMap nc ++ [.int .i64 a, .string t, .int .i64 b, .slice sk kids.length ck]⟩ : OR), rB kb 42 [.int .i64 a, .string t, .int .i64 b, .slice sk kids.length ck]] ++ (rK Q ++ (rI (.slice sk kids.length ck) kids :: P)))) := Hid.mk' (hR.out.setB [rB ka 42 [.int .i64 a, .string t, .int .i64 b, .slice sk kids.length ck]] ([(⟨42, 4, (.slice sv2 (Q.length + 1) cv2), Q.length + 1, Q.flatMap nc ++ [.int .i64 a, .string t, .int .i64 b, .slice sk kids.length ck]⟩ : OR), rB kb 42 [.int .i64 a, .string t, .int .i64 b, .slice sk kids.length ck]] ++ (rK Q ++ (rI (.slice sk kids.length ck) kids :: P))) 2 (.slice sv2 (Q.length + 1) cv2))
  refine hK.out _ _ ?_ (fun hHeld => ?_)
  ·
   exact hR.out.box [] ([rB k 36 [.slice sl T.length cp, .int .i64 i, .slice sv2 (Q.length + 1) cv2, .int .i64 0, .int .i64 0, .int .i64 d, .int .i64 E], (⟨42, 4, (.slice sv2 (Q.length + 1) cv2), Q.length + 1, Q.flatMap nc ++ [.int .i64 a, .string t, .int .i64 b, .slice sk kids.length ck]⟩ : OR), rB kb 42 [.int .i64 a, .string t, .int .i64 b, .slice sk kids.length ck]] ++ (rK Q ++ (rI (.slice sk kids.length ck) kids :: P)))
  clear hK K; try simp only [zs]
  refine wpAnyH_done (by kernel_rfl) ?_ _
  clear hHeld; go_wp2_with fail; go_meet; exact ⟨ka, kb, sv2, cv2, hR.out⟩
 obtain ⟨ka, kb, sv2, cv2, h⟩ := hcut
 obtain ⟨w5, hw5⟩ : ∃ w5, w5 = wc := ⟨_, rfl⟩
 rw [← hw5] at h ⊢
 have h1 := hid ((h.less [] (([rB k 36 [.slice sl T.length cp, .int .i64 i, .slice sv2 (Q.length + 1) cv2, .int .i64 0, .int .i64 0, .int .i64 d, .int .i64 E], (⟨42, 4, .slice sv2 (Q.length + 1) cv2, Q.length + 1, Q.flatMap nc ++ [.int .i64 a, .string t, .int .i64 b, .slice sk kids.length ck]⟩ : OR), rB kb 42 [.int .i64 a, .string t, .int .i64 b, .slice sk kids.length ck]] ++ (rK Q ++ (rI (.slice sk kids.length ck) kids :: P))))).less [rB k 36 [.slice sl T.length cp, .int .i64 i, .slice sv2 (Q.length + 1) cv2, .int .i64 0, .int .i64 0, .int .i64 d, .int .i64 E], (⟨42, 4, .slice sv2 (Q.length + 1) cv2, Q.length + 1, Q.flatMap nc ++ [.int .i64 a, .string t, .int .i64 b, .slice sk kids.length ck]⟩ : OR)] ((rK Q ++ (rI (.slice sk kids.length ck) kids :: P))))
 clear h hw5 hR; have y := h1.out.box [] (([(⟨42, 4, .slice sv2 (Q.length + 1) cv2, Q.length + 1, Q.flatMap nc ++ [.int .i64 a, .string t, .int .i64 b, .slice sk kids.length ck]⟩ : OR)] ++ (rK Q ++ (rI (.slice sk kids.length ck) kids :: P))))
 have y3 := y.cell 2
 have y4 := y.frozen
 clear y; have tw : IntKind.i64.wrap ((Q.length : Int) + 1 - 1) = (Q.length : Int) := by rw [IntKind.wrap_i64]; omega
 go_wp2_with fail; go_ret; refine ⟨rfl, .slice sv2 (Q.length + 1) cv2, ?_⟩
 have e1 : rN (.slice sv2 (Q.length + 1) cv2) (Q ++ [(nd a t b kids, .slice sk kids.length ck)]) = (⟨42, 4, .slice sv2 (Q.length + 1) cv2, Q.length + 1, Q.flatMap nc ++ [.int .i64 a, .string t, .int .i64 b, .slice sk kids.length ck]⟩ : OR) := by
  simp [rN, nc, nd]
 have e2 : rK (Q ++ [(nd a t b kids, .slice sk kids.length ck)]) ++ P = rK Q ++ (rI (.slice sk kids.length ck) kids :: P) := by
  simp [rK, nd]
 unfold sR bP
 rw [e1, e2]
 exact h1.out
set_option maxHeartbeats 4000000 in
theorem node_dead (T : List Tk) (E : Int) (k g : Nat) (sl : Option Addr) (cp : Nat) (P : List OR) (X : World) (B : Nat) (c a : Int) (u0 u1 u2 u3 : Value) (w : World) (hD : sD T E k sl cp c a X B w P) :
  Calls Tryz.prog 14 #[.pointer (some ⟨k, 0, none⟩), .agg #[u0, u1, u2, u3]] w fun e w' => e = .returned (.int .i64 (-1)) ∧ sD T E k sl cp c a X B w' P := by
 have hD := hD.later (bl_alloc (Below.refl w.heap.size w) (.cells #[u0, u1, u2, u3] 42))
 obtain ⟨hc, i, d, v, Q, hR⟩ := hD
 have h0 := hid hR
 obtain ⟨x0, x1, x2, x3, x4, x5, x6, xf⟩ := (hR.box [] (rN v Q :: (rK Q ++ P))).seven
 have hz : (c != 0) = true := by simpa using hc
 have hz2 : (c == 0) = false := by simpa using hc
 have hz3 : decide (c = 0) = false := decide_eq_false hc
 clear hR; go_enter Tryz.func14, Tryz.ntmps14
 go_wp2_with fail; go_ret; exact ⟨rfl, hc, i, d, v, Q, h0.out⟩
end Go.Proofs.YtncknfkinmjmdaaGreatDoor
