import Derived.Test.YtbgeobpdojmdaaaGreatSq17
namespace Go.Proofs.YtbgeobpdojmdaaaGreat
open Go.RowKit
set_option linter.unusedVariables false
set_option linter.unusedSimpArgs false
set_option maxRecDepth 100000
theorem srcI {w : World} {B : Nat} {s : Option Addr} {L : List Int} (h : Els 1 cInt w B s L) : L.length = 0 ∨ ∃ ad, s = some ad ∧ ∀ (j : Nat) u, (L.map (Value.int .i64))[j]? = some u → w.cell? (ad.add j) = some u := by
 rw [map_flat]
 exact els_src (k := 1) (E := cInt) (f := fun n => [Value.int .i64 n]) (fun _ => rfl) (by decide) (fun _ _ _ _ h => h) h
theorem srcE {w : World} {B : Nat} {s : Option Addr} {L : List E2} (h : Els 2 cEnt w B s L) : L.length = 0 ∨ ∃ ad, s = some ad ∧ ∀ (j : Nat) u, (ecells L)[j]? = some u → w.cell? (ad.add j) = some u :=
 els_src (α := E2) (k := 2) (E := cEnt) (f := fun p => [.int .i64 p.1, .int .i64 p.2]) (fun _ => rfl) (by decide) (fun _ _ _ _ h => h) h
theorem srcV {w : World} {B : Nat} {s : Option Addr} {L : List V4} (h : Els 4 cVal w B s L) : L.length = 0 ∨ ∃ ad, s = some ad ∧ ∀ (j : Nat) u, (L.flatMap vcells)[j]? = some u → w.cell? (ad.add j) = some u :=
 els_src (k := 4) (E := cVal) (f := vcells) (fun _ => rfl) (by decide) (fun _ _ _ _ h => h.1) h
theorem Rs.keptG {w X W : World} {B C : Nat} {R : List OR} (h : Rs X B W R) (hb : Below w.heap.size w X) (hB : w.heap.size ≤ B) : Kept C w W := by
 have hs := h.l.size
 exact ⟨Nat.le_trans hb.size hs, fun k _ hk => (h.l.block k (by omega)).trans (hb.block k hk)⟩
theorem bl_transG {w X W : World} {B : Nat} {R : List OR} (hb : Below w.heap.size w X) (h : Rs X B W R) (hB : w.heap.size ≤ B) : Below w.heap.size w W := hb.trans (h.l.mono hB)
theorem Tryz.infoEn : (Tryz.prog.info? 36).map (·.size) = some 2 := by kernel_rfl
set_option maxHeartbeats 8000000 in
theorem l2Copy_new (s1 s2 : Option Addr) (c1 c2 : Nat) (G F : List Int) (B0 : Nat) (w : World) (h1 : Els 1 cInt w B0 s1 G) (h2 : Els 1 cInt w B0 s2 F) (l1 : G.length ≤ 1048576) (l2 : F.length ≤ 1048576) :
  Calls Tryz.prog 59 #[.agg #[.slice s1 G.length c1, .slice s2 F.length c2]] w fun e w' => (∃ sa ca sb cb, e = .returned (.agg #[.slice sa G.length ca, .slice sb F.length cb]) ∧ Owns w' w.heap.size [rI (.slice sa G.length ca) G, rI (.slice sb F.length cb) F]) ∧ Below w.heap.size w w' := by
 have hal := alloc_old
 have haf := alloc_oldf
 obtain ⟨iI, hiI, hzI, hsI, hbI⟩ := info_parts Tryz.infoI
 obtain ⟨k0, k1, L0'⟩ := boxWE' w #[.slice s1 G.length c1, .slice s2 F.length c2] #[.slice none 0 0, .slice none 0 0] 36 36
 go_enter Tryz.func59, Tryz.ntmps59
 go_wp2_with fail; generalize hX : (w.alloc (.cells #[.slice s1 G.length c1, .slice s2 F.length c2] 36)).alloc (.cells #[.slice none 0 0, .slice none 0 0] 36) = X at k0 k1 L0' ⊢
 clear hX; have b1 : w.heap.size + 1 < X.heap.size := k1.lt
 have bB : w.heap.size ≤ w.heap.size + 1 := Nat.le_succ _
 have bW : w.heap.size ≤ w.heap.size + 1 := Nat.le_succ _
 have K0 := Hid.mk' k0
 have L0 : Hid (Below w.heap.size w X) := L0'
 have H1 := Hid.mk' h1
 have H2 := Hid.mk' h2
 have hR : Hid (Rs X (w.heap.size + 1) X [rB (w.heap.size + 1) 36 [.slice none 0 0, .slice none 0 0]]) := Rs.start (Owns.one (blk_rB k1 (Nat.le_refl _))) (Nat.le_of_lt b1)
 clear k0 k1 h1 h2 L0'; refine wp_region_held_drew (S := (fun w' => Blk w' w.heap.size #[.slice s1 G.length c1, .slice s2 F.length c2] 36)) (by kernel_rfl) ?_ (fun hHeld => ?_)
 ·
  exact hR.out.blk K0.out (Nat.lt_succ_self _)
 have hR := Hid.mk' hR.out.drew
 refine wpq (v := ?_) 1 4 rfl rfl ?_ ?_
 rotate_left 1
 ·
  intro w hSw; (try dsimp only at hSw); obtain ⟨x0, x1, x2⟩ := hSw.two; go_simp <;> with_reducible rfl
 simp only [zs]; refine wpq (v := ?_) 2 5 rfl rfl ?_ ?_
 rotate_left 1
 ·
  intro w hSw; (try dsimp only at hSw); obtain ⟨x0, x1, x2⟩ := hSw.two; go_simp <;> with_reducible rfl
 simp only [zs]; refine wpq (v := ?_) 5 8 rfl rfl ?_ ?_
 rotate_left 1
 ·
  intro w hSw; (try dsimp only at hSw); obtain ⟨x0, x1, x2⟩ := hSw.two; go_simp <;> with_reducible rfl
 simp only [zs]; refine wpq (v := ?_) 6 9 rfl rfl ?_ ?_
 rotate_left 1
 ·
  intro w hSw; (try dsimp only at hSw); obtain ⟨x0, x1, x2⟩ := hSw.two; go_simp <;> with_reducible rfl
 simp only [zs]; refine dag_start fun Gd a0 hG ha => ?_
 have st0 : ∀ (ka : Nat) (sa : Option Addr) (ca kb : Nat) (sb : Option Addr) (cb : Nat) (g0 : World), Hid (Rs X (w.heap.size + 1) g0 [rI (.slice sa G.length ca) G, rI (.slice sb F.length cb) F, rB (w.heap.size + 1) 36 [.slice sa G.length ca, .slice sb F.length cb]]) → (fun w' => Blk w' w.heap.size #[.slice s1 G.length c1, .slice s2 F.length c2] 36) g0 → Gd 0 #[true, true, true, true, true, true, true, true, true, true] (((((a0.put (some 3) (.slice (some ⟨ka, 0, none⟩) 0 0)).put (some 6) (.slice sa G.length ca)).put (some 7) (.slice (some ⟨kb, 0, none⟩) 0 0)).put (some 10) (.slice sb F.length cb)).put (some 11) (.agg #[.slice sa G.length ca, .slice sb F.length cb])) g0 := by
  intro ka sa ca kb sb cb g0 hR hHeld
  rw [hG, ha]
  simp only [zs]; refine wpAnyH_done (by kernel_rfl) ?_ _
  clear hHeld; have KZ := hR.out.box [rI (.slice sa G.length ca) G, rI (.slice sb F.length cb) F] []
  have lw : Below w.heap.size w _ := bl_transG L0.out hR.out bW
  obtain ⟨z0, z1, z2⟩ := KZ.two
  have hO := (Rs.less [rI (.slice sa G.length ca) G, rI (.slice sb F.length cb) F] [] hR.out).o.mono (B' := w.heap.size) (by omega)
  clear KZ hR; go_wp2_with fail; refine bodyPost_ret (v := .agg #[.slice sa G.length ca, .slice sb F.length cb]) (by simp [results, Tryz.results59, go_sem, z0, z1]) rfl ⟨⟨sa, ca, sb, cb, rfl, hO⟩, lw⟩
 have st1 : ∀ (ka : Nat) (sa : Option Addr) (ca kb : Nat) (sb : Option Addr) (cb : Nat) (g0 : World), Hid (Rs X (w.heap.size + 1) g0 [rI (.slice sa G.length ca) G, rI (.slice sb F.length cb) F, rB (w.heap.size + 1) 36 [.slice none 0 0, .slice none 0 0]]) → (fun w' => Blk w' w.heap.size #[.slice s1 G.length c1, .slice s2 F.length c2] 36) g0 → Gd 1 #[true, true, true, true, true, true, true, true, true, false] (((((a0.put (some 3) (.slice (some ⟨ka, 0, none⟩) 0 0)).put (some 6) (.slice sa G.length ca)).put (some 7) (.slice (some ⟨kb, 0, none⟩) 0 0)).put (some 10) (.slice sb F.length cb)).put (some 11) (.agg #[.slice sa G.length ca, .slice sb F.length cb])) g0 := by
  intro ka sa ca kb sb cb g0 hR hHeld
  rw [hG, ha]
  simp only [zs]; refine wpy 9 fun K hK => ?_
  refine step_put [rI (.slice sa G.length ca) G, rI (.slice sb F.length cb) F] [] hR.out rfl (d0 := none) rfl (.tmp 2) (.tmp 11) rfl [.slice sa G.length ca, .slice sb F.length cb] rfl rfl (by rw [Tryz.infoEn]; rfl) rfl (by simp [Value.oneCell']) ?_
  intro g1 hR'
  have hR : Hid (Rs X (w.heap.size + 1) g1 [rI (.slice sa G.length ca) G, rI (.slice sb F.length cb) F, rB (w.heap.size + 1) 36 [.slice sa G.length ca, .slice sb F.length cb]]) := hR'
  clear hR'; refine hK.out _ _ ?_ (fun hHeld => ?_)
  ·
   exact hR.out.blk K0.out (Nat.lt_succ_self _)
  clear hK K; exact dag_to hG (st0 ka sa ca kb sb cb _  hR hHeld) rfl (by kernel_rfl) (by rw [ha] <;> rfl)
 have st2 : ∀ (ka : Nat) (sa : Option Addr) (ca kb : Nat) (g0 : World), Hid (Rs X (w.heap.size + 1) g0 [rI (.slice sa G.length ca) G, rI (.slice (some ⟨kb, 0, none⟩) 0 0) [], rB (w.heap.size + 1) 36 [.slice none 0 0, .slice none 0 0]]) → (fun w' => Blk w' w.heap.size #[.slice s1 G.length c1, .slice s2 F.length c2] 36) g0 → Gd 3 #[true, true, true, true, true, true, true, false, false, false] (((a0.put (some 3) (.slice (some ⟨ka, 0, none⟩) 0 0)).put (some 6) (.slice sa G.length ca)).put (some 7) (.slice (some ⟨kb, 0, none⟩) 0 0)) g0 := by
  intro ka sa ca kb g0 hR hHeld
  rw [hG, ha]
  simp only [zs]; refine wpy 7 fun K hK => ?_
  refine step_app [rI (.slice sa G.length ca) G] [rB (w.heap.size + 1) 36 [.slice none 0 0, .slice none 0 0]] hR.out rfl (d0 := (some 10)) rfl (.tmp 7) (.tmp 9) 25 8 rfl Tryz.underlying25 hiI hzI hsI hbI rfl (Nat.succ_pos _) rfl s2 F.length c2 (F.map (Value.int .i64)) rfl (by simp [rI]) (srcI (H2.out.kept cInt_keeps (hR.out.keptG L0.out bB))) (ints_one F) (by show _ ≤ _; simp only [rI, rE, rV, List.length_nil]; unfold maxLen; omega) (by simp only [rI, rE, rV, List.length_nil]; omega) F.length (by simp [rI, rE, rV]) (fun v => rI v F) (fun _ => rfl) ?_
  intro sb cb g2 hR'
  have hR : Hid (Rs X (w.heap.size + 1) g2 [rI (.slice sa G.length ca) G, rI (.slice sb F.length cb) F, rB (w.heap.size + 1) 36 [.slice none 0 0, .slice none 0 0]]) := hR'
  clear hR'; refine hK.out _ _ ?_ (fun hHeld => ?_)
  ·
   exact hR.out.blk K0.out (Nat.lt_succ_self _)
  clear hK K; try simp only [zs]
  refine wpr 8 11 ?_; simp only [zs]; exact dag_to hG (st1 ka sa ca kb sb cb _  hR hHeld) rfl (by kernel_rfl) (by rw [ha] <;> rfl)
 have st3 : ∀ (ka : Nat) (sa : Option Addr) (ca : Nat) (g0 : World), Hid (Rs X (w.heap.size + 1) g0 [rI (.slice sa G.length ca) G, rB (w.heap.size + 1) 36 [.slice none 0 0, .slice none 0 0]]) → (fun w' => Blk w' w.heap.size #[.slice s1 G.length c1, .slice s2 F.length c2] 36) g0 → Gd 4 #[true, true, true, true, false, true, true, false, false, false] ((a0.put (some 3) (.slice (some ⟨ka, 0, none⟩) 0 0)).put (some 6) (.slice sa G.length ca)) g0 := by
  intro ka sa ca g0 hR hHeld
  rw [hG, ha]
  simp only [zs]; refine wpy 4 fun K hK => ?_
  refine step_bs0 [rI (.slice sa G.length ca) G] [rB (w.heap.size + 1) 36 [.slice none 0 0, .slice none 0 0]] hR.out rfl (d0 := (some 7)) rfl 25 3 Tryz.underlying25 hiI rfl (fun v => rI v []) 1 (fun _ => rfl) ?_
  intro kb g3 hR'
  have hR : Hid (Rs X (w.heap.size + 1) g3 [rI (.slice sa G.length ca) G, rI (.slice (some ⟨kb, 0, none⟩) 0 0) [], rB (w.heap.size + 1) 36 [.slice none 0 0, .slice none 0 0]]) := hR'
  clear hR'; refine hK.out _ _ ?_ (fun hHeld => ?_)
  ·
   exact hR.out.blk K0.out (Nat.lt_succ_self _)
  clear hK K; exact dag_to hG (st2 ka sa ca kb _  hR hHeld) rfl (by kernel_rfl) (by rw [ha] <;> rfl)
 have st4 : ∀ (ka kb : Nat) (g0 : World), Hid (Rs X (w.heap.size + 1) g0 [rI (.slice (some ⟨ka, 0, none⟩) 0 0) [], rI (.slice (some ⟨kb, 0, none⟩) 0 0) [], rB (w.heap.size + 1) 36 [.slice none 0 0, .slice none 0 0]]) → (fun w' => Blk w' w.heap.size #[.slice s1 G.length c1, .slice s2 F.length c2] 36) g0 → Gd 4 #[true, true, true, false, true, true, true, false, false, false] ((a0.put (some 3) (.slice (some ⟨ka, 0, none⟩) 0 0)).put (some 7) (.slice (some ⟨kb, 0, none⟩) 0 0)) g0 := by
  intro ka kb g0 hR hHeld
  rw [hG, ha]
  simp only [zs]; refine wpy 3 fun K hK => ?_
  refine step_app [] [rI (.slice (some ⟨kb, 0, none⟩) 0 0) [], rB (w.heap.size + 1) 36 [.slice none 0 0, .slice none 0 0]] hR.out rfl (d0 := (some 6)) rfl (.tmp 3) (.tmp 5) 25 8 rfl Tryz.underlying25 hiI hzI hsI hbI rfl (Nat.succ_pos _) rfl s1 G.length c1 (G.map (Value.int .i64)) rfl (by simp [rI]) (srcI (H1.out.kept cInt_keeps (hR.out.keptG L0.out bB))) (ints_one G) (by show _ ≤ _; simp only [rI, rE, rV, List.length_nil]; unfold maxLen; omega) (by simp only [rI, rE, rV, List.length_nil]; omega) G.length (by simp [rI, rE, rV]) (fun v => rI v G) (fun _ => rfl) ?_
  intro sa ca g4 hR'
  have hR : Hid (Rs X (w.heap.size + 1) g4 [rI (.slice sa G.length ca) G, rI (.slice (some ⟨kb, 0, none⟩) 0 0) [], rB (w.heap.size + 1) 36 [.slice none 0 0, .slice none 0 0]]) := hR'
  clear hR'; refine hK.out _ _ ?_ (fun hHeld => ?_)
  ·
   exact hR.out.blk K0.out (Nat.lt_succ_self _)
  clear hK K; exact dag_to hG (st2 ka sa ca kb _  hR hHeld) rfl (by kernel_rfl) (by rw [ha] <;> rfl)
 have st5 : ∀ (ka : Nat) (g0 : World), Hid (Rs X (w.heap.size + 1) g0 [rI (.slice (some ⟨ka, 0, none⟩) 0 0) [], rB (w.heap.size + 1) 36 [.slice none 0 0, .slice none 0 0]]) → (fun w' => Blk w' w.heap.size #[.slice s1 G.length c1, .slice s2 F.length c2] 36) g0 → Gd 5 #[true, true, true, false, false, true, true, false, false, false] (a0.put (some 3) (.slice (some ⟨ka, 0, none⟩) 0 0)) g0 := by
  intro ka g0 hR hHeld
  rw [hG, ha]
  simp only [zs]; refine wpAnyH_ready (rs := [3, 4]) (by kernel_rfl) (by simp) ?_
  refine AllReadyH.cons rfl (fun K hK => ?_) ?_
  ·
   skip
   refine step_app [] [rB (w.heap.size + 1) 36 [.slice none 0 0, .slice none 0 0]] hR.out rfl (d0 := (some 6)) rfl (.tmp 3) (.tmp 5) 25 8 rfl Tryz.underlying25 hiI hzI hsI hbI rfl (Nat.succ_pos _) rfl s1 G.length c1 (G.map (Value.int .i64)) rfl (by simp [rI]) (srcI (H1.out.kept cInt_keeps (hR.out.keptG L0.out bB))) (ints_one G) (by show _ ≤ _; simp only [rI, rE, rV, List.length_nil]; unfold maxLen; omega) (by simp only [rI, rE, rV, List.length_nil]; omega) G.length (by simp [rI, rE, rV]) (fun v => rI v G) (fun _ => rfl) ?_
   intro sa ca g5 hR'
   have hR : Hid (Rs X (w.heap.size + 1) g5 [rI (.slice sa G.length ca) G, rB (w.heap.size + 1) 36 [.slice none 0 0, .slice none 0 0]]) := hR'
   clear hR'; refine hK.out _ _ ?_ (fun hHeld => ?_)
   ·
    exact hR.out.blk K0.out (Nat.lt_succ_self _)
   clear hK K; exact dag_to hG (st3 ka sa ca _  hR hHeld) rfl (by kernel_rfl) (by rw [ha] <;> rfl)
  refine AllReadyH.cons rfl (fun K hK => ?_) AllReadyH.nil
  refine step_bs0 [rI (.slice (some ⟨ka, 0, none⟩) 0 0) []] [rB (w.heap.size + 1) 36 [.slice none 0 0, .slice none 0 0]] hR.out rfl (d0 := (some 7)) rfl 25 3 Tryz.underlying25 hiI rfl (fun v => rI v []) 1 (fun _ => rfl) ?_
  intro kb g6 hR'
  have hR : Hid (Rs X (w.heap.size + 1) g6 [rI (.slice (some ⟨ka, 0, none⟩) 0 0) [], rI (.slice (some ⟨kb, 0, none⟩) 0 0) [], rB (w.heap.size + 1) 36 [.slice none 0 0, .slice none 0 0]]) := hR'
  clear hR'; refine hK.out _ _ ?_ (fun hHeld => ?_)
  ·
   exact hR.out.blk K0.out (Nat.lt_succ_self _)
  clear hK K; exact dag_to hG (st4 ka kb _  hR hHeld) rfl (by kernel_rfl) (by rw [ha] <;> rfl)
 have st6 : ∀ (kb : Nat) (g0 : World), Hid (Rs X (w.heap.size + 1) g0 [rI (.slice (some ⟨kb, 0, none⟩) 0 0) [], rB (w.heap.size + 1) 36 [.slice none 0 0, .slice none 0 0]]) → (fun w' => Blk w' w.heap.size #[.slice s1 G.length c1, .slice s2 F.length c2] 36) g0 → Gd 5 #[false, true, true, false, true, true, true, false, false, false] (a0.put (some 7) (.slice (some ⟨kb, 0, none⟩) 0 0)) g0 := by
  intro kb g0 hR hHeld
  rw [hG, ha]
  simp only [zs]; refine wpy 0 fun K hK => ?_
  refine step_bs0 [] [rI (.slice (some ⟨kb, 0, none⟩) 0 0) [], rB (w.heap.size + 1) 36 [.slice none 0 0, .slice none 0 0]] hR.out rfl (d0 := (some 3)) rfl 25 3 Tryz.underlying25 hiI rfl (fun v => rI v []) 1 (fun _ => rfl) ?_
  intro ka g7 hR'
  have hR : Hid (Rs X (w.heap.size + 1) g7 [rI (.slice (some ⟨ka, 0, none⟩) 0 0) [], rI (.slice (some ⟨kb, 0, none⟩) 0 0) [], rB (w.heap.size + 1) 36 [.slice none 0 0, .slice none 0 0]]) := hR'
  clear hR'; refine hK.out _ _ ?_ (fun hHeld => ?_)
  ·
   exact hR.out.blk K0.out (Nat.lt_succ_self _)
  clear hK K; exact dag_to hG (st4 ka kb _  hR hHeld) rfl (by kernel_rfl) (by rw [ha] <;> rfl)
 rw [hG, ha]
 try simp only [zs]
 refine wpAnyH_ready (rs := [0, 4]) (by kernel_rfl) (by simp) ?_
 refine AllReadyH.cons rfl (fun K hK => ?_) ?_
 ·
  skip
  refine step_bs0 [] [rB (w.heap.size + 1) 36 [.slice none 0 0, .slice none 0 0]] hR.out rfl (d0 := (some 3)) rfl 25 3 Tryz.underlying25 hiI rfl (fun v => rI v []) 1 (fun _ => rfl) ?_
  intro ka g8 hR'
  have hR : Hid (Rs X (w.heap.size + 1) g8 [rI (.slice (some ⟨ka, 0, none⟩) 0 0) [], rB (w.heap.size + 1) 36 [.slice none 0 0, .slice none 0 0]]) := hR'
  clear hR'; refine hK.out _ _ ?_ (fun hHeld => ?_)
  ·
   exact hR.out.blk K0.out (Nat.lt_succ_self _)
  clear hK K; exact dag_to hG (st5 ka _  hR hHeld) rfl (by kernel_rfl) (by rw [ha] <;> rfl)
 refine AllReadyH.cons rfl (fun K hK => ?_) AllReadyH.nil
 refine step_bs0 [] [rB (w.heap.size + 1) 36 [.slice none 0 0, .slice none 0 0]] hR.out rfl (d0 := (some 7)) rfl 25 3 Tryz.underlying25 hiI rfl (fun v => rI v []) 1 (fun _ => rfl) ?_
 intro kb g9 hR'
 have hR : Hid (Rs X (w.heap.size + 1) g9 [rI (.slice (some ⟨kb, 0, none⟩) 0 0) [], rB (w.heap.size + 1) 36 [.slice none 0 0, .slice none 0 0]]) := hR'
 clear hR'; refine hK.out _ _ ?_ (fun hHeld => ?_)
 ·
  exact hR.out.blk K0.out (Nat.lt_succ_self _)
 clear hK K; exact dag_to hG (st6 kb _  hR hHeld) rfl (by kernel_rfl) (by rw [ha] <;> rfl)
set_option maxHeartbeats 16000000 in
theorem l4CopyTable_new (s1 s2 s3 : Option Addr) (c1 c2 c3 : Nat) (T : Tab) (B0 : Nat) (w : World) (h1 : Els 1 cInt w B0 s1 T.cols) (h2 : Els 2 cEnt w B0 s2 T.rows) (h3 : Els 1 cVals w B0 s3 T.cells) (hk : kTab T) :
  Calls Tryz.prog 60 #[.agg #[.slice s1 T.cols.length c1, .slice s2 T.rows.length c2, .slice s3 T.cells.length c3]] w fun e w' => (∃ t : TV, e = .returned (.agg #[t.c, t.r, t.x]) ∧ OTb w' w.heap.size t T) ∧ Below w.heap.size w w' := by
 have hal := alloc_old
 have haf := alloc_oldf
 obtain ⟨m1, m2, m3, m4⟩ := hk
 obtain ⟨iT, hiT, hzT, hsT, hbT⟩ := info_parts Tryz.infoTb
 obtain ⟨iS, hiS, hzS, hsS, hbS⟩ := info_parts Tryz.infoVs
 obtain ⟨iI, hiI, hzI, hsI, hbI⟩ := info_parts Tryz.infoI
 obtain ⟨iE, hiE, hzE, hsE, hbE⟩ := info_parts Tryz.infoE
 obtain ⟨iV, hiV, hzV, hsV, hbV⟩ := info_parts Tryz.infoV
 obtain ⟨k0, k1, L0'⟩ := boxWE' w #[.slice s1 T.cols.length c1, .slice s2 T.rows.length c2, .slice s3 T.cells.length c3] #[.slice none 0 0, .slice none 0 0, .slice none 0 0] 119 119
 go_enter Tryz.func60, Tryz.ntmps60
 go_wp2_with fail; generalize hX : (w.alloc (.cells #[.slice s1 T.cols.length c1, .slice s2 T.rows.length c2, .slice s3 T.cells.length c3] 119)).alloc (.cells #[.slice none 0 0, .slice none 0 0, .slice none 0 0] 119) = X at k0 k1 L0' ⊢
 clear hX; have b0 : w.heap.size < X.heap.size := k0.lt
 have b1 : w.heap.size + 1 < X.heap.size := k1.lt
 have bB : w.heap.size ≤ X.heap.size := Nat.le_of_lt b0
 have K0 := Hid.mk' k0
 have K1 := Hid.mk' k1
 have L0 : Hid (Below w.heap.size w X) := L0'
 have H1 := Hid.mk' h1
 have H2 := Hid.mk' h2
 have H3 := Hid.mk' h3
 have hR := Hid.mk' (Rs.nil X)
 clear k0 k1 h1 h2 h3 L0'; go_cut [3] (fun pz wx => ∃ (kz kx : Nat) (sa : Option Addr) (ca : Nat) (sb : Option Addr) (cb : Nat), pz = .pointer (some ⟨kz, 0, none⟩) ∧ Rs X X.heap.size wx [rI (.slice sa T.cols.length ca) T.cols, rE (.slice sb T.rows.length cb) T.rows, rS (.slice (some ⟨kx, 0, none⟩) 0 0) [], rB kz 119 [.slice sa T.cols.length ca, .slice sb T.rows.length cb, .slice (some ⟨kx, 0, none⟩) 0 0]])
 case first =>
  refine wp_region_held_drew (S := (fun w' => Blk w' w.heap.size #[.slice s1 T.cols.length c1, .slice s2 T.rows.length c2, .slice s3 T.cells.length c3] 119 ∧ Blk w' (w.heap.size + 1) #[.slice none 0 0, .slice none 0 0, .slice none 0 0] 119)) (by kernel_rfl) ?_ (fun hHeld => ?_)
  ·
   exact (k2 hR K0 K1 b0 b1 :)
  have hR := Hid.mk' hR.out.drew
  refine wpq (v := ?_) 1 6 rfl rfl ?_ ?_
  rotate_left 1
  ·
   intro w hSw; (try dsimp only at hSw); obtain ⟨q0, q1⟩ := hSw; obtain ⟨x0, x1, x2, x3⟩ := q0.three'; go_simp <;> with_reducible rfl
  simp only [zs]; refine wpq (v := ?_) 2 7 rfl rfl ?_ ?_
  rotate_left 1
  ·
   intro w hSw; (try dsimp only at hSw); obtain ⟨q0, q1⟩ := hSw; obtain ⟨x0, x1, x2, x3⟩ := q0.three'; go_simp <;> with_reducible rfl
  simp only [zs]; refine wpq (v := ?_) 5 10 rfl rfl ?_ ?_
  rotate_left 1
  ·
   intro w hSw; (try dsimp only at hSw); obtain ⟨q0, q1⟩ := hSw; obtain ⟨x0, x1, x2, x3⟩ := q0.three'; go_simp <;> with_reducible rfl
  simp only [zs]; refine wpq (v := ?_) 6 11 rfl rfl ?_ ?_
  rotate_left 1
  ·
   intro w hSw; (try dsimp only at hSw); obtain ⟨q0, q1⟩ := hSw; obtain ⟨x0, x1, x2, x3⟩ := q0.three'; go_simp <;> with_reducible rfl
  simp only [zs]; refine dag_start fun Gd a0 hG ha => ?_
  have st0 : ∀ (ka : Nat) (sa : Option Addr) (ca kb : Nat) (sb : Option Addr) (cb kx kz : Nat) (g0 : World), Hid (Rs X X.heap.size g0 [rI (.slice sa T.cols.length ca) T.cols, rE (.slice sb T.rows.length cb) T.rows, rS (.slice (some ⟨kx, 0, none⟩) 0 0) [], rB kz 119 [.slice sa T.cols.length ca, .slice sb T.rows.length cb, .slice (some ⟨kx, 0, none⟩) 0 0]]) → (fun w' => Blk w' w.heap.size #[.slice s1 T.cols.length c1, .slice s2 T.rows.length c2, .slice s3 T.cells.length c3] 119 ∧ Blk w' (w.heap.size + 1) #[.slice none 0 0, .slice none 0 0, .slice none 0 0] 119) g0 → Gd 0 #[true, true, true, true, true, true, true, true, true, true, true, true] (((((((a0.put (some 5) (.slice (some ⟨ka, 0, none⟩) 0 0)).put (some 8) (.slice sa T.cols.length ca)).put (some 9) (.slice (some ⟨kb, 0, none⟩) 0 0)).put (some 12) (.slice sb T.rows.length cb)).put (some 13) (.slice (some ⟨kx, 0, none⟩) 0 0)).put (some 14) (.agg #[.slice sa T.cols.length ca, .slice sb T.rows.length cb, .slice (some ⟨kx, 0, none⟩) 0 0])).put (some 3) (.pointer (some ⟨kz, 0, none⟩))) g0 := by
   intro ka sa ca kb sb cb kx kz g0 hR hHeld
   rw [hG, ha]
   simp only [zs]; refine wpAnyH_done (by kernel_rfl) ?_ _
   clear hHeld; go_wp2_with fail; go_meet; exact ⟨kz, kx, sa, ca, sb, cb, rfl, hR.out⟩
  have st1 : ∀ (ka : Nat) (sa : Option Addr) (ca kb : Nat) (sb : Option Addr) (cb kx kz : Nat) (g0 : World), Hid (Rs X X.heap.size g0 [rI (.slice sa T.cols.length ca) T.cols, rE (.slice sb T.rows.length cb) T.rows, rS (.slice (some ⟨kx, 0, none⟩) 0 0) [], rB kz 119 [.slice none 0 0, .slice none 0 0, .slice none 0 0]]) → (fun w' => Blk w' w.heap.size #[.slice s1 T.cols.length c1, .slice s2 T.rows.length c2, .slice s3 T.cells.length c3] 119 ∧ Blk w' (w.heap.size + 1) #[.slice none 0 0, .slice none 0 0, .slice none 0 0] 119) g0 → Gd 1 #[true, true, true, true, true, true, true, true, true, true, true, false] (((((((a0.put (some 5) (.slice (some ⟨ka, 0, none⟩) 0 0)).put (some 8) (.slice sa T.cols.length ca)).put (some 9) (.slice (some ⟨kb, 0, none⟩) 0 0)).put (some 12) (.slice sb T.rows.length cb)).put (some 13) (.slice (some ⟨kx, 0, none⟩) 0 0)).put (some 14) (.agg #[.slice sa T.cols.length ca, .slice sb T.rows.length cb, .slice (some ⟨kx, 0, none⟩) 0 0])).put (some 3) (.pointer (some ⟨kz, 0, none⟩))) g0 := by
   intro ka sa ca kb sb cb kx kz g0 hR hHeld
   rw [hG, ha]
   simp only [zs]; refine wpy 11 fun K hK => ?_
   refine step_put [rI (.slice sa T.cols.length ca) T.cols, rE (.slice sb T.rows.length cb) T.rows, rS (.slice (some ⟨kx, 0, none⟩) 0 0) []] [] hR.out rfl (d0 := none) rfl (.tmp 3) (.tmp 14) rfl [.slice sa T.cols.length ca, .slice sb T.rows.length cb, .slice (some ⟨kx, 0, none⟩) 0 0] rfl rfl (by rw [hiT]; simp [hsT]) rfl (by simp [Value.oneCell']) ?_
   intro g1 hR'
   have hR : Hid (Rs X X.heap.size g1 [rI (.slice sa T.cols.length ca) T.cols, rE (.slice sb T.rows.length cb) T.rows, rS (.slice (some ⟨kx, 0, none⟩) 0 0) [], rB kz 119 [.slice sa T.cols.length ca, .slice sb T.rows.length cb, .slice (some ⟨kx, 0, none⟩) 0 0]]) := hR'
   clear hR'; refine hK.out _ _ ?_ (fun hHeld => ?_)
   ·
    exact (k2 hR K0 K1 b0 b1 :)
   clear hK K; exact dag_to hG (st0 ka sa ca kb sb cb kx kz _  hR hHeld) rfl (by kernel_rfl) (by rw [ha] <;> rfl)
  have st2 : ∀ (ka : Nat) (sa : Option Addr) (ca kb : Nat) (sb : Option Addr) (cb kx : Nat) (g0 : World), Hid (Rs X X.heap.size g0 [rI (.slice sa T.cols.length ca) T.cols, rE (.slice sb T.rows.length cb) T.rows, rS (.slice (some ⟨kx, 0, none⟩) 0 0) []]) → (fun w' => Blk w' w.heap.size #[.slice s1 T.cols.length c1, .slice s2 T.rows.length c2, .slice s3 T.cells.length c3] 119 ∧ Blk w' (w.heap.size + 1) #[.slice none 0 0, .slice none 0 0, .slice none 0 0] 119) g0 → Gd 2 #[true, true, true, true, true, true, true, true, true, true, false, false] ((((((a0.put (some 5) (.slice (some ⟨ka, 0, none⟩) 0 0)).put (some 8) (.slice sa T.cols.length ca)).put (some 9) (.slice (some ⟨kb, 0, none⟩) 0 0)).put (some 12) (.slice sb T.rows.length cb)).put (some 13) (.slice (some ⟨kx, 0, none⟩) 0 0)).put (some 14) (.agg #[.slice sa T.cols.length ca, .slice sb T.rows.length cb, .slice (some ⟨kx, 0, none⟩) 0 0])) g0 := by
   intro ka sa ca kb sb cb kx g0 hR hHeld
   rw [hG, ha]
   simp only [zs]; refine wpy 10 fun K hK => ?_
   refine step_box [rI (.slice sa T.cols.length ca) T.cols, rE (.slice sb T.rows.length cb) T.rows, rS (.slice (some ⟨kx, 0, none⟩) 0 0) []] [] hR.out rfl (d0 := (some 3)) rfl 119 hiT hzT rfl ?_
   intro kz g2 hR'
   have hR : Hid (Rs X X.heap.size g2 [rI (.slice sa T.cols.length ca) T.cols, rE (.slice sb T.rows.length cb) T.rows, rS (.slice (some ⟨kx, 0, none⟩) 0 0) [], rB kz 119 [.slice none 0 0, .slice none 0 0, .slice none 0 0]]) := hR'
   clear hR'; refine hK.out _ _ ?_ (fun hHeld => ?_)
   ·
    exact (k2 hR K0 K1 b0 b1 :)
   clear hK K; exact dag_to hG (st1 ka sa ca kb sb cb kx kz _  hR hHeld) rfl (by kernel_rfl) (by rw [ha] <;> rfl)
  have st3 : ∀ (ka : Nat) (sa : Option Addr) (ca kb : Nat) (sb : Option Addr) (cb kz : Nat) (g0 : World), Hid (Rs X X.heap.size g0 [rI (.slice sa T.cols.length ca) T.cols, rE (.slice sb T.rows.length cb) T.rows, rB kz 119 [.slice none 0 0, .slice none 0 0, .slice none 0 0]]) → (fun w' => Blk w' w.heap.size #[.slice s1 T.cols.length c1, .slice s2 T.rows.length c2, .slice s3 T.cells.length c3] 119 ∧ Blk w' (w.heap.size + 1) #[.slice none 0 0, .slice none 0 0, .slice none 0 0] 119) g0 → Gd 3 #[true, true, true, true, true, true, true, true, false, false, true, false] (((((a0.put (some 5) (.slice (some ⟨ka, 0, none⟩) 0 0)).put (some 8) (.slice sa T.cols.length ca)).put (some 9) (.slice (some ⟨kb, 0, none⟩) 0 0)).put (some 12) (.slice sb T.rows.length cb)).put (some 3) (.pointer (some ⟨kz, 0, none⟩))) g0 := by
   intro ka sa ca kb sb cb kz g0 hR hHeld
   rw [hG, ha]
   simp only [zs]; refine wpy 8 fun K hK => ?_
   refine step_bs0 [rI (.slice sa T.cols.length ca) T.cols, rE (.slice sb T.rows.length cb) T.rows] [rB kz 119 [.slice none 0 0, .slice none 0 0, .slice none 0 0]] hR.out rfl (d0 := (some 13)) rfl 117 38 Tryz.underlying117 hiS rfl (fun v => rS v []) 1 (fun _ => rfl) ?_
   intro kx g3 hR'
   have hR : Hid (Rs X X.heap.size g3 [rI (.slice sa T.cols.length ca) T.cols, rE (.slice sb T.rows.length cb) T.rows, rS (.slice (some ⟨kx, 0, none⟩) 0 0) [], rB kz 119 [.slice none 0 0, .slice none 0 0, .slice none 0 0]]) := hR'
   clear hR'; refine hK.out _ _ ?_ (fun hHeld => ?_)
   ·
    exact (k2 hR K0 K1 b0 b1 :)
   clear hK K; try simp only [zs]
   refine wpr 9 14 ?_; simp only [zs]; exact dag_to hG (st1 ka sa ca kb sb cb kx kz _  hR hHeld) rfl (by kernel_rfl) (by rw [ha] <;> rfl)
  have st4 : ∀ (ka : Nat) (sa : Option Addr) (ca kb : Nat) (sb : Option Addr) (cb : Nat) (g0 : World), Hid (Rs X X.heap.size g0 [rI (.slice sa T.cols.length ca) T.cols, rE (.slice sb T.rows.length cb) T.rows]) → (fun w' => Blk w' w.heap.size #[.slice s1 T.cols.length c1, .slice s2 T.rows.length c2, .slice s3 T.cells.length c3] 119 ∧ Blk w' (w.heap.size + 1) #[.slice none 0 0, .slice none 0 0, .slice none 0 0] 119) g0 → Gd 4 #[true, true, true, true, true, true, true, true, false, false, false, false] ((((a0.put (some 5) (.slice (some ⟨ka, 0, none⟩) 0 0)).put (some 8) (.slice sa T.cols.length ca)).put (some 9) (.slice (some ⟨kb, 0, none⟩) 0 0)).put (some 12) (.slice sb T.rows.length cb)) g0 := by
   intro ka sa ca kb sb cb g0 hR hHeld
   rw [hG, ha]
   simp only [zs]; refine wpAnyH_ready (rs := [8, 10]) (by kernel_rfl) (by simp) ?_
   refine AllReadyH.cons rfl (fun K hK => ?_) ?_
   ·
    skip
    refine step_bs0 [rI (.slice sa T.cols.length ca) T.cols, rE (.slice sb T.rows.length cb) T.rows] [] hR.out rfl (d0 := (some 13)) rfl 117 38 Tryz.underlying117 hiS rfl (fun v => rS v []) 1 (fun _ => rfl) ?_
    intro kx g4 hR'
    have hR : Hid (Rs X X.heap.size g4 [rI (.slice sa T.cols.length ca) T.cols, rE (.slice sb T.rows.length cb) T.rows, rS (.slice (some ⟨kx, 0, none⟩) 0 0) []]) := hR'
    clear hR'; refine hK.out _ _ ?_ (fun hHeld => ?_)
    ·
     exact (k2 hR K0 K1 b0 b1 :)
    clear hK K; try simp only [zs]
    refine wpr 9 14 ?_; simp only [zs]; exact dag_to hG (st2 ka sa ca kb sb cb kx _  hR hHeld) rfl (by kernel_rfl) (by rw [ha] <;> rfl)
   refine AllReadyH.cons rfl (fun K hK => ?_) AllReadyH.nil
   refine step_box [rI (.slice sa T.cols.length ca) T.cols, rE (.slice sb T.rows.length cb) T.rows] [] hR.out rfl (d0 := (some 3)) rfl 119 hiT hzT rfl ?_
   intro kz g5 hR'
   have hR : Hid (Rs X X.heap.size g5 [rI (.slice sa T.cols.length ca) T.cols, rE (.slice sb T.rows.length cb) T.rows, rB kz 119 [.slice none 0 0, .slice none 0 0, .slice none 0 0]]) := hR'
   clear hR'; refine hK.out _ _ ?_ (fun hHeld => ?_)
   ·
    exact (k2 hR K0 K1 b0 b1 :)
   clear hK K; exact dag_to hG (st3 ka sa ca kb sb cb kz _  hR hHeld) rfl (by kernel_rfl) (by rw [ha] <;> rfl)
  have st5 : ∀ (ka : Nat) (sa : Option Addr) (ca kb kx kz : Nat) (g0 : World), Hid (Rs X X.heap.size g0 [rI (.slice sa T.cols.length ca) T.cols, rE (.slice (some ⟨kb, 0, none⟩) 0 0) [], rS (.slice (some ⟨kx, 0, none⟩) 0 0) [], rB kz 119 [.slice none 0 0, .slice none 0 0, .slice none 0 0]]) → (fun w' => Blk w' w.heap.size #[.slice s1 T.cols.length c1, .slice s2 T.rows.length c2, .slice s3 T.cells.length c3] 119 ∧ Blk w' (w.heap.size + 1) #[.slice none 0 0, .slice none 0 0, .slice none 0 0] 119) g0 → Gd 3 #[true, true, true, true, true, true, true, false, true, false, true, false] (((((a0.put (some 5) (.slice (some ⟨ka, 0, none⟩) 0 0)).put (some 8) (.slice sa T.cols.length ca)).put (some 9) (.slice (some ⟨kb, 0, none⟩) 0 0)).put (some 13) (.slice (some ⟨kx, 0, none⟩) 0 0)).put (some 3) (.pointer (some ⟨kz, 0, none⟩))) g0 := by
   intro ka sa ca kb kx kz g0 hR hHeld
   rw [hG, ha]
   simp only [zs]; refine wpy 7 fun K hK => ?_
   refine step_app [rI (.slice sa T.cols.length ca) T.cols] [rS (.slice (some ⟨kx, 0, none⟩) 0 0) [], rB kz 119 [.slice none 0 0, .slice none 0 0, .slice none 0 0]] hR.out rfl (d0 := (some 12)) rfl (.tmp 9) (.tmp 11) 115 16 rfl Tryz.underlying115 hiE hzE hsE hbE rfl (Nat.succ_pos _) rfl s2 T.rows.length c2 (ecells T.rows) rfl (ecells_len T.rows) (srcE (H2.out.kept cEnt_keeps (hR.out.keptG L0.out bB))) (ecells_one' T.rows) (by show _ ≤ _; simp only [rI, rE, rV, List.length_nil]; unfold maxLen; omega) (by simp only [rI, rE, rV, List.length_nil]; omega) T.rows.length (by simp [rI, rE, rV]) (fun v => rE v T.rows) (fun _ => rfl) ?_
   intro sb cb g6 hR'
   have hR : Hid (Rs X X.heap.size g6 [rI (.slice sa T.cols.length ca) T.cols, rE (.slice sb T.rows.length cb) T.rows, rS (.slice (some ⟨kx, 0, none⟩) 0 0) [], rB kz 119 [.slice none 0 0, .slice none 0 0, .slice none 0 0]]) := hR'
   clear hR'; refine hK.out _ _ ?_ (fun hHeld => ?_)
   ·
    exact (k2 hR K0 K1 b0 b1 :)
   clear hK K; try simp only [zs]
   refine wpr 9 14 ?_; simp only [zs]; exact dag_to hG (st1 ka sa ca kb sb cb kx kz _  hR hHeld) rfl (by kernel_rfl) (by rw [ha] <;> rfl)
  have st6 : ∀ (ka : Nat) (sa : Option Addr) (ca kb kx : Nat) (g0 : World), Hid (Rs X X.heap.size g0 [rI (.slice sa T.cols.length ca) T.cols, rE (.slice (some ⟨kb, 0, none⟩) 0 0) [], rS (.slice (some ⟨kx, 0, none⟩) 0 0) []]) → (fun w' => Blk w' w.heap.size #[.slice s1 T.cols.length c1, .slice s2 T.rows.length c2, .slice s3 T.cells.length c3] 119 ∧ Blk w' (w.heap.size + 1) #[.slice none 0 0, .slice none 0 0, .slice none 0 0] 119) g0 → Gd 4 #[true, true, true, true, true, true, true, false, true, false, false, false] ((((a0.put (some 5) (.slice (some ⟨ka, 0, none⟩) 0 0)).put (some 8) (.slice sa T.cols.length ca)).put (some 9) (.slice (some ⟨kb, 0, none⟩) 0 0)).put (some 13) (.slice (some ⟨kx, 0, none⟩) 0 0)) g0 := by
   intro ka sa ca kb kx g0 hR hHeld
   rw [hG, ha]
   simp only [zs]; refine wpAnyH_ready (rs := [7, 10]) (by kernel_rfl) (by simp) ?_
   refine AllReadyH.cons rfl (fun K hK => ?_) ?_
   ·
    skip
    refine step_app [rI (.slice sa T.cols.length ca) T.cols] [rS (.slice (some ⟨kx, 0, none⟩) 0 0) []] hR.out rfl (d0 := (some 12)) rfl (.tmp 9) (.tmp 11) 115 16 rfl Tryz.underlying115 hiE hzE hsE hbE rfl (Nat.succ_pos _) rfl s2 T.rows.length c2 (ecells T.rows) rfl (ecells_len T.rows) (srcE (H2.out.kept cEnt_keeps (hR.out.keptG L0.out bB))) (ecells_one' T.rows) (by show _ ≤ _; simp only [rI, rE, rV, List.length_nil]; unfold maxLen; omega) (by simp only [rI, rE, rV, List.length_nil]; omega) T.rows.length (by simp [rI, rE, rV]) (fun v => rE v T.rows) (fun _ => rfl) ?_
    intro sb cb g7 hR'
    have hR : Hid (Rs X X.heap.size g7 [rI (.slice sa T.cols.length ca) T.cols, rE (.slice sb T.rows.length cb) T.rows, rS (.slice (some ⟨kx, 0, none⟩) 0 0) []]) := hR'
    clear hR'; refine hK.out _ _ ?_ (fun hHeld => ?_)
    ·
     exact (k2 hR K0 K1 b0 b1 :)
    clear hK K; try simp only [zs]
    refine wpr 9 14 ?_; simp only [zs]; exact dag_to hG (st2 ka sa ca kb sb cb kx _  hR hHeld) rfl (by kernel_rfl) (by rw [ha] <;> rfl)
   refine AllReadyH.cons rfl (fun K hK => ?_) AllReadyH.nil
   refine step_box [rI (.slice sa T.cols.length ca) T.cols, rE (.slice (some ⟨kb, 0, none⟩) 0 0) [], rS (.slice (some ⟨kx, 0, none⟩) 0 0) []] [] hR.out rfl (d0 := (some 3)) rfl 119 hiT hzT rfl ?_
   intro kz g8 hR'
   have hR : Hid (Rs X X.heap.size g8 [rI (.slice sa T.cols.length ca) T.cols, rE (.slice (some ⟨kb, 0, none⟩) 0 0) [], rS (.slice (some ⟨kx, 0, none⟩) 0 0) [], rB kz 119 [.slice none 0 0, .slice none 0 0, .slice none 0 0]]) := hR'
   clear hR'; refine hK.out _ _ ?_ (fun hHeld => ?_)
   ·
    exact (k2 hR K0 K1 b0 b1 :)
   clear hK K; exact dag_to hG (st5 ka sa ca kb kx kz _  hR hHeld) rfl (by kernel_rfl) (by rw [ha] <;> rfl)
  have st7 : ∀ (ka : Nat) (sa : Option Addr) (ca kb kz : Nat) (g0 : World), Hid (Rs X X.heap.size g0 [rI (.slice sa T.cols.length ca) T.cols, rE (.slice (some ⟨kb, 0, none⟩) 0 0) [], rB kz 119 [.slice none 0 0, .slice none 0 0, .slice none 0 0]]) → (fun w' => Blk w' w.heap.size #[.slice s1 T.cols.length c1, .slice s2 T.rows.length c2, .slice s3 T.cells.length c3] 119 ∧ Blk w' (w.heap.size + 1) #[.slice none 0 0, .slice none 0 0, .slice none 0 0] 119) g0 → Gd 4 #[true, true, true, true, true, true, true, false, false, false, true, false] ((((a0.put (some 5) (.slice (some ⟨ka, 0, none⟩) 0 0)).put (some 8) (.slice sa T.cols.length ca)).put (some 9) (.slice (some ⟨kb, 0, none⟩) 0 0)).put (some 3) (.pointer (some ⟨kz, 0, none⟩))) g0 := by
   intro ka sa ca kb kz g0 hR hHeld
   rw [hG, ha]
   simp only [zs]; refine wpAnyH_ready (rs := [7, 8]) (by kernel_rfl) (by simp) ?_
   refine AllReadyH.cons rfl (fun K hK => ?_) ?_
   ·
    skip
    refine step_app [rI (.slice sa T.cols.length ca) T.cols] [rB kz 119 [.slice none 0 0, .slice none 0 0, .slice none 0 0]] hR.out rfl (d0 := (some 12)) rfl (.tmp 9) (.tmp 11) 115 16 rfl Tryz.underlying115 hiE hzE hsE hbE rfl (Nat.succ_pos _) rfl s2 T.rows.length c2 (ecells T.rows) rfl (ecells_len T.rows) (srcE (H2.out.kept cEnt_keeps (hR.out.keptG L0.out bB))) (ecells_one' T.rows) (by show _ ≤ _; simp only [rI, rE, rV, List.length_nil]; unfold maxLen; omega) (by simp only [rI, rE, rV, List.length_nil]; omega) T.rows.length (by simp [rI, rE, rV]) (fun v => rE v T.rows) (fun _ => rfl) ?_
    intro sb cb g9 hR'
    have hR : Hid (Rs X X.heap.size g9 [rI (.slice sa T.cols.length ca) T.cols, rE (.slice sb T.rows.length cb) T.rows, rB kz 119 [.slice none 0 0, .slice none 0 0, .slice none 0 0]]) := hR'
    clear hR'; refine hK.out _ _ ?_ (fun hHeld => ?_)
    ·
     exact (k2 hR K0 K1 b0 b1 :)
    clear hK K; exact dag_to hG (st3 ka sa ca kb sb cb kz _  hR hHeld) rfl (by kernel_rfl) (by rw [ha] <;> rfl)
   refine AllReadyH.cons rfl (fun K hK => ?_) AllReadyH.nil
   refine step_bs0 [rI (.slice sa T.cols.length ca) T.cols, rE (.slice (some ⟨kb, 0, none⟩) 0 0) []] [rB kz 119 [.slice none 0 0, .slice none 0 0, .slice none 0 0]] hR.out rfl (d0 := (some 13)) rfl 117 38 Tryz.underlying117 hiS rfl (fun v => rS v []) 1 (fun _ => rfl) ?_
   intro kx g10 hR'
   have hR : Hid (Rs X X.heap.size g10 [rI (.slice sa T.cols.length ca) T.cols, rE (.slice (some ⟨kb, 0, none⟩) 0 0) [], rS (.slice (some ⟨kx, 0, none⟩) 0 0) [], rB kz 119 [.slice none 0 0, .slice none 0 0, .slice none 0 0]]) := hR'
   clear hR'; refine hK.out _ _ ?_ (fun hHeld => ?_)
   ·
    exact (k2 hR K0 K1 b0 b1 :)
   clear hK K; exact dag_to hG (st5 ka sa ca kb kx kz _  hR hHeld) rfl (by kernel_rfl) (by rw [ha] <;> rfl)
  have st8 : ∀ (ka : Nat) (sa : Option Addr) (ca kb : Nat) (g0 : World), Hid (Rs X X.heap.size g0 [rI (.slice sa T.cols.length ca) T.cols, rE (.slice (some ⟨kb, 0, none⟩) 0 0) []]) → (fun w' => Blk w' w.heap.size #[.slice s1 T.cols.length c1, .slice s2 T.rows.length c2, .slice s3 T.cells.length c3] 119 ∧ Blk w' (w.heap.size + 1) #[.slice none 0 0, .slice none 0 0, .slice none 0 0] 119) g0 → Gd 5 #[true, true, true, true, true, true, true, false, false, false, false, false] (((a0.put (some 5) (.slice (some ⟨ka, 0, none⟩) 0 0)).put (some 8) (.slice sa T.cols.length ca)).put (some 9) (.slice (some ⟨kb, 0, none⟩) 0 0)) g0 := by
   intro ka sa ca kb g0 hR hHeld
   rw [hG, ha]
   simp only [zs]; refine wpAnyH_ready (rs := [7, 8, 10]) (by kernel_rfl) (by simp) ?_
   refine AllReadyH.cons rfl (fun K hK => ?_) ?_
   ·
    skip
    refine step_app [rI (.slice sa T.cols.length ca) T.cols] [] hR.out rfl (d0 := (some 12)) rfl (.tmp 9) (.tmp 11) 115 16 rfl Tryz.underlying115 hiE hzE hsE hbE rfl (Nat.succ_pos _) rfl s2 T.rows.length c2 (ecells T.rows) rfl (ecells_len T.rows) (srcE (H2.out.kept cEnt_keeps (hR.out.keptG L0.out bB))) (ecells_one' T.rows) (by show _ ≤ _; simp only [rI, rE, rV, List.length_nil]; unfold maxLen; omega) (by simp only [rI, rE, rV, List.length_nil]; omega) T.rows.length (by simp [rI, rE, rV]) (fun v => rE v T.rows) (fun _ => rfl) ?_
    intro sb cb g11 hR'
    have hR : Hid (Rs X X.heap.size g11 [rI (.slice sa T.cols.length ca) T.cols, rE (.slice sb T.rows.length cb) T.rows]) := hR'
    clear hR'; refine hK.out _ _ ?_ (fun hHeld => ?_)
    ·
     exact (k2 hR K0 K1 b0 b1 :)
    clear hK K; exact dag_to hG (st4 ka sa ca kb sb cb _  hR hHeld) rfl (by kernel_rfl) (by rw [ha] <;> rfl)
   refine AllReadyH.cons rfl (fun K hK => ?_) ?_
   ·
    skip
    refine step_bs0 [rI (.slice sa T.cols.length ca) T.cols, rE (.slice (some ⟨kb, 0, none⟩) 0 0) []] [] hR.out rfl (d0 := (some 13)) rfl 117 38 Tryz.underlying117 hiS rfl (fun v => rS v []) 1 (fun _ => rfl) ?_
    intro kx g12 hR'
    have hR : Hid (Rs X X.heap.size g12 [rI (.slice sa T.cols.length ca) T.cols, rE (.slice (some ⟨kb, 0, none⟩) 0 0) [], rS (.slice (some ⟨kx, 0, none⟩) 0 0) []]) := hR'
    clear hR'; refine hK.out _ _ ?_ (fun hHeld => ?_)
    ·
     exact (k2 hR K0 K1 b0 b1 :)
    clear hK K; exact dag_to hG (st6 ka sa ca kb kx _  hR hHeld) rfl (by kernel_rfl) (by rw [ha] <;> rfl)
   refine AllReadyH.cons rfl (fun K hK => ?_) AllReadyH.nil
   refine step_box [rI (.slice sa T.cols.length ca) T.cols, rE (.slice (some ⟨kb, 0, none⟩) 0 0) []] [] hR.out rfl (d0 := (some 3)) rfl 119 hiT hzT rfl ?_
   intro kz g13 hR'
   have hR : Hid (Rs X X.heap.size g13 [rI (.slice sa T.cols.length ca) T.cols, rE (.slice (some ⟨kb, 0, none⟩) 0 0) [], rB kz 119 [.slice none 0 0, .slice none 0 0, .slice none 0 0]]) := hR'
   clear hR'; refine hK.out _ _ ?_ (fun hHeld => ?_)
   ·
    exact (k2 hR K0 K1 b0 b1 :)
   clear hK K; exact dag_to hG (st7 ka sa ca kb kz _  hR hHeld) rfl (by kernel_rfl) (by rw [ha] <;> rfl)
  have st9 : ∀ (ka : Nat) (sa : Option Addr) (ca kx kz : Nat) (g0 : World), Hid (Rs X X.heap.size g0 [rI (.slice sa T.cols.length ca) T.cols, rS (.slice (some ⟨kx, 0, none⟩) 0 0) [], rB kz 119 [.slice none 0 0, .slice none 0 0, .slice none 0 0]]) → (fun w' => Blk w' w.heap.size #[.slice s1 T.cols.length c1, .slice s2 T.rows.length c2, .slice s3 T.cells.length c3] 119 ∧ Blk w' (w.heap.size + 1) #[.slice none 0 0, .slice none 0 0, .slice none 0 0] 119) g0 → Gd 4 #[true, true, true, true, false, true, true, false, true, false, true, false] ((((a0.put (some 5) (.slice (some ⟨ka, 0, none⟩) 0 0)).put (some 8) (.slice sa T.cols.length ca)).put (some 13) (.slice (some ⟨kx, 0, none⟩) 0 0)).put (some 3) (.pointer (some ⟨kz, 0, none⟩))) g0 := by
   intro ka sa ca kx kz g0 hR hHeld
   rw [hG, ha]
   simp only [zs]; refine wpy 4 fun K hK => ?_
   refine step_bs0 [rI (.slice sa T.cols.length ca) T.cols] [rS (.slice (some ⟨kx, 0, none⟩) 0 0) [], rB kz 119 [.slice none 0 0, .slice none 0 0, .slice none 0 0]] hR.out rfl (d0 := (some 9)) rfl 115 42 Tryz.underlying115 hiE rfl (fun v => rE v []) 2 (fun _ => rfl) ?_
   intro kb g14 hR'
   have hR : Hid (Rs X X.heap.size g14 [rI (.slice sa T.cols.length ca) T.cols, rE (.slice (some ⟨kb, 0, none⟩) 0 0) [], rS (.slice (some ⟨kx, 0, none⟩) 0 0) [], rB kz 119 [.slice none 0 0, .slice none 0 0, .slice none 0 0]]) := hR'
   clear hR'; refine hK.out _ _ ?_ (fun hHeld => ?_)
   ·
    exact (k2 hR K0 K1 b0 b1 :)
   clear hK K; exact dag_to hG (st5 ka sa ca kb kx kz _  hR hHeld) rfl (by kernel_rfl) (by rw [ha] <;> rfl)
  have st10 : ∀ (ka : Nat) (sa : Option Addr) (ca kx : Nat) (g0 : World), Hid (Rs X X.heap.size g0 [rI (.slice sa T.cols.length ca) T.cols, rS (.slice (some ⟨kx, 0, none⟩) 0 0) []]) → (fun w' => Blk w' w.heap.size #[.slice s1 T.cols.length c1, .slice s2 T.rows.length c2, .slice s3 T.cells.length c3] 119 ∧ Blk w' (w.heap.size + 1) #[.slice none 0 0, .slice none 0 0, .slice none 0 0] 119) g0 → Gd 5 #[true, true, true, true, false, true, true, false, true, false, false, false] (((a0.put (some 5) (.slice (some ⟨ka, 0, none⟩) 0 0)).put (some 8) (.slice sa T.cols.length ca)).put (some 13) (.slice (some ⟨kx, 0, none⟩) 0 0)) g0 := by
   intro ka sa ca kx g0 hR hHeld
   rw [hG, ha]
   simp only [zs]; refine wpAnyH_ready (rs := [4, 10]) (by kernel_rfl) (by simp) ?_
   refine AllReadyH.cons rfl (fun K hK => ?_) ?_
   ·
    skip
    refine step_bs0 [rI (.slice sa T.cols.length ca) T.cols] [rS (.slice (some ⟨kx, 0, none⟩) 0 0) []] hR.out rfl (d0 := (some 9)) rfl 115 42 Tryz.underlying115 hiE rfl (fun v => rE v []) 2 (fun _ => rfl) ?_
    intro kb g15 hR'
    have hR : Hid (Rs X X.heap.size g15 [rI (.slice sa T.cols.length ca) T.cols, rE (.slice (some ⟨kb, 0, none⟩) 0 0) [], rS (.slice (some ⟨kx, 0, none⟩) 0 0) []]) := hR'
    clear hR'; refine hK.out _ _ ?_ (fun hHeld => ?_)
    ·
     exact (k2 hR K0 K1 b0 b1 :)
    clear hK K; exact dag_to hG (st6 ka sa ca kb kx _  hR hHeld) rfl (by kernel_rfl) (by rw [ha] <;> rfl)
   refine AllReadyH.cons rfl (fun K hK => ?_) AllReadyH.nil
   refine step_box [rI (.slice sa T.cols.length ca) T.cols, rS (.slice (some ⟨kx, 0, none⟩) 0 0) []] [] hR.out rfl (d0 := (some 3)) rfl 119 hiT hzT rfl ?_
   intro kz g16 hR'
   have hR : Hid (Rs X X.heap.size g16 [rI (.slice sa T.cols.length ca) T.cols, rS (.slice (some ⟨kx, 0, none⟩) 0 0) [], rB kz 119 [.slice none 0 0, .slice none 0 0, .slice none 0 0]]) := hR'
   clear hR'; refine hK.out _ _ ?_ (fun hHeld => ?_)
   ·
    exact (k2 hR K0 K1 b0 b1 :)
   clear hK K; exact dag_to hG (st9 ka sa ca kx kz _  hR hHeld) rfl (by kernel_rfl) (by rw [ha] <;> rfl)
  have st11 : ∀ (ka : Nat) (sa : Option Addr) (ca kz : Nat) (g0 : World), Hid (Rs X X.heap.size g0 [rI (.slice sa T.cols.length ca) T.cols, rB kz 119 [.slice none 0 0, .slice none 0 0, .slice none 0 0]]) → (fun w' => Blk w' w.heap.size #[.slice s1 T.cols.length c1, .slice s2 T.rows.length c2, .slice s3 T.cells.length c3] 119 ∧ Blk w' (w.heap.size + 1) #[.slice none 0 0, .slice none 0 0, .slice none 0 0] 119) g0 → Gd 5 #[true, true, true, true, false, true, true, false, false, false, true, false] (((a0.put (some 5) (.slice (some ⟨ka, 0, none⟩) 0 0)).put (some 8) (.slice sa T.cols.length ca)).put (some 3) (.pointer (some ⟨kz, 0, none⟩))) g0 := by
   intro ka sa ca kz g0 hR hHeld
   rw [hG, ha]
   simp only [zs]; refine wpAnyH_ready (rs := [4, 8]) (by kernel_rfl) (by simp) ?_
   refine AllReadyH.cons rfl (fun K hK => ?_) ?_
   ·
    skip
    refine step_bs0 [rI (.slice sa T.cols.length ca) T.cols] [rB kz 119 [.slice none 0 0, .slice none 0 0, .slice none 0 0]] hR.out rfl (d0 := (some 9)) rfl 115 42 Tryz.underlying115 hiE rfl (fun v => rE v []) 2 (fun _ => rfl) ?_
    intro kb g17 hR'
    have hR : Hid (Rs X X.heap.size g17 [rI (.slice sa T.cols.length ca) T.cols, rE (.slice (some ⟨kb, 0, none⟩) 0 0) [], rB kz 119 [.slice none 0 0, .slice none 0 0, .slice none 0 0]]) := hR'
    clear hR'; refine hK.out _ _ ?_ (fun hHeld => ?_)
    ·
     exact (k2 hR K0 K1 b0 b1 :)
    clear hK K; exact dag_to hG (st7 ka sa ca kb kz _  hR hHeld) rfl (by kernel_rfl) (by rw [ha] <;> rfl)
   refine AllReadyH.cons rfl (fun K hK => ?_) AllReadyH.nil
   refine step_bs0 [rI (.slice sa T.cols.length ca) T.cols] [rB kz 119 [.slice none 0 0, .slice none 0 0, .slice none 0 0]] hR.out rfl (d0 := (some 13)) rfl 117 38 Tryz.underlying117 hiS rfl (fun v => rS v []) 1 (fun _ => rfl) ?_
   intro kx g18 hR'
   have hR : Hid (Rs X X.heap.size g18 [rI (.slice sa T.cols.length ca) T.cols, rS (.slice (some ⟨kx, 0, none⟩) 0 0) [], rB kz 119 [.slice none 0 0, .slice none 0 0, .slice none 0 0]]) := hR'
   clear hR'; refine hK.out _ _ ?_ (fun hHeld => ?_)
   ·
    exact (k2 hR K0 K1 b0 b1 :)
   clear hK K; exact dag_to hG (st9 ka sa ca kx kz _  hR hHeld) rfl (by kernel_rfl) (by rw [ha] <;> rfl)
  have st12 : ∀ (ka : Nat) (sa : Option Addr) (ca : Nat) (g0 : World), Hid (Rs X X.heap.size g0 [rI (.slice sa T.cols.length ca) T.cols]) → (fun w' => Blk w' w.heap.size #[.slice s1 T.cols.length c1, .slice s2 T.rows.length c2, .slice s3 T.cells.length c3] 119 ∧ Blk w' (w.heap.size + 1) #[.slice none 0 0, .slice none 0 0, .slice none 0 0] 119) g0 → Gd 6 #[true, true, true, true, false, true, true, false, false, false, false, false] ((a0.put (some 5) (.slice (some ⟨ka, 0, none⟩) 0 0)).put (some 8) (.slice sa T.cols.length ca)) g0 := by
   intro ka sa ca g0 hR hHeld
   rw [hG, ha]
   simp only [zs]; refine wpAnyH_ready (rs := [4, 8, 10]) (by kernel_rfl) (by simp) ?_
   refine AllReadyH.cons rfl (fun K hK => ?_) ?_
   ·
    skip
    refine step_bs0 [rI (.slice sa T.cols.length ca) T.cols] [] hR.out rfl (d0 := (some 9)) rfl 115 42 Tryz.underlying115 hiE rfl (fun v => rE v []) 2 (fun _ => rfl) ?_
    intro kb g19 hR'
    have hR : Hid (Rs X X.heap.size g19 [rI (.slice sa T.cols.length ca) T.cols, rE (.slice (some ⟨kb, 0, none⟩) 0 0) []]) := hR'
    clear hR'; refine hK.out _ _ ?_ (fun hHeld => ?_)
    ·
     exact (k2 hR K0 K1 b0 b1 :)
    clear hK K; exact dag_to hG (st8 ka sa ca kb _  hR hHeld) rfl (by kernel_rfl) (by rw [ha] <;> rfl)
   refine AllReadyH.cons rfl (fun K hK => ?_) ?_
   ·
    skip
    refine step_bs0 [rI (.slice sa T.cols.length ca) T.cols] [] hR.out rfl (d0 := (some 13)) rfl 117 38 Tryz.underlying117 hiS rfl (fun v => rS v []) 1 (fun _ => rfl) ?_
    intro kx g20 hR'
    have hR : Hid (Rs X X.heap.size g20 [rI (.slice sa T.cols.length ca) T.cols, rS (.slice (some ⟨kx, 0, none⟩) 0 0) []]) := hR'
    clear hR'; refine hK.out _ _ ?_ (fun hHeld => ?_)
    ·
     exact (k2 hR K0 K1 b0 b1 :)
    clear hK K; exact dag_to hG (st10 ka sa ca kx _  hR hHeld) rfl (by kernel_rfl) (by rw [ha] <;> rfl)
   refine AllReadyH.cons rfl (fun K hK => ?_) AllReadyH.nil
   refine step_box [rI (.slice sa T.cols.length ca) T.cols] [] hR.out rfl (d0 := (some 3)) rfl 119 hiT hzT rfl ?_
   intro kz g21 hR'
   have hR : Hid (Rs X X.heap.size g21 [rI (.slice sa T.cols.length ca) T.cols, rB kz 119 [.slice none 0 0, .slice none 0 0, .slice none 0 0]]) := hR'
   clear hR'; refine hK.out _ _ ?_ (fun hHeld => ?_)
   ·
    exact (k2 hR K0 K1 b0 b1 :)
   clear hK K; exact dag_to hG (st11 ka sa ca kz _  hR hHeld) rfl (by kernel_rfl) (by rw [ha] <;> rfl)
  have st13 : ∀ (ka kb kx kz : Nat) (g0 : World), Hid (Rs X X.heap.size g0 [rI (.slice (some ⟨ka, 0, none⟩) 0 0) [], rE (.slice (some ⟨kb, 0, none⟩) 0 0) [], rS (.slice (some ⟨kx, 0, none⟩) 0 0) [], rB kz 119 [.slice none 0 0, .slice none 0 0, .slice none 0 0]]) → (fun w' => Blk w' w.heap.size #[.slice s1 T.cols.length c1, .slice s2 T.rows.length c2, .slice s3 T.cells.length c3] 119 ∧ Blk w' (w.heap.size + 1) #[.slice none 0 0, .slice none 0 0, .slice none 0 0] 119) g0 → Gd 4 #[true, true, true, false, true, true, true, false, true, false, true, false] ((((a0.put (some 5) (.slice (some ⟨ka, 0, none⟩) 0 0)).put (some 9) (.slice (some ⟨kb, 0, none⟩) 0 0)).put (some 13) (.slice (some ⟨kx, 0, none⟩) 0 0)).put (some 3) (.pointer (some ⟨kz, 0, none⟩))) g0 := by
   intro ka kb kx kz g0 hR hHeld
   rw [hG, ha]
   simp only [zs]; refine wpy 3 fun K hK => ?_
   refine step_app [] [rE (.slice (some ⟨kb, 0, none⟩) 0 0) [], rS (.slice (some ⟨kx, 0, none⟩) 0 0) [], rB kz 119 [.slice none 0 0, .slice none 0 0, .slice none 0 0]] hR.out rfl (d0 := (some 8)) rfl (.tmp 5) (.tmp 7) 25 8 rfl Tryz.underlying25 hiI hzI hsI hbI rfl (Nat.succ_pos _) rfl s1 T.cols.length c1 (T.cols.map (Value.int .i64)) rfl (by simp [rI]) (srcI (H1.out.kept cInt_keeps (hR.out.keptG L0.out bB))) (ints_one T.cols) (by show _ ≤ _; simp only [rI, rE, rV, List.length_nil]; unfold maxLen; omega) (by simp only [rI, rE, rV, List.length_nil]; omega) T.cols.length (by simp [rI, rE, rV]) (fun v => rI v T.cols) (fun _ => rfl) ?_
   intro sa ca g22 hR'
   have hR : Hid (Rs X X.heap.size g22 [rI (.slice sa T.cols.length ca) T.cols, rE (.slice (some ⟨kb, 0, none⟩) 0 0) [], rS (.slice (some ⟨kx, 0, none⟩) 0 0) [], rB kz 119 [.slice none 0 0, .slice none 0 0, .slice none 0 0]]) := hR'
   clear hR'; refine hK.out _ _ ?_ (fun hHeld => ?_)
   ·
    exact (k2 hR K0 K1 b0 b1 :)
   clear hK K; exact dag_to hG (st5 ka sa ca kb kx kz _  hR hHeld) rfl (by kernel_rfl) (by rw [ha] <;> rfl)
  have st14 : ∀ (ka kb kx : Nat) (g0 : World), Hid (Rs X X.heap.size g0 [rI (.slice (some ⟨ka, 0, none⟩) 0 0) [], rE (.slice (some ⟨kb, 0, none⟩) 0 0) [], rS (.slice (some ⟨kx, 0, none⟩) 0 0) []]) → (fun w' => Blk w' w.heap.size #[.slice s1 T.cols.length c1, .slice s2 T.rows.length c2, .slice s3 T.cells.length c3] 119 ∧ Blk w' (w.heap.size + 1) #[.slice none 0 0, .slice none 0 0, .slice none 0 0] 119) g0 → Gd 5 #[true, true, true, false, true, true, true, false, true, false, false, false] (((a0.put (some 5) (.slice (some ⟨ka, 0, none⟩) 0 0)).put (some 9) (.slice (some ⟨kb, 0, none⟩) 0 0)).put (some 13) (.slice (some ⟨kx, 0, none⟩) 0 0)) g0 := by
   intro ka kb kx g0 hR hHeld
   rw [hG, ha]
   simp only [zs]; refine wpAnyH_ready (rs := [3, 10]) (by kernel_rfl) (by simp) ?_
   refine AllReadyH.cons rfl (fun K hK => ?_) ?_
   ·
    skip
    refine step_app [] [rE (.slice (some ⟨kb, 0, none⟩) 0 0) [], rS (.slice (some ⟨kx, 0, none⟩) 0 0) []] hR.out rfl (d0 := (some 8)) rfl (.tmp 5) (.tmp 7) 25 8 rfl Tryz.underlying25 hiI hzI hsI hbI rfl (Nat.succ_pos _) rfl s1 T.cols.length c1 (T.cols.map (Value.int .i64)) rfl (by simp [rI]) (srcI (H1.out.kept cInt_keeps (hR.out.keptG L0.out bB))) (ints_one T.cols) (by show _ ≤ _; simp only [rI, rE, rV, List.length_nil]; unfold maxLen; omega) (by simp only [rI, rE, rV, List.length_nil]; omega) T.cols.length (by simp [rI, rE, rV]) (fun v => rI v T.cols) (fun _ => rfl) ?_
    intro sa ca g23 hR'
    have hR : Hid (Rs X X.heap.size g23 [rI (.slice sa T.cols.length ca) T.cols, rE (.slice (some ⟨kb, 0, none⟩) 0 0) [], rS (.slice (some ⟨kx, 0, none⟩) 0 0) []]) := hR'
    clear hR'; refine hK.out _ _ ?_ (fun hHeld => ?_)
    ·
     exact (k2 hR K0 K1 b0 b1 :)
    clear hK K; exact dag_to hG (st6 ka sa ca kb kx _  hR hHeld) rfl (by kernel_rfl) (by rw [ha] <;> rfl)
   refine AllReadyH.cons rfl (fun K hK => ?_) AllReadyH.nil
   refine step_box [rI (.slice (some ⟨ka, 0, none⟩) 0 0) [], rE (.slice (some ⟨kb, 0, none⟩) 0 0) [], rS (.slice (some ⟨kx, 0, none⟩) 0 0) []] [] hR.out rfl (d0 := (some 3)) rfl 119 hiT hzT rfl ?_
   intro kz g24 hR'
   have hR : Hid (Rs X X.heap.size g24 [rI (.slice (some ⟨ka, 0, none⟩) 0 0) [], rE (.slice (some ⟨kb, 0, none⟩) 0 0) [], rS (.slice (some ⟨kx, 0, none⟩) 0 0) [], rB kz 119 [.slice none 0 0, .slice none 0 0, .slice none 0 0]]) := hR'
   clear hR'; refine hK.out _ _ ?_ (fun hHeld => ?_)
   ·
    exact (k2 hR K0 K1 b0 b1 :)
   clear hK K; exact dag_to hG (st13 ka kb kx kz _  hR hHeld) rfl (by kernel_rfl) (by rw [ha] <;> rfl)
  have st15 : ∀ (ka kb kz : Nat) (g0 : World), Hid (Rs X X.heap.size g0 [rI (.slice (some ⟨ka, 0, none⟩) 0 0) [], rE (.slice (some ⟨kb, 0, none⟩) 0 0) [], rB kz 119 [.slice none 0 0, .slice none 0 0, .slice none 0 0]]) → (fun w' => Blk w' w.heap.size #[.slice s1 T.cols.length c1, .slice s2 T.rows.length c2, .slice s3 T.cells.length c3] 119 ∧ Blk w' (w.heap.size + 1) #[.slice none 0 0, .slice none 0 0, .slice none 0 0] 119) g0 → Gd 5 #[true, true, true, false, true, true, true, false, false, false, true, false] (((a0.put (some 5) (.slice (some ⟨ka, 0, none⟩) 0 0)).put (some 9) (.slice (some ⟨kb, 0, none⟩) 0 0)).put (some 3) (.pointer (some ⟨kz, 0, none⟩))) g0 := by
   intro ka kb kz g0 hR hHeld
   rw [hG, ha]
   simp only [zs]; refine wpAnyH_ready (rs := [3, 8]) (by kernel_rfl) (by simp) ?_
   refine AllReadyH.cons rfl (fun K hK => ?_) ?_
   ·
    skip
    refine step_app [] [rE (.slice (some ⟨kb, 0, none⟩) 0 0) [], rB kz 119 [.slice none 0 0, .slice none 0 0, .slice none 0 0]] hR.out rfl (d0 := (some 8)) rfl (.tmp 5) (.tmp 7) 25 8 rfl Tryz.underlying25 hiI hzI hsI hbI rfl (Nat.succ_pos _) rfl s1 T.cols.length c1 (T.cols.map (Value.int .i64)) rfl (by simp [rI]) (srcI (H1.out.kept cInt_keeps (hR.out.keptG L0.out bB))) (ints_one T.cols) (by show _ ≤ _; simp only [rI, rE, rV, List.length_nil]; unfold maxLen; omega) (by simp only [rI, rE, rV, List.length_nil]; omega) T.cols.length (by simp [rI, rE, rV]) (fun v => rI v T.cols) (fun _ => rfl) ?_
    intro sa ca g25 hR'
    have hR : Hid (Rs X X.heap.size g25 [rI (.slice sa T.cols.length ca) T.cols, rE (.slice (some ⟨kb, 0, none⟩) 0 0) [], rB kz 119 [.slice none 0 0, .slice none 0 0, .slice none 0 0]]) := hR'
    clear hR'; refine hK.out _ _ ?_ (fun hHeld => ?_)
    ·
     exact (k2 hR K0 K1 b0 b1 :)
    clear hK K; exact dag_to hG (st7 ka sa ca kb kz _  hR hHeld) rfl (by kernel_rfl) (by rw [ha] <;> rfl)
   refine AllReadyH.cons rfl (fun K hK => ?_) AllReadyH.nil
   refine step_bs0 [rI (.slice (some ⟨ka, 0, none⟩) 0 0) [], rE (.slice (some ⟨kb, 0, none⟩) 0 0) []] [rB kz 119 [.slice none 0 0, .slice none 0 0, .slice none 0 0]] hR.out rfl (d0 := (some 13)) rfl 117 38 Tryz.underlying117 hiS rfl (fun v => rS v []) 1 (fun _ => rfl) ?_
   intro kx g26 hR'
   have hR : Hid (Rs X X.heap.size g26 [rI (.slice (some ⟨ka, 0, none⟩) 0 0) [], rE (.slice (some ⟨kb, 0, none⟩) 0 0) [], rS (.slice (some ⟨kx, 0, none⟩) 0 0) [], rB kz 119 [.slice none 0 0, .slice none 0 0, .slice none 0 0]]) := hR'
   clear hR'; refine hK.out _ _ ?_ (fun hHeld => ?_)
   ·
    exact (k2 hR K0 K1 b0 b1 :)
   clear hK K; exact dag_to hG (st13 ka kb kx kz _  hR hHeld) rfl (by kernel_rfl) (by rw [ha] <;> rfl)
  have st16 : ∀ (ka kb : Nat) (g0 : World), Hid (Rs X X.heap.size g0 [rI (.slice (some ⟨ka, 0, none⟩) 0 0) [], rE (.slice (some ⟨kb, 0, none⟩) 0 0) []]) → (fun w' => Blk w' w.heap.size #[.slice s1 T.cols.length c1, .slice s2 T.rows.length c2, .slice s3 T.cells.length c3] 119 ∧ Blk w' (w.heap.size + 1) #[.slice none 0 0, .slice none 0 0, .slice none 0 0] 119) g0 → Gd 6 #[true, true, true, false, true, true, true, false, false, false, false, false] ((a0.put (some 5) (.slice (some ⟨ka, 0, none⟩) 0 0)).put (some 9) (.slice (some ⟨kb, 0, none⟩) 0 0)) g0 := by
   intro ka kb g0 hR hHeld
   rw [hG, ha]
   simp only [zs]; refine wpAnyH_ready (rs := [3, 8, 10]) (by kernel_rfl) (by simp) ?_
   refine AllReadyH.cons rfl (fun K hK => ?_) ?_
   ·
    skip
    refine step_app [] [rE (.slice (some ⟨kb, 0, none⟩) 0 0) []] hR.out rfl (d0 := (some 8)) rfl (.tmp 5) (.tmp 7) 25 8 rfl Tryz.underlying25 hiI hzI hsI hbI rfl (Nat.succ_pos _) rfl s1 T.cols.length c1 (T.cols.map (Value.int .i64)) rfl (by simp [rI]) (srcI (H1.out.kept cInt_keeps (hR.out.keptG L0.out bB))) (ints_one T.cols) (by show _ ≤ _; simp only [rI, rE, rV, List.length_nil]; unfold maxLen; omega) (by simp only [rI, rE, rV, List.length_nil]; omega) T.cols.length (by simp [rI, rE, rV]) (fun v => rI v T.cols) (fun _ => rfl) ?_
    intro sa ca g27 hR'
    have hR : Hid (Rs X X.heap.size g27 [rI (.slice sa T.cols.length ca) T.cols, rE (.slice (some ⟨kb, 0, none⟩) 0 0) []]) := hR'
    clear hR'; refine hK.out _ _ ?_ (fun hHeld => ?_)
    ·
     exact (k2 hR K0 K1 b0 b1 :)
    clear hK K; exact dag_to hG (st8 ka sa ca kb _  hR hHeld) rfl (by kernel_rfl) (by rw [ha] <;> rfl)
   refine AllReadyH.cons rfl (fun K hK => ?_) ?_
   ·
    skip
    refine step_bs0 [rI (.slice (some ⟨ka, 0, none⟩) 0 0) [], rE (.slice (some ⟨kb, 0, none⟩) 0 0) []] [] hR.out rfl (d0 := (some 13)) rfl 117 38 Tryz.underlying117 hiS rfl (fun v => rS v []) 1 (fun _ => rfl) ?_
    intro kx g28 hR'
    have hR : Hid (Rs X X.heap.size g28 [rI (.slice (some ⟨ka, 0, none⟩) 0 0) [], rE (.slice (some ⟨kb, 0, none⟩) 0 0) [], rS (.slice (some ⟨kx, 0, none⟩) 0 0) []]) := hR'
    clear hR'; refine hK.out _ _ ?_ (fun hHeld => ?_)
    ·
     exact (k2 hR K0 K1 b0 b1 :)
    clear hK K; exact dag_to hG (st14 ka kb kx _  hR hHeld) rfl (by kernel_rfl) (by rw [ha] <;> rfl)
   refine AllReadyH.cons rfl (fun K hK => ?_) AllReadyH.nil
   refine step_box [rI (.slice (some ⟨ka, 0, none⟩) 0 0) [], rE (.slice (some ⟨kb, 0, none⟩) 0 0) []] [] hR.out rfl (d0 := (some 3)) rfl 119 hiT hzT rfl ?_
   intro kz g29 hR'
   have hR : Hid (Rs X X.heap.size g29 [rI (.slice (some ⟨ka, 0, none⟩) 0 0) [], rE (.slice (some ⟨kb, 0, none⟩) 0 0) [], rB kz 119 [.slice none 0 0, .slice none 0 0, .slice none 0 0]]) := hR'
   clear hR'; refine hK.out _ _ ?_ (fun hHeld => ?_)
   ·
    exact (k2 hR K0 K1 b0 b1 :)
   clear hK K; exact dag_to hG (st15 ka kb kz _  hR hHeld) rfl (by kernel_rfl) (by rw [ha] <;> rfl)
  have st17 : ∀ (ka kx kz : Nat) (g0 : World), Hid (Rs X X.heap.size g0 [rI (.slice (some ⟨ka, 0, none⟩) 0 0) [], rS (.slice (some ⟨kx, 0, none⟩) 0 0) [], rB kz 119 [.slice none 0 0, .slice none 0 0, .slice none 0 0]]) → (fun w' => Blk w' w.heap.size #[.slice s1 T.cols.length c1, .slice s2 T.rows.length c2, .slice s3 T.cells.length c3] 119 ∧ Blk w' (w.heap.size + 1) #[.slice none 0 0, .slice none 0 0, .slice none 0 0] 119) g0 → Gd 5 #[true, true, true, false, false, true, true, false, true, false, true, false] (((a0.put (some 5) (.slice (some ⟨ka, 0, none⟩) 0 0)).put (some 13) (.slice (some ⟨kx, 0, none⟩) 0 0)).put (some 3) (.pointer (some ⟨kz, 0, none⟩))) g0 := by
   intro ka kx kz g0 hR hHeld
   rw [hG, ha]
   simp only [zs]; refine wpAnyH_ready (rs := [3, 4]) (by kernel_rfl) (by simp) ?_
   refine AllReadyH.cons rfl (fun K hK => ?_) ?_
   ·
    skip
    refine step_app [] [rS (.slice (some ⟨kx, 0, none⟩) 0 0) [], rB kz 119 [.slice none 0 0, .slice none 0 0, .slice none 0 0]] hR.out rfl (d0 := (some 8)) rfl (.tmp 5) (.tmp 7) 25 8 rfl Tryz.underlying25 hiI hzI hsI hbI rfl (Nat.succ_pos _) rfl s1 T.cols.length c1 (T.cols.map (Value.int .i64)) rfl (by simp [rI]) (srcI (H1.out.kept cInt_keeps (hR.out.keptG L0.out bB))) (ints_one T.cols) (by show _ ≤ _; simp only [rI, rE, rV, List.length_nil]; unfold maxLen; omega) (by simp only [rI, rE, rV, List.length_nil]; omega) T.cols.length (by simp [rI, rE, rV]) (fun v => rI v T.cols) (fun _ => rfl) ?_
    intro sa ca g30 hR'
    have hR : Hid (Rs X X.heap.size g30 [rI (.slice sa T.cols.length ca) T.cols, rS (.slice (some ⟨kx, 0, none⟩) 0 0) [], rB kz 119 [.slice none 0 0, .slice none 0 0, .slice none 0 0]]) := hR'
    clear hR'; refine hK.out _ _ ?_ (fun hHeld => ?_)
    ·
     exact (k2 hR K0 K1 b0 b1 :)
    clear hK K; exact dag_to hG (st9 ka sa ca kx kz _  hR hHeld) rfl (by kernel_rfl) (by rw [ha] <;> rfl)
   refine AllReadyH.cons rfl (fun K hK => ?_) AllReadyH.nil
   refine step_bs0 [rI (.slice (some ⟨ka, 0, none⟩) 0 0) []] [rS (.slice (some ⟨kx, 0, none⟩) 0 0) [], rB kz 119 [.slice none 0 0, .slice none 0 0, .slice none 0 0]] hR.out rfl (d0 := (some 9)) rfl 115 42 Tryz.underlying115 hiE rfl (fun v => rE v []) 2 (fun _ => rfl) ?_
   intro kb g31 hR'
   have hR : Hid (Rs X X.heap.size g31 [rI (.slice (some ⟨ka, 0, none⟩) 0 0) [], rE (.slice (some ⟨kb, 0, none⟩) 0 0) [], rS (.slice (some ⟨kx, 0, none⟩) 0 0) [], rB kz 119 [.slice none 0 0, .slice none 0 0, .slice none 0 0]]) := hR'
   clear hR'; refine hK.out _ _ ?_ (fun hHeld => ?_)
   ·
    exact (k2 hR K0 K1 b0 b1 :)
   clear hK K; exact dag_to hG (st13 ka kb kx kz _  hR hHeld) rfl (by kernel_rfl) (by rw [ha] <;> rfl)
  have st18 : ∀ (ka kx : Nat) (g0 : World), Hid (Rs X X.heap.size g0 [rI (.slice (some ⟨ka, 0, none⟩) 0 0) [], rS (.slice (some ⟨kx, 0, none⟩) 0 0) []]) → (fun w' => Blk w' w.heap.size #[.slice s1 T.cols.length c1, .slice s2 T.rows.length c2, .slice s3 T.cells.length c3] 119 ∧ Blk w' (w.heap.size + 1) #[.slice none 0 0, .slice none 0 0, .slice none 0 0] 119) g0 → Gd 6 #[true, true, true, false, false, true, true, false, true, false, false, false] ((a0.put (some 5) (.slice (some ⟨ka, 0, none⟩) 0 0)).put (some 13) (.slice (some ⟨kx, 0, none⟩) 0 0)) g0 := by
   intro ka kx g0 hR hHeld
   rw [hG, ha]
   simp only [zs]; refine wpAnyH_ready (rs := [3, 4, 10]) (by kernel_rfl) (by simp) ?_
   refine AllReadyH.cons rfl (fun K hK => ?_) ?_
   ·
    skip
    refine step_app [] [rS (.slice (some ⟨kx, 0, none⟩) 0 0) []] hR.out rfl (d0 := (some 8)) rfl (.tmp 5) (.tmp 7) 25 8 rfl Tryz.underlying25 hiI hzI hsI hbI rfl (Nat.succ_pos _) rfl s1 T.cols.length c1 (T.cols.map (Value.int .i64)) rfl (by simp [rI]) (srcI (H1.out.kept cInt_keeps (hR.out.keptG L0.out bB))) (ints_one T.cols) (by show _ ≤ _; simp only [rI, rE, rV, List.length_nil]; unfold maxLen; omega) (by simp only [rI, rE, rV, List.length_nil]; omega) T.cols.length (by simp [rI, rE, rV]) (fun v => rI v T.cols) (fun _ => rfl) ?_
    intro sa ca g32 hR'
    have hR : Hid (Rs X X.heap.size g32 [rI (.slice sa T.cols.length ca) T.cols, rS (.slice (some ⟨kx, 0, none⟩) 0 0) []]) := hR'
    clear hR'; refine hK.out _ _ ?_ (fun hHeld => ?_)
    ·
     exact (k2 hR K0 K1 b0 b1 :)
    clear hK K; exact dag_to hG (st10 ka sa ca kx _  hR hHeld) rfl (by kernel_rfl) (by rw [ha] <;> rfl)
   refine AllReadyH.cons rfl (fun K hK => ?_) ?_
   ·
    skip
    refine step_bs0 [rI (.slice (some ⟨ka, 0, none⟩) 0 0) []] [rS (.slice (some ⟨kx, 0, none⟩) 0 0) []] hR.out rfl (d0 := (some 9)) rfl 115 42 Tryz.underlying115 hiE rfl (fun v => rE v []) 2 (fun _ => rfl) ?_
    intro kb g33 hR'
    have hR : Hid (Rs X X.heap.size g33 [rI (.slice (some ⟨ka, 0, none⟩) 0 0) [], rE (.slice (some ⟨kb, 0, none⟩) 0 0) [], rS (.slice (some ⟨kx, 0, none⟩) 0 0) []]) := hR'
    clear hR'; refine hK.out _ _ ?_ (fun hHeld => ?_)
    ·
     exact (k2 hR K0 K1 b0 b1 :)
    clear hK K; exact dag_to hG (st14 ka kb kx _  hR hHeld) rfl (by kernel_rfl) (by rw [ha] <;> rfl)
   refine AllReadyH.cons rfl (fun K hK => ?_) AllReadyH.nil
   refine step_box [rI (.slice (some ⟨ka, 0, none⟩) 0 0) [], rS (.slice (some ⟨kx, 0, none⟩) 0 0) []] [] hR.out rfl (d0 := (some 3)) rfl 119 hiT hzT rfl ?_
   intro kz g34 hR'
   have hR : Hid (Rs X X.heap.size g34 [rI (.slice (some ⟨ka, 0, none⟩) 0 0) [], rS (.slice (some ⟨kx, 0, none⟩) 0 0) [], rB kz 119 [.slice none 0 0, .slice none 0 0, .slice none 0 0]]) := hR'
   clear hR'; refine hK.out _ _ ?_ (fun hHeld => ?_)
   ·
    exact (k2 hR K0 K1 b0 b1 :)
   clear hK K; exact dag_to hG (st17 ka kx kz _  hR hHeld) rfl (by kernel_rfl) (by rw [ha] <;> rfl)
  have st19 : ∀ (ka kz : Nat) (g0 : World), Hid (Rs X X.heap.size g0 [rI (.slice (some ⟨ka, 0, none⟩) 0 0) [], rB kz 119 [.slice none 0 0, .slice none 0 0, .slice none 0 0]]) → (fun w' => Blk w' w.heap.size #[.slice s1 T.cols.length c1, .slice s2 T.rows.length c2, .slice s3 T.cells.length c3] 119 ∧ Blk w' (w.heap.size + 1) #[.slice none 0 0, .slice none 0 0, .slice none 0 0] 119) g0 → Gd 6 #[true, true, true, false, false, true, true, false, false, false, true, false] ((a0.put (some 5) (.slice (some ⟨ka, 0, none⟩) 0 0)).put (some 3) (.pointer (some ⟨kz, 0, none⟩))) g0 := by
   intro ka kz g0 hR hHeld
   rw [hG, ha]
   simp only [zs]; refine wpAnyH_ready (rs := [3, 4, 8]) (by kernel_rfl) (by simp) ?_
   refine AllReadyH.cons rfl (fun K hK => ?_) ?_
   ·
    skip
    refine step_app [] [rB kz 119 [.slice none 0 0, .slice none 0 0, .slice none 0 0]] hR.out rfl (d0 := (some 8)) rfl (.tmp 5) (.tmp 7) 25 8 rfl Tryz.underlying25 hiI hzI hsI hbI rfl (Nat.succ_pos _) rfl s1 T.cols.length c1 (T.cols.map (Value.int .i64)) rfl (by simp [rI]) (srcI (H1.out.kept cInt_keeps (hR.out.keptG L0.out bB))) (ints_one T.cols) (by show _ ≤ _; simp only [rI, rE, rV, List.length_nil]; unfold maxLen; omega) (by simp only [rI, rE, rV, List.length_nil]; omega) T.cols.length (by simp [rI, rE, rV]) (fun v => rI v T.cols) (fun _ => rfl) ?_
    intro sa ca g35 hR'
    have hR : Hid (Rs X X.heap.size g35 [rI (.slice sa T.cols.length ca) T.cols, rB kz 119 [.slice none 0 0, .slice none 0 0, .slice none 0 0]]) := hR'
    clear hR'; refine hK.out _ _ ?_ (fun hHeld => ?_)
    ·
     exact (k2 hR K0 K1 b0 b1 :)
    clear hK K; exact dag_to hG (st11 ka sa ca kz _  hR hHeld) rfl (by kernel_rfl) (by rw [ha] <;> rfl)
   refine AllReadyH.cons rfl (fun K hK => ?_) ?_
   ·
    skip
    refine step_bs0 [rI (.slice (some ⟨ka, 0, none⟩) 0 0) []] [rB kz 119 [.slice none 0 0, .slice none 0 0, .slice none 0 0]] hR.out rfl (d0 := (some 9)) rfl 115 42 Tryz.underlying115 hiE rfl (fun v => rE v []) 2 (fun _ => rfl) ?_
    intro kb g36 hR'
    have hR : Hid (Rs X X.heap.size g36 [rI (.slice (some ⟨ka, 0, none⟩) 0 0) [], rE (.slice (some ⟨kb, 0, none⟩) 0 0) [], rB kz 119 [.slice none 0 0, .slice none 0 0, .slice none 0 0]]) := hR'
    clear hR'; refine hK.out _ _ ?_ (fun hHeld => ?_)
    ·
     exact (k2 hR K0 K1 b0 b1 :)
    clear hK K; exact dag_to hG (st15 ka kb kz _  hR hHeld) rfl (by kernel_rfl) (by rw [ha] <;> rfl)
   refine AllReadyH.cons rfl (fun K hK => ?_) AllReadyH.nil
   refine step_bs0 [rI (.slice (some ⟨ka, 0, none⟩) 0 0) []] [rB kz 119 [.slice none 0 0, .slice none 0 0, .slice none 0 0]] hR.out rfl (d0 := (some 13)) rfl 117 38 Tryz.underlying117 hiS rfl (fun v => rS v []) 1 (fun _ => rfl) ?_
   intro kx g37 hR'
   have hR : Hid (Rs X X.heap.size g37 [rI (.slice (some ⟨ka, 0, none⟩) 0 0) [], rS (.slice (some ⟨kx, 0, none⟩) 0 0) [], rB kz 119 [.slice none 0 0, .slice none 0 0, .slice none 0 0]]) := hR'
   clear hR'; refine hK.out _ _ ?_ (fun hHeld => ?_)
   ·
    exact (k2 hR K0 K1 b0 b1 :)
   clear hK K; exact dag_to hG (st17 ka kx kz _  hR hHeld) rfl (by kernel_rfl) (by rw [ha] <;> rfl)
  have st20 : ∀ (ka : Nat) (g0 : World), Hid (Rs X X.heap.size g0 [rI (.slice (some ⟨ka, 0, none⟩) 0 0) []]) → (fun w' => Blk w' w.heap.size #[.slice s1 T.cols.length c1, .slice s2 T.rows.length c2, .slice s3 T.cells.length c3] 119 ∧ Blk w' (w.heap.size + 1) #[.slice none 0 0, .slice none 0 0, .slice none 0 0] 119) g0 → Gd 7 #[true, true, true, false, false, true, true, false, false, false, false, false] (a0.put (some 5) (.slice (some ⟨ka, 0, none⟩) 0 0)) g0 := by
   intro ka g0 hR hHeld
   rw [hG, ha]
   simp only [zs]; refine wpAnyH_ready (rs := [3, 4, 8, 10]) (by kernel_rfl) (by simp) ?_
   refine AllReadyH.cons rfl (fun K hK => ?_) ?_
   ·
    skip
    refine step_app [] [] hR.out rfl (d0 := (some 8)) rfl (.tmp 5) (.tmp 7) 25 8 rfl Tryz.underlying25 hiI hzI hsI hbI rfl (Nat.succ_pos _) rfl s1 T.cols.length c1 (T.cols.map (Value.int .i64)) rfl (by simp [rI]) (srcI (H1.out.kept cInt_keeps (hR.out.keptG L0.out bB))) (ints_one T.cols) (by show _ ≤ _; simp only [rI, rE, rV, List.length_nil]; unfold maxLen; omega) (by simp only [rI, rE, rV, List.length_nil]; omega) T.cols.length (by simp [rI, rE, rV]) (fun v => rI v T.cols) (fun _ => rfl) ?_
    intro sa ca g38 hR'
    have hR : Hid (Rs X X.heap.size g38 [rI (.slice sa T.cols.length ca) T.cols]) := hR'
    clear hR'; refine hK.out _ _ ?_ (fun hHeld => ?_)
    ·
     exact (k2 hR K0 K1 b0 b1 :)
    clear hK K; exact dag_to hG (st12 ka sa ca _  hR hHeld) rfl (by kernel_rfl) (by rw [ha] <;> rfl)
   refine AllReadyH.cons rfl (fun K hK => ?_) ?_
   ·
    skip
    refine step_bs0 [rI (.slice (some ⟨ka, 0, none⟩) 0 0) []] [] hR.out rfl (d0 := (some 9)) rfl 115 42 Tryz.underlying115 hiE rfl (fun v => rE v []) 2 (fun _ => rfl) ?_
    intro kb g39 hR'
    have hR : Hid (Rs X X.heap.size g39 [rI (.slice (some ⟨ka, 0, none⟩) 0 0) [], rE (.slice (some ⟨kb, 0, none⟩) 0 0) []]) := hR'
    clear hR'; refine hK.out _ _ ?_ (fun hHeld => ?_)
    ·
     exact (k2 hR K0 K1 b0 b1 :)
    clear hK K; exact dag_to hG (st16 ka kb _  hR hHeld) rfl (by kernel_rfl) (by rw [ha] <;> rfl)
   refine AllReadyH.cons rfl (fun K hK => ?_) ?_
   ·
    skip
    refine step_bs0 [rI (.slice (some ⟨ka, 0, none⟩) 0 0) []] [] hR.out rfl (d0 := (some 13)) rfl 117 38 Tryz.underlying117 hiS rfl (fun v => rS v []) 1 (fun _ => rfl) ?_
    intro kx g40 hR'
    have hR : Hid (Rs X X.heap.size g40 [rI (.slice (some ⟨ka, 0, none⟩) 0 0) [], rS (.slice (some ⟨kx, 0, none⟩) 0 0) []]) := hR'
    clear hR'; refine hK.out _ _ ?_ (fun hHeld => ?_)
    ·
     exact (k2 hR K0 K1 b0 b1 :)
    clear hK K; exact dag_to hG (st18 ka kx _  hR hHeld) rfl (by kernel_rfl) (by rw [ha] <;> rfl)
   refine AllReadyH.cons rfl (fun K hK => ?_) AllReadyH.nil
   refine step_box [rI (.slice (some ⟨ka, 0, none⟩) 0 0) []] [] hR.out rfl (d0 := (some 3)) rfl 119 hiT hzT rfl ?_
   intro kz g41 hR'
   have hR : Hid (Rs X X.heap.size g41 [rI (.slice (some ⟨ka, 0, none⟩) 0 0) [], rB kz 119 [.slice none 0 0, .slice none 0 0, .slice none 0 0]]) := hR'
   clear hR'; refine hK.out _ _ ?_ (fun hHeld => ?_)
   ·
    exact (k2 hR K0 K1 b0 b1 :)
   clear hK K; exact dag_to hG (st19 ka kz _  hR hHeld) rfl (by kernel_rfl) (by rw [ha] <;> rfl)
  have st21 : ∀ (kb kx kz : Nat) (g0 : World), Hid (Rs X X.heap.size g0 [rE (.slice (some ⟨kb, 0, none⟩) 0 0) [], rS (.slice (some ⟨kx, 0, none⟩) 0 0) [], rB kz 119 [.slice none 0 0, .slice none 0 0, .slice none 0 0]]) → (fun w' => Blk w' w.heap.size #[.slice s1 T.cols.length c1, .slice s2 T.rows.length c2, .slice s3 T.cells.length c3] 119 ∧ Blk w' (w.heap.size + 1) #[.slice none 0 0, .slice none 0 0, .slice none 0 0] 119) g0 → Gd 5 #[false, true, true, false, true, true, true, false, true, false, true, false] (((a0.put (some 9) (.slice (some ⟨kb, 0, none⟩) 0 0)).put (some 13) (.slice (some ⟨kx, 0, none⟩) 0 0)).put (some 3) (.pointer (some ⟨kz, 0, none⟩))) g0 := by
   intro kb kx kz g0 hR hHeld
   rw [hG, ha]
   simp only [zs]; refine wpy 0 fun K hK => ?_
   refine step_bs0 [] [rE (.slice (some ⟨kb, 0, none⟩) 0 0) [], rS (.slice (some ⟨kx, 0, none⟩) 0 0) [], rB kz 119 [.slice none 0 0, .slice none 0 0, .slice none 0 0]] hR.out rfl (d0 := (some 5)) rfl 25 3 Tryz.underlying25 hiI rfl (fun v => rI v []) 1 (fun _ => rfl) ?_
   intro ka g42 hR'
   have hR : Hid (Rs X X.heap.size g42 [rI (.slice (some ⟨ka, 0, none⟩) 0 0) [], rE (.slice (some ⟨kb, 0, none⟩) 0 0) [], rS (.slice (some ⟨kx, 0, none⟩) 0 0) [], rB kz 119 [.slice none 0 0, .slice none 0 0, .slice none 0 0]]) := hR'
   clear hR'; refine hK.out _ _ ?_ (fun hHeld => ?_)
   ·
    exact (k2 hR K0 K1 b0 b1 :)
   clear hK K; exact dag_to hG (st13 ka kb kx kz _  hR hHeld) rfl (by kernel_rfl) (by rw [ha] <;> rfl)
  have st22 : ∀ (kb kx : Nat) (g0 : World), Hid (Rs X X.heap.size g0 [rE (.slice (some ⟨kb, 0, none⟩) 0 0) [], rS (.slice (some ⟨kx, 0, none⟩) 0 0) []]) → (fun w' => Blk w' w.heap.size #[.slice s1 T.cols.length c1, .slice s2 T.rows.length c2, .slice s3 T.cells.length c3] 119 ∧ Blk w' (w.heap.size + 1) #[.slice none 0 0, .slice none 0 0, .slice none 0 0] 119) g0 → Gd 6 #[false, true, true, false, true, true, true, false, true, false, false, false] ((a0.put (some 9) (.slice (some ⟨kb, 0, none⟩) 0 0)).put (some 13) (.slice (some ⟨kx, 0, none⟩) 0 0)) g0 := by
   intro kb kx g0 hR hHeld
   rw [hG, ha]
   simp only [zs]; refine wpAnyH_ready (rs := [0, 10]) (by kernel_rfl) (by simp) ?_
   refine AllReadyH.cons rfl (fun K hK => ?_) ?_
   ·
    skip
    refine step_bs0 [] [rE (.slice (some ⟨kb, 0, none⟩) 0 0) [], rS (.slice (some ⟨kx, 0, none⟩) 0 0) []] hR.out rfl (d0 := (some 5)) rfl 25 3 Tryz.underlying25 hiI rfl (fun v => rI v []) 1 (fun _ => rfl) ?_
    intro ka g43 hR'
    have hR : Hid (Rs X X.heap.size g43 [rI (.slice (some ⟨ka, 0, none⟩) 0 0) [], rE (.slice (some ⟨kb, 0, none⟩) 0 0) [], rS (.slice (some ⟨kx, 0, none⟩) 0 0) []]) := hR'
    clear hR'; refine hK.out _ _ ?_ (fun hHeld => ?_)
    ·
     exact (k2 hR K0 K1 b0 b1 :)
    clear hK K; exact dag_to hG (st14 ka kb kx _  hR hHeld) rfl (by kernel_rfl) (by rw [ha] <;> rfl)
   refine AllReadyH.cons rfl (fun K hK => ?_) AllReadyH.nil
   refine step_box [rE (.slice (some ⟨kb, 0, none⟩) 0 0) [], rS (.slice (some ⟨kx, 0, none⟩) 0 0) []] [] hR.out rfl (d0 := (some 3)) rfl 119 hiT hzT rfl ?_
   intro kz g44 hR'
   have hR : Hid (Rs X X.heap.size g44 [rE (.slice (some ⟨kb, 0, none⟩) 0 0) [], rS (.slice (some ⟨kx, 0, none⟩) 0 0) [], rB kz 119 [.slice none 0 0, .slice none 0 0, .slice none 0 0]]) := hR'
   clear hR'; refine hK.out _ _ ?_ (fun hHeld => ?_)
   ·
    exact (k2 hR K0 K1 b0 b1 :)
   clear hK K; exact dag_to hG (st21 kb kx kz _  hR hHeld) rfl (by kernel_rfl) (by rw [ha] <;> rfl)
  have st23 : ∀ (kb kz : Nat) (g0 : World), Hid (Rs X X.heap.size g0 [rE (.slice (some ⟨kb, 0, none⟩) 0 0) [], rB kz 119 [.slice none 0 0, .slice none 0 0, .slice none 0 0]]) → (fun w' => Blk w' w.heap.size #[.slice s1 T.cols.length c1, .slice s2 T.rows.length c2, .slice s3 T.cells.length c3] 119 ∧ Blk w' (w.heap.size + 1) #[.slice none 0 0, .slice none 0 0, .slice none 0 0] 119) g0 → Gd 6 #[false, true, true, false, true, true, true, false, false, false, true, false] ((a0.put (some 9) (.slice (some ⟨kb, 0, none⟩) 0 0)).put (some 3) (.pointer (some ⟨kz, 0, none⟩))) g0 := by
   intro kb kz g0 hR hHeld
   rw [hG, ha]
   simp only [zs]; refine wpAnyH_ready (rs := [0, 8]) (by kernel_rfl) (by simp) ?_
   refine AllReadyH.cons rfl (fun K hK => ?_) ?_
   ·
    skip
    refine step_bs0 [] [rE (.slice (some ⟨kb, 0, none⟩) 0 0) [], rB kz 119 [.slice none 0 0, .slice none 0 0, .slice none 0 0]] hR.out rfl (d0 := (some 5)) rfl 25 3 Tryz.underlying25 hiI rfl (fun v => rI v []) 1 (fun _ => rfl) ?_
    intro ka g45 hR'
    have hR : Hid (Rs X X.heap.size g45 [rI (.slice (some ⟨ka, 0, none⟩) 0 0) [], rE (.slice (some ⟨kb, 0, none⟩) 0 0) [], rB kz 119 [.slice none 0 0, .slice none 0 0, .slice none 0 0]]) := hR'
    clear hR'; refine hK.out _ _ ?_ (fun hHeld => ?_)
    ·
     exact (k2 hR K0 K1 b0 b1 :)
    clear hK K; exact dag_to hG (st15 ka kb kz _  hR hHeld) rfl (by kernel_rfl) (by rw [ha] <;> rfl)
   refine AllReadyH.cons rfl (fun K hK => ?_) AllReadyH.nil
   refine step_bs0 [rE (.slice (some ⟨kb, 0, none⟩) 0 0) []] [rB kz 119 [.slice none 0 0, .slice none 0 0, .slice none 0 0]] hR.out rfl (d0 := (some 13)) rfl 117 38 Tryz.underlying117 hiS rfl (fun v => rS v []) 1 (fun _ => rfl) ?_
   intro kx g46 hR'
   have hR : Hid (Rs X X.heap.size g46 [rE (.slice (some ⟨kb, 0, none⟩) 0 0) [], rS (.slice (some ⟨kx, 0, none⟩) 0 0) [], rB kz 119 [.slice none 0 0, .slice none 0 0, .slice none 0 0]]) := hR'
   clear hR'; refine hK.out _ _ ?_ (fun hHeld => ?_)
   ·
    exact (k2 hR K0 K1 b0 b1 :)
   clear hK K; exact dag_to hG (st21 kb kx kz _  hR hHeld) rfl (by kernel_rfl) (by rw [ha] <;> rfl)
  have st24 : ∀ (kb : Nat) (g0 : World), Hid (Rs X X.heap.size g0 [rE (.slice (some ⟨kb, 0, none⟩) 0 0) []]) → (fun w' => Blk w' w.heap.size #[.slice s1 T.cols.length c1, .slice s2 T.rows.length c2, .slice s3 T.cells.length c3] 119 ∧ Blk w' (w.heap.size + 1) #[.slice none 0 0, .slice none 0 0, .slice none 0 0] 119) g0 → Gd 7 #[false, true, true, false, true, true, true, false, false, false, false, false] (a0.put (some 9) (.slice (some ⟨kb, 0, none⟩) 0 0)) g0 := by
   intro kb g0 hR hHeld
   rw [hG, ha]
   simp only [zs]; refine wpAnyH_ready (rs := [0, 8, 10]) (by kernel_rfl) (by simp) ?_
   refine AllReadyH.cons rfl (fun K hK => ?_) ?_
   ·
    skip
    refine step_bs0 [] [rE (.slice (some ⟨kb, 0, none⟩) 0 0) []] hR.out rfl (d0 := (some 5)) rfl 25 3 Tryz.underlying25 hiI rfl (fun v => rI v []) 1 (fun _ => rfl) ?_
    intro ka g47 hR'
    have hR : Hid (Rs X X.heap.size g47 [rI (.slice (some ⟨ka, 0, none⟩) 0 0) [], rE (.slice (some ⟨kb, 0, none⟩) 0 0) []]) := hR'
    clear hR'; refine hK.out _ _ ?_ (fun hHeld => ?_)
    ·
     exact (k2 hR K0 K1 b0 b1 :)
    clear hK K; exact dag_to hG (st16 ka kb _  hR hHeld) rfl (by kernel_rfl) (by rw [ha] <;> rfl)
   refine AllReadyH.cons rfl (fun K hK => ?_) ?_
   ·
    skip
    refine step_bs0 [rE (.slice (some ⟨kb, 0, none⟩) 0 0) []] [] hR.out rfl (d0 := (some 13)) rfl 117 38 Tryz.underlying117 hiS rfl (fun v => rS v []) 1 (fun _ => rfl) ?_
    intro kx g48 hR'
    have hR : Hid (Rs X X.heap.size g48 [rE (.slice (some ⟨kb, 0, none⟩) 0 0) [], rS (.slice (some ⟨kx, 0, none⟩) 0 0) []]) := hR'
    clear hR'; refine hK.out _ _ ?_ (fun hHeld => ?_)
    ·
     exact (k2 hR K0 K1 b0 b1 :)
    clear hK K; exact dag_to hG (st22 kb kx _  hR hHeld) rfl (by kernel_rfl) (by rw [ha] <;> rfl)
   refine AllReadyH.cons rfl (fun K hK => ?_) AllReadyH.nil
   refine step_box [rE (.slice (some ⟨kb, 0, none⟩) 0 0) []] [] hR.out rfl (d0 := (some 3)) rfl 119 hiT hzT rfl ?_
   intro kz g49 hR'
   have hR : Hid (Rs X X.heap.size g49 [rE (.slice (some ⟨kb, 0, none⟩) 0 0) [], rB kz 119 [.slice none 0 0, .slice none 0 0, .slice none 0 0]]) := hR'
   clear hR'; refine hK.out _ _ ?_ (fun hHeld => ?_)
   ·
    exact (k2 hR K0 K1 b0 b1 :)
   clear hK K; exact dag_to hG (st23 kb kz _  hR hHeld) rfl (by kernel_rfl) (by rw [ha] <;> rfl)
  have st25 : ∀ (kx kz : Nat) (g0 : World), Hid (Rs X X.heap.size g0 [rS (.slice (some ⟨kx, 0, none⟩) 0 0) [], rB kz 119 [.slice none 0 0, .slice none 0 0, .slice none 0 0]]) → (fun w' => Blk w' w.heap.size #[.slice s1 T.cols.length c1, .slice s2 T.rows.length c2, .slice s3 T.cells.length c3] 119 ∧ Blk w' (w.heap.size + 1) #[.slice none 0 0, .slice none 0 0, .slice none 0 0] 119) g0 → Gd 6 #[false, true, true, false, false, true, true, false, true, false, true, false] ((a0.put (some 13) (.slice (some ⟨kx, 0, none⟩) 0 0)).put (some 3) (.pointer (some ⟨kz, 0, none⟩))) g0 := by
   intro kx kz g0 hR hHeld
   rw [hG, ha]
   simp only [zs]; refine wpAnyH_ready (rs := [0, 4]) (by kernel_rfl) (by simp) ?_
   refine AllReadyH.cons rfl (fun K hK => ?_) ?_
   ·
    skip
    refine step_bs0 [] [rS (.slice (some ⟨kx, 0, none⟩) 0 0) [], rB kz 119 [.slice none 0 0, .slice none 0 0, .slice none 0 0]] hR.out rfl (d0 := (some 5)) rfl 25 3 Tryz.underlying25 hiI rfl (fun v => rI v []) 1 (fun _ => rfl) ?_
    intro ka g50 hR'
    have hR : Hid (Rs X X.heap.size g50 [rI (.slice (some ⟨ka, 0, none⟩) 0 0) [], rS (.slice (some ⟨kx, 0, none⟩) 0 0) [], rB kz 119 [.slice none 0 0, .slice none 0 0, .slice none 0 0]]) := hR'
    clear hR'; refine hK.out _ _ ?_ (fun hHeld => ?_)
    ·
     exact (k2 hR K0 K1 b0 b1 :)
    clear hK K; exact dag_to hG (st17 ka kx kz _  hR hHeld) rfl (by kernel_rfl) (by rw [ha] <;> rfl)
   refine AllReadyH.cons rfl (fun K hK => ?_) AllReadyH.nil
   refine step_bs0 [] [rS (.slice (some ⟨kx, 0, none⟩) 0 0) [], rB kz 119 [.slice none 0 0, .slice none 0 0, .slice none 0 0]] hR.out rfl (d0 := (some 9)) rfl 115 42 Tryz.underlying115 hiE rfl (fun v => rE v []) 2 (fun _ => rfl) ?_
   intro kb g51 hR'
   have hR : Hid (Rs X X.heap.size g51 [rE (.slice (some ⟨kb, 0, none⟩) 0 0) [], rS (.slice (some ⟨kx, 0, none⟩) 0 0) [], rB kz 119 [.slice none 0 0, .slice none 0 0, .slice none 0 0]]) := hR'
   clear hR'; refine hK.out _ _ ?_ (fun hHeld => ?_)
   ·
    exact (k2 hR K0 K1 b0 b1 :)
   clear hK K; exact dag_to hG (st21 kb kx kz _  hR hHeld) rfl (by kernel_rfl) (by rw [ha] <;> rfl)
  have st26 : ∀ (kx : Nat) (g0 : World), Hid (Rs X X.heap.size g0 [rS (.slice (some ⟨kx, 0, none⟩) 0 0) []]) → (fun w' => Blk w' w.heap.size #[.slice s1 T.cols.length c1, .slice s2 T.rows.length c2, .slice s3 T.cells.length c3] 119 ∧ Blk w' (w.heap.size + 1) #[.slice none 0 0, .slice none 0 0, .slice none 0 0] 119) g0 → Gd 7 #[false, true, true, false, false, true, true, false, true, false, false, false] (a0.put (some 13) (.slice (some ⟨kx, 0, none⟩) 0 0)) g0 := by
   intro kx g0 hR hHeld
   rw [hG, ha]
   simp only [zs]; refine wpAnyH_ready (rs := [0, 4, 10]) (by kernel_rfl) (by simp) ?_
   refine AllReadyH.cons rfl (fun K hK => ?_) ?_
   ·
    skip
    refine step_bs0 [] [rS (.slice (some ⟨kx, 0, none⟩) 0 0) []] hR.out rfl (d0 := (some 5)) rfl 25 3 Tryz.underlying25 hiI rfl (fun v => rI v []) 1 (fun _ => rfl) ?_
    intro ka g52 hR'
    have hR : Hid (Rs X X.heap.size g52 [rI (.slice (some ⟨ka, 0, none⟩) 0 0) [], rS (.slice (some ⟨kx, 0, none⟩) 0 0) []]) := hR'
    clear hR'; refine hK.out _ _ ?_ (fun hHeld => ?_)
    ·
     exact (k2 hR K0 K1 b0 b1 :)
    clear hK K; exact dag_to hG (st18 ka kx _  hR hHeld) rfl (by kernel_rfl) (by rw [ha] <;> rfl)
   refine AllReadyH.cons rfl (fun K hK => ?_) ?_
   ·
    skip
    refine step_bs0 [] [rS (.slice (some ⟨kx, 0, none⟩) 0 0) []] hR.out rfl (d0 := (some 9)) rfl 115 42 Tryz.underlying115 hiE rfl (fun v => rE v []) 2 (fun _ => rfl) ?_
    intro kb g53 hR'
    have hR : Hid (Rs X X.heap.size g53 [rE (.slice (some ⟨kb, 0, none⟩) 0 0) [], rS (.slice (some ⟨kx, 0, none⟩) 0 0) []]) := hR'
    clear hR'; refine hK.out _ _ ?_ (fun hHeld => ?_)
    ·
     exact (k2 hR K0 K1 b0 b1 :)
    clear hK K; exact dag_to hG (st22 kb kx _  hR hHeld) rfl (by kernel_rfl) (by rw [ha] <;> rfl)
   refine AllReadyH.cons rfl (fun K hK => ?_) AllReadyH.nil
   refine step_box [rS (.slice (some ⟨kx, 0, none⟩) 0 0) []] [] hR.out rfl (d0 := (some 3)) rfl 119 hiT hzT rfl ?_
   intro kz g54 hR'
   have hR : Hid (Rs X X.heap.size g54 [rS (.slice (some ⟨kx, 0, none⟩) 0 0) [], rB kz 119 [.slice none 0 0, .slice none 0 0, .slice none 0 0]]) := hR'
   clear hR'; refine hK.out _ _ ?_ (fun hHeld => ?_)
   ·
    exact (k2 hR K0 K1 b0 b1 :)
   clear hK K; exact dag_to hG (st25 kx kz _  hR hHeld) rfl (by kernel_rfl) (by rw [ha] <;> rfl)
  have st27 : ∀ (kz : Nat) (g0 : World), Hid (Rs X X.heap.size g0 [rB kz 119 [.slice none 0 0, .slice none 0 0, .slice none 0 0]]) → (fun w' => Blk w' w.heap.size #[.slice s1 T.cols.length c1, .slice s2 T.rows.length c2, .slice s3 T.cells.length c3] 119 ∧ Blk w' (w.heap.size + 1) #[.slice none 0 0, .slice none 0 0, .slice none 0 0] 119) g0 → Gd 7 #[false, true, true, false, false, true, true, false, false, false, true, false] (a0.put (some 3) (.pointer (some ⟨kz, 0, none⟩))) g0 := by
   intro kz g0 hR hHeld
   rw [hG, ha]
   simp only [zs]; refine wpAnyH_ready (rs := [0, 4, 8]) (by kernel_rfl) (by simp) ?_
   refine AllReadyH.cons rfl (fun K hK => ?_) ?_
   ·
    skip
    refine step_bs0 [] [rB kz 119 [.slice none 0 0, .slice none 0 0, .slice none 0 0]] hR.out rfl (d0 := (some 5)) rfl 25 3 Tryz.underlying25 hiI rfl (fun v => rI v []) 1 (fun _ => rfl) ?_
    intro ka g55 hR'
    have hR : Hid (Rs X X.heap.size g55 [rI (.slice (some ⟨ka, 0, none⟩) 0 0) [], rB kz 119 [.slice none 0 0, .slice none 0 0, .slice none 0 0]]) := hR'
    clear hR'; refine hK.out _ _ ?_ (fun hHeld => ?_)
    ·
     exact (k2 hR K0 K1 b0 b1 :)
    clear hK K; exact dag_to hG (st19 ka kz _  hR hHeld) rfl (by kernel_rfl) (by rw [ha] <;> rfl)
   refine AllReadyH.cons rfl (fun K hK => ?_) ?_
   ·
    skip
    refine step_bs0 [] [rB kz 119 [.slice none 0 0, .slice none 0 0, .slice none 0 0]] hR.out rfl (d0 := (some 9)) rfl 115 42 Tryz.underlying115 hiE rfl (fun v => rE v []) 2 (fun _ => rfl) ?_
    intro kb g56 hR'
    have hR : Hid (Rs X X.heap.size g56 [rE (.slice (some ⟨kb, 0, none⟩) 0 0) [], rB kz 119 [.slice none 0 0, .slice none 0 0, .slice none 0 0]]) := hR'
    clear hR'; refine hK.out _ _ ?_ (fun hHeld => ?_)
    ·
     exact (k2 hR K0 K1 b0 b1 :)
    clear hK K; exact dag_to hG (st23 kb kz _  hR hHeld) rfl (by kernel_rfl) (by rw [ha] <;> rfl)
   refine AllReadyH.cons rfl (fun K hK => ?_) AllReadyH.nil
   refine step_bs0 [] [rB kz 119 [.slice none 0 0, .slice none 0 0, .slice none 0 0]] hR.out rfl (d0 := (some 13)) rfl 117 38 Tryz.underlying117 hiS rfl (fun v => rS v []) 1 (fun _ => rfl) ?_
   intro kx g57 hR'
   have hR : Hid (Rs X X.heap.size g57 [rS (.slice (some ⟨kx, 0, none⟩) 0 0) [], rB kz 119 [.slice none 0 0, .slice none 0 0, .slice none 0 0]]) := hR'
   clear hR'; refine hK.out _ _ ?_ (fun hHeld => ?_)
   ·
    exact (k2 hR K0 K1 b0 b1 :)
   clear hK K; exact dag_to hG (st25 kx kz _  hR hHeld) rfl (by kernel_rfl) (by rw [ha] <;> rfl)
  rw [hG, ha]
  try simp only [zs]
  refine wpAnyH_ready (rs := [0, 4, 8, 10]) (by kernel_rfl) (by simp) ?_
  refine AllReadyH.cons rfl (fun K hK => ?_) ?_
  ·
   skip
   refine step_bs0 [] [] hR.out rfl (d0 := (some 5)) rfl 25 3 Tryz.underlying25 hiI rfl (fun v => rI v []) 1 (fun _ => rfl) ?_
   intro ka g58 hR'
   have hR : Hid (Rs X X.heap.size g58 [rI (.slice (some ⟨ka, 0, none⟩) 0 0) []]) := hR'
   clear hR'; refine hK.out _ _ ?_ (fun hHeld => ?_)
   ·
    exact (k2 hR K0 K1 b0 b1 :)
   clear hK K; exact dag_to hG (st20 ka _  hR hHeld) rfl (by kernel_rfl) (by rw [ha] <;> rfl)
  refine AllReadyH.cons rfl (fun K hK => ?_) ?_
  ·
   skip
   refine step_bs0 [] [] hR.out rfl (d0 := (some 9)) rfl 115 42 Tryz.underlying115 hiE rfl (fun v => rE v []) 2 (fun _ => rfl) ?_
   intro kb g59 hR'
   have hR : Hid (Rs X X.heap.size g59 [rE (.slice (some ⟨kb, 0, none⟩) 0 0) []]) := hR'
   clear hR'; refine hK.out _ _ ?_ (fun hHeld => ?_)
   ·
    exact (k2 hR K0 K1 b0 b1 :)
   clear hK K; exact dag_to hG (st24 kb _  hR hHeld) rfl (by kernel_rfl) (by rw [ha] <;> rfl)
  refine AllReadyH.cons rfl (fun K hK => ?_) ?_
  ·
   skip
   refine step_bs0 [] [] hR.out rfl (d0 := (some 13)) rfl 117 38 Tryz.underlying117 hiS rfl (fun v => rS v []) 1 (fun _ => rfl) ?_
   intro kx g60 hR'
   have hR : Hid (Rs X X.heap.size g60 [rS (.slice (some ⟨kx, 0, none⟩) 0 0) []]) := hR'
   clear hR'; refine hK.out _ _ ?_ (fun hHeld => ?_)
   ·
    exact (k2 hR K0 K1 b0 b1 :)
   clear hK K; exact dag_to hG (st26 kx _  hR hHeld) rfl (by kernel_rfl) (by rw [ha] <;> rfl)
  refine AllReadyH.cons rfl (fun K hK => ?_) AllReadyH.nil
  refine step_box [] [] hR.out rfl (d0 := (some 3)) rfl 119 hiT hzT rfl ?_
  intro kz g61 hR'
  have hR : Hid (Rs X X.heap.size g61 [rB kz 119 [.slice none 0 0, .slice none 0 0, .slice none 0 0]]) := hR'
  clear hR'; refine hK.out _ _ ?_ (fun hHeld => ?_)
  ·
   exact (k2 hR K0 K1 b0 b1 :)
  clear hK K; exact dag_to hG (st27 kz _  hR hHeld) rfl (by kernel_rfl) (by rw [ha] <;> rfl)
 obtain ⟨kz, kx, sa, ca, sb, cb, rfl, hR⟩ := hcut
 have hR := Hid.mk' hR
 go_wp2_with fail; go_loopw [4] (fun i wr => ∃ (k : Nat) (sv : Option Addr) (cv : Nat) (xs : List Value), k ≤ T.cells.length ∧ i = .int .i64 k ∧ Hid (xs.length = k) ∧ Hid (Rs X X.heap.size wr ([rI (.slice sa T.cols.length ca) T.cols, rE (.slice sb T.rows.length cb) T.rows, rB kz 119 [.slice sa T.cols.length ca, .slice sb T.rows.length cb, .slice sv k cv], (⟨38, 1, .slice sv k cv, k, xs⟩ : OR)] ++ rVs xs (T.cells.take k)))) (fun i _ => T.cells.length - (intOf i).toNat)
 case atStart =>
  refine ⟨0, some ⟨kx, 0, none⟩, 0, [], Nat.zero_le _, rfl, rfl, ?_⟩
  exact hR.out.perm (((List.Perm.swap _ _ _).cons _).cons _)
 clear hR; obtain ⟨k, sv, cv, xs, hk, rfl, hxs, hR⟩ := hrel
 obtain ⟨x0, x1, x2, x3⟩ := (hR.out.blk K0.out b0).three'
 by_cases hlt : k < T.cells.length
 ·
  obtain ⟨L, hL⟩ := get_some hlt
  obtain ⟨b, o, rfl, _, hp, s', c', EC, EL⟩ := eVals_cells H3.out hL
  have hLl := m4 L (List.mem_of_getElem? hL)
  have EL := Hid.mk' EL
  have EC := Hid.mk' EC
  have HL := Hid.mk' hL
  have kI0 : (0 : Int) ≤ (k : Int) := by omega
  have kI1 : (k : Int) < (T.cells.length : Int) := by omega
  clear hL; go_wp2_with fail; clear x0 x1 x2 x3; refine wp_region_held_drew (S := (fun w' => Blk w' w.heap.size #[.slice s1 T.cols.length c1, .slice s2 T.rows.length c2, .slice (some ⟨b, o, none⟩) T.cells.length c3] 119 ∧ Blk w' (w.heap.size + 1) #[.slice none 0 0, .slice none 0 0, .slice none 0 0] 119 ∧ w'.cell? ⟨b, o + k, none⟩ = some (.slice s' L.length c'))) (by kernel_rfl) ?_ (fun hHeld => ?_)
  ·
   exact ⟨hR.out.blk K0.out b0, hR.out.blk K1.out b1, ((hR.out.keptE (C := 0) L0.out b1).cell (Nat.zero_le _) hp).trans EC.out⟩
  have hR := Hid.mk' hR.out.drew
  refine wpr 0 22 ?_; simp only [zs]; refine wpr 3 25 ?_; simp only [zs]; refine wpq (v := ?_) 4 26 rfl rfl ?_ ?_
  rotate_left 1
  ·
   intro w hSw; (try dsimp only at hSw); obtain ⟨q0, q1, q2⟩ := hSw; obtain ⟨x0, x1, x2, x3⟩ := q0.three'; go_simp <;> with_reducible rfl
  simp only [zs]; refine wpr 5 27 ?_; simp only [zs]; refine wpq (v := ?_) 6 28 rfl rfl ?_ ?_
  rotate_left 1
  ·
   intro w hSw; (try dsimp only at hSw); obtain ⟨q0, q1, q2⟩ := hSw; obtain ⟨x0, x1, x2, x3⟩ := q0.three'; go_simp <;> with_reducible rfl
  simp only [zs]; refine wpq (v := ?_) 7 29 rfl rfl ?_ ?_
  rotate_left 1
  ·
   intro w hSw; (try dsimp only at hSw); obtain ⟨q0, q1, q2⟩ := hSw; obtain ⟨x0, x1, x2, x3⟩ := q0.three'; go_simp <;> with_reducible rfl
  simp only [zs]; refine dag_start fun Gd a0 hG ha => ?_
  have st0 : ∀ (kl : Nat) (sn : Option Addr) (cn kb : Nat) (sv2 : Option Addr) (cv2 : Nat) (g0 : World), Hid (Rs X X.heap.size g0 ([rI (.slice sa T.cols.length ca) T.cols, rE (.slice sb T.rows.length cb) T.rows, rB kz 119 [.slice sa T.cols.length ca, .slice sb T.rows.length cb, .slice sv2 (k + 1) cv2], (⟨38, 1, (.slice sv2 (k + 1) cv2), k + 1, xs ++ [.slice sn L.length cn]⟩ : OR), rV (.slice sn L.length cn) L, rB kb 38 [.slice sn L.length cn]] ++ (rVs xs (T.cells.take k)))) → (fun w' => Blk w' w.heap.size #[.slice s1 T.cols.length c1, .slice s2 T.rows.length c2, .slice (some ⟨b, o, none⟩) T.cells.length c3] 119 ∧ Blk w' (w.heap.size + 1) #[.slice none 0 0, .slice none 0 0, .slice none 0 0] 119 ∧ w'.cell? ⟨b, o + k, none⟩ = some (.slice s' L.length c')) g0 → Gd 0 #[true, true, true, true, true, true, true, true, true, true, true, true, true] ((((((a0.put (some 23) (.slice sv k cv)).put (some 24) (.slice (some ⟨kl, 0, none⟩) 0 0)).put (some 30) (.slice sn L.length cn)).put (some 31) (.slice (some ⟨kb, 0, none⟩) 1 1)).put (some 32) (.slice sv2 (k + 1) cv2)).put (some 33) (.pointer (some ⟨kz, 2, none⟩))) g0 := by
   intro kl sn cn kb sv2 cv2 g0 hR hHeld
   rw [hG, ha]
   simp only [zs]; refine wpAnyH_done (by kernel_rfl) ?_ _
   clear hHeld; have hR := Hid.mk' (Rs.round (P := [rI (.slice sa T.cols.length ca) T.cols, rE (.slice sb T.rows.length cb) T.rows, rB kz 119 [.slice sa T.cols.length ca, .slice sb T.rows.length cb, .slice sv2 (k + 1) cv2], (⟨38, 1, .slice sv2 (k + 1) cv2, k + 1, xs ++ [.slice sn L.length cn]⟩ : OR)]) hxs.out HL.out hR.out)
   go_wp2_with fail; go_roundw
   case rel => exact ⟨k + 1, sv2, cv2, xs ++ [.slice sn L.length cn], by omega, by go_num, by show _ = _; rw [List.length_append, hxs.out]; rfl, hR⟩
   case measure => simp [intOf]; omega
  have st1 : ∀ (kl : Nat) (sn : Option Addr) (cn kb : Nat) (sv2 : Option Addr) (cv2 : Nat) (g0 : World), Hid (Rs X X.heap.size g0 ([rI (.slice sa T.cols.length ca) T.cols, rE (.slice sb T.rows.length cb) T.rows, rB kz 119 [.slice sa T.cols.length ca, .slice sb T.rows.length cb, .slice sv k cv], (⟨38, 1, (.slice sv2 (k + 1) cv2), k + 1, xs ++ [.slice sn L.length cn]⟩ : OR), rV (.slice sn L.length cn) L, rB kb 38 [.slice sn L.length cn]] ++ (rVs xs (T.cells.take k)))) → (fun w' => Blk w' w.heap.size #[.slice s1 T.cols.length c1, .slice s2 T.rows.length c2, .slice (some ⟨b, o, none⟩) T.cells.length c3] 119 ∧ Blk w' (w.heap.size + 1) #[.slice none 0 0, .slice none 0 0, .slice none 0 0] 119 ∧ w'.cell? ⟨b, o + k, none⟩ = some (.slice s' L.length c')) g0 → Gd 1 #[true, true, true, true, true, true, true, true, true, true, true, true, false] ((((((a0.put (some 23) (.slice sv k cv)).put (some 24) (.slice (some ⟨kl, 0, none⟩) 0 0)).put (some 30) (.slice sn L.length cn)).put (some 31) (.slice (some ⟨kb, 0, none⟩) 1 1)).put (some 32) (.slice sv2 (k + 1) cv2)).put (some 33) (.pointer (some ⟨kz, 2, none⟩))) g0 := by
   intro kl sn cn kb sv2 cv2 g0 hR hHeld
   rw [hG, ha]
   simp only [zs]; refine wpy 12 fun K hK => ?_
   have hbx := hR.out.box [rI (.slice sa T.cols.length ca) T.cols, rE (.slice sb T.rows.length cb) T.rows] ([(⟨38, 1, (.slice sv2 (k + 1) cv2), k + 1, xs ++ [.slice sn L.length cn]⟩ : OR), rV (.slice sn L.length cn) L, rB kb 38 [.slice sn L.length cn]] ++ (rVs xs (T.cells.take k)))
   have x0 := hbx.cell 2
   have x1 := hbx.frozen 2
   clear hbx; go_simp; clear x0 x1; have hR : Hid (Rs X X.heap.size _ ([rI (.slice sa T.cols.length ca) T.cols, rE (.slice sb T.rows.length cb) T.rows, rB kz 119 [.slice sa T.cols.length ca, .slice sb T.rows.length cb, .slice sv2 (k + 1) cv2], (⟨38, 1, (.slice sv2 (k + 1) cv2), k + 1, xs ++ [.slice sn L.length cn]⟩ : OR), rV (.slice sn L.length cn) L, rB kb 38 [.slice sn L.length cn]] ++ (rVs xs (T.cells.take k)))) := Hid.mk' (hR.out.setB [rI (.slice sa T.cols.length ca) T.cols, rE (.slice sb T.rows.length cb) T.rows] ([(⟨38, 1, (.slice sv2 (k + 1) cv2), k + 1, xs ++ [.slice sn L.length cn]⟩ : OR), rV (.slice sn L.length cn) L, rB kb 38 [.slice sn L.length cn]] ++ (rVs xs (T.cells.take k))) 2 (.slice sv2 (k + 1) cv2))
   refine hK.out _ _ ?_ (fun hHeld => ?_)
   ·
    exact ⟨hR.out.blk K0.out b0, hR.out.blk K1.out b1, ((hR.out.keptE (C := 0) L0.out b1).cell (Nat.zero_le _) hp).trans EC.out⟩
   clear hK K; exact dag_to hG (st0 kl sn cn kb sv2 cv2 _  hR hHeld) rfl (by kernel_rfl) (by rw [ha] <;> rfl)
  have st2 : ∀ (kl : Nat) (sn : Option Addr) (cn kb : Nat) (g0 : World), Hid (Rs X X.heap.size g0 ([rI (.slice sa T.cols.length ca) T.cols, rE (.slice sb T.rows.length cb) T.rows, rB kz 119 [.slice sa T.cols.length ca, .slice sb T.rows.length cb, .slice sv k cv], (⟨38, 1, .slice sv k cv, k, xs⟩ : OR), rV (.slice sn L.length cn) L, rB kb 38 [.slice sn L.length cn]] ++ (rVs xs (T.cells.take k)))) → (fun w' => Blk w' w.heap.size #[.slice s1 T.cols.length c1, .slice s2 T.rows.length c2, .slice (some ⟨b, o, none⟩) T.cells.length c3] 119 ∧ Blk w' (w.heap.size + 1) #[.slice none 0 0, .slice none 0 0, .slice none 0 0] 119 ∧ w'.cell? ⟨b, o + k, none⟩ = some (.slice s' L.length c')) g0 → Gd 3 #[true, true, true, true, true, true, true, true, true, true, false, false, false] ((((a0.put (some 23) (.slice sv k cv)).put (some 24) (.slice (some ⟨kl, 0, none⟩) 0 0)).put (some 30) (.slice sn L.length cn)).put (some 31) (.slice (some ⟨kb, 0, none⟩) 1 1)) g0 := by
   intro kl sn cn kb g0 hR hHeld
   rw [hG, ha]
   simp only [zs]; refine wpy 10 fun K hK => ?_
   refine step_app [rI (.slice sa T.cols.length ca) T.cols, rE (.slice sb T.rows.length cb) T.rows, rB kz 119 [.slice sa T.cols.length ca, .slice sb T.rows.length cb, .slice sv k cv]] ([rV (.slice sn L.length cn) L, rB kb 38 [.slice sn L.length cn]] ++ (rVs xs (T.cells.take k))) hR.out rfl (d0 := (some 32)) rfl (.tmp 23) (.tmp 31) 117 24 rfl Tryz.underlying117 hiS hzS hsS hbS rfl (Nat.succ_pos _) rfl (some ⟨kb, 0, none⟩) 1 1 [.slice sn L.length cn] rfl rfl (Or.inr ⟨_, rfl, news1 (hR.out.box [rI (.slice sa T.cols.length ca) T.cols, rE (.slice sb T.rows.length cb) T.rows, rB kz 119 [.slice sa T.cols.length ca, .slice sb T.rows.length cb, .slice sv k cv], (⟨38, 1, .slice sv k cv, k, xs⟩ : OR), rV (.slice sn L.length cn) L] (rVs xs (T.cells.take k)))⟩) (by simp [Value.oneCell']) (by dsimp only; unfold maxLen; omega) (by dsimp only; omega) (k + 1) rfl (fun v => (⟨38, 1, v, k + 1, xs ++ [.slice sn L.length cn]⟩ : OR)) (fun _ => rfl) ?_
   intro sv2 cv2 g2 hR'
   have hR : Hid (Rs X X.heap.size g2 ([rI (.slice sa T.cols.length ca) T.cols, rE (.slice sb T.rows.length cb) T.rows, rB kz 119 [.slice sa T.cols.length ca, .slice sb T.rows.length cb, .slice sv k cv], (⟨38, 1, (.slice sv2 (k + 1) cv2), k + 1, xs ++ [.slice sn L.length cn]⟩ : OR), rV (.slice sn L.length cn) L, rB kb 38 [.slice sn L.length cn]] ++ (rVs xs (T.cells.take k)))) := hR'
   clear hR'; refine hK.out _ _ ?_ (fun hHeld => ?_)
   ·
    exact ⟨hR.out.blk K0.out b0, hR.out.blk K1.out b1, ((hR.out.keptE (C := 0) L0.out b1).cell (Nat.zero_le _) hp).trans EC.out⟩
   clear hK K; try simp only [zs]
   refine wpr 11 33 ?_; simp only [zs]; exact dag_to hG (st1 kl sn cn kb sv2 cv2 _  hR hHeld) rfl (by kernel_rfl) (by rw [ha] <;> rfl)
  have st3 : ∀ (kl : Nat) (sn : Option Addr) (cn : Nat) (g0 : World), Hid (Rs X X.heap.size g0 ([rI (.slice sa T.cols.length ca) T.cols, rE (.slice sb T.rows.length cb) T.rows, rB kz 119 [.slice sa T.cols.length ca, .slice sb T.rows.length cb, .slice sv k cv], (⟨38, 1, .slice sv k cv, k, xs⟩ : OR), rV (.slice sn L.length cn) L] ++ (rVs xs (T.cells.take k)))) → (fun w' => Blk w' w.heap.size #[.slice s1 T.cols.length c1, .slice s2 T.rows.length c2, .slice (some ⟨b, o, none⟩) T.cells.length c3] 119 ∧ Blk w' (w.heap.size + 1) #[.slice none 0 0, .slice none 0 0, .slice none 0 0] 119 ∧ w'.cell? ⟨b, o + k, none⟩ = some (.slice s' L.length c')) g0 → Gd 4 #[true, true, true, true, true, true, true, true, true, false, false, false, false] (((a0.put (some 23) (.slice sv k cv)).put (some 24) (.slice (some ⟨kl, 0, none⟩) 0 0)).put (some 30) (.slice sn L.length cn)) g0 := by
   intro kl sn cn g0 hR hHeld
   rw [hG, ha]
   simp only [zs]; refine wpy 9 fun K hK => ?_
   refine step_bs1 [rI (.slice sa T.cols.length ca) T.cols, rE (.slice sb T.rows.length cb) T.rows, rB kz 119 [.slice sa T.cols.length ca, .slice sb T.rows.length cb, .slice sv k cv], (⟨38, 1, .slice sv k cv, k, xs⟩ : OR), rV (.slice sn L.length cn) L] (rVs xs (T.cells.take k)) hR.out rfl (d0 := (some 31)) rfl 117 38 Tryz.underlying117 hiS hzS hsS (.tmp 30) rfl sn L.length cn rfl ?_
   intro kb g3 hR'
   have hR : Hid (Rs X X.heap.size g3 ([rI (.slice sa T.cols.length ca) T.cols, rE (.slice sb T.rows.length cb) T.rows, rB kz 119 [.slice sa T.cols.length ca, .slice sb T.rows.length cb, .slice sv k cv], (⟨38, 1, .slice sv k cv, k, xs⟩ : OR), rV (.slice sn L.length cn) L, rB kb 38 [.slice sn L.length cn]] ++ (rVs xs (T.cells.take k)))) := hR'
   clear hR'; refine hK.out _ _ ?_ (fun hHeld => ?_)
   ·
    exact ⟨hR.out.blk K0.out b0, hR.out.blk K1.out b1, ((hR.out.keptE (C := 0) L0.out b1).cell (Nat.zero_le _) hp).trans EC.out⟩
   clear hK K; exact dag_to hG (st2 kl sn cn kb _  hR hHeld) rfl (by kernel_rfl) (by rw [ha] <;> rfl)
  have st4 : ∀ (kl : Nat) (g0 : World), Hid (Rs X X.heap.size g0 ([rI (.slice sa T.cols.length ca) T.cols, rE (.slice sb T.rows.length cb) T.rows, rB kz 119 [.slice sa T.cols.length ca, .slice sb T.rows.length cb, .slice sv k cv], (⟨38, 1, .slice sv k cv, k, xs⟩ : OR), rV (.slice (some ⟨kl, 0, none⟩) 0 0) []] ++ (rVs xs (T.cells.take k)))) → (fun w' => Blk w' w.heap.size #[.slice s1 T.cols.length c1, .slice s2 T.rows.length c2, .slice (some ⟨b, o, none⟩) T.cells.length c3] 119 ∧ Blk w' (w.heap.size + 1) #[.slice none 0 0, .slice none 0 0, .slice none 0 0] 119 ∧ w'.cell? ⟨b, o + k, none⟩ = some (.slice s' L.length c')) g0 → Gd 5 #[true, true, true, true, true, true, true, true, false, false, false, false, false] ((a0.put (some 23) (.slice sv k cv)).put (some 24) (.slice (some ⟨kl, 0, none⟩) 0 0)) g0 := by
   intro kl g0 hR hHeld
   rw [hG, ha]
   simp only [zs]; refine wpy 8 fun K hK => ?_
   refine step_app [rI (.slice sa T.cols.length ca) T.cols, rE (.slice sb T.rows.length cb) T.rows, rB kz 119 [.slice sa T.cols.length ca, .slice sb T.rows.length cb, .slice sv k cv], (⟨38, 1, .slice sv k cv, k, xs⟩ : OR)] (rVs xs (T.cells.take k)) hR.out rfl (d0 := (some 30)) rfl (.tmp 24) (.tmp 29) 38 32 rfl Tryz.underlying38 hiV hzV hsV hbV rfl (Nat.succ_pos _) rfl s' L.length c' (L.flatMap vcells) rfl (flat_len (k := 4) (f := vcells) (fun _ => rfl) L) (srcV (EL.out.kept cVal_keeps (hR.out.keptG L0.out bB))) (vcells_one' L) (by show _ ≤ _; simp only [rI, rE, rV, List.length_nil]; unfold maxLen; omega) (by simp only [rI, rE, rV, List.length_nil]; omega) L.length (by simp [rI, rE, rV]) (fun v => rV v L) (fun _ => rfl) ?_
   intro sn cn g4 hR'
   have hR : Hid (Rs X X.heap.size g4 ([rI (.slice sa T.cols.length ca) T.cols, rE (.slice sb T.rows.length cb) T.rows, rB kz 119 [.slice sa T.cols.length ca, .slice sb T.rows.length cb, .slice sv k cv], (⟨38, 1, .slice sv k cv, k, xs⟩ : OR), rV (.slice sn L.length cn) L] ++ (rVs xs (T.cells.take k)))) := hR'
   clear hR'; refine hK.out _ _ ?_ (fun hHeld => ?_)
   ·
    exact ⟨hR.out.blk K0.out b0, hR.out.blk K1.out b1, ((hR.out.keptE (C := 0) L0.out b1).cell (Nat.zero_le _) hp).trans EC.out⟩
   clear hK K; exact dag_to hG (st3 kl sn cn _  hR hHeld) rfl (by kernel_rfl) (by rw [ha] <;> rfl)
  have st5 : ∀ g0 : World, Hid (Rs X X.heap.size g0 ([rI (.slice sa T.cols.length ca) T.cols, rE (.slice sb T.rows.length cb) T.rows, rB kz 119 [.slice sa T.cols.length ca, .slice sb T.rows.length cb, .slice sv k cv], (⟨38, 1, .slice sv k cv, k, xs⟩ : OR)] ++ (rVs xs (T.cells.take k)))) → (fun w' => Blk w' w.heap.size #[.slice s1 T.cols.length c1, .slice s2 T.rows.length c2, .slice (some ⟨b, o, none⟩) T.cells.length c3] 119 ∧ Blk w' (w.heap.size + 1) #[.slice none 0 0, .slice none 0 0, .slice none 0 0] 119 ∧ w'.cell? ⟨b, o + k, none⟩ = some (.slice s' L.length c')) g0 → Gd 6 #[true, true, false, true, true, true, true, true, false, false, false, false, false] (a0.put (some 23) (.slice sv k cv)) g0 := by
   intro g0 hR hHeld
   rw [hG, ha]
   simp only [zs]; refine wpy 2 fun K hK => ?_
   refine step_bs0 [rI (.slice sa T.cols.length ca) T.cols, rE (.slice sb T.rows.length cb) T.rows, rB kz 119 [.slice sa T.cols.length ca, .slice sb T.rows.length cb, .slice sv k cv], (⟨38, 1, .slice sv k cv, k, xs⟩ : OR)] (rVs xs (T.cells.take k)) hR.out rfl (d0 := (some 24)) rfl 38 75 Tryz.underlying38 hiV rfl (fun v => rV v []) 4 (fun _ => rfl) ?_
   intro kl g5 hR'
   have hR : Hid (Rs X X.heap.size g5 ([rI (.slice sa T.cols.length ca) T.cols, rE (.slice sb T.rows.length cb) T.rows, rB kz 119 [.slice sa T.cols.length ca, .slice sb T.rows.length cb, .slice sv k cv], (⟨38, 1, .slice sv k cv, k, xs⟩ : OR), rV (.slice (some ⟨kl, 0, none⟩) 0 0) []] ++ (rVs xs (T.cells.take k)))) := hR'
   clear hR'; refine hK.out _ _ ?_ (fun hHeld => ?_)
   ·
    exact ⟨hR.out.blk K0.out b0, hR.out.blk K1.out b1, ((hR.out.keptE (C := 0) L0.out b1).cell (Nat.zero_le _) hp).trans EC.out⟩
   clear hK K; exact dag_to hG (st4 kl _  hR hHeld) rfl (by kernel_rfl) (by rw [ha] <;> rfl)
  have st6 : ∀ (kl : Nat) (sn : Option Addr) (cn kb : Nat) (g0 : World), Hid (Rs X X.heap.size g0 ([rI (.slice sa T.cols.length ca) T.cols, rE (.slice sb T.rows.length cb) T.rows, rB kz 119 [.slice sa T.cols.length ca, .slice sb T.rows.length cb, .slice sv k cv], (⟨38, 1, .slice sv k cv, k, xs⟩ : OR), rV (.slice sn L.length cn) L, rB kb 38 [.slice sn L.length cn]] ++ (rVs xs (T.cells.take k)))) → (fun w' => Blk w' w.heap.size #[.slice s1 T.cols.length c1, .slice s2 T.rows.length c2, .slice (some ⟨b, o, none⟩) T.cells.length c3] 119 ∧ Blk w' (w.heap.size + 1) #[.slice none 0 0, .slice none 0 0, .slice none 0 0] 119 ∧ w'.cell? ⟨b, o + k, none⟩ = some (.slice s' L.length c')) g0 → Gd 4 #[true, false, true, true, true, true, true, true, true, true, false, false, false] (((a0.put (some 24) (.slice (some ⟨kl, 0, none⟩) 0 0)).put (some 30) (.slice sn L.length cn)).put (some 31) (.slice (some ⟨kb, 0, none⟩) 1 1)) g0 := by
   intro kl sn cn kb g0 hR hHeld
   rw [hG, ha]
   simp only [zs]; refine wpy 1 fun K hK => ?_
   have hbx := hR.out.box [rI (.slice sa T.cols.length ca) T.cols, rE (.slice sb T.rows.length cb) T.rows] ([(⟨38, 1, .slice sv k cv, k, xs⟩ : OR), rV (.slice sn L.length cn) L, rB kb 38 [.slice sn L.length cn]] ++ (rVs xs (T.cells.take k)))
   have x0 := hbx.cell 2
   have x1 := hbx.frozen 2
   clear hbx; go_simp; clear x0 x1; refine hK.out _ _ ?_ (fun hHeld => ?_)
   ·
    exact ⟨hR.out.blk K0.out b0, hR.out.blk K1.out b1, ((hR.out.keptE (C := 0) L0.out b1).cell (Nat.zero_le _) hp).trans EC.out⟩
   clear hK K; exact dag_to hG (st2 kl sn cn kb _  hR hHeld) rfl (by kernel_rfl) (by rw [ha] <;> rfl)
  have st7 : ∀ (kl : Nat) (sn : Option Addr) (cn : Nat) (g0 : World), Hid (Rs X X.heap.size g0 ([rI (.slice sa T.cols.length ca) T.cols, rE (.slice sb T.rows.length cb) T.rows, rB kz 119 [.slice sa T.cols.length ca, .slice sb T.rows.length cb, .slice sv k cv], (⟨38, 1, .slice sv k cv, k, xs⟩ : OR), rV (.slice sn L.length cn) L] ++ (rVs xs (T.cells.take k)))) → (fun w' => Blk w' w.heap.size #[.slice s1 T.cols.length c1, .slice s2 T.rows.length c2, .slice (some ⟨b, o, none⟩) T.cells.length c3] 119 ∧ Blk w' (w.heap.size + 1) #[.slice none 0 0, .slice none 0 0, .slice none 0 0] 119 ∧ w'.cell? ⟨b, o + k, none⟩ = some (.slice s' L.length c')) g0 → Gd 5 #[true, false, true, true, true, true, true, true, true, false, false, false, false] ((a0.put (some 24) (.slice (some ⟨kl, 0, none⟩) 0 0)).put (some 30) (.slice sn L.length cn)) g0 := by
   intro kl sn cn g0 hR hHeld
   rw [hG, ha]
   simp only [zs]; refine wpAnyH_ready (rs := [1, 9]) (by kernel_rfl) (by simp) ?_
   refine AllReadyH.cons rfl (fun K hK => ?_) ?_
   ·
    skip
    have hbx := hR.out.box [rI (.slice sa T.cols.length ca) T.cols, rE (.slice sb T.rows.length cb) T.rows] ([(⟨38, 1, .slice sv k cv, k, xs⟩ : OR), rV (.slice sn L.length cn) L] ++ (rVs xs (T.cells.take k)))
    have x0 := hbx.cell 2
    have x1 := hbx.frozen 2
    clear hbx; go_simp; clear x0 x1; refine hK.out _ _ ?_ (fun hHeld => ?_)
    ·
     exact ⟨hR.out.blk K0.out b0, hR.out.blk K1.out b1, ((hR.out.keptE (C := 0) L0.out b1).cell (Nat.zero_le _) hp).trans EC.out⟩
    clear hK K; exact dag_to hG (st3 kl sn cn _  hR hHeld) rfl (by kernel_rfl) (by rw [ha] <;> rfl)
   refine AllReadyH.cons rfl (fun K hK => ?_) AllReadyH.nil
   refine step_bs1 [rI (.slice sa T.cols.length ca) T.cols, rE (.slice sb T.rows.length cb) T.rows, rB kz 119 [.slice sa T.cols.length ca, .slice sb T.rows.length cb, .slice sv k cv], (⟨38, 1, .slice sv k cv, k, xs⟩ : OR), rV (.slice sn L.length cn) L] (rVs xs (T.cells.take k)) hR.out rfl (d0 := (some 31)) rfl 117 38 Tryz.underlying117 hiS hzS hsS (.tmp 30) rfl sn L.length cn rfl ?_
   intro kb g8 hR'
   have hR : Hid (Rs X X.heap.size g8 ([rI (.slice sa T.cols.length ca) T.cols, rE (.slice sb T.rows.length cb) T.rows, rB kz 119 [.slice sa T.cols.length ca, .slice sb T.rows.length cb, .slice sv k cv], (⟨38, 1, .slice sv k cv, k, xs⟩ : OR), rV (.slice sn L.length cn) L, rB kb 38 [.slice sn L.length cn]] ++ (rVs xs (T.cells.take k)))) := hR'
   clear hR'; refine hK.out _ _ ?_ (fun hHeld => ?_)
   ·
    exact ⟨hR.out.blk K0.out b0, hR.out.blk K1.out b1, ((hR.out.keptE (C := 0) L0.out b1).cell (Nat.zero_le _) hp).trans EC.out⟩
   clear hK K; exact dag_to hG (st6 kl sn cn kb _  hR hHeld) rfl (by kernel_rfl) (by rw [ha] <;> rfl)
  have st8 : ∀ (kl : Nat) (g0 : World), Hid (Rs X X.heap.size g0 ([rI (.slice sa T.cols.length ca) T.cols, rE (.slice sb T.rows.length cb) T.rows, rB kz 119 [.slice sa T.cols.length ca, .slice sb T.rows.length cb, .slice sv k cv], (⟨38, 1, .slice sv k cv, k, xs⟩ : OR), rV (.slice (some ⟨kl, 0, none⟩) 0 0) []] ++ (rVs xs (T.cells.take k)))) → (fun w' => Blk w' w.heap.size #[.slice s1 T.cols.length c1, .slice s2 T.rows.length c2, .slice (some ⟨b, o, none⟩) T.cells.length c3] 119 ∧ Blk w' (w.heap.size + 1) #[.slice none 0 0, .slice none 0 0, .slice none 0 0] 119 ∧ w'.cell? ⟨b, o + k, none⟩ = some (.slice s' L.length c')) g0 → Gd 6 #[true, false, true, true, true, true, true, true, false, false, false, false, false] (a0.put (some 24) (.slice (some ⟨kl, 0, none⟩) 0 0)) g0 := by
   intro kl g0 hR hHeld
   rw [hG, ha]
   simp only [zs]; refine wpAnyH_ready (rs := [1, 8]) (by kernel_rfl) (by simp) ?_
   refine AllReadyH.cons rfl (fun K hK => ?_) ?_
   ·
    skip
    have hbx := hR.out.box [rI (.slice sa T.cols.length ca) T.cols, rE (.slice sb T.rows.length cb) T.rows] ([(⟨38, 1, .slice sv k cv, k, xs⟩ : OR), rV (.slice (some ⟨kl, 0, none⟩) 0 0) []] ++ (rVs xs (T.cells.take k)))
    have x0 := hbx.cell 2
    have x1 := hbx.frozen 2
    clear hbx; go_simp; clear x0 x1; refine hK.out _ _ ?_ (fun hHeld => ?_)
    ·
     exact ⟨hR.out.blk K0.out b0, hR.out.blk K1.out b1, ((hR.out.keptE (C := 0) L0.out b1).cell (Nat.zero_le _) hp).trans EC.out⟩
    clear hK K; exact dag_to hG (st4 kl _  hR hHeld) rfl (by kernel_rfl) (by rw [ha] <;> rfl)
   refine AllReadyH.cons rfl (fun K hK => ?_) AllReadyH.nil
   refine step_app [rI (.slice sa T.cols.length ca) T.cols, rE (.slice sb T.rows.length cb) T.rows, rB kz 119 [.slice sa T.cols.length ca, .slice sb T.rows.length cb, .slice sv k cv], (⟨38, 1, .slice sv k cv, k, xs⟩ : OR)] (rVs xs (T.cells.take k)) hR.out rfl (d0 := (some 30)) rfl (.tmp 24) (.tmp 29) 38 32 rfl Tryz.underlying38 hiV hzV hsV hbV rfl (Nat.succ_pos _) rfl s' L.length c' (L.flatMap vcells) rfl (flat_len (k := 4) (f := vcells) (fun _ => rfl) L) (srcV (EL.out.kept cVal_keeps (hR.out.keptG L0.out bB))) (vcells_one' L) (by show _ ≤ _; simp only [rI, rE, rV, List.length_nil]; unfold maxLen; omega) (by simp only [rI, rE, rV, List.length_nil]; omega) L.length (by simp [rI, rE, rV]) (fun v => rV v L) (fun _ => rfl) ?_
   intro sn cn g10 hR'
   have hR : Hid (Rs X X.heap.size g10 ([rI (.slice sa T.cols.length ca) T.cols, rE (.slice sb T.rows.length cb) T.rows, rB kz 119 [.slice sa T.cols.length ca, .slice sb T.rows.length cb, .slice sv k cv], (⟨38, 1, .slice sv k cv, k, xs⟩ : OR), rV (.slice sn L.length cn) L] ++ (rVs xs (T.cells.take k)))) := hR'
   clear hR'; refine hK.out _ _ ?_ (fun hHeld => ?_)
   ·
    exact ⟨hR.out.blk K0.out b0, hR.out.blk K1.out b1, ((hR.out.keptE (C := 0) L0.out b1).cell (Nat.zero_le _) hp).trans EC.out⟩
   clear hK K; exact dag_to hG (st7 kl sn cn _  hR hHeld) rfl (by kernel_rfl) (by rw [ha] <;> rfl)
  rw [hG, ha]
  try simp only [zs]
  refine wpAnyH_ready (rs := [1, 2]) (by kernel_rfl) (by simp) ?_
  refine AllReadyH.cons rfl (fun K hK => ?_) ?_
  ·
   skip
   have hbx := hR.out.box [rI (.slice sa T.cols.length ca) T.cols, rE (.slice sb T.rows.length cb) T.rows] ([(⟨38, 1, .slice sv k cv, k, xs⟩ : OR)] ++ (rVs xs (T.cells.take k)))
   have x0 := hbx.cell 2
   have x1 := hbx.frozen 2
   clear hbx; go_simp; clear x0 x1; refine hK.out _ _ ?_ (fun hHeld => ?_)
   ·
    exact ⟨hR.out.blk K0.out b0, hR.out.blk K1.out b1, ((hR.out.keptE (C := 0) L0.out b1).cell (Nat.zero_le _) hp).trans EC.out⟩
   clear hK K; exact dag_to hG (st5  _  hR hHeld) rfl (by kernel_rfl) (by rw [ha] <;> rfl)
  refine AllReadyH.cons rfl (fun K hK => ?_) AllReadyH.nil
  refine step_bs0 [rI (.slice sa T.cols.length ca) T.cols, rE (.slice sb T.rows.length cb) T.rows, rB kz 119 [.slice sa T.cols.length ca, .slice sb T.rows.length cb, .slice sv k cv], (⟨38, 1, .slice sv k cv, k, xs⟩ : OR)] (rVs xs (T.cells.take k)) hR.out rfl (d0 := (some 24)) rfl 38 75 Tryz.underlying38 hiV rfl (fun v => rV v []) 4 (fun _ => rfl) ?_
  intro kl g12 hR'
  have hR : Hid (Rs X X.heap.size g12 ([rI (.slice sa T.cols.length ca) T.cols, rE (.slice sb T.rows.length cb) T.rows, rB kz 119 [.slice sa T.cols.length ca, .slice sb T.rows.length cb, .slice sv k cv], (⟨38, 1, .slice sv k cv, k, xs⟩ : OR), rV (.slice (some ⟨kl, 0, none⟩) 0 0) []] ++ (rVs xs (T.cells.take k)))) := hR'
  clear hR'; refine hK.out _ _ ?_ (fun hHeld => ?_)
  ·
   exact ⟨hR.out.blk K0.out b0, hR.out.blk K1.out b1, ((hR.out.keptE (C := 0) L0.out b1).cell (Nat.zero_le _) hp).trans EC.out⟩
  clear hK K; exact dag_to hG (st8 kl _  hR hHeld) rfl (by kernel_rfl) (by rw [ha] <;> rfl)
 have hk' : k = T.cells.length := by omega
 subst hk'
 have KZ := hR.out.box [rI (.slice sa T.cols.length ca) T.cols, rE (.slice sb T.rows.length cb) T.rows] ([(⟨38, 1, .slice sv T.cells.length cv, T.cells.length, xs⟩ : OR)] ++ rVs xs (T.cells.take T.cells.length))
 obtain ⟨z0, z1, z2, z3⟩ := KZ.three'
 obtain ⟨y0, y1, y2, y3⟩ := (hR.out.blk K1.out b1).three'
 have lw : Below w.heap.size w wr := bl_trans' L0.out hR.out
 have okc : ∀ L ∈ T.cells, okVs L := els_okc H3.out
 go_wp2_with fail; refine bodyPost_ret (v := .agg #[.slice sa T.cols.length ca, .slice sb T.rows.length cb, .slice sv T.cells.length cv]) (by simp [results, Tryz.results60, go_sem, y0, y1, y2]) rfl ⟨⟨⟨.slice sa T.cols.length ca, .slice sb T.rows.length cb, .slice sv T.cells.length cv, xs⟩, rfl, ?_, hxs.out, okc⟩, ?_⟩
 ·
  have h := (Rs.less [rI (.slice sa T.cols.length ca) T.cols, rE (.slice sb T.rows.length cb) T.rows] ([(⟨38, 1, .slice sv T.cells.length cv, T.cells.length, xs⟩ : OR)] ++ rVs xs (T.cells.take T.cells.length)) hR.out).o
  have h := ((h.putC (p := ⟨w.heap.size + 1, 0, none⟩) b1 (.slice sa T.cols.length ca)).putC (p := ⟨w.heap.size + 1, 1, none⟩) b1 (.slice sb T.rows.length cb)).putC (p := ⟨w.heap.size + 1, 2, none⟩) b1 (.slice sv T.cells.length cv)
  have h := h.mono (B' := w.heap.size) (by omega)
  rw [List.take_length] at h
  unfold rTab rS
  rw [hxs.out]
  exact h
 exact ((lw.setCell (by simp <;> omega) _).setCell (by simp <;> omega) _).setCell (by simp <;> omega) _
end Go.Proofs.YtbgeobpdojmdaaaGreat
