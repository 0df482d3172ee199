import Derived.Test.YtbgeobpdojmdaaaGreatSq24
namespace Go.Proofs.YtbgeobpdojmdaaaGreat
open Go.RowKit Go.Maps Go.WideMaps
set_option linter.unusedVariables false
set_option linter.unusedSimpArgs false
set_option maxRecDepth 100000
theorem Els.take {α : Type} {k : Nat} {E : World → Nat → List Value → α → Prop} {w : World} {B : Nat} {s : Option Addr} {L : List α} (h : Els k E w B s L) (m : Nat) : Els k E w B s (L.take m) := by
 rcases h with rfl | ⟨b, o, rfl, h1, h2, h3, hz⟩
 ·
  exact Or.inl (by simp)
 refine Or.inr ⟨b, o, rfl, h1, h2, fun j a ha => h3 j a ?_, hz⟩
 rw [List.getElem?_take] at ha
 split at ha
 ·
  exact ha
 cases ha
theorem compsOf_cut (b o c : Nat) (M : List C5) (G : List Int) (m : Nat) (B : Nat) (w : World) (hG : M.map (·.1) = G) (hm : M.length = m) (hL : Els 5 cCell w B (some ⟨b, o, none⟩) M) (hl : m ≤ 1048576) :
  Calls Tryz.prog 71 #[.slice (some ⟨b, o, none⟩) m c] w fun e w' => ∃ v, e = .returned v ∧ VRow w' w.heap.size v G ∧ Below w.heap.size w w' := by
 subst hm hG
 exact compsOf_any _ c M B w hL hl
def celB (A : List (ByteArray × Int)) (L : List C5) (j : Nat) : Bool := (L[j]?).elim true fun a => fitB A a.1 a.2 && !decide (a.1 ∈ (L.take j).map (·.1))
def cellsB (A : List (ByteArray × Int)) (L : List C5) : Bool := (List.range L.length).all (celB A L)
theorem cellsB_at {A : List (ByteArray × Int)} {L : List C5} {j : Nat} (hj : j < L.length) (h : celB A L j = false) : false = cellsB A L := by
 cases hs : cellsB A L
 ·
  rfl
 simp only [cellsB, List.all_eq_true, List.mem_range] at hs
 have := hs j hj
 rw [h] at this; cases this
theorem cellsB_all {A : List (ByteArray × Int)} {L : List C5} (h : ∀ (j : Nat), j < L.length → celB A L j = true) : true = cellsB A L := by
 symm
 simp only [cellsB, List.all_eq_true, List.mem_range]
 exact h
theorem celB_eq {A : List (ByteArray × Int)} {L : List C5} {j : Nat} {a : C5} (h : L[j]? = some a) : celB A L j = (fitB A a.1 a.2 && !decide (a.1 ∈ (L.take j).map (·.1))) := by
 simp [celB, h]
set_option maxHeartbeats 4000000 in
theorem cellsOk_any (s1 s2 s3 : Option Addr) (c1 c2 c3 : Nat) (A B C : List (ByteArray × Int)) (s : Option Addr) (c : Nat) (L : List C5) (Bs : Nat) (w : World) (hA : Decls w s1 A) (hL : Els 5 cCell w Bs s L) (l1 : A.length ≤ 1048576) (hl : L.length ≤ 1048576) (hcap : L.length ≤ c) :
  Calls Tryz.prog 34 #[.agg #[.slice s1 A.length c1, .slice s2 B.length c2, .slice s3 C.length c3], .slice s L.length c] w fun e w' => e = .returned (.bool (cellsB A L)) ∧ Below w.heap.size w w' := by
 have hal := alloc_old
 have haf := alloc_oldf
 have k0 := Blk.new w #[.slice s1 A.length c1, .slice s2 B.length c2, .slice s3 C.length c3] 47
 have L0 : Below w.heap.size w (w.alloc (.cells #[.slice s1 A.length c1, .slice s2 B.length c2, .slice s3 C.length c3] 47)) := bl_alloc (Below.refl _ _) _
 go_enter Tryz.func34, Tryz.ntmps34
 go_wp2_with fail; generalize hX : w.alloc (.cells #[.slice s1 A.length c1, .slice s2 B.length c2, .slice s3 C.length c3] 47) = X at k0 L0 ⊢
 clear hX; have HA1 : Hid (Decls X s1 A) := hA.later L0
 have H1 : Hid (Els 5 cCell X Bs s L) := hL.later cCell_keeps L0
 have HX : Hid (Below w.heap.size w X) := L0
 have K0 : Hid (Blk X w.heap.size #[.slice s1 A.length c1, .slice s2 B.length c2, .slice s3 C.length c3] 47) := k0
 clear hA hL L0 k0; go_loopw [9] (fun i wr => ∃ (m : Nat), m ≤ L.length ∧ i = .int .i64 m ∧ Hid (Below X.heap.size X wr ∧ ∀ (j : Nat), j < m → celB A L j = true)) (fun i _ => L.length - (intOf i).toNat)
 case atStart => exact ⟨0, Nat.zero_le _, rfl, Below.refl _ _, fun j hj => absurd hj (Nat.not_lt_zero _)⟩
 obtain ⟨m, hm, rfl, hN⟩ := hrel
 by_cases hlt : m < L.length
 ·
  obtain ⟨a, ha⟩ := get_some hlt
  obtain ⟨b, o, rfl, _, hp, ok, e0, e1, e2, e3, e4⟩ := eCell_cells (H1.out.later cCell_keeps hN.out.1) ha
  have EC : Hid (celB A L m = (fitB A a.1 a.2 && !decide (a.1 ∈ (L.take m).map (·.1)))) := celB_eq ha
  have HM0 : Hid (Els 5 cCell wr Bs (some ⟨b, o, none⟩) (L.take m)) := (H1.out.later cCell_keeps hN.out.1).take m
  obtain ⟨M, eM⟩ : ∃ M, Hid (L.take m = M) := ⟨_, rfl⟩
  have HM : Hid (Els 5 cCell wr Bs (some ⟨b, o, none⟩) M) := by rw [← eM.out]; exact HM0.out
  obtain ⟨G, eG⟩ : ∃ G, Hid (M.map (·.1) = G) := ⟨_, rfl⟩
  have EC : Hid (celB A L m = (fitB A a.1 a.2 && !decide (a.1 ∈ G))) := by rw [← eG.out, ← eM.out]; exact EC.out
  have hM : Hid (M.length = m) := by show _ = _; rw [← eM.out]; simp; omega
  have hml : m ≤ 1048576 := by omega
  have hmg : Hid (G.length ≤ 1048576) := by show _ ≤ _; rw [← eG.out, List.length_map, hM.out]; omega
  have HA : Hid (Decls wr s1 A) := HA1.out.later hN.out.1
  clear ha ok HM0 eM; have mI0 : (0 : Int) ≤ (m : Int) := by omega
  have mI1 : (m : Int) ≤ (L.length : Int) := by omega
  have mI2 : (m : Int) ≤ (c : Int) := by omega
  go_wp2_with fail; have KD := Blk.new wr #[.int .i64 a.1, .int .i64 a.2.1, .int .i64 a.2.2.1, .float .f64 a.2.2.2.1, .float .f64 a.2.2.2.2] 77
  have hY1 : Hid (Below wr.heap.size wr (wr.alloc (.cells #[.int .i64 a.1, .int .i64 a.2.1, .int .i64 a.2.2.1, .float .f64 a.2.2.2.1, .float .f64 a.2.2.2.2] 77))) := bl_alloc (Below.refl _ _) _
  obtain ⟨x0, x1, x2, x3⟩ := (K0.out.later (bl_trans hN.out.1 hY1.out)).three'
  have y0 := KD.cell 0
  have y1 := KD.cell 1
  have y2 := KD.cell 2
  have y3 := KD.cell 3
  have y4 := KD.cell 4
  generalize hYe : wr.alloc (.cells #[.int .i64 a.1, .int .i64 a.2.1, .int .i64 a.2.2.1, .float .f64 a.2.2.2.1, .float .f64 a.2.2.2.2] 77) = Y at hY1 x0 x1 x2 y0 y1 y2 y3 y4 ⊢
  have hY : Hid (Below wr.heap.size wr Y) := hY1
  clear hYe KD x3 e0 e1 e2 e3 e4; cases hfit : fitB A a.1 a.2
  ·
   have HB : Hid (celB A L m = false) := by show _ = _; rw [EC.out, hfit]; rfl
   refine wp_region_held_drew (S := (fun w' => w'.cell? ⟨w.heap.size, 0, none⟩ = some (.slice s1 A.length c1) ∧ w'.cell? ⟨w.heap.size, 1, none⟩ = some (.slice s2 B.length c2) ∧ w'.cell? ⟨w.heap.size, 2, none⟩ = some (.slice s3 C.length c3) ∧ w'.cell? ⟨wr.heap.size, 0, none⟩ = some (.int .i64 a.1) ∧ w'.cell? ⟨wr.heap.size, 1, none⟩ = some (.int .i64 a.2.1) ∧ w'.cell? ⟨wr.heap.size, 2, none⟩ = some (.int .i64 a.2.2.1) ∧ w'.cell? ⟨wr.heap.size, 3, none⟩ = some (.float .f64 a.2.2.2.1) ∧ w'.cell? ⟨wr.heap.size, 4, none⟩ = some (.float .f64 a.2.2.2.2))) (by kernel_rfl) ?_ (fun hHeld => ?_)
   ·
    exact ⟨x0, x1, x2, y0, y1, y2, y3, y4⟩
   refine wpr 0 14 ?_; simp only [zs]; refine wpr 1 15 ?_; simp only [zs]; refine wpy 2 fun K hK => ?_
   go_simp; refine (cellOk_any s1 s2 s3 c1 c2 c3 A B C a.1 a.2 _ (HA.out.later (bl_trans hY.out (bl_drew (Below.refl _ _)))) l1).mono ?_
   rintro e w2 ⟨rfl, hb_w2⟩
   rw [hfit]
   have hc_w2 : Below Y.heap.size Y w2 := bl_trans (bl_drew (Below.refl _ _)) hb_w2
   have hX_w2 : Hid (Below Y.heap.size Y w2) := hc_w2
   have x0 := kcell hc_w2 x0
   have x1 := kcell hc_w2 x1
   have x2 := kcell hc_w2 x2
   have y0 := kcell hc_w2 y0
   have y1 := kcell hc_w2 y1
   have y2 := kcell hc_w2 y2
   have y3 := kcell hc_w2 y3
   have y4 := kcell hc_w2 y4
   clear hb_w2 hc_w2; refine hK.out _ _ ?_ (fun hHeld => ?_)
   ·
    exact ⟨x0, x1, x2, y0, y1, y2, y3, y4⟩
   clear hK K; try simp only [zs]
   refine wpr 3 17 ?_; simp only [zs]; refine wpr 4 18 ?_; simp only [zs]; refine wpAnyH_skip (by kernel_rfl) (fun _ _ _ _ h => h) [(5, 19), (6, 20), (7, 21), (9, 23), (10, 24), (8, 22), (11, 25)] 1 _ _ _ (by assumption) (by kernel_rfl) ?_ _ rfl
   simp only [zs]; refine wpr 12 26 ?_; simp only [zs]; refine wpAnyH_done (by kernel_rfl) ?_ _
   go_wp2_with fail; go_ret; exact ⟨ret_bool' (cellsB_at hlt HB.out), bl_trans HX.out (bl_trans hN.out.1 (bl_trans hY.out hX_w2.out))⟩
  cases hmem : decide (a.1 ∈ G)
  ·
   have HB : Hid (celB A L m = true) := by show _ = _; rw [EC.out, hfit, hmem]; rfl
   have hmem : Hid (decide (a.1 ∈ G) = false) := hmem
   refine wp_region_held_drew (S := (fun w' => w'.cell? ⟨w.heap.size, 0, none⟩ = some (.slice s1 A.length c1) ∧ w'.cell? ⟨w.heap.size, 1, none⟩ = some (.slice s2 B.length c2) ∧ w'.cell? ⟨w.heap.size, 2, none⟩ = some (.slice s3 C.length c3) ∧ w'.cell? ⟨wr.heap.size, 0, none⟩ = some (.int .i64 a.1) ∧ w'.cell? ⟨wr.heap.size, 1, none⟩ = some (.int .i64 a.2.1) ∧ w'.cell? ⟨wr.heap.size, 2, none⟩ = some (.int .i64 a.2.2.1) ∧ w'.cell? ⟨wr.heap.size, 3, none⟩ = some (.float .f64 a.2.2.2.1) ∧ w'.cell? ⟨wr.heap.size, 4, none⟩ = some (.float .f64 a.2.2.2.2))) (by kernel_rfl) ?_ (fun hHeld => ?_)
   ·
    exact ⟨x0, x1, x2, y0, y1, y2, y3, y4⟩
   refine wpr 0 14 ?_; simp only [zs]; refine wpr 1 15 ?_; simp only [zs]; refine wpy 2 fun K hK => ?_
   go_simp; refine (cellOk_any s1 s2 s3 c1 c2 c3 A B C a.1 a.2 _ (HA.out.later (bl_trans hY.out (bl_drew (Below.refl _ _)))) l1).mono ?_
   rintro e w2 ⟨rfl, hb_w2⟩
   rw [hfit]
   have hc_w2 : Below Y.heap.size Y w2 := bl_trans (bl_drew (Below.refl _ _)) hb_w2
   have hX_w2 : Hid (Below Y.heap.size Y w2) := hc_w2
   have x0 := kcell hc_w2 x0
   have x1 := kcell hc_w2 x1
   have x2 := kcell hc_w2 x2
   have y0 := kcell hc_w2 y0
   have y1 := kcell hc_w2 y1
   have y2 := kcell hc_w2 y2
   have y3 := kcell hc_w2 y3
   have y4 := kcell hc_w2 y4
   clear hb_w2 hc_w2; refine hK.out _ _ ?_ (fun hHeld => ?_)
   ·
    exact ⟨x0, x1, x2, y0, y1, y2, y3, y4⟩
   clear hK K; try simp only [zs]
   refine wpr 3 17 ?_; simp only [zs]; refine wpr 4 18 ?_; simp only [zs]; refine wpr 5 19 ?_; simp only [zs]; refine wpr 6 20 ?_; simp only [zs]; refine wpr 7 21 ?_; simp only [zs]; refine wpr 9 23 ?_; simp only [zs]; refine wpr 10 24 ?_; simp only [zs]; refine wpy 8 fun K hK => ?_
   go_simp; refine (compsOf_cut b o c M G m Bs _ eG.out hM.out ((HM.out.later cCell_keeps hY1.out).later cCell_keeps hX_w2.out) hml).mono ?_
   rintro e w4 ⟨vv, rfl, hv, hb_w4⟩
   obtain ⟨sv, cv, rfl, hI⟩ := hv.slice
   have hc_w4 : Below w2.heap.size w2 w4 := hb_w4
   have hX_w4 : Hid (Below Y.heap.size Y w4) := bl_trans hX_w2.out hc_w4
   have x0 := kcell hc_w4 x0
   have x1 := kcell hc_w4 x1
   have x2 := kcell hc_w4 x2
   have y0 := kcell hc_w4 y0
   have y1 := kcell hc_w4 y1
   have y2 := kcell hc_w4 y2
   have y3 := kcell hc_w4 y3
   have y4 := kcell hc_w4 y4
   clear hb_w4 hc_w4; refine hK.out _ _ ?_ (fun hHeld => ?_)
   ·
    exact ⟨x0, x1, x2, y0, y1, y2, y3, y4⟩
   clear hK K; try simp only [zs]
   refine wpy 11 fun K hK => ?_
   go_simp; refine (contains_any sv cv G a.1 _ hI hmg.out).mono ?_
   rintro e w6 ⟨rfl, hb_w6⟩
   rw [hmem.out]
   have hc_w6 : Below w4.heap.size w4 w6 := hb_w6
   have hX_w6 : Hid (Below Y.heap.size Y w6) := bl_trans hX_w4.out hc_w6
   have x0 := kcell hc_w6 x0
   have x1 := kcell hc_w6 x1
   have x2 := kcell hc_w6 x2
   have y0 := kcell hc_w6 y0
   have y1 := kcell hc_w6 y1
   have y2 := kcell hc_w6 y2
   have y3 := kcell hc_w6 y3
   have y4 := kcell hc_w6 y4
   clear hb_w6 hc_w6; refine hK.out _ _ ?_ (fun hHeld => ?_)
   ·
    exact ⟨x0, x1, x2, y0, y1, y2, y3, y4⟩
   clear hK K; try simp only [zs]
   refine wpr 12 26 ?_; simp only [zs]; refine wpAnyH_done (by kernel_rfl) ?_ _
   have hZ : Hid (Below X.heap.size X w6) := bl_trans hN.out.1 (bl_trans hY.out hX_w6.out)
   go_wp2_with fail; go_roundw
   case rel => exact ⟨m + 1, by omega, by go_num, hZ.out, fun j hj => by
    by_cases hjm : j = m
    ·
     subst hjm; exact HB.out
    exact hN.out.2 j (by omega)⟩
   case measure => simp [intOf]; omega
  have HB : Hid (celB A L m = false) := by show _ = _; rw [EC.out, hfit, hmem]; rfl
  have hmem : Hid (decide (a.1 ∈ G) = true) := hmem
  refine wp_region_held_drew (S := (fun w' => w'.cell? ⟨w.heap.size, 0, none⟩ = some (.slice s1 A.length c1) ∧ w'.cell? ⟨w.heap.size, 1, none⟩ = some (.slice s2 B.length c2) ∧ w'.cell? ⟨w.heap.size, 2, none⟩ = some (.slice s3 C.length c3) ∧ w'.cell? ⟨wr.heap.size, 0, none⟩ = some (.int .i64 a.1) ∧ w'.cell? ⟨wr.heap.size, 1, none⟩ = some (.int .i64 a.2.1) ∧ w'.cell? ⟨wr.heap.size, 2, none⟩ = some (.int .i64 a.2.2.1) ∧ w'.cell? ⟨wr.heap.size, 3, none⟩ = some (.float .f64 a.2.2.2.1) ∧ w'.cell? ⟨wr.heap.size, 4, none⟩ = some (.float .f64 a.2.2.2.2))) (by kernel_rfl) ?_ (fun hHeld => ?_)
  ·
   exact ⟨x0, x1, x2, y0, y1, y2, y3, y4⟩
  refine wpr 0 14 ?_; simp only [zs]; refine wpr 1 15 ?_; simp only [zs]; refine wpy 2 fun K hK => ?_
  go_simp; refine (cellOk_any s1 s2 s3 c1 c2 c3 A B C a.1 a.2 _ (HA.out.later (bl_trans hY.out (bl_drew (Below.refl _ _)))) l1).mono ?_
  rintro e w2 ⟨rfl, hb_w2⟩
  rw [hfit]
  have hc_w2 : Below Y.heap.size Y w2 := bl_trans (bl_drew (Below.refl _ _)) hb_w2
  have hX_w2 : Hid (Below Y.heap.size Y w2) := hc_w2
  have x0 := kcell hc_w2 x0
  have x1 := kcell hc_w2 x1
  have x2 := kcell hc_w2 x2
  have y0 := kcell hc_w2 y0
  have y1 := kcell hc_w2 y1
  have y2 := kcell hc_w2 y2
  have y3 := kcell hc_w2 y3
  have y4 := kcell hc_w2 y4
  clear hb_w2 hc_w2; refine hK.out _ _ ?_ (fun hHeld => ?_)
  ·
   exact ⟨x0, x1, x2, y0, y1, y2, y3, y4⟩
  clear hK K; try simp only [zs]
  refine wpr 3 17 ?_; simp only [zs]; refine wpr 4 18 ?_; simp only [zs]; refine wpr 5 19 ?_; simp only [zs]; refine wpr 6 20 ?_; simp only [zs]; refine wpr 7 21 ?_; simp only [zs]; refine wpr 9 23 ?_; simp only [zs]; refine wpr 10 24 ?_; simp only [zs]; refine wpy 8 fun K hK => ?_
  go_simp; refine (compsOf_cut b o c M G m Bs _ eG.out hM.out ((HM.out.later cCell_keeps hY1.out).later cCell_keeps hX_w2.out) hml).mono ?_
  rintro e w4 ⟨vv, rfl, hv, hb_w4⟩
  obtain ⟨sv, cv, rfl, hI⟩ := hv.slice
  have hc_w4 : Below w2.heap.size w2 w4 := hb_w4
  have hX_w4 : Hid (Below Y.heap.size Y w4) := bl_trans hX_w2.out hc_w4
  have x0 := kcell hc_w4 x0
  have x1 := kcell hc_w4 x1
  have x2 := kcell hc_w4 x2
  have y0 := kcell hc_w4 y0
  have y1 := kcell hc_w4 y1
  have y2 := kcell hc_w4 y2
  have y3 := kcell hc_w4 y3
  have y4 := kcell hc_w4 y4
  clear hb_w4 hc_w4; refine hK.out _ _ ?_ (fun hHeld => ?_)
  ·
   exact ⟨x0, x1, x2, y0, y1, y2, y3, y4⟩
  clear hK K; try simp only [zs]
  refine wpy 11 fun K hK => ?_
  go_simp; refine (contains_any sv cv G a.1 _ hI hmg.out).mono ?_
  rintro e w6 ⟨rfl, hb_w6⟩
  rw [hmem.out]
  have hc_w6 : Below w4.heap.size w4 w6 := hb_w6
  have hX_w6 : Hid (Below Y.heap.size Y w6) := bl_trans hX_w4.out hc_w6
  have x0 := kcell hc_w6 x0
  have x1 := kcell hc_w6 x1
  have x2 := kcell hc_w6 x2
  have y0 := kcell hc_w6 y0
  have y1 := kcell hc_w6 y1
  have y2 := kcell hc_w6 y2
  have y3 := kcell hc_w6 y3
  have y4 := kcell hc_w6 y4
  clear hb_w6 hc_w6; refine hK.out _ _ ?_ (fun hHeld => ?_)
  ·
   exact ⟨x0, x1, x2, y0, y1, y2, y3, y4⟩
  clear hK K; try simp only [zs]
  refine wpr 12 26 ?_; simp only [zs]; refine wpAnyH_done (by kernel_rfl) ?_ _
  go_wp2_with fail; go_ret; exact ⟨ret_bool' (cellsB_at hlt HB.out), bl_trans HX.out (bl_trans hN.out.1 (bl_trans hY.out hX_w6.out))⟩
 have hm' : m = L.length := by omega
 subst hm'
 go_wp2_with fail; go_ret; exact ⟨ret_bool' (cellsB_all (fun j hj => hN.out.2 j hj)), bl_trans HX.out hN.out.1⟩
end Go.Proofs.YtbgeobpdojmdaaaGreat
