import Derived.Test.YtkihhadcoclnaaaGreatSp48
import Derived.Test.YtkihhadcoclnaaaGreatSp50
namespace Go.Proofs.YtkihhadcoclnaaaGreat
open Go.RowKit Go.Maps Go.WideMaps
set_option linter.unusedVariables false
set_option linter.unusedSimpArgs false
set_option maxRecDepth 100000
theorem box4z (w : World) (c d f g : Array Value) (t u v x : TypeId) : ∃ X, X = ((((w.alloc (.cells c t))).alloc (.cells d u)).alloc (.cells f v)).alloc (.cells g x) ∧ Blk X (w.heap.size) c t ∧ Blk X (w.heap.size + 1) d u ∧ Blk X (w.heap.size + 1 + 1) f v ∧ Blk X (w.heap.size + 1 + 1 + 1) g x ∧ Below w.heap.size w X :=
 ⟨_, rfl, ((((Blk.new w c t).alloc _).alloc _).alloc _), (((Blk.new' _ d u (by simp)).alloc _).alloc _), ((Blk.new' _ f v (by simp)).alloc _), (Blk.new' _ g x (by simp)), bl_alloc (bl_alloc (bl_alloc (bl_alloc (Below.refl _ _) _) _) _) _⟩
theorem one_W {w : World} {B : Nat} {R : List OR} {V : WV} {W : Wd} (h : ∀ r ∈ R, r.on w B) (hm : ∀ r ∈ rW V W, r ∈ R) : ∀ u ∈ [V.g, V.f, V.t, V.r], u.oneCell' = true := by
 intro u hu
 simp only [List.mem_cons, List.not_mem_nil, or_false] at hu
 rcases hu with rfl | rfl | rfl | rfl
 ·
  exact on_one (r := rI V.g W.gens) (h _ (hm _ (by simp [rW])))
 ·
  exact on_one (r := rI V.f W.free) (h _ (hm _ (by simp [rW])))
 ·
  exact on_one (r := rT V.t V.ts) (h _ (hm _ (by simp [rW])))
 exact on_one (r := rV V.r W.res) (h _ (hm _ (by simp [rW])))
theorem Rs.insE {X W W' : World} {B : Nat} (P M : List OR) (h : Rs X B W P) (hb : Below W.heap.size W W') (hr : Owns W' W.heap.size M) : Rs X B W' (P ++ M) := by
 have := Rs.insM P M [] (by simpa using h) hb hr
 simpa using this
theorem eqW_own (V U : WV) (W : Wd) (B C : Nat) (w : World) (h : Owns w B (rW V W)) (hF : OWf V W) (g : Owns w C (rW U W)) (gF : OWf U W) (hk : kW W) :
  Calls Tryz.prog 13 #[.agg #[V.g, V.f, V.t, V.r], .agg #[U.g, U.f, U.t, U.r]] w fun e w' => e = .returned (.bool true) ∧ Below w.heap.size w w' := by
 obtain ⟨a1, c1, a2, c2, a3, c3, a4, c4, e1, e2, e3, e4, hI⟩ := (hF.ow h).inW
 obtain ⟨b1, d1, b2, d2, b3, d3, b4, d4, f1, f2, f3, f4, gI⟩ := (gF.ow g).inW
 rw [e1, e2, e3, e4, f1, f2, f3, f4]
 exact eqWorld_gen _ _ _ _ _ _ _ _ _ _ _ _ _ _ _ _ W _ _ w hI gI hk
set_option maxHeartbeats 32000000 in
theorem exactPut_any (s1 s2 s3 : Option Addr) (c1 c2 c3 : Nat) (A B C : List (ByteArray × Int)) (i1 i2 i3 i4 : Option Addr) (j1 j2 j3 j4 : Nat) (W : Wd) (e : E2) (comp : Int) (v : V4) (w : World) (gA : Dc w s1 A) (gB : Dc w s2 B) (gC : Dc w s3 C) (hW : InW w 0 i1 i2 i3 i4 W) (hm : mW W) (bR : ∀ t ∈ W.tabs, ∀ x ∈ t.rows, bE x) (be : bE e) (ov : okV v) :
  Calls Tryz.prog 4 #[.agg #[.slice s1 A.length c1, .slice s2 B.length c2, .slice s3 C.length c3], .agg #[.slice i1 W.gens.length j1, .slice i2 W.free.length j2, .slice i3 W.tabs.length j3, .slice i4 W.res.length j4], .agg #[.int .i64 e.1, .int .i64 e.2], .int .i64 comp, .agg #[.int .i64 v.1, .int .i64 v.2.1, .float .f64 v.2.2.1, .float .f64 v.2.2.2]] w fun r w' => r = .returned (.bool true) ∧ Below w.heap.size w w' := by
 have hal := alloc_old
 have haf := alloc_oldf
 obtain ⟨hA, nA, mA⟩ := gA
 obtain ⟨hB, nB, mB⟩ := gB
 obtain ⟨hC, nC, mC⟩ := gC
 have NMH := Hid.mk' (nms3 nA nB nC)
 obtain ⟨iW, hiW, hzW, hsW, hbW⟩ := info_parts Tryz.infoWd
 obtain ⟨X0, hX0, k0, k1, k2, k3, L0⟩ := box4z w #[.slice s1 A.length c1, .slice s2 B.length c2, .slice s3 C.length c3] #[.slice i1 W.gens.length j1, .slice i2 W.free.length j2, .slice i3 W.tabs.length j3, .slice i4 W.res.length j4] #[.int .i64 e.1, .int .i64 e.2] #[.int .i64 v.1, .int .i64 v.2.1, .float .f64 v.2.2.1, .float .f64 v.2.2.2] 24 31 33 57
 have HW := Hid.mk' hW
 have BR := Hid.mk' bR
 have BE := Hid.mk' be
 have OV := Hid.mk' ov
 have HD := Hid.mk' (And.intro hA (And.intro hB hC))
 clear hW bR be ov; go_enter Tryz.func4, Tryz.ntmps4
 go_wp2_with fail; rw [← hX0]
 clear hX0; refine (szReg_top s1 s2 s3 c1 c2 c3 A B C _ (hA.later L0) (hB.later L0) (hC.later L0) nA nB nC mA mB mC).mono ?_
 rintro r w1 ⟨⟨r, rfl, hr⟩, hb1⟩
 have K0 := Hid.mk' (k0.later hb1)
 have K1 := Hid.mk' (k1.later hb1)
 have K2 := Hid.mk' (k2.later hb1)
 have K3 := Hid.mk' (k3.later hb1)
 have LX : Hid (Below w.heap.size w w1) := bl_trans L0 hb1
 clear k0 k1 k2 k3 L0 hb1 nA nB nC mA mB mC hA hB hC; obtain ⟨y0, y1, y2, y3, y4⟩ := K1.out.four'
 rcases hr with rfl | ⟨r0, r1, lA, lB, lC⟩
 ·
  go_wp2_with fail; go_ret; exact ⟨rfl, LX.out⟩
 have t1 : decide (r < 0) = false := by simp; omega
 go_wp2_with fail; refine (szWorld_gen i1 i2 i3 i4 j1 j2 j3 j4 W 0 r _ (HW.out.later LX.out) hm r0 r1).mono ?_
 rintro r w2 ⟨⟨q, rfl, hq⟩, hb2⟩
 have LX : Hid (Below w.heap.size w w2) := bl_trans LX.out hb2
 have K0 : Hid (Blk w2 (w.heap.size) #[.slice s1 A.length c1, .slice s2 B.length c2, .slice s3 C.length c3] 24) := K0.out.later hb2
 have K1 : Hid (Blk w2 (w.heap.size + 1) #[.slice i1 W.gens.length j1, .slice i2 W.free.length j2, .slice i3 W.tabs.length j3, .slice i4 W.res.length j4] 31) := K1.out.later hb2
 have K2 : Hid (Blk w2 (w.heap.size + 1 + 1) #[.int .i64 e.1, .int .i64 e.2] 33) := K2.out.later hb2
 have K3 : Hid (Blk w2 (w.heap.size + 1 + 1 + 1) #[.int .i64 v.1, .int .i64 v.2.1, .float .f64 v.2.2.1, .float .f64 v.2.2.2] 57) := K3.out.later hb2
 clear y0 y1 y2 y3 y4 hb2; rcases hq with rfl | ⟨q0', q1', hk⟩
 ·
  go_wp2_with fail; go_ret; exact ⟨rfl, LX.out⟩
 have t2 : decide (q < 0) = false := by simp; omega
 have HK := Hid.mk' hk
 have bX : w.heap.size ≤ w2.heap.size := LX.out.size
 have q0 : w.heap.size < w2.heap.size := K0.out.lt
 have q1 : w.heap.size + 1 < w2.heap.size := K1.out.lt
 have q2 : w.heap.size + 1 + 1 < w2.heap.size := K2.out.lt
 have q3 : w.heap.size + 1 + 1 + 1 < w2.heap.size := K3.out.lt
 have hR := Hid.mk' (Rs.nil w2)
 clear hm r1 q1' hk; go_wp2_with fail; go_cut [12, 13] (fun p0 p1 wx => ∃ (kz : Nat) (V0 : WV) (W0 : Wd) (c0 : Int), p0 = .pointer (some ⟨kz, 0, none⟩) ∧ p1 = .int .i64 c0 ∧ OWf V0 W0 ∧ PutR A B C W e comp v W0 c0 ∧ Rs w2 w2.heap.size wx (rB kz 40 [V0.g, V0.f, V0.t, V0.r] :: rW V0 W0))
 case first =>
  refine wp_region_held_drew (S := (fun w' => Blk w' (w.heap.size) #[.slice s1 A.length c1, .slice s2 B.length c2, .slice s3 C.length c3] 24 ∧ Blk w' (w.heap.size + 1) #[.slice i1 W.gens.length j1, .slice i2 W.free.length j2, .slice i3 W.tabs.length j3, .slice i4 W.res.length j4] 31 ∧ Blk w' (w.heap.size + 1 + 1) #[.int .i64 e.1, .int .i64 e.2] 33 ∧ Blk w' (w.heap.size + 1 + 1 + 1) #[.int .i64 v.1, .int .i64 v.2.1, .float .f64 v.2.2.1, .float .f64 v.2.2.2] 57)) (by kernel_rfl) ?_ (fun hHeld => ?_)
  ·
   exact (k4 hR K0 K1 K2 K3 q0 q1 q2 q3 :)
  have hR := Hid.mk' hR.out.drew
  refine wpq (v := ?_) 0 34 rfl rfl ?_ ?_
  rotate_left 1
  ·
   intro w hSw; (try dsimp only at hSw); obtain ⟨h0, h1, h2, h3⟩ := hSw; obtain ⟨x0, x1, x2, x3⟩ := h0.three'; go_simp <;> with_reducible rfl
  simp only [zs]; refine wpq (v := ?_) 2 36 rfl rfl ?_ ?_
  rotate_left 1
  ·
   intro w hSw; (try dsimp only at hSw); obtain ⟨h0, h1, h2, h3⟩ := hSw; obtain ⟨x0, x1, x2, x3, x4⟩ := h1.four'; go_simp <;> with_reducible rfl
  simp only [zs]; refine wpq (v := ?_) 4 38 rfl rfl ?_ ?_
  rotate_left 1
  ·
   intro w hSw; (try dsimp only at hSw); obtain ⟨h0, h1, h2, h3⟩ := hSw; obtain ⟨x0, x1, x2⟩ := h2.two; go_simp <;> with_reducible rfl
  simp only [zs]; refine wpr 6 40 ?_; simp only [zs]; refine wpq (v := ?_) 7 41 rfl rfl ?_ ?_
  rotate_left 1
  ·
   intro w hSw; (try dsimp only at hSw); obtain ⟨h0, h1, h2, h3⟩ := hSw; obtain ⟨x0, x1, x2, x3, x4⟩ := h3.four'; go_simp <;> with_reducible rfl
  simp only [zs]; refine wpAnyH_ready (rs := [1, 13]) (by kernel_rfl) (by simp) ?_
  refine AllReadyH.cons rfl (fun K hK => ?_) ?_
  ·
   skip
   go_simp; refine (toReg_any s1 s2 s3 c1 c2 c3 A B C _ (HD.out.1.later (bl_transG LX.out hR.out bX)) (HD.out.2.1.later (bl_transG LX.out hR.out bX)) (HD.out.2.2.later (bl_transG LX.out hR.out bX)) lA lB lC).mono ?_
   rintro z g1 ⟨⟨a3, b3, d3, rfl, dA3, dB3, dC3⟩, hb⟩
   have hR : Hid (Rs w2 w2.heap.size g1 []) := Hid.mk' (hR.out.later hb)
   have D3 : Hid (Decls g1 (some ⟨a3, 0, none⟩) A ∧ Decls g1 (some ⟨b3, 0, none⟩) B ∧ Decls g1 (some ⟨d3, 0, none⟩) C) := Hid.mk' (⟨dA3, dB3, dC3⟩)
   clear hb; refine hK.out _ _ ?_ (fun hHeld => ?_)
   ·
    exact (k4 hR K0 K1 K2 K3 q0 q1 q2 q3 :)
   clear hK K; try simp only [zs]
   refine wpAnyH_ready (rs := [3, 13]) (by kernel_rfl) (by simp) ?_
   refine AllReadyH.cons rfl (fun K hK => ?_) ?_
   ·
    skip
    go_simp; refine (toWorld_made i1 i2 i3 i4 j1 j2 j3 j4 W 0 _ (HW.out.later (bl_transG LX.out hR.out bX)) HK.out).mono ?_
    rintro z g2 ⟨⟨m4, n4, o4, p4, rfl, hE4⟩, hb⟩
    have hR : Hid (Rs w2 w2.heap.size g2 []) := Hid.mk' (hR.out.later hb)
    have D3 : Hid (Decls g2 (some ⟨a3, 0, none⟩) A ∧ Decls g2 (some ⟨b3, 0, none⟩) B ∧ Decls g2 (some ⟨d3, 0, none⟩) C) := Hid.mk' (⟨D3.out.1.later hb, D3.out.2.1.later hb, D3.out.2.2.later hb⟩)
    have E4 : Hid (InW g2 0 (some ⟨m4, 0, none⟩) (some ⟨n4, 0, none⟩) (some ⟨o4, 0, none⟩) (some ⟨p4, 0, none⟩) W) := Hid.mk' (hE4.drop (Nat.zero_le _))
    clear hb; refine hK.out _ _ ?_ (fun hHeld => ?_)
    ·
     exact (k4 hR K0 K1 K2 K3 q0 q1 q2 q3 :)
    clear hK K; try simp only [zs]
    refine wpAnyH_ready (rs := [5, 13]) (by kernel_rfl) (by simp) ?_
    refine AllReadyH.cons rfl (fun K hK => ?_) ?_
    ·
     skip
     go_simp; refine (toEnt_any e.1 e.2 _).mono ?_
     rintro z g3 ⟨rfl, hb⟩
     have hR : Hid (Rs w2 w2.heap.size g3 []) := Hid.mk' (hR.out.later hb)
     have D3 : Hid (Decls g3 (some ⟨a3, 0, none⟩) A ∧ Decls g3 (some ⟨b3, 0, none⟩) B ∧ Decls g3 (some ⟨d3, 0, none⟩) C) := Hid.mk' (⟨D3.out.1.later hb, D3.out.2.1.later hb, D3.out.2.2.later hb⟩)
     have E4 : Hid (InW g3 0 (some ⟨m4, 0, none⟩) (some ⟨n4, 0, none⟩) (some ⟨o4, 0, none⟩) (some ⟨p4, 0, none⟩) W) := Hid.mk' (E4.out.later hb)
     clear hb; refine hK.out _ _ ?_ (fun hHeld => ?_)
     ·
      exact (k4 hR K0 K1 K2 K3 q0 q1 q2 q3 :)
     clear hK K; try simp only [zs]
     refine wpAnyH_ready (rs := [8, 13]) (by kernel_rfl) (by simp) ?_
     refine AllReadyH.cons rfl (fun K hK => ?_) ?_
     ·
      skip
      go_simp; refine (toVal_any v.1 v.2.1 v.2.2.1 v.2.2.2 _).mono ?_
      rintro z g4 ⟨rfl, hb⟩
      have hR : Hid (Rs w2 w2.heap.size g4 []) := Hid.mk' (hR.out.later hb)
      have D3 : Hid (Decls g4 (some ⟨a3, 0, none⟩) A ∧ Decls g4 (some ⟨b3, 0, none⟩) B ∧ Decls g4 (some ⟨d3, 0, none⟩) C) := Hid.mk' (⟨D3.out.1.later hb, D3.out.2.1.later hb, D3.out.2.2.later hb⟩)
      have E4 : Hid (InW g4 0 (some ⟨m4, 0, none⟩) (some ⟨n4, 0, none⟩) (some ⟨o4, 0, none⟩) (some ⟨p4, 0, none⟩) W) := Hid.mk' (E4.out.later hb)
      clear hb; refine hK.out _ _ ?_ (fun hHeld => ?_)
      ·
       exact (k4 hR K0 K1 K2 K3 q0 q1 q2 q3 :)
      clear hK K; try simp only [zs]
      refine wpAnyH_ready (rs := [9, 13]) (by kernel_rfl) (by simp) ?_
      refine AllReadyH.cons rfl (fun K hK => ?_) ?_
      ·
       skip
       go_simp; refine (specPut_any a3 0 A.length b3 0 B.length d3 0 C.length A B C (some ⟨m4, 0, none⟩) (some ⟨n4, 0, none⟩) (some ⟨o4, 0, none⟩) (some ⟨p4, 0, none⟩) W.gens.length W.free.length W.tabs.length W.res.length W e comp v _ D3.out.1 D3.out.2.1 D3.out.2.2 E4.out HK.out OV.out).mono ?_
       rintro z g5 ⟨V0, W0, c0, rfl, hOW, hSR, hb⟩
       have hO := hOW.own
       have HF0 : Hid (OWf V0 W0) := hOW.f
       have HSR : Hid (PutR A B C W e comp v W0 c0) := hSR
       clear hOW hSR; have hR : Hid (Rs w2 w2.heap.size g5 (rW V0 W0)) := Hid.mk' (hR.out.insE [] (rW V0 W0) hb hO)
       clear hb hO; refine hK.out _ _ ?_ (fun hHeld => ?_)
       ·
        exact (k4 hR K0 K1 K2 K3 q0 q1 q2 q3 :)
       clear hK K; try simp only [zs]
       refine wpr 10 33 ?_; simp only [zs]; refine wpr 11 44 ?_; simp only [zs]; refine wpr 12 45 ?_; simp only [zs]; refine wpy 13 fun K hK => ?_
       refine step_boxB [] (rW V0 W0) hR.out rfl (d0 := (some 12)) rfl 40 hiW hzW rfl ?_
       intro kz g6 hb hR'
       have hR : Hid (Rs w2 w2.heap.size g6 ([rB kz 40 [.slice none 0 0, .slice none 0 0, .slice none 0 0, .slice none 0 0]] ++ (rW V0 W0))) := hR'
       clear hR' hb; refine hK.out _ _ ?_ (fun hHeld => ?_)
       ·
        exact (k4 hR K0 K1 K2 K3 q0 q1 q2 q3 :)
       clear hK K; try simp only [zs]
       refine wpy 14 fun K hK => ?_
       refine step_put [] (rW V0 W0) hR.out rfl (d0 := none) rfl (.tmp 12) (.tmp 44) rfl [V0.g, V0.f, V0.t, V0.r] rfl rfl (by rw [hiW]; simp [hsW]) rfl (one_W (V := V0) (W := W0) hR.out.o.on (fun r hr => List.mem_append_right _ hr)) ?_
       intro g7 hR'
       have hR : Hid (Rs w2 w2.heap.size g7 ([rB kz 40 [V0.g, V0.f, V0.t, V0.r]] ++ (rW V0 W0))) := hR'
       clear hR'; refine hK.out _ _ ?_ (fun hHeld => ?_)
       ·
        exact (k4 hR K0 K1 K2 K3 q0 q1 q2 q3 :)
       clear hK K; try simp only [zs]
       refine wpr 15 13 ?_; simp only [zs]; refine wpAnyH_done (by kernel_rfl) ?_ _
       clear hHeld; go_wp2_with fail; go_meet; exact ⟨kz, V0, W0, c0, rfl, rfl, HF0.out, HSR.out, hR.out⟩
      refine AllReadyH.cons rfl (fun K hK => ?_) AllReadyH.nil
      refine step_boxB [] [] hR.out rfl (d0 := (some 12)) rfl 40 hiW hzW rfl ?_
      intro kz g8 hb hR'
      have hR : Hid (Rs w2 w2.heap.size g8 [rB kz 40 [.slice none 0 0, .slice none 0 0, .slice none 0 0, .slice none 0 0]]) := hR'
      have D3 : Hid (Decls g8 (some ⟨a3, 0, none⟩) A ∧ Decls g8 (some ⟨b3, 0, none⟩) B ∧ Decls g8 (some ⟨d3, 0, none⟩) C) := Hid.mk' (⟨D3.out.1.later hb, D3.out.2.1.later hb, D3.out.2.2.later hb⟩)
      have E4 : Hid (InW g8 0 (some ⟨m4, 0, none⟩) (some ⟨n4, 0, none⟩) (some ⟨o4, 0, none⟩) (some ⟨p4, 0, none⟩) W) := Hid.mk' (E4.out.later hb)
      clear hR' hb; refine hK.out _ _ ?_ (fun hHeld => ?_)
      ·
       exact (k4 hR K0 K1 K2 K3 q0 q1 q2 q3 :)
      clear hK K; try simp only [zs]
      refine wpy 9 fun K hK => ?_
      go_simp; refine (specPut_any a3 0 A.length b3 0 B.length d3 0 C.length A B C (some ⟨m4, 0, none⟩) (some ⟨n4, 0, none⟩) (some ⟨o4, 0, none⟩) (some ⟨p4, 0, none⟩) W.gens.length W.free.length W.tabs.length W.res.length W e comp v _ D3.out.1 D3.out.2.1 D3.out.2.2 E4.out HK.out OV.out).mono ?_
      rintro z g9 ⟨V0, W0, c0, rfl, hOW, hSR, hb⟩
      have hO := hOW.own
      have HF0 : Hid (OWf V0 W0) := hOW.f
      have HSR : Hid (PutR A B C W e comp v W0 c0) := hSR
      clear hOW hSR; have hR : Hid (Rs w2 w2.heap.size g9 ([rB kz 40 [.slice none 0 0, .slice none 0 0, .slice none 0 0, .slice none 0 0]] ++ (rW V0 W0))) := Hid.mk' (hR.out.insE [rB kz 40 [.slice none 0 0, .slice none 0 0, .slice none 0 0, .slice none 0 0]] (rW V0 W0) hb hO)
      clear hb hO; refine hK.out _ _ ?_ (fun hHeld => ?_)
      ·
       exact (k4 hR K0 K1 K2 K3 q0 q1 q2 q3 :)
      clear hK K; try simp only [zs]
      refine wpr 10 33 ?_; simp only [zs]; refine wpr 11 44 ?_; simp only [zs]; refine wpr 12 45 ?_; simp only [zs]; refine wpy 14 fun K hK => ?_
      refine step_put [] (rW V0 W0) hR.out rfl (d0 := none) rfl (.tmp 12) (.tmp 44) rfl [V0.g, V0.f, V0.t, V0.r] rfl rfl (by rw [hiW]; simp [hsW]) rfl (one_W (V := V0) (W := W0) hR.out.o.on (fun r hr => List.mem_append_right _ hr)) ?_
      intro g10 hR'
      have hR : Hid (Rs w2 w2.heap.size g10 ([rB kz 40 [V0.g, V0.f, V0.t, V0.r]] ++ (rW V0 W0))) := hR'
      clear hR'; refine hK.out _ _ ?_ (fun hHeld => ?_)
      ·
       exact (k4 hR K0 K1 K2 K3 q0 q1 q2 q3 :)
      clear hK K; try simp only [zs]
      refine wpr 15 13 ?_; simp only [zs]; refine wpAnyH_done (by kernel_rfl) ?_ _
      clear hHeld; go_wp2_with fail; go_meet; exact ⟨kz, V0, W0, c0, rfl, rfl, HF0.out, HSR.out, hR.out⟩
     refine AllReadyH.cons rfl (fun K hK => ?_) AllReadyH.nil
     refine step_boxB [] [] hR.out rfl (d0 := (some 12)) rfl 40 hiW hzW rfl ?_
     intro kz g11 hb hR'
     have hR : Hid (Rs w2 w2.heap.size g11 [rB kz 40 [.slice none 0 0, .slice none 0 0, .slice none 0 0, .slice none 0 0]]) := hR'
     have D3 : Hid (Decls g11 (some ⟨a3, 0, none⟩) A ∧ Decls g11 (some ⟨b3, 0, none⟩) B ∧ Decls g11 (some ⟨d3, 0, none⟩) C) := Hid.mk' (⟨D3.out.1.later hb, D3.out.2.1.later hb, D3.out.2.2.later hb⟩)
     have E4 : Hid (InW g11 0 (some ⟨m4, 0, none⟩) (some ⟨n4, 0, none⟩) (some ⟨o4, 0, none⟩) (some ⟨p4, 0, none⟩) W) := Hid.mk' (E4.out.later hb)
     clear hR' hb; refine hK.out _ _ ?_ (fun hHeld => ?_)
     ·
      exact (k4 hR K0 K1 K2 K3 q0 q1 q2 q3 :)
     clear hK K; try simp only [zs]
     refine wpy 8 fun K hK => ?_
     go_simp; refine (toVal_any v.1 v.2.1 v.2.2.1 v.2.2.2 _).mono ?_
     rintro z g12 ⟨rfl, hb⟩
     have hR : Hid (Rs w2 w2.heap.size g12 [rB kz 40 [.slice none 0 0, .slice none 0 0, .slice none 0 0, .slice none 0 0]]) := Hid.mk' (hR.out.later hb)
     have D3 : Hid (Decls g12 (some ⟨a3, 0, none⟩) A ∧ Decls g12 (some ⟨b3, 0, none⟩) B ∧ Decls g12 (some ⟨d3, 0, none⟩) C) := Hid.mk' (⟨D3.out.1.later hb, D3.out.2.1.later hb, D3.out.2.2.later hb⟩)
     have E4 : Hid (InW g12 0 (some ⟨m4, 0, none⟩) (some ⟨n4, 0, none⟩) (some ⟨o4, 0, none⟩) (some ⟨p4, 0, none⟩) W) := Hid.mk' (E4.out.later hb)
     clear hb; refine hK.out _ _ ?_ (fun hHeld => ?_)
     ·
      exact (k4 hR K0 K1 K2 K3 q0 q1 q2 q3 :)
     clear hK K; try simp only [zs]
     refine wpy 9 fun K hK => ?_
     go_simp; refine (specPut_any a3 0 A.length b3 0 B.length d3 0 C.length A B C (some ⟨m4, 0, none⟩) (some ⟨n4, 0, none⟩) (some ⟨o4, 0, none⟩) (some ⟨p4, 0, none⟩) W.gens.length W.free.length W.tabs.length W.res.length W e comp v _ D3.out.1 D3.out.2.1 D3.out.2.2 E4.out HK.out OV.out).mono ?_
     rintro z g13 ⟨V0, W0, c0, rfl, hOW, hSR, hb⟩
     have hO := hOW.own
     have HF0 : Hid (OWf V0 W0) := hOW.f
     have HSR : Hid (PutR A B C W e comp v W0 c0) := hSR
     clear hOW hSR; have hR : Hid (Rs w2 w2.heap.size g13 ([rB kz 40 [.slice none 0 0, .slice none 0 0, .slice none 0 0, .slice none 0 0]] ++ (rW V0 W0))) := Hid.mk' (hR.out.insE [rB kz 40 [.slice none 0 0, .slice none 0 0, .slice none 0 0, .slice none 0 0]] (rW V0 W0) hb hO)
     clear hb hO; refine hK.out _ _ ?_ (fun hHeld => ?_)
     ·
      exact (k4 hR K0 K1 K2 K3 q0 q1 q2 q3 :)
     clear hK K; try simp only [zs]
     refine wpr 10 33 ?_; simp only [zs]; refine wpr 11 44 ?_; simp only [zs]; refine wpr 12 45 ?_; simp only [zs]; refine wpy 14 fun K hK => ?_
     refine step_put [] (rW V0 W0) hR.out rfl (d0 := none) rfl (.tmp 12) (.tmp 44) rfl [V0.g, V0.f, V0.t, V0.r] rfl rfl (by rw [hiW]; simp [hsW]) rfl (one_W (V := V0) (W := W0) hR.out.o.on (fun r hr => List.mem_append_right _ hr)) ?_
     intro g14 hR'
     have hR : Hid (Rs w2 w2.heap.size g14 ([rB kz 40 [V0.g, V0.f, V0.t, V0.r]] ++ (rW V0 W0))) := hR'
     clear hR'; refine hK.out _ _ ?_ (fun hHeld => ?_)
     ·
      exact (k4 hR K0 K1 K2 K3 q0 q1 q2 q3 :)
     clear hK K; try simp only [zs]
     refine wpr 15 13 ?_; simp only [zs]; refine wpAnyH_done (by kernel_rfl) ?_ _
     clear hHeld; go_wp2_with fail; go_meet; exact ⟨kz, V0, W0, c0, rfl, rfl, HF0.out, HSR.out, hR.out⟩
    refine AllReadyH.cons rfl (fun K hK => ?_) AllReadyH.nil
    refine step_boxB [] [] hR.out rfl (d0 := (some 12)) rfl 40 hiW hzW rfl ?_
    intro kz g15 hb hR'
    have hR : Hid (Rs w2 w2.heap.size g15 [rB kz 40 [.slice none 0 0, .slice none 0 0, .slice none 0 0, .slice none 0 0]]) := hR'
    have D3 : Hid (Decls g15 (some ⟨a3, 0, none⟩) A ∧ Decls g15 (some ⟨b3, 0, none⟩) B ∧ Decls g15 (some ⟨d3, 0, none⟩) C) := Hid.mk' (⟨D3.out.1.later hb, D3.out.2.1.later hb, D3.out.2.2.later hb⟩)
    have E4 : Hid (InW g15 0 (some ⟨m4, 0, none⟩) (some ⟨n4, 0, none⟩) (some ⟨o4, 0, none⟩) (some ⟨p4, 0, none⟩) W) := Hid.mk' (E4.out.later hb)
    clear hR' hb; refine hK.out _ _ ?_ (fun hHeld => ?_)
    ·
     exact (k4 hR K0 K1 K2 K3 q0 q1 q2 q3 :)
    clear hK K; try simp only [zs]
    refine wpy 5 fun K hK => ?_
    go_simp; refine (toEnt_any e.1 e.2 _).mono ?_
    rintro z g16 ⟨rfl, hb⟩
    have hR : Hid (Rs w2 w2.heap.size g16 [rB kz 40 [.slice none 0 0, .slice none 0 0, .slice none 0 0, .slice none 0 0]]) := Hid.mk' (hR.out.later hb)
    have D3 : Hid (Decls g16 (some ⟨a3, 0, none⟩) A ∧ Decls g16 (some ⟨b3, 0, none⟩) B ∧ Decls g16 (some ⟨d3, 0, none⟩) C) := Hid.mk' (⟨D3.out.1.later hb, D3.out.2.1.later hb, D3.out.2.2.later hb⟩)
    have E4 : Hid (InW g16 0 (some ⟨m4, 0, none⟩) (some ⟨n4, 0, none⟩) (some ⟨o4, 0, none⟩) (some ⟨p4, 0, none⟩) W) := Hid.mk' (E4.out.later hb)
    clear hb; refine hK.out _ _ ?_ (fun hHeld => ?_)
    ·
     exact (k4 hR K0 K1 K2 K3 q0 q1 q2 q3 :)
    clear hK K; try simp only [zs]
    refine wpy 8 fun K hK => ?_
    go_simp; refine (toVal_any v.1 v.2.1 v.2.2.1 v.2.2.2 _).mono ?_
    rintro z g17 ⟨rfl, hb⟩
    have hR : Hid (Rs w2 w2.heap.size g17 [rB kz 40 [.slice none 0 0, .slice none 0 0, .slice none 0 0, .slice none 0 0]]) := Hid.mk' (hR.out.later hb)
    have D3 : Hid (Decls g17 (some ⟨a3, 0, none⟩) A ∧ Decls g17 (some ⟨b3, 0, none⟩) B ∧ Decls g17 (some ⟨d3, 0, none⟩) C) := Hid.mk' (⟨D3.out.1.later hb, D3.out.2.1.later hb, D3.out.2.2.later hb⟩)
    have E4 : Hid (InW g17 0 (some ⟨m4, 0, none⟩) (some ⟨n4, 0, none⟩) (some ⟨o4, 0, none⟩) (some ⟨p4, 0, none⟩) W) := Hid.mk' (E4.out.later hb)
    clear hb; refine hK.out _ _ ?_ (fun hHeld => ?_)
    ·
     exact (k4 hR K0 K1 K2 K3 q0 q1 q2 q3 :)
    clear hK K; try simp only [zs]
    refine wpy 9 fun K hK => ?_
    go_simp; refine (specPut_any a3 0 A.length b3 0 B.length d3 0 C.length A B C (some ⟨m4, 0, none⟩) (some ⟨n4, 0, none⟩) (some ⟨o4, 0, none⟩) (some ⟨p4, 0, none⟩) W.gens.length W.free.length W.tabs.length W.res.length W e comp v _ D3.out.1 D3.out.2.1 D3.out.2.2 E4.out HK.out OV.out).mono ?_
    rintro z g18 ⟨V0, W0, c0, rfl, hOW, hSR, hb⟩
    have hO := hOW.own
    have HF0 : Hid (OWf V0 W0) := hOW.f
    have HSR : Hid (PutR A B C W e comp v W0 c0) := hSR
    clear hOW hSR; have hR : Hid (Rs w2 w2.heap.size g18 ([rB kz 40 [.slice none 0 0, .slice none 0 0, .slice none 0 0, .slice none 0 0]] ++ (rW V0 W0))) := Hid.mk' (hR.out.insE [rB kz 40 [.slice none 0 0, .slice none 0 0, .slice none 0 0, .slice none 0 0]] (rW V0 W0) hb hO)
    clear hb hO; refine hK.out _ _ ?_ (fun hHeld => ?_)
    ·
     exact (k4 hR K0 K1 K2 K3 q0 q1 q2 q3 :)
    clear hK K; try simp only [zs]
    refine wpr 10 33 ?_; simp only [zs]; refine wpr 11 44 ?_; simp only [zs]; refine wpr 12 45 ?_; simp only [zs]; refine wpy 14 fun K hK => ?_
    refine step_put [] (rW V0 W0) hR.out rfl (d0 := none) rfl (.tmp 12) (.tmp 44) rfl [V0.g, V0.f, V0.t, V0.r] rfl rfl (by rw [hiW]; simp [hsW]) rfl (one_W (V := V0) (W := W0) hR.out.o.on (fun r hr => List.mem_append_right _ hr)) ?_
    intro g19 hR'
    have hR : Hid (Rs w2 w2.heap.size g19 ([rB kz 40 [V0.g, V0.f, V0.t, V0.r]] ++ (rW V0 W0))) := hR'
    clear hR'; refine hK.out _ _ ?_ (fun hHeld => ?_)
    ·
     exact (k4 hR K0 K1 K2 K3 q0 q1 q2 q3 :)
    clear hK K; try simp only [zs]
    refine wpr 15 13 ?_; simp only [zs]; refine wpAnyH_done (by kernel_rfl) ?_ _
    clear hHeld; go_wp2_with fail; go_meet; exact ⟨kz, V0, W0, c0, rfl, rfl, HF0.out, HSR.out, hR.out⟩
   refine AllReadyH.cons rfl (fun K hK => ?_) AllReadyH.nil
   refine step_boxB [] [] hR.out rfl (d0 := (some 12)) rfl 40 hiW hzW rfl ?_
   intro kz g20 hb hR'
   have hR : Hid (Rs w2 w2.heap.size g20 [rB kz 40 [.slice none 0 0, .slice none 0 0, .slice none 0 0, .slice none 0 0]]) := hR'
   have D3 : Hid (Decls g20 (some ⟨a3, 0, none⟩) A ∧ Decls g20 (some ⟨b3, 0, none⟩) B ∧ Decls g20 (some ⟨d3, 0, none⟩) C) := Hid.mk' (⟨D3.out.1.later hb, D3.out.2.1.later hb, D3.out.2.2.later hb⟩)
   clear hR' hb; refine hK.out _ _ ?_ (fun hHeld => ?_)
   ·
    exact (k4 hR K0 K1 K2 K3 q0 q1 q2 q3 :)
   clear hK K; try simp only [zs]
   refine wpy 3 fun K hK => ?_
   go_simp; refine (toWorld_made i1 i2 i3 i4 j1 j2 j3 j4 W 0 _ (HW.out.later (bl_transG LX.out hR.out bX)) HK.out).mono ?_
   rintro z g21 ⟨⟨m4, n4, o4, p4, rfl, hE4⟩, hb⟩
   have hR : Hid (Rs w2 w2.heap.size g21 [rB kz 40 [.slice none 0 0, .slice none 0 0, .slice none 0 0, .slice none 0 0]]) := Hid.mk' (hR.out.later hb)
   have D3 : Hid (Decls g21 (some ⟨a3, 0, none⟩) A ∧ Decls g21 (some ⟨b3, 0, none⟩) B ∧ Decls g21 (some ⟨d3, 0, none⟩) C) := Hid.mk' (⟨D3.out.1.later hb, D3.out.2.1.later hb, D3.out.2.2.later hb⟩)
   have E4 : Hid (InW g21 0 (some ⟨m4, 0, none⟩) (some ⟨n4, 0, none⟩) (some ⟨o4, 0, none⟩) (some ⟨p4, 0, none⟩) W) := Hid.mk' (hE4.drop (Nat.zero_le _))
   clear hb; refine hK.out _ _ ?_ (fun hHeld => ?_)
   ·
    exact (k4 hR K0 K1 K2 K3 q0 q1 q2 q3 :)
   clear hK K; try simp only [zs]
   refine wpy 5 fun K hK => ?_
   go_simp; refine (toEnt_any e.1 e.2 _).mono ?_
   rintro z g22 ⟨rfl, hb⟩
   have hR : Hid (Rs w2 w2.heap.size g22 [rB kz 40 [.slice none 0 0, .slice none 0 0, .slice none 0 0, .slice none 0 0]]) := Hid.mk' (hR.out.later hb)
   have D3 : Hid (Decls g22 (some ⟨a3, 0, none⟩) A ∧ Decls g22 (some ⟨b3, 0, none⟩) B ∧ Decls g22 (some ⟨d3, 0, none⟩) C) := Hid.mk' (⟨D3.out.1.later hb, D3.out.2.1.later hb, D3.out.2.2.later hb⟩)
   have E4 : Hid (InW g22 0 (some ⟨m4, 0, none⟩) (some ⟨n4, 0, none⟩) (some ⟨o4, 0, none⟩) (some ⟨p4, 0, none⟩) W) := Hid.mk' (E4.out.later hb)
   clear hb; refine hK.out _ _ ?_ (fun hHeld => ?_)
   ·
    exact (k4 hR K0 K1 K2 K3 q0 q1 q2 q3 :)
   clear hK K; try simp only [zs]
   refine wpy 8 fun K hK => ?_
   go_simp; refine (toVal_any v.1 v.2.1 v.2.2.1 v.2.2.2 _).mono ?_
   rintro z g23 ⟨rfl, hb⟩
   have hR : Hid (Rs w2 w2.heap.size g23 [rB kz 40 [.slice none 0 0, .slice none 0 0, .slice none 0 0, .slice none 0 0]]) := Hid.mk' (hR.out.later hb)
   have D3 : Hid (Decls g23 (some ⟨a3, 0, none⟩) A ∧ Decls g23 (some ⟨b3, 0, none⟩) B ∧ Decls g23 (some ⟨d3, 0, none⟩) C) := Hid.mk' (⟨D3.out.1.later hb, D3.out.2.1.later hb, D3.out.2.2.later hb⟩)
   have E4 : Hid (InW g23 0 (some ⟨m4, 0, none⟩) (some ⟨n4, 0, none⟩) (some ⟨o4, 0, none⟩) (some ⟨p4, 0, none⟩) W) := Hid.mk' (E4.out.later hb)
   clear hb; refine hK.out _ _ ?_ (fun hHeld => ?_)
   ·
    exact (k4 hR K0 K1 K2 K3 q0 q1 q2 q3 :)
   clear hK K; try simp only [zs]
   refine wpy 9 fun K hK => ?_
   go_simp; refine (specPut_any a3 0 A.length b3 0 B.length d3 0 C.length A B C (some ⟨m4, 0, none⟩) (some ⟨n4, 0, none⟩) (some ⟨o4, 0, none⟩) (some ⟨p4, 0, none⟩) W.gens.length W.free.length W.tabs.length W.res.length W e comp v _ D3.out.1 D3.out.2.1 D3.out.2.2 E4.out HK.out OV.out).mono ?_
   rintro z g24 ⟨V0, W0, c0, rfl, hOW, hSR, hb⟩
   have hO := hOW.own
   have HF0 : Hid (OWf V0 W0) := hOW.f
   have HSR : Hid (PutR A B C W e comp v W0 c0) := hSR
   clear hOW hSR; have hR : Hid (Rs w2 w2.heap.size g24 ([rB kz 40 [.slice none 0 0, .slice none 0 0, .slice none 0 0, .slice none 0 0]] ++ (rW V0 W0))) := Hid.mk' (hR.out.insE [rB kz 40 [.slice none 0 0, .slice none 0 0, .slice none 0 0, .slice none 0 0]] (rW V0 W0) hb hO)
   clear hb hO; refine hK.out _ _ ?_ (fun hHeld => ?_)
   ·
    exact (k4 hR K0 K1 K2 K3 q0 q1 q2 q3 :)
   clear hK K; try simp only [zs]
   refine wpr 10 33 ?_; simp only [zs]; refine wpr 11 44 ?_; simp only [zs]; refine wpr 12 45 ?_; simp only [zs]; refine wpy 14 fun K hK => ?_
   refine step_put [] (rW V0 W0) hR.out rfl (d0 := none) rfl (.tmp 12) (.tmp 44) rfl [V0.g, V0.f, V0.t, V0.r] rfl rfl (by rw [hiW]; simp [hsW]) rfl (one_W (V := V0) (W := W0) hR.out.o.on (fun r hr => List.mem_append_right _ hr)) ?_
   intro g25 hR'
   have hR : Hid (Rs w2 w2.heap.size g25 ([rB kz 40 [V0.g, V0.f, V0.t, V0.r]] ++ (rW V0 W0))) := hR'
   clear hR'; refine hK.out _ _ ?_ (fun hHeld => ?_)
   ·
    exact (k4 hR K0 K1 K2 K3 q0 q1 q2 q3 :)
   clear hK K; try simp only [zs]
   refine wpr 15 13 ?_; simp only [zs]; refine wpAnyH_done (by kernel_rfl) ?_ _
   clear hHeld; go_wp2_with fail; go_meet; exact ⟨kz, V0, W0, c0, rfl, rfl, HF0.out, HSR.out, hR.out⟩
  refine AllReadyH.cons rfl (fun K hK => ?_) AllReadyH.nil
  refine step_boxB [] [] hR.out rfl (d0 := (some 12)) rfl 40 hiW hzW rfl ?_
  intro kz g26 hb hR'
  have hR : Hid (Rs w2 w2.heap.size g26 [rB kz 40 [.slice none 0 0, .slice none 0 0, .slice none 0 0, .slice none 0 0]]) := hR'
  clear hR' hb; refine hK.out _ _ ?_ (fun hHeld => ?_)
  ·
   exact (k4 hR K0 K1 K2 K3 q0 q1 q2 q3 :)
  clear hK K; try simp only [zs]
  refine wpy 1 fun K hK => ?_
  go_simp; refine (toReg_any s1 s2 s3 c1 c2 c3 A B C _ (HD.out.1.later (bl_transG LX.out hR.out bX)) (HD.out.2.1.later (bl_transG LX.out hR.out bX)) (HD.out.2.2.later (bl_transG LX.out hR.out bX)) lA lB lC).mono ?_
  rintro z g27 ⟨⟨a3, b3, d3, rfl, dA3, dB3, dC3⟩, hb⟩
  have hR : Hid (Rs w2 w2.heap.size g27 [rB kz 40 [.slice none 0 0, .slice none 0 0, .slice none 0 0, .slice none 0 0]]) := Hid.mk' (hR.out.later hb)
  have D3 : Hid (Decls g27 (some ⟨a3, 0, none⟩) A ∧ Decls g27 (some ⟨b3, 0, none⟩) B ∧ Decls g27 (some ⟨d3, 0, none⟩) C) := Hid.mk' (⟨dA3, dB3, dC3⟩)
  clear hb; refine hK.out _ _ ?_ (fun hHeld => ?_)
  ·
   exact (k4 hR K0 K1 K2 K3 q0 q1 q2 q3 :)
  clear hK K; try simp only [zs]
  refine wpy 3 fun K hK => ?_
  go_simp; refine (toWorld_made i1 i2 i3 i4 j1 j2 j3 j4 W 0 _ (HW.out.later (bl_transG LX.out hR.out bX)) HK.out).mono ?_
  rintro z g28 ⟨⟨m4, n4, o4, p4, rfl, hE4⟩, hb⟩
  have hR : Hid (Rs w2 w2.heap.size g28 [rB kz 40 [.slice none 0 0, .slice none 0 0, .slice none 0 0, .slice none 0 0]]) := Hid.mk' (hR.out.later hb)
  have D3 : Hid (Decls g28 (some ⟨a3, 0, none⟩) A ∧ Decls g28 (some ⟨b3, 0, none⟩) B ∧ Decls g28 (some ⟨d3, 0, none⟩) C) := Hid.mk' (⟨D3.out.1.later hb, D3.out.2.1.later hb, D3.out.2.2.later hb⟩)
  have E4 : Hid (InW g28 0 (some ⟨m4, 0, none⟩) (some ⟨n4, 0, none⟩) (some ⟨o4, 0, none⟩) (some ⟨p4, 0, none⟩) W) := Hid.mk' (hE4.drop (Nat.zero_le _))
  clear hb; refine hK.out _ _ ?_ (fun hHeld => ?_)
  ·
   exact (k4 hR K0 K1 K2 K3 q0 q1 q2 q3 :)
  clear hK K; try simp only [zs]
  refine wpy 5 fun K hK => ?_
  go_simp; refine (toEnt_any e.1 e.2 _).mono ?_
  rintro z g29 ⟨rfl, hb⟩
  have hR : Hid (Rs w2 w2.heap.size g29 [rB kz 40 [.slice none 0 0, .slice none 0 0, .slice none 0 0, .slice none 0 0]]) := Hid.mk' (hR.out.later hb)
  have D3 : Hid (Decls g29 (some ⟨a3, 0, none⟩) A ∧ Decls g29 (some ⟨b3, 0, none⟩) B ∧ Decls g29 (some ⟨d3, 0, none⟩) C) := Hid.mk' (⟨D3.out.1.later hb, D3.out.2.1.later hb, D3.out.2.2.later hb⟩)
  have E4 : Hid (InW g29 0 (some ⟨m4, 0, none⟩) (some ⟨n4, 0, none⟩) (some ⟨o4, 0, none⟩) (some ⟨p4, 0, none⟩) W) := Hid.mk' (E4.out.later hb)
  clear hb; refine hK.out _ _ ?_ (fun hHeld => ?_)
  ·
   exact (k4 hR K0 K1 K2 K3 q0 q1 q2 q3 :)
  clear hK K; try simp only [zs]
  refine wpy 8 fun K hK => ?_
  go_simp; refine (toVal_any v.1 v.2.1 v.2.2.1 v.2.2.2 _).mono ?_
  rintro z g30 ⟨rfl, hb⟩
  have hR : Hid (Rs w2 w2.heap.size g30 [rB kz 40 [.slice none 0 0, .slice none 0 0, .slice none 0 0, .slice none 0 0]]) := Hid.mk' (hR.out.later hb)
  have D3 : Hid (Decls g30 (some ⟨a3, 0, none⟩) A ∧ Decls g30 (some ⟨b3, 0, none⟩) B ∧ Decls g30 (some ⟨d3, 0, none⟩) C) := Hid.mk' (⟨D3.out.1.later hb, D3.out.2.1.later hb, D3.out.2.2.later hb⟩)
  have E4 : Hid (InW g30 0 (some ⟨m4, 0, none⟩) (some ⟨n4, 0, none⟩) (some ⟨o4, 0, none⟩) (some ⟨p4, 0, none⟩) W) := Hid.mk' (E4.out.later hb)
  clear hb; refine hK.out _ _ ?_ (fun hHeld => ?_)
  ·
   exact (k4 hR K0 K1 K2 K3 q0 q1 q2 q3 :)
  clear hK K; try simp only [zs]
  refine wpy 9 fun K hK => ?_
  go_simp; refine (specPut_any a3 0 A.length b3 0 B.length d3 0 C.length A B C (some ⟨m4, 0, none⟩) (some ⟨n4, 0, none⟩) (some ⟨o4, 0, none⟩) (some ⟨p4, 0, none⟩) W.gens.length W.free.length W.tabs.length W.res.length W e comp v _ D3.out.1 D3.out.2.1 D3.out.2.2 E4.out HK.out OV.out).mono ?_
  rintro z g31 ⟨V0, W0, c0, rfl, hOW, hSR, hb⟩
  have hO := hOW.own
  have HF0 : Hid (OWf V0 W0) := hOW.f
  have HSR : Hid (PutR A B C W e comp v W0 c0) := hSR
  clear hOW hSR; have hR : Hid (Rs w2 w2.heap.size g31 ([rB kz 40 [.slice none 0 0, .slice none 0 0, .slice none 0 0, .slice none 0 0]] ++ (rW V0 W0))) := Hid.mk' (hR.out.insE [rB kz 40 [.slice none 0 0, .slice none 0 0, .slice none 0 0, .slice none 0 0]] (rW V0 W0) hb hO)
  clear hb hO; refine hK.out _ _ ?_ (fun hHeld => ?_)
  ·
   exact (k4 hR K0 K1 K2 K3 q0 q1 q2 q3 :)
  clear hK K; try simp only [zs]
  refine wpr 10 33 ?_; simp only [zs]; refine wpr 11 44 ?_; simp only [zs]; refine wpr 12 45 ?_; simp only [zs]; refine wpy 14 fun K hK => ?_
  refine step_put [] (rW V0 W0) hR.out rfl (d0 := none) rfl (.tmp 12) (.tmp 44) rfl [V0.g, V0.f, V0.t, V0.r] rfl rfl (by rw [hiW]; simp [hsW]) rfl (one_W (V := V0) (W := W0) hR.out.o.on (fun r hr => List.mem_append_right _ hr)) ?_
  intro g32 hR'
  have hR : Hid (Rs w2 w2.heap.size g32 ([rB kz 40 [V0.g, V0.f, V0.t, V0.r]] ++ (rW V0 W0))) := hR'
  clear hR'; refine hK.out _ _ ?_ (fun hHeld => ?_)
  ·
   exact (k4 hR K0 K1 K2 K3 q0 q1 q2 q3 :)
  clear hK K; try simp only [zs]
  refine wpr 15 13 ?_; simp only [zs]; refine wpAnyH_done (by kernel_rfl) ?_ _
  clear hHeld; go_wp2_with fail; go_meet; exact ⟨kz, V0, W0, c0, rfl, rfl, HF0.out, HSR.out, hR.out⟩
 obtain ⟨kz, V0, W0, c0, rfl, rfl, hF0, hS0, hR0⟩ := hcut
 obtain ⟨wz, hwz⟩ : ∃ wz, wz = wc := ⟨_, rfl⟩
 rw [← hwz] at hR0 ⊢
 clear hR q0 q1 q2 q3 bX hwz; have hL2 := hR0.l
 have Z0 : Hid (Blk wz (w.heap.size) #[.slice s1 A.length c1, .slice s2 B.length c2, .slice s3 C.length c3] 24) := K0.out.later hL2
 have Z1 : Hid (Blk wz (w.heap.size + 1) #[.slice i1 W.gens.length j1, .slice i2 W.free.length j2, .slice i3 W.tabs.length j3, .slice i4 W.res.length j4] 31) := K1.out.later hL2
 have Z2 : Hid (Blk wz (w.heap.size + 1 + 1) #[.int .i64 e.1, .int .i64 e.2] 33) := K2.out.later hL2
 have Z3 : Hid (Blk wz (w.heap.size + 1 + 1 + 1) #[.int .i64 v.1, .int .i64 v.2.1, .float .f64 v.2.2.1, .float .f64 v.2.2.2] 57) := K3.out.later hL2
 have LAz : Hid (Below w.heap.size w wz) := bl_trans LX.out hL2
 have szz : Hid (w.heap.size ≤ wz.heap.size) := LAz.out.size
 have HF0 := Hid.mk' hF0
 have HS0 := Hid.mk' hS0
 have HK0 := Hid.mk' (hS0.kW HK.out)
 have H0z : Hid (Owns wz w2.heap.size (rB kz 40 [V0.g, V0.f, V0.t, V0.r] :: rW V0 W0)) := hR0.o
 clear hF0 hS0 hR0 hL2 LX K0 K1 K2 K3; obtain ⟨x0, x1, x2, x3⟩ := Z0.out.three'
 go_wp2_with fail; refine (toReg_dd s1 s2 s3 c1 c2 c3 A B C _ (HD.out.1.later LAz.out) (HD.out.2.1.later LAz.out) (HD.out.2.2.later LAz.out) lA lB lC).mono ?_
 rintro r w6 ⟨⟨a6, b6, d6, rfl, dA6, dB6, dC6, la6, lb6, ld6, nab, nad, nbd⟩, hb6⟩
 have LZ : Hid (Below wz.heap.size wz (w6.alloc (.cells #[.slice (some ⟨a6, 0, none⟩) A.length A.length, .slice (some ⟨b6, 0, none⟩) B.length B.length, .slice (some ⟨d6, 0, none⟩) C.length C.length] 45))) := bl_alloc hb6 _
 have ha6 : Below w6.heap.size w6 (w6.alloc (.cells #[.slice (some ⟨a6, 0, none⟩) A.length A.length, .slice (some ⟨b6, 0, none⟩) B.length B.length, .slice (some ⟨d6, 0, none⟩) C.length C.length] 45)) := bl_alloc (Below.refl _ _) _
 have D6 : Hid (DD (w6.alloc (.cells #[.slice (some ⟨a6, 0, none⟩) A.length A.length, .slice (some ⟨b6, 0, none⟩) B.length B.length, .slice (some ⟨d6, 0, none⟩) C.length C.length] 45)) a6 A ∧ DD (w6.alloc (.cells #[.slice (some ⟨a6, 0, none⟩) A.length A.length, .slice (some ⟨b6, 0, none⟩) B.length B.length, .slice (some ⟨d6, 0, none⟩) C.length C.length] 45)) b6 B ∧ DD (w6.alloc (.cells #[.slice (some ⟨a6, 0, none⟩) A.length A.length, .slice (some ⟨b6, 0, none⟩) B.length B.length, .slice (some ⟨d6, 0, none⟩) C.length C.length] 45)) d6 C) := ⟨dA6.later ha6, dB6.later ha6, dC6.later ha6⟩
 have KR : Hid (Blk (w6.alloc (.cells #[.slice (some ⟨a6, 0, none⟩) A.length A.length, .slice (some ⟨b6, 0, none⟩) B.length B.length, .slice (some ⟨d6, 0, none⟩) C.length C.length] 45)) w6.heap.size #[.slice (some ⟨a6, 0, none⟩) A.length A.length, .slice (some ⟨b6, 0, none⟩) B.length B.length, .slice (some ⟨d6, 0, none⟩) C.length C.length] 45) := Blk.new w6 _ _
 have sz6 : Hid (a6 < w6.heap.size ∧ b6 < w6.heap.size ∧ d6 < w6.heap.size) := ⟨dA6.2.lt, dB6.2.lt, dC6.2.lt⟩
 have szl : Hid (wz.heap.size ≤ a6 ∧ wz.heap.size ≤ b6 ∧ wz.heap.size ≤ d6) := ⟨la6, lb6, ld6⟩
 clear dA6 dB6 dC6 hb6 ha6 x0 x1 x2 x3 la6 lb6 ld6; have K1 : Hid (Blk (w6.alloc (.cells #[.slice (some ⟨a6, 0, none⟩) A.length A.length, .slice (some ⟨b6, 0, none⟩) B.length B.length, .slice (some ⟨d6, 0, none⟩) C.length C.length] 45)) (w.heap.size + 1) #[.slice i1 W.gens.length j1, .slice i2 W.free.length j2, .slice i3 W.tabs.length j3, .slice i4 W.res.length j4] 31) := Z1.out.later LZ.out
 obtain ⟨y0, y1, y2, y3, y4⟩ := K1.out.four'
 go_wp2_with fail; generalize hX6 : w6.alloc (.cells #[.slice (some ⟨a6, 0, none⟩) A.length A.length, .slice (some ⟨b6, 0, none⟩) B.length B.length, .slice (some ⟨d6, 0, none⟩) C.length C.length] 45) = X6 at LZ D6 KR K1 y0 y1 y2 y3 y4 ⊢
 generalize hkr : w6.heap.size = kr at KR sz6 ⊢
 have krl : Hid (kr < X6.heap.size) := KR.out.lt
 clear hX6 hkr K1; refine (toWorld_made i1 i2 i3 i4 j1 j2 j3 j4 W 0 _ (HW.out.later (bl_trans LAz.out LZ.out)) HK.out).mono ?_
 rintro r w7 ⟨⟨m7, n7, o7, p7, rfl, hE7⟩, hb7⟩
 have hc7 : Below X6.heap.size X6 (w7.alloc (.cells #[.slice (some ⟨m7, 0, none⟩) W.gens.length W.gens.length, .slice (some ⟨n7, 0, none⟩) W.free.length W.free.length, .slice (some ⟨o7, 0, none⟩) W.tabs.length W.tabs.length, .slice (some ⟨p7, 0, none⟩) W.res.length W.res.length] 40)) := bl_alloc hb7 _
 have ha7 : Below w7.heap.size w7 (w7.alloc (.cells #[.slice (some ⟨m7, 0, none⟩) W.gens.length W.gens.length, .slice (some ⟨n7, 0, none⟩) W.free.length W.free.length, .slice (some ⟨o7, 0, none⟩) W.tabs.length W.tabs.length, .slice (some ⟨p7, 0, none⟩) W.res.length W.res.length] 40)) := bl_alloc (Below.refl _ _) _
 have szx : Hid (wz.heap.size ≤ X6.heap.size) := LZ.out.size
 have LZ : Hid (Below wz.heap.size wz (w7.alloc (.cells #[.slice (some ⟨m7, 0, none⟩) W.gens.length W.gens.length, .slice (some ⟨n7, 0, none⟩) W.free.length W.free.length, .slice (some ⟨o7, 0, none⟩) W.tabs.length W.tabs.length, .slice (some ⟨p7, 0, none⟩) W.res.length W.res.length] 40))) := bl_trans LZ.out hc7
 have D7 : Hid (DD (w7.alloc (.cells #[.slice (some ⟨m7, 0, none⟩) W.gens.length W.gens.length, .slice (some ⟨n7, 0, none⟩) W.free.length W.free.length, .slice (some ⟨o7, 0, none⟩) W.tabs.length W.tabs.length, .slice (some ⟨p7, 0, none⟩) W.res.length W.res.length] 40)) a6 A ∧ DD (w7.alloc (.cells #[.slice (some ⟨m7, 0, none⟩) W.gens.length W.gens.length, .slice (some ⟨n7, 0, none⟩) W.free.length W.free.length, .slice (some ⟨o7, 0, none⟩) W.tabs.length W.tabs.length, .slice (some ⟨p7, 0, none⟩) W.res.length W.res.length] 40)) b6 B ∧ DD (w7.alloc (.cells #[.slice (some ⟨m7, 0, none⟩) W.gens.length W.gens.length, .slice (some ⟨n7, 0, none⟩) W.free.length W.free.length, .slice (some ⟨o7, 0, none⟩) W.tabs.length W.tabs.length, .slice (some ⟨p7, 0, none⟩) W.res.length W.res.length] 40)) d6 C) := ⟨D6.out.1.later hc7, D6.out.2.1.later hc7, D6.out.2.2.later hc7⟩
 have KR : Hid (Blk (w7.alloc (.cells #[.slice (some ⟨m7, 0, none⟩) W.gens.length W.gens.length, .slice (some ⟨n7, 0, none⟩) W.free.length W.free.length, .slice (some ⟨o7, 0, none⟩) W.tabs.length W.tabs.length, .slice (some ⟨p7, 0, none⟩) W.res.length W.res.length] 40)) kr #[.slice (some ⟨a6, 0, none⟩) A.length A.length, .slice (some ⟨b6, 0, none⟩) B.length B.length, .slice (some ⟨d6, 0, none⟩) C.length C.length] 45) := KR.out.later hc7
 have KW : Hid (Blk (w7.alloc (.cells #[.slice (some ⟨m7, 0, none⟩) W.gens.length W.gens.length, .slice (some ⟨n7, 0, none⟩) W.free.length W.free.length, .slice (some ⟨o7, 0, none⟩) W.tabs.length W.tabs.length, .slice (some ⟨p7, 0, none⟩) W.res.length W.res.length] 40)) w7.heap.size #[.slice (some ⟨m7, 0, none⟩) W.gens.length W.gens.length, .slice (some ⟨n7, 0, none⟩) W.free.length W.free.length, .slice (some ⟨o7, 0, none⟩) W.tabs.length W.tabs.length, .slice (some ⟨p7, 0, none⟩) W.res.length W.res.length] 40) := Blk.new w7 _ _
 have E7 : Hid (InW (w7.alloc (.cells #[.slice (some ⟨m7, 0, none⟩) W.gens.length W.gens.length, .slice (some ⟨n7, 0, none⟩) W.free.length W.free.length, .slice (some ⟨o7, 0, none⟩) W.tabs.length W.tabs.length, .slice (some ⟨p7, 0, none⟩) W.res.length W.res.length] 40)) X6.heap.size (some ⟨m7, 0, none⟩) (some ⟨n7, 0, none⟩) (some ⟨o7, 0, none⟩) (some ⟨p7, 0, none⟩) W) := hE7.later ha7
 have F7 : Hid (InW w7 X6.heap.size (some ⟨m7, 0, none⟩) (some ⟨n7, 0, none⟩) (some ⟨o7, 0, none⟩) (some ⟨p7, 0, none⟩) W) := hE7
 have LW7 : Hid (Below w7.heap.size w7 (w7.alloc (.cells #[.slice (some ⟨m7, 0, none⟩) W.gens.length W.gens.length, .slice (some ⟨n7, 0, none⟩) W.free.length W.free.length, .slice (some ⟨o7, 0, none⟩) W.tabs.length W.tabs.length, .slice (some ⟨p7, 0, none⟩) W.res.length W.res.length] 40))) := ha7
 have szr : Hid (X6.heap.size ≤ w7.heap.size) := hb7.size
 clear hE7 hb7 ha7 hc7 D6 y0 y1 y2 y3 y4; go_wp2_with fail; generalize hX7 : w7.alloc (.cells #[.slice (some ⟨m7, 0, none⟩) W.gens.length W.gens.length, .slice (some ⟨n7, 0, none⟩) W.free.length W.free.length, .slice (some ⟨o7, 0, none⟩) W.tabs.length W.tabs.length, .slice (some ⟨p7, 0, none⟩) W.res.length W.res.length] 40) = X7 at LZ D7 KR KW E7 LW7 ⊢
 generalize hkw : w7.heap.size = kw at KW ⊢
 have hkw := Hid.mk' hkw
 clear hX7; have K2 : Hid (Blk X7 (w.heap.size + 1 + 1) #[.int .i64 e.1, .int .i64 e.2] 33) := Z2.out.later LZ.out
 have K3 : Hid (Blk X7 (w.heap.size + 1 + 1 + 1) #[.int .i64 v.1, .int .i64 v.2.1, .float .f64 v.2.2.1, .float .f64 v.2.2.2] 57) := Z3.out.later LZ.out
 have qr : kr < X7.heap.size := KR.out.lt
 have qw : kw < X7.heap.size := KW.out.lt
 have QW := Hid.mk' qw
 have q2 : w.heap.size + 1 + 1 < X7.heap.size := K2.out.lt
 have q3 : w.heap.size + 1 + 1 + 1 < X7.heap.size := K3.out.lt
 have hR := Hid.mk' (Rs.nil X7)
 go_cut [16, 17] (fun p0 p1 wx => ∃ (kg : Nat) (V1 : WV) (W1 : Wd) (c1x : Int), p0 = .pointer (some ⟨kg, 0, none⟩) ∧ p1 = .int .i64 c1x ∧ OWf V1 W1 ∧ PutR A B C W e comp v W1 c1x ∧ Rs X7 X7.heap.size wx (rB kg 40 [V1.g, V1.f, V1.t, V1.r] :: rW V1 W1))
 case first =>
  refine wp_region_held_drew (S := (fun w' => Blk w' kr #[.slice (some ⟨a6, 0, none⟩) A.length A.length, .slice (some ⟨b6, 0, none⟩) B.length B.length, .slice (some ⟨d6, 0, none⟩) C.length C.length] 45 ∧ Blk w' kw #[.slice (some ⟨m7, 0, none⟩) W.gens.length W.gens.length, .slice (some ⟨n7, 0, none⟩) W.free.length W.free.length, .slice (some ⟨o7, 0, none⟩) W.tabs.length W.tabs.length, .slice (some ⟨p7, 0, none⟩) W.res.length W.res.length] 40 ∧ Blk w' (w.heap.size + 1 + 1) #[.int .i64 e.1, .int .i64 e.2] 33 ∧ Blk w' (w.heap.size + 1 + 1 + 1) #[.int .i64 v.1, .int .i64 v.2.1, .float .f64 v.2.2.1, .float .f64 v.2.2.2] 57)) (by kernel_rfl) ?_ (fun hHeld => ?_)
  ·
   exact (k4 hR KR KW K2 K3 qr qw q2 q3 :)
  have hR := Hid.mk' hR.out.drew
  refine wpq (v := ?_) 0 51 rfl rfl ?_ ?_
  rotate_left 1
  ·
   intro w hSw; (try dsimp only at hSw); obtain ⟨h0, h1, h2, h3⟩ := hSw; obtain ⟨x0, x1, x2, x3⟩ := h0.three'; go_simp <;> with_reducible rfl
  simp only [zs]; refine wpq (v := ?_) 1 52 rfl rfl ?_ ?_
  rotate_left 1
  ·
   intro w hSw; (try dsimp only at hSw); obtain ⟨h0, h1, h2, h3⟩ := hSw; obtain ⟨x0, x1, x2, x3, x4⟩ := h1.four'; go_simp <;> with_reducible rfl
  simp only [zs]; refine wpq (v := ?_) 2 53 rfl rfl ?_ ?_
  rotate_left 1
  ·
   intro w hSw; (try dsimp only at hSw); obtain ⟨h0, h1, h2, h3⟩ := hSw; obtain ⟨x0, x1, x2⟩ := h2.two; go_simp <;> with_reducible rfl
  simp only [zs]; refine wpr 4 55 ?_; simp only [zs]; refine wpq (v := ?_) 5 56 rfl rfl ?_ ?_
  rotate_left 1
  ·
   intro w hSw; (try dsimp only at hSw); obtain ⟨h0, h1, h2, h3⟩ := hSw; obtain ⟨x0, x1, x2, x3, x4⟩ := h3.four'; go_simp <;> with_reducible rfl
  simp only [zs]; refine wpAnyH_ready (rs := [3, 11]) (by kernel_rfl) (by simp) ?_
  refine AllReadyH.cons rfl (fun K hK => ?_) ?_
  ·
   skip
   go_simp; refine (toEnt_any e.1 e.2 _).mono ?_
   rintro z g1 ⟨rfl, hb⟩
   have hR : Hid (Rs X7 X7.heap.size g1 []) := Hid.mk' (hR.out.later hb)
   clear hb; refine hK.out _ _ ?_ (fun hHeld => ?_)
   ·
    exact (k4 hR KR KW K2 K3 qr qw q2 q3 :)
   clear hK K; try simp only [zs]
   refine wpAnyH_ready (rs := [6, 11]) (by kernel_rfl) (by simp) ?_
   refine AllReadyH.cons rfl (fun K hK => ?_) ?_
   ·
    skip
    go_simp; refine (toVal_any v.1 v.2.1 v.2.2.1 v.2.2.2 _).mono ?_
    rintro z g2 ⟨rfl, hb⟩
    have hR : Hid (Rs X7 X7.heap.size g2 []) := Hid.mk' (hR.out.later hb)
    clear hb; refine hK.out _ _ ?_ (fun hHeld => ?_)
    ·
     exact (k4 hR KR KW K2 K3 qr qw q2 q3 :)
    clear hK K; try simp only [zs]
    refine wpAnyH_ready (rs := [7, 11]) (by kernel_rfl) (by simp) ?_
    refine AllReadyH.cons rfl (fun K hK => ?_) ?_
    ·
     skip
     go_simp; refine (implPut_any (some ⟨a6, 0, none⟩) (some ⟨b6, 0, none⟩) (some ⟨d6, 0, none⟩) A.length B.length C.length A B C (some ⟨m7, 0, none⟩) (some ⟨n7, 0, none⟩) (some ⟨o7, 0, none⟩) (some ⟨p7, 0, none⟩) W.gens.length W.free.length W.tabs.length W.res.length W e comp v _ (D7.out.1.1.later hR.out.l) (D7.out.2.1.1.later hR.out.l) (D7.out.2.2.1.later hR.out.l) NMH.out lA lB lC ((E7.out.later hR.out.l).drop (Nat.zero_le _)) HK.out (Nat.le_refl _) BR.out BE.out OV.out).mono ?_
     rintro z g3 ⟨V1, W1, c1x, rfl, hOW, hSR, hb⟩
     have hO := hOW.own
     have HF0 : Hid (OWf V1 W1) := hOW.f
     have HSR : Hid (PutR A B C W e comp v W1 c1x) := hSR
     clear hOW hSR; have hR : Hid (Rs X7 X7.heap.size g3 (rW V1 W1)) := Hid.mk' (hR.out.insE [] (rW V1 W1) hb hO)
     clear hb hO; refine hK.out _ _ ?_ (fun hHeld => ?_)
     ·
      exact (k4 hR KR KW K2 K3 qr qw q2 q3 :)
     clear hK K; try simp only [zs]
     refine wpr 8 50 ?_; simp only [zs]; refine wpr 9 59 ?_; simp only [zs]; refine wpr 10 60 ?_; simp only [zs]; refine wpy 11 fun K hK => ?_
     refine step_boxB [] (rW V1 W1) hR.out rfl (d0 := (some 16)) rfl 40 hiW hzW rfl ?_
     intro kg g4 hb hR'
     have hR : Hid (Rs X7 X7.heap.size g4 ([rB kg 40 [.slice none 0 0, .slice none 0 0, .slice none 0 0, .slice none 0 0]] ++ (rW V1 W1))) := hR'
     clear hR' hb; refine hK.out _ _ ?_ (fun hHeld => ?_)
     ·
      exact (k4 hR KR KW K2 K3 qr qw q2 q3 :)
     clear hK K; try simp only [zs]
     refine wpy 12 fun K hK => ?_
     refine step_put [] (rW V1 W1) hR.out rfl (d0 := none) rfl (.tmp 16) (.tmp 59) rfl [V1.g, V1.f, V1.t, V1.r] rfl rfl (by rw [hiW]; simp [hsW]) rfl (one_W (V := V1) (W := W1) hR.out.o.on (fun r hr => List.mem_append_right _ hr)) ?_
     intro g5 hR'
     have hR : Hid (Rs X7 X7.heap.size g5 ([rB kg 40 [V1.g, V1.f, V1.t, V1.r]] ++ (rW V1 W1))) := hR'
     clear hR'; refine hK.out _ _ ?_ (fun hHeld => ?_)
     ·
      exact (k4 hR KR KW K2 K3 qr qw q2 q3 :)
     clear hK K; try simp only [zs]
     refine wpr 13 17 ?_; simp only [zs]; refine wpAnyH_done (by kernel_rfl) ?_ _
     clear hHeld; go_wp2_with fail; go_meet; exact ⟨kg, V1, W1, c1x, rfl, rfl, HF0.out, HSR.out, hR.out⟩
    refine AllReadyH.cons rfl (fun K hK => ?_) AllReadyH.nil
    refine step_boxB [] [] hR.out rfl (d0 := (some 16)) rfl 40 hiW hzW rfl ?_
    intro kg g6 hb hR'
    have hR : Hid (Rs X7 X7.heap.size g6 [rB kg 40 [.slice none 0 0, .slice none 0 0, .slice none 0 0, .slice none 0 0]]) := hR'
    clear hR' hb; refine hK.out _ _ ?_ (fun hHeld => ?_)
    ·
     exact (k4 hR KR KW K2 K3 qr qw q2 q3 :)
    clear hK K; try simp only [zs]
    refine wpy 7 fun K hK => ?_
    go_simp; refine (implPut_any (some ⟨a6, 0, none⟩) (some ⟨b6, 0, none⟩) (some ⟨d6, 0, none⟩) A.length B.length C.length A B C (some ⟨m7, 0, none⟩) (some ⟨n7, 0, none⟩) (some ⟨o7, 0, none⟩) (some ⟨p7, 0, none⟩) W.gens.length W.free.length W.tabs.length W.res.length W e comp v _ (D7.out.1.1.later hR.out.l) (D7.out.2.1.1.later hR.out.l) (D7.out.2.2.1.later hR.out.l) NMH.out lA lB lC ((E7.out.later hR.out.l).drop (Nat.zero_le _)) HK.out (Nat.le_refl _) BR.out BE.out OV.out).mono ?_
    rintro z g7 ⟨V1, W1, c1x, rfl, hOW, hSR, hb⟩
    have hO := hOW.own
    have HF0 : Hid (OWf V1 W1) := hOW.f
    have HSR : Hid (PutR A B C W e comp v W1 c1x) := hSR
    clear hOW hSR; have hR : Hid (Rs X7 X7.heap.size g7 ([rB kg 40 [.slice none 0 0, .slice none 0 0, .slice none 0 0, .slice none 0 0]] ++ (rW V1 W1))) := Hid.mk' (hR.out.insE [rB kg 40 [.slice none 0 0, .slice none 0 0, .slice none 0 0, .slice none 0 0]] (rW V1 W1) hb hO)
    clear hb hO; refine hK.out _ _ ?_ (fun hHeld => ?_)
    ·
     exact (k4 hR KR KW K2 K3 qr qw q2 q3 :)
    clear hK K; try simp only [zs]
    refine wpr 8 50 ?_; simp only [zs]; refine wpr 9 59 ?_; simp only [zs]; refine wpr 10 60 ?_; simp only [zs]; refine wpy 12 fun K hK => ?_
    refine step_put [] (rW V1 W1) hR.out rfl (d0 := none) rfl (.tmp 16) (.tmp 59) rfl [V1.g, V1.f, V1.t, V1.r] rfl rfl (by rw [hiW]; simp [hsW]) rfl (one_W (V := V1) (W := W1) hR.out.o.on (fun r hr => List.mem_append_right _ hr)) ?_
    intro g8 hR'
    have hR : Hid (Rs X7 X7.heap.size g8 ([rB kg 40 [V1.g, V1.f, V1.t, V1.r]] ++ (rW V1 W1))) := hR'
    clear hR'; refine hK.out _ _ ?_ (fun hHeld => ?_)
    ·
     exact (k4 hR KR KW K2 K3 qr qw q2 q3 :)
    clear hK K; try simp only [zs]
    refine wpr 13 17 ?_; simp only [zs]; refine wpAnyH_done (by kernel_rfl) ?_ _
    clear hHeld; go_wp2_with fail; go_meet; exact ⟨kg, V1, W1, c1x, rfl, rfl, HF0.out, HSR.out, hR.out⟩
   refine AllReadyH.cons rfl (fun K hK => ?_) AllReadyH.nil
   refine step_boxB [] [] hR.out rfl (d0 := (some 16)) rfl 40 hiW hzW rfl ?_
   intro kg g9 hb hR'
   have hR : Hid (Rs X7 X7.heap.size g9 [rB kg 40 [.slice none 0 0, .slice none 0 0, .slice none 0 0, .slice none 0 0]]) := hR'
   clear hR' hb; refine hK.out _ _ ?_ (fun hHeld => ?_)
   ·
    exact (k4 hR KR KW K2 K3 qr qw q2 q3 :)
   clear hK K; try simp only [zs]
   refine wpy 6 fun K hK => ?_
   go_simp; refine (toVal_any v.1 v.2.1 v.2.2.1 v.2.2.2 _).mono ?_
   rintro z g10 ⟨rfl, hb⟩
   have hR : Hid (Rs X7 X7.heap.size g10 [rB kg 40 [.slice none 0 0, .slice none 0 0, .slice none 0 0, .slice none 0 0]]) := Hid.mk' (hR.out.later hb)
   clear hb; refine hK.out _ _ ?_ (fun hHeld => ?_)
   ·
    exact (k4 hR KR KW K2 K3 qr qw q2 q3 :)
   clear hK K; try simp only [zs]
   refine wpy 7 fun K hK => ?_
   go_simp; refine (implPut_any (some ⟨a6, 0, none⟩) (some ⟨b6, 0, none⟩) (some ⟨d6, 0, none⟩) A.length B.length C.length A B C (some ⟨m7, 0, none⟩) (some ⟨n7, 0, none⟩) (some ⟨o7, 0, none⟩) (some ⟨p7, 0, none⟩) W.gens.length W.free.length W.tabs.length W.res.length W e comp v _ (D7.out.1.1.later hR.out.l) (D7.out.2.1.1.later hR.out.l) (D7.out.2.2.1.later hR.out.l) NMH.out lA lB lC ((E7.out.later hR.out.l).drop (Nat.zero_le _)) HK.out (Nat.le_refl _) BR.out BE.out OV.out).mono ?_
   rintro z g11 ⟨V1, W1, c1x, rfl, hOW, hSR, hb⟩
   have hO := hOW.own
   have HF0 : Hid (OWf V1 W1) := hOW.f
   have HSR : Hid (PutR A B C W e comp v W1 c1x) := hSR
   clear hOW hSR; have hR : Hid (Rs X7 X7.heap.size g11 ([rB kg 40 [.slice none 0 0, .slice none 0 0, .slice none 0 0, .slice none 0 0]] ++ (rW V1 W1))) := Hid.mk' (hR.out.insE [rB kg 40 [.slice none 0 0, .slice none 0 0, .slice none 0 0, .slice none 0 0]] (rW V1 W1) hb hO)
   clear hb hO; refine hK.out _ _ ?_ (fun hHeld => ?_)
   ·
    exact (k4 hR KR KW K2 K3 qr qw q2 q3 :)
   clear hK K; try simp only [zs]
   refine wpr 8 50 ?_; simp only [zs]; refine wpr 9 59 ?_; simp only [zs]; refine wpr 10 60 ?_; simp only [zs]; refine wpy 12 fun K hK => ?_
   refine step_put [] (rW V1 W1) hR.out rfl (d0 := none) rfl (.tmp 16) (.tmp 59) rfl [V1.g, V1.f, V1.t, V1.r] rfl rfl (by rw [hiW]; simp [hsW]) rfl (one_W (V := V1) (W := W1) hR.out.o.on (fun r hr => List.mem_append_right _ hr)) ?_
   intro g12 hR'
   have hR : Hid (Rs X7 X7.heap.size g12 ([rB kg 40 [V1.g, V1.f, V1.t, V1.r]] ++ (rW V1 W1))) := hR'
   clear hR'; refine hK.out _ _ ?_ (fun hHeld => ?_)
   ·
    exact (k4 hR KR KW K2 K3 qr qw q2 q3 :)
   clear hK K; try simp only [zs]
   refine wpr 13 17 ?_; simp only [zs]; refine wpAnyH_done (by kernel_rfl) ?_ _
   clear hHeld; go_wp2_with fail; go_meet; exact ⟨kg, V1, W1, c1x, rfl, rfl, HF0.out, HSR.out, hR.out⟩
  refine AllReadyH.cons rfl (fun K hK => ?_) AllReadyH.nil
  refine step_boxB [] [] hR.out rfl (d0 := (some 16)) rfl 40 hiW hzW rfl ?_
  intro kg g13 hb hR'
  have hR : Hid (Rs X7 X7.heap.size g13 [rB kg 40 [.slice none 0 0, .slice none 0 0, .slice none 0 0, .slice none 0 0]]) := hR'
  clear hR' hb; refine hK.out _ _ ?_ (fun hHeld => ?_)
  ·
   exact (k4 hR KR KW K2 K3 qr qw q2 q3 :)
  clear hK K; try simp only [zs]
  refine wpy 3 fun K hK => ?_
  go_simp; refine (toEnt_any e.1 e.2 _).mono ?_
  rintro z g14 ⟨rfl, hb⟩
  have hR : Hid (Rs X7 X7.heap.size g14 [rB kg 40 [.slice none 0 0, .slice none 0 0, .slice none 0 0, .slice none 0 0]]) := Hid.mk' (hR.out.later hb)
  clear hb; refine hK.out _ _ ?_ (fun hHeld => ?_)
  ·
   exact (k4 hR KR KW K2 K3 qr qw q2 q3 :)
  clear hK K; try simp only [zs]
  refine wpy 6 fun K hK => ?_
  go_simp; refine (toVal_any v.1 v.2.1 v.2.2.1 v.2.2.2 _).mono ?_
  rintro z g15 ⟨rfl, hb⟩
  have hR : Hid (Rs X7 X7.heap.size g15 [rB kg 40 [.slice none 0 0, .slice none 0 0, .slice none 0 0, .slice none 0 0]]) := Hid.mk' (hR.out.later hb)
  clear hb; refine hK.out _ _ ?_ (fun hHeld => ?_)
  ·
   exact (k4 hR KR KW K2 K3 qr qw q2 q3 :)
  clear hK K; try simp only [zs]
  refine wpy 7 fun K hK => ?_
  go_simp; refine (implPut_any (some ⟨a6, 0, none⟩) (some ⟨b6, 0, none⟩) (some ⟨d6, 0, none⟩) A.length B.length C.length A B C (some ⟨m7, 0, none⟩) (some ⟨n7, 0, none⟩) (some ⟨o7, 0, none⟩) (some ⟨p7, 0, none⟩) W.gens.length W.free.length W.tabs.length W.res.length W e comp v _ (D7.out.1.1.later hR.out.l) (D7.out.2.1.1.later hR.out.l) (D7.out.2.2.1.later hR.out.l) NMH.out lA lB lC ((E7.out.later hR.out.l).drop (Nat.zero_le _)) HK.out (Nat.le_refl _) BR.out BE.out OV.out).mono ?_
  rintro z g16 ⟨V1, W1, c1x, rfl, hOW, hSR, hb⟩
  have hO := hOW.own
  have HF0 : Hid (OWf V1 W1) := hOW.f
  have HSR : Hid (PutR A B C W e comp v W1 c1x) := hSR
  clear hOW hSR; have hR : Hid (Rs X7 X7.heap.size g16 ([rB kg 40 [.slice none 0 0, .slice none 0 0, .slice none 0 0, .slice none 0 0]] ++ (rW V1 W1))) := Hid.mk' (hR.out.insE [rB kg 40 [.slice none 0 0, .slice none 0 0, .slice none 0 0, .slice none 0 0]] (rW V1 W1) hb hO)
  clear hb hO; refine hK.out _ _ ?_ (fun hHeld => ?_)
  ·
   exact (k4 hR KR KW K2 K3 qr qw q2 q3 :)
  clear hK K; try simp only [zs]
  refine wpr 8 50 ?_; simp only [zs]; refine wpr 9 59 ?_; simp only [zs]; refine wpr 10 60 ?_; simp only [zs]; refine wpy 12 fun K hK => ?_
  refine step_put [] (rW V1 W1) hR.out rfl (d0 := none) rfl (.tmp 16) (.tmp 59) rfl [V1.g, V1.f, V1.t, V1.r] rfl rfl (by rw [hiW]; simp [hsW]) rfl (one_W (V := V1) (W := W1) hR.out.o.on (fun r hr => List.mem_append_right _ hr)) ?_
  intro g17 hR'
  have hR : Hid (Rs X7 X7.heap.size g17 ([rB kg 40 [V1.g, V1.f, V1.t, V1.r]] ++ (rW V1 W1))) := hR'
  clear hR'; refine hK.out _ _ ?_ (fun hHeld => ?_)
  ·
   exact (k4 hR KR KW K2 K3 qr qw q2 q3 :)
  clear hK K; try simp only [zs]
  refine wpr 13 17 ?_; simp only [zs]; refine wpAnyH_done (by kernel_rfl) ?_ _
  clear hHeld; go_wp2_with fail; go_meet; exact ⟨kg, V1, W1, c1x, rfl, rfl, HF0.out, HSR.out, hR.out⟩
 obtain ⟨kg, V1, W1, c1x, rfl, rfl, hF1, hS1, hR1⟩ := hcut
 obtain ⟨rfl, rfl⟩ := HS0.out.same hS1
 have hl7 := hR1.l
 clear hR qr qw q2 q3 K2 K3; obtain ⟨wq, hwq⟩ : ∃ wq, wq = wc := ⟨_, rfl⟩
 rw [← hwq] at hR1 hl7 ⊢
 clear hwq; have LZ : Hid (Below wz.heap.size wz wq) := bl_trans LZ.out hl7
 have KR : Hid (Blk wq kr #[.slice (some ⟨a6, 0, none⟩) A.length A.length, .slice (some ⟨b6, 0, none⟩) B.length B.length, .slice (some ⟨d6, 0, none⟩) C.length C.length] 45) := KR.out.later hl7
 have KW : Hid (Blk wq kw #[.slice (some ⟨m7, 0, none⟩) W.gens.length W.gens.length, .slice (some ⟨n7, 0, none⟩) W.free.length W.free.length, .slice (some ⟨o7, 0, none⟩) W.tabs.length W.tabs.length, .slice (some ⟨p7, 0, none⟩) W.res.length W.res.length] 40) := KW.out.later hl7
 have L7 : Hid (Below X7.heap.size X7 wq) := hl7
 have HF1 := Hid.mk' hF1
 have H1 : Hid (Owns wq X7.heap.size (rB kg 40 [V1.g, V1.f, V1.t, V1.r] :: rW V1 W0)) := hR1.o
 have hcc : (c0 != c0) = false := by simp
 clear hF1 hS1 hR1 hl7; have H0 : Hid (Owns wq w2.heap.size (rB kz 40 [V0.g, V0.f, V0.t, V0.r] :: rW V0 W0)) := H0z.out.later LZ.out
 obtain ⟨x0, x1, x2, x3, x4⟩ := (show Blk wq kg #[V1.g, V1.f, V1.t, V1.r] 40 from rB_blk H1.out.head).four'
 obtain ⟨y0, y1, y2, y3, y4⟩ := (show Blk wq kz #[V0.g, V0.f, V0.t, V0.r] 40 from rB_blk H0.out.head).four'
 go_wp2_with fail; refine (eqW_own V1 V0 W0 _ _ _ H1.out.tail HF1.out H0.out.tail HF0.out HK0.out).mono ?_
 rintro r wr ⟨rfl, hbr⟩
 have LZ : Hid (Below wz.heap.size wz wr) := bl_trans LZ.out hbr
 have KR : Hid (Blk wr kr #[.slice (some ⟨a6, 0, none⟩) A.length A.length, .slice (some ⟨b6, 0, none⟩) B.length B.length, .slice (some ⟨d6, 0, none⟩) C.length C.length] 45) := KR.out.later hbr
 have KW : Hid (Blk wr kw #[.slice (some ⟨m7, 0, none⟩) W.gens.length W.gens.length, .slice (some ⟨n7, 0, none⟩) W.free.length W.free.length, .slice (some ⟨o7, 0, none⟩) W.tabs.length W.tabs.length, .slice (some ⟨p7, 0, none⟩) W.res.length W.res.length] 40) := KW.out.later hbr
 have L7 : Hid (Below X7.heap.size X7 wr) := bl_trans L7.out hbr
 have H1 : Hid (Owns wr X7.heap.size (rB kg 40 [V1.g, V1.f, V1.t, V1.r] :: rW V1 W0)) := H1.out.later hbr
 clear hbr x0 x1 x2 x3 x4 y0 y1 y2 y3 y4 H0; go_upto_region 14 with fail
 have K0 : Hid (Blk wr (w.heap.size) #[.slice s1 A.length c1, .slice s2 B.length c2, .slice s3 C.length c3] 24) := Z0.out.later LZ.out
 have qr : kr < wr.heap.size := KR.out.lt
 have q0 : w.heap.size < wr.heap.size := K0.out.lt
 have hR := Hid.mk' (Rs.nil wr)
 refine wp_region_held_drew (S := (fun w' => Blk w' kr #[.slice (some ⟨a6, 0, none⟩) A.length A.length, .slice (some ⟨b6, 0, none⟩) B.length B.length, .slice (some ⟨d6, 0, none⟩) C.length C.length] 45 ∧ Blk w' (w.heap.size) #[.slice s1 A.length c1, .slice s2 B.length c2, .slice s3 C.length c3] 24)) (by kernel_rfl) ?_ (fun hHeld => ?_)
 ·
  exact (k2 hR KR K0 qr q0 :)
 have hR := Hid.mk' hR.out.drew
 refine wpq (v := ?_) 0 70 rfl rfl ?_ ?_
 rotate_left 1
 ·
  intro w hSw; (try dsimp only at hSw); obtain ⟨h0, h1⟩ := hSw; obtain ⟨x0, x1, x2, x3⟩ := h0.three'; go_simp <;> with_reducible rfl
 simp only [zs]; refine wpq (v := ?_) 1 71 rfl rfl ?_ ?_
 rotate_left 1
 ·
  intro w hSw; (try dsimp only at hSw); obtain ⟨h0, h1⟩ := hSw; obtain ⟨x0, x1, x2, x3⟩ := h1.three'; go_simp <;> with_reducible rfl
 simp only [zs]; refine wpy 2 fun K hK => ?_
 go_simp; refine (toReg_any s1 s2 s3 c1 c2 c3 A B C _ (HD.out.1.later (bl_trans LAz.out (bl_trans LZ.out hR.out.l))) (HD.out.2.1.later (bl_trans LAz.out (bl_trans LZ.out hR.out.l))) (HD.out.2.2.later (bl_trans LAz.out (bl_trans LZ.out hR.out.l))) lA lB lC).mono ?_
 rintro z g1 ⟨⟨a8, b8, d8, rfl, dA8, dB8, dC8⟩, hb⟩
 have hR : Hid (Rs wr wr.heap.size g1 []) := Hid.mk' (hR.out.later hb)
 clear hb; refine hK.out _ _ ?_ (fun hHeld => ?_)
 ·
  exact (k2 hR KR K0 qr q0 :)
 clear hK K; try simp only [zs]
 refine wpy 3 fun K hK => ?_
 go_simp; refine (eqReg_same _ _ _ _ _ _ _ _ _ _ _ _ A B C _ (D7.out.1.1.later (bl_trans L7.out hR.out.l)) (D7.out.2.1.1.later (bl_trans L7.out hR.out.l)) (D7.out.2.2.1.later (bl_trans L7.out hR.out.l)) dA8 dB8 dC8 lA lB lC).mono ?_
 rintro z g2 ⟨rfl, hb⟩
 clear dA8 dB8 dC8; have hR : Hid (Rs wr wr.heap.size g2 []) := Hid.mk' (hR.out.later hb)
 clear hb; refine hK.out _ _ ?_ (fun hHeld => ?_)
 ·
  exact (k2 hR KR K0 qr q0 :)
 clear hK K; try simp only [zs]
 refine wpr 4 74 ?_; simp only [zs]; refine wpAnyH_done (by kernel_rfl) ?_ _
 have hl := hR.out.l
 obtain ⟨ws, hws⟩ : ∃ ws, ws = g2 := ⟨_, rfl⟩
 rw [← hws] at hl ⊢
 have LZ : Hid (Below wz.heap.size wz ws) := bl_trans LZ.out hl
 have KR : Hid (Blk ws kr #[.slice (some ⟨a6, 0, none⟩) A.length A.length, .slice (some ⟨b6, 0, none⟩) B.length B.length, .slice (some ⟨d6, 0, none⟩) C.length C.length] 45) := KR.out.later hl
 have KW : Hid (Blk ws kw #[.slice (some ⟨m7, 0, none⟩) W.gens.length W.gens.length, .slice (some ⟨n7, 0, none⟩) W.free.length W.free.length, .slice (some ⟨o7, 0, none⟩) W.tabs.length W.tabs.length, .slice (some ⟨p7, 0, none⟩) W.res.length W.res.length] 40) := KW.out.later hl
 have L7 : Hid (Below X7.heap.size X7 ws) := bl_trans L7.out hl
 have H1 : Hid (Owns ws X7.heap.size (rB kg 40 [V1.g, V1.f, V1.t, V1.r] :: rW V1 W0)) := H1.out.later hl
 clear hl hws hR hHeld qr q0 K0; go_upto_region 16 with fail
 have K1 : Hid (Blk ws (w.heap.size + 1) #[.slice i1 W.gens.length j1, .slice i2 W.free.length j2, .slice i3 W.tabs.length j3, .slice i4 W.res.length j4] 31) := Z1.out.later LZ.out
 have qw : kw < ws.heap.size := KW.out.lt
 have q1 : w.heap.size + 1 < ws.heap.size := K1.out.lt
 have hR := Hid.mk' (Rs.nil ws)
 refine wp_region_held_drew (S := (fun w' => Blk w' kw #[.slice (some ⟨m7, 0, none⟩) W.gens.length W.gens.length, .slice (some ⟨n7, 0, none⟩) W.free.length W.free.length, .slice (some ⟨o7, 0, none⟩) W.tabs.length W.tabs.length, .slice (some ⟨p7, 0, none⟩) W.res.length W.res.length] 40 ∧ Blk w' (w.heap.size + 1) #[.slice i1 W.gens.length j1, .slice i2 W.free.length j2, .slice i3 W.tabs.length j3, .slice i4 W.res.length j4] 31)) (by kernel_rfl) ?_ (fun hHeld => ?_)
 ·
  exact (k2 hR KW K1 qw q1 :)
 have hR := Hid.mk' hR.out.drew
 refine wpq (v := ?_) 0 75 rfl rfl ?_ ?_
 rotate_left 1
 ·
  intro w hSw; (try dsimp only at hSw); obtain ⟨h0, h1⟩ := hSw; obtain ⟨x0, x1, x2, x3, x4⟩ := h0.four'; go_simp <;> with_reducible rfl
 simp only [zs]; refine wpq (v := ?_) 1 76 rfl rfl ?_ ?_
 rotate_left 1
 ·
  intro w hSw; (try dsimp only at hSw); obtain ⟨h0, h1⟩ := hSw; obtain ⟨x0, x1, x2, x3, x4⟩ := h1.four'; go_simp <;> with_reducible rfl
 simp only [zs]; refine wpy 2 fun K hK => ?_
 go_simp; refine (toWorld_made i1 i2 i3 i4 j1 j2 j3 j4 W 0 _ (HW.out.later (bl_trans LAz.out (bl_trans LZ.out hR.out.l))) HK.out).mono ?_
 rintro z g1 ⟨⟨m9, n9, o9, p9, rfl, hE9⟩, hb⟩
 have hR : Hid (Rs ws ws.heap.size g1 []) := Hid.mk' (hR.out.later hb)
 clear hb; refine hK.out _ _ ?_ (fun hHeld => ?_)
 ·
  exact (k2 hR KW K1 qw q1 :)
 clear hK K; try simp only [zs]
 refine wpy 3 fun K hK => ?_
 go_simp; refine (eqWorld_gen _ _ _ _ _ _ _ _ _ _ _ _ _ _ _ _ W _ _ _ (E7.out.later (bl_trans L7.out hR.out.l)) hE9 HK.out).mono ?_
 rintro z g2 ⟨rfl, hb⟩
 clear hE9; have hR : Hid (Rs ws ws.heap.size g2 []) := Hid.mk' (hR.out.later hb)
 clear hb; refine hK.out _ _ ?_ (fun hHeld => ?_)
 ·
  exact (k2 hR KW K1 qw q1 :)
 clear hK K; try simp only [zs]
 refine wpr 4 79 ?_; simp only [zs]; refine wpAnyH_done (by kernel_rfl) ?_ _
 have hl := hR.out.l
 obtain ⟨wt, hwt⟩ : ∃ wt, wt = g2 := ⟨_, rfl⟩
 rw [← hwt] at hl ⊢
 have LZ : Hid (Below wz.heap.size wz wt) := bl_trans LZ.out hl
 have KR : Hid (Blk wt kr #[.slice (some ⟨a6, 0, none⟩) A.length A.length, .slice (some ⟨b6, 0, none⟩) B.length B.length, .slice (some ⟨d6, 0, none⟩) C.length C.length] 45) := KR.out.later hl
 have KW : Hid (Blk wt kw #[.slice (some ⟨m7, 0, none⟩) W.gens.length W.gens.length, .slice (some ⟨n7, 0, none⟩) W.free.length W.free.length, .slice (some ⟨o7, 0, none⟩) W.tabs.length W.tabs.length, .slice (some ⟨p7, 0, none⟩) W.res.length W.res.length] 40) := KW.out.later hl
 have L7 : Hid (Below X7.heap.size X7 wt) := bl_trans L7.out hl
 have H1 : Hid (Owns wt X7.heap.size (rB kg 40 [V1.g, V1.f, V1.t, V1.r] :: rW V1 W0)) := H1.out.later hl
 clear hl hwt hR hHeld qw q1 K1; obtain ⟨x0, x1, x2, x3⟩ := KR.out.three'
 go_wp2_with fail; refine (markReg_any a6 b6 d6 A.length B.length C.length _ _ _ _ (D7.out.1.2.later L7.out) (D7.out.2.1.2.later L7.out) (D7.out.2.2.2.later L7.out) lA lB lC nab nad nbd).mono ?_
 rintro r wm ⟨⟨k1, rfl, k10, k11⟩, szm, hbm, hkm⟩
 have hfar : Hid (∀ k, X6.heap.size ≤ k → k < wt.heap.size → wm.heap[k]? = wt.heap[k]?) := fun k h1 h2 => hkm k (by have := sz6.out; have := krl.out; omega) (by have := sz6.out; have := krl.out; omega) (by have := sz6.out; have := krl.out; omega) h2
 have LZ : Hid (Below wz.heap.size wz wm) := hbm wz _ szl.out.1 szl.out.2.1 szl.out.2.2 LZ.out
 have h67 : Hid (X6.heap.size ≤ X7.heap.size ∧ X6.heap.size ≤ kw) := by have h1 := LW7.out.size; have h2 := szr.out; have h3 := hkw.out; exact ⟨by omega, by omega⟩
 have H1 : Hid (Owns wm X7.heap.size (rB kg 40 [V1.g, V1.f, V1.t, V1.r] :: rW V1 W0)) := H1.out.kept ⟨szm, fun k h1 h2 => hfar.out k (Nat.le_trans h67.out.1 h1) h2⟩
 have KW : Hid (Blk wm kw #[.slice (some ⟨m7, 0, none⟩) W.gens.length W.gens.length, .slice (some ⟨n7, 0, none⟩) W.free.length W.free.length, .slice (some ⟨o7, 0, none⟩) W.tabs.length W.tabs.length, .slice (some ⟨p7, 0, none⟩) W.res.length W.res.length] 40) := KW.out.same' (hfar.out kw h67.out.2 KW.out.lt)
 have hK7 : Kept X6.heap.size w7 wm := by
  have h1 := LW7.out.size
  have h2 := L7.out.size
  refine ⟨by omega, fun k h3 h4 => ?_⟩
  rw [hfar.out k h3 (by omega), L7.out.block k (by omega), LW7.out.block k h4]
 have hMr := Mr.start2 hK7
 have hl6 : X6.heap.size ≤ wm.heap.size := by have h1 := L7.out.size; have h2 := h67.out.1; omega
 have hp6 : 0 < X6.heap.size := by have := krl.out; omega
 clear x0 x1 x2 x3 hbm hkm hK7 KR; obtain ⟨x0, x1, x2, x3, x4⟩ := KW.out.four'
 go_wp2_with fail; refine (markW_w X6.heap.size w7 wm (some ⟨m7, 0, none⟩) (some ⟨n7, 0, none⟩) (some ⟨o7, 0, none⟩) (some ⟨p7, 0, none⟩) W.gens.length W.free.length W.tabs.length W.res.length W k1 _ F7.out HK.out hp6 hl6 hMr k10 (by omega)).mono ?_
 rintro r wn ⟨⟨k2, rfl, k20, k21⟩, hM2⟩
 have LZ : Hid (Below wz.heap.size wz wn) := LZ.out.trans (hM2.be.mono szx.out)
 have hsn : wm.heap.size ≤ wn.heap.size := hM2.be.size
 have H1 : Hid (Owns wn X7.heap.size (rB kg 40 [V1.g, V1.f, V1.t, V1.r] :: rW V1 W0)) := H1.out.kept ⟨hsn, fun k h1 h2 => hM2.out k (by have h3 := QW.out; have h4 := hkw.out; omega) h2⟩
 have k2n : ¬ (k2 < 0) := by omega
 have k2d : decide (k2 < 0) = false := by simp; omega
 clear hM2 hMr x0 x1 x2 x3 x4 KW hfar szm hsn hl6 hp6 L7; have H0 : Hid (Owns wn w2.heap.size (rB kz 40 [V0.g, V0.f, V0.t, V0.r] :: rW V0 W0)) := H0z.out.later LZ.out
 obtain ⟨x0, x1, x2, x3, x4⟩ := (show Blk wn kg #[V1.g, V1.f, V1.t, V1.r] 40 from rB_blk H1.out.head).four'
 obtain ⟨y0, y1, y2, y3, y4⟩ := (show Blk wn kz #[V0.g, V0.f, V0.t, V0.r] 40 from rB_blk H0.out.head).four'
 go_wp2_with fail; refine (eqW_own V1 V0 W0 _ _ _ H1.out.tail HF1.out H0.out.tail HF0.out HK0.out).mono ?_
 rintro r wo ⟨rfl, hbo⟩
 have LZ : Hid (Below wz.heap.size wz wo) := bl_trans LZ.out hbo
 have H1 : Hid (Owns wo X7.heap.size (rB kg 40 [V1.g, V1.f, V1.t, V1.r] :: rW V1 W0)) := H1.out.later hbo
 clear hbo x0 x1 x2 x3 x4 y0 y1 y2 y3 y4 H0; obtain ⟨x0, x1, x2, x3, x4⟩ := (show Blk wo kg #[V1.g, V1.f, V1.t, V1.r] 40 from rB_blk H1.out.head).four'
 have h7o : Hid (X7.heap.size ≤ wo.heap.size) := by have h1 := (H1.out.head.lt kg rfl); show _ ≤ _; omega
 go_wp2_with fail; refine (markW_r wo X7.heap.size [rB kg 40 [V1.g, V1.f, V1.t, V1.r]] V1 W0 _ (Rs.start H1.out h7o.out) HF1.out HK0.out).mono ?_
 rintro r wp ⟨rfl, hRp, hFp⟩
 have szx7 : Hid (wz.heap.size ≤ X7.heap.size) := Nat.le_trans szx.out h67.out.1
 have LZ : Hid (Below wz.heap.size wz wp) := LZ.out.trans (hRp.l.mono szx7.out)
 have H1 : Hid (Owns wp X7.heap.size (rB kg 40 [V1.g, V1.f, V1.t, V1.r] :: rW V1 (wW 1 W0))) := hRp.o
 have HFp := Hid.mk' hFp
 have hcn : 0 ≤ cW W0 := by have := cTs_nn W0.tabs; unfold cW; omega
 have hc9 : ¬ (1 + cW W0 < 0) := by omega
 have hc8 : ((1 + cW W0) != (1 + cW W0)) = false := by simp
 clear hRp hFp x0 x1 x2 x3 x4; obtain ⟨x0, x1, x2, x3, x4⟩ := (show Blk wp kg #[V1.g, V1.f, V1.t, V1.r] 40 from rB_blk H1.out.head).four'
 go_wp2_with fail; refine (heldW_o X7.heap.size V1 W0 _ (HFp.out.ow H1.out.tail) HK0.out).mono ?_
 rintro r w31 ⟨rfl, hb31⟩
 have LZ : Hid (Below wz.heap.size wz w31) := bl_trans LZ.out hb31
 have H1 : Hid (Owns w31 X7.heap.size (rB kg 40 [V1.g, V1.f, V1.t, V1.r] :: rW V1 (wW 1 W0))) := H1.out.later hb31
 clear hb31 x0 x1 x2 x3 x4; go_upto_region 31 with fail
 have K0 : Hid (Blk w31 (w.heap.size) #[.slice s1 A.length c1, .slice s2 B.length c2, .slice s3 C.length c3] 24) := Z0.out.later LZ.out
 have K1 : Hid (Blk w31 (w.heap.size + 1) #[.slice i1 W.gens.length j1, .slice i2 W.free.length j2, .slice i3 W.tabs.length j3, .slice i4 W.res.length j4] 31) := Z1.out.later LZ.out
 have K2 : Hid (Blk w31 (w.heap.size + 1 + 1) #[.int .i64 e.1, .int .i64 e.2] 33) := Z2.out.later LZ.out
 have K3 : Hid (Blk w31 (w.heap.size + 1 + 1 + 1) #[.int .i64 v.1, .int .i64 v.2.1, .float .f64 v.2.2.1, .float .f64 v.2.2.2] 57) := Z3.out.later LZ.out
 have LX : Hid (Below w.heap.size w w31) := (bl_trans LAz.out LZ.out)
 have bX : w.heap.size ≤ w31.heap.size := LX.out.size
 have q0 : w.heap.size < w31.heap.size := K0.out.lt
 have q1 : w.heap.size + 1 < w31.heap.size := K1.out.lt
 have q2 : w.heap.size + 1 + 1 < w31.heap.size := K2.out.lt
 have q3 : w.heap.size + 1 + 1 + 1 < w31.heap.size := K3.out.lt
 have hR := Hid.mk' (Rs.nil w31)
 go_cut [21, 22] (fun p0 p1 wx => ∃ (kh : Nat) (V2 : WV) (W2 : Wd) (c2 : Int), p0 = .pointer (some ⟨kh, 0, none⟩) ∧ p1 = .int .i64 c2 ∧ OWf V2 W2 ∧ PutR A B C W e comp v W2 c2 ∧ Rs w31 w31.heap.size wx (rB kh 40 [V2.g, V2.f, V2.t, V2.r] :: rW V2 W2))
 case first =>
  refine wp_region_held_drew (S := (fun w' => Blk w' (w.heap.size) #[.slice s1 A.length c1, .slice s2 B.length c2, .slice s3 C.length c3] 24 ∧ Blk w' (w.heap.size + 1) #[.slice i1 W.gens.length j1, .slice i2 W.free.length j2, .slice i3 W.tabs.length j3, .slice i4 W.res.length j4] 31 ∧ Blk w' (w.heap.size + 1 + 1) #[.int .i64 e.1, .int .i64 e.2] 33 ∧ Blk w' (w.heap.size + 1 + 1 + 1) #[.int .i64 v.1, .int .i64 v.2.1, .float .f64 v.2.2.1, .float .f64 v.2.2.2] 57)) (by kernel_rfl) ?_ (fun hHeld => ?_)
  ·
   exact (k4 hR K0 K1 K2 K3 q0 q1 q2 q3 :)
  have hR := Hid.mk' hR.out.drew
  refine wpq (v := ?_) 0 111 rfl rfl ?_ ?_
  rotate_left 1
  ·
   intro w hSw; (try dsimp only at hSw); obtain ⟨h0, h1, h2, h3⟩ := hSw; obtain ⟨x0, x1, x2, x3⟩ := h0.three'; go_simp <;> with_reducible rfl
  simp only [zs]; refine wpq (v := ?_) 2 113 rfl rfl ?_ ?_
  rotate_left 1
  ·
   intro w hSw; (try dsimp only at hSw); obtain ⟨h0, h1, h2, h3⟩ := hSw; obtain ⟨x0, x1, x2, x3, x4⟩ := h1.four'; go_simp <;> with_reducible rfl
  simp only [zs]; refine wpq (v := ?_) 4 115 rfl rfl ?_ ?_
  rotate_left 1
  ·
   intro w hSw; (try dsimp only at hSw); obtain ⟨h0, h1, h2, h3⟩ := hSw; obtain ⟨x0, x1, x2⟩ := h2.two; go_simp <;> with_reducible rfl
  simp only [zs]; refine wpr 6 117 ?_; simp only [zs]; refine wpq (v := ?_) 7 118 rfl rfl ?_ ?_
  rotate_left 1
  ·
   intro w hSw; (try dsimp only at hSw); obtain ⟨h0, h1, h2, h3⟩ := hSw; obtain ⟨x0, x1, x2, x3, x4⟩ := h3.four'; go_simp <;> with_reducible rfl
  simp only [zs]; refine wpAnyH_ready (rs := [1, 13]) (by kernel_rfl) (by simp) ?_
  refine AllReadyH.cons rfl (fun K hK => ?_) ?_
  ·
   skip
   go_simp; refine (toReg_any s1 s2 s3 c1 c2 c3 A B C _ (HD.out.1.later (bl_transG LX.out hR.out bX)) (HD.out.2.1.later (bl_transG LX.out hR.out bX)) (HD.out.2.2.later (bl_transG LX.out hR.out bX)) lA lB lC).mono ?_
   rintro z g1 ⟨⟨a3, b3, d3, rfl, dA3, dB3, dC3⟩, hb⟩
   have hR : Hid (Rs w31 w31.heap.size g1 []) := Hid.mk' (hR.out.later hb)
   have D3 : Hid (Decls g1 (some ⟨a3, 0, none⟩) A ∧ Decls g1 (some ⟨b3, 0, none⟩) B ∧ Decls g1 (some ⟨d3, 0, none⟩) C) := Hid.mk' (⟨dA3, dB3, dC3⟩)
   clear hb; refine hK.out _ _ ?_ (fun hHeld => ?_)
   ·
    exact (k4 hR K0 K1 K2 K3 q0 q1 q2 q3 :)
   clear hK K; try simp only [zs]
   refine wpAnyH_ready (rs := [3, 13]) (by kernel_rfl) (by simp) ?_
   refine AllReadyH.cons rfl (fun K hK => ?_) ?_
   ·
    skip
    go_simp; refine (toWorld_made i1 i2 i3 i4 j1 j2 j3 j4 W 0 _ (HW.out.later (bl_transG LX.out hR.out bX)) HK.out).mono ?_
    rintro z g2 ⟨⟨m4, n4, o4, p4, rfl, hE4⟩, hb⟩
    have hR : Hid (Rs w31 w31.heap.size g2 []) := Hid.mk' (hR.out.later hb)
    have D3 : Hid (Decls g2 (some ⟨a3, 0, none⟩) A ∧ Decls g2 (some ⟨b3, 0, none⟩) B ∧ Decls g2 (some ⟨d3, 0, none⟩) C) := Hid.mk' (⟨D3.out.1.later hb, D3.out.2.1.later hb, D3.out.2.2.later hb⟩)
    have E4 : Hid (InW g2 0 (some ⟨m4, 0, none⟩) (some ⟨n4, 0, none⟩) (some ⟨o4, 0, none⟩) (some ⟨p4, 0, none⟩) W) := Hid.mk' (hE4.drop (Nat.zero_le _))
    clear hb; refine hK.out _ _ ?_ (fun hHeld => ?_)
    ·
     exact (k4 hR K0 K1 K2 K3 q0 q1 q2 q3 :)
    clear hK K; try simp only [zs]
    refine wpAnyH_ready (rs := [5, 13]) (by kernel_rfl) (by simp) ?_
    refine AllReadyH.cons rfl (fun K hK => ?_) ?_
    ·
     skip
     go_simp; refine (toEnt_any e.1 e.2 _).mono ?_
     rintro z g3 ⟨rfl, hb⟩
     have hR : Hid (Rs w31 w31.heap.size g3 []) := Hid.mk' (hR.out.later hb)
     have D3 : Hid (Decls g3 (some ⟨a3, 0, none⟩) A ∧ Decls g3 (some ⟨b3, 0, none⟩) B ∧ Decls g3 (some ⟨d3, 0, none⟩) C) := Hid.mk' (⟨D3.out.1.later hb, D3.out.2.1.later hb, D3.out.2.2.later hb⟩)
     have E4 : Hid (InW g3 0 (some ⟨m4, 0, none⟩) (some ⟨n4, 0, none⟩) (some ⟨o4, 0, none⟩) (some ⟨p4, 0, none⟩) W) := Hid.mk' (E4.out.later hb)
     clear hb; refine hK.out _ _ ?_ (fun hHeld => ?_)
     ·
      exact (k4 hR K0 K1 K2 K3 q0 q1 q2 q3 :)
     clear hK K; try simp only [zs]
     refine wpAnyH_ready (rs := [8, 13]) (by kernel_rfl) (by simp) ?_
     refine AllReadyH.cons rfl (fun K hK => ?_) ?_
     ·
      skip
      go_simp; refine (toVal_any v.1 v.2.1 v.2.2.1 v.2.2.2 _).mono ?_
      rintro z g4 ⟨rfl, hb⟩
      have hR : Hid (Rs w31 w31.heap.size g4 []) := Hid.mk' (hR.out.later hb)
      have D3 : Hid (Decls g4 (some ⟨a3, 0, none⟩) A ∧ Decls g4 (some ⟨b3, 0, none⟩) B ∧ Decls g4 (some ⟨d3, 0, none⟩) C) := Hid.mk' (⟨D3.out.1.later hb, D3.out.2.1.later hb, D3.out.2.2.later hb⟩)
      have E4 : Hid (InW g4 0 (some ⟨m4, 0, none⟩) (some ⟨n4, 0, none⟩) (some ⟨o4, 0, none⟩) (some ⟨p4, 0, none⟩) W) := Hid.mk' (E4.out.later hb)
      clear hb; refine hK.out _ _ ?_ (fun hHeld => ?_)
      ·
       exact (k4 hR K0 K1 K2 K3 q0 q1 q2 q3 :)
      clear hK K; try simp only [zs]
      refine wpAnyH_ready (rs := [9, 13]) (by kernel_rfl) (by simp) ?_
      refine AllReadyH.cons rfl (fun K hK => ?_) ?_
      ·
       skip
       go_simp; refine (implPut_any (some ⟨a3, 0, none⟩) (some ⟨b3, 0, none⟩) (some ⟨d3, 0, none⟩) A.length B.length C.length A B C (some ⟨m4, 0, none⟩) (some ⟨n4, 0, none⟩) (some ⟨o4, 0, none⟩) (some ⟨p4, 0, none⟩) W.gens.length W.free.length W.tabs.length W.res.length W e comp v _ D3.out.1 D3.out.2.1 D3.out.2.2 NMH.out lA lB lC E4.out HK.out (Nat.le_refl _) BR.out BE.out OV.out).mono ?_
       rintro z g5 ⟨V2, W2, c2, rfl, hOW, hSR, hb⟩
       have hO := hOW.own
       have HF0 : Hid (OWf V2 W2) := hOW.f
       have HSR : Hid (PutR A B C W e comp v W2 c2) := hSR
       clear hOW hSR; have hR : Hid (Rs w31 w31.heap.size g5 (rW V2 W2)) := Hid.mk' (hR.out.insE [] (rW V2 W2) hb hO)
       clear hb hO; refine hK.out _ _ ?_ (fun hHeld => ?_)
       ·
        exact (k4 hR K0 K1 K2 K3 q0 q1 q2 q3 :)
       clear hK K; try simp only [zs]
       refine wpr 10 110 ?_; simp only [zs]; refine wpr 11 121 ?_; simp only [zs]; refine wpr 12 122 ?_; simp only [zs]; refine wpy 13 fun K hK => ?_
       refine step_boxB [] (rW V2 W2) hR.out rfl (d0 := (some 21)) rfl 40 hiW hzW rfl ?_
       intro kh g6 hb hR'
       have hR : Hid (Rs w31 w31.heap.size g6 ([rB kh 40 [.slice none 0 0, .slice none 0 0, .slice none 0 0, .slice none 0 0]] ++ (rW V2 W2))) := hR'
       clear hR' hb; refine hK.out _ _ ?_ (fun hHeld => ?_)
       ·
        exact (k4 hR K0 K1 K2 K3 q0 q1 q2 q3 :)
       clear hK K; try simp only [zs]
       refine wpy 14 fun K hK => ?_
       refine step_put [] (rW V2 W2) hR.out rfl (d0 := none) rfl (.tmp 21) (.tmp 121) rfl [V2.g, V2.f, V2.t, V2.r] rfl rfl (by rw [hiW]; simp [hsW]) rfl (one_W (V := V2) (W := W2) hR.out.o.on (fun r hr => List.mem_append_right _ hr)) ?_
       intro g7 hR'
       have hR : Hid (Rs w31 w31.heap.size g7 ([rB kh 40 [V2.g, V2.f, V2.t, V2.r]] ++ (rW V2 W2))) := hR'
       clear hR'; refine hK.out _ _ ?_ (fun hHeld => ?_)
       ·
        exact (k4 hR K0 K1 K2 K3 q0 q1 q2 q3 :)
       clear hK K; try simp only [zs]
       refine wpr 15 22 ?_; simp only [zs]; refine wpAnyH_done (by kernel_rfl) ?_ _
       clear hHeld; go_wp2_with fail; go_meet; exact ⟨kh, V2, W2, c2, rfl, rfl, HF0.out, HSR.out, hR.out⟩
      refine AllReadyH.cons rfl (fun K hK => ?_) AllReadyH.nil
      refine step_boxB [] [] hR.out rfl (d0 := (some 21)) rfl 40 hiW hzW rfl ?_
      intro kh g8 hb hR'
      have hR : Hid (Rs w31 w31.heap.size g8 [rB kh 40 [.slice none 0 0, .slice none 0 0, .slice none 0 0, .slice none 0 0]]) := hR'
      have D3 : Hid (Decls g8 (some ⟨a3, 0, none⟩) A ∧ Decls g8 (some ⟨b3, 0, none⟩) B ∧ Decls g8 (some ⟨d3, 0, none⟩) C) := Hid.mk' (⟨D3.out.1.later hb, D3.out.2.1.later hb, D3.out.2.2.later hb⟩)
      have E4 : Hid (InW g8 0 (some ⟨m4, 0, none⟩) (some ⟨n4, 0, none⟩) (some ⟨o4, 0, none⟩) (some ⟨p4, 0, none⟩) W) := Hid.mk' (E4.out.later hb)
      clear hR' hb; refine hK.out _ _ ?_ (fun hHeld => ?_)
      ·
       exact (k4 hR K0 K1 K2 K3 q0 q1 q2 q3 :)
      clear hK K; try simp only [zs]
      refine wpy 9 fun K hK => ?_
      go_simp; refine (implPut_any (some ⟨a3, 0, none⟩) (some ⟨b3, 0, none⟩) (some ⟨d3, 0, none⟩) A.length B.length C.length A B C (some ⟨m4, 0, none⟩) (some ⟨n4, 0, none⟩) (some ⟨o4, 0, none⟩) (some ⟨p4, 0, none⟩) W.gens.length W.free.length W.tabs.length W.res.length W e comp v _ D3.out.1 D3.out.2.1 D3.out.2.2 NMH.out lA lB lC E4.out HK.out (Nat.le_refl _) BR.out BE.out OV.out).mono ?_
      rintro z g9 ⟨V2, W2, c2, rfl, hOW, hSR, hb⟩
      have hO := hOW.own
      have HF0 : Hid (OWf V2 W2) := hOW.f
      have HSR : Hid (PutR A B C W e comp v W2 c2) := hSR
      clear hOW hSR; have hR : Hid (Rs w31 w31.heap.size g9 ([rB kh 40 [.slice none 0 0, .slice none 0 0, .slice none 0 0, .slice none 0 0]] ++ (rW V2 W2))) := Hid.mk' (hR.out.insE [rB kh 40 [.slice none 0 0, .slice none 0 0, .slice none 0 0, .slice none 0 0]] (rW V2 W2) hb hO)
      clear hb hO; refine hK.out _ _ ?_ (fun hHeld => ?_)
      ·
       exact (k4 hR K0 K1 K2 K3 q0 q1 q2 q3 :)
      clear hK K; try simp only [zs]
      refine wpr 10 110 ?_; simp only [zs]; refine wpr 11 121 ?_; simp only [zs]; refine wpr 12 122 ?_; simp only [zs]; refine wpy 14 fun K hK => ?_
      refine step_put [] (rW V2 W2) hR.out rfl (d0 := none) rfl (.tmp 21) (.tmp 121) rfl [V2.g, V2.f, V2.t, V2.r] rfl rfl (by rw [hiW]; simp [hsW]) rfl (one_W (V := V2) (W := W2) hR.out.o.on (fun r hr => List.mem_append_right _ hr)) ?_
      intro g10 hR'
      have hR : Hid (Rs w31 w31.heap.size g10 ([rB kh 40 [V2.g, V2.f, V2.t, V2.r]] ++ (rW V2 W2))) := hR'
      clear hR'; refine hK.out _ _ ?_ (fun hHeld => ?_)
      ·
       exact (k4 hR K0 K1 K2 K3 q0 q1 q2 q3 :)
      clear hK K; try simp only [zs]
      refine wpr 15 22 ?_; simp only [zs]; refine wpAnyH_done (by kernel_rfl) ?_ _
      clear hHeld; go_wp2_with fail; go_meet; exact ⟨kh, V2, W2, c2, rfl, rfl, HF0.out, HSR.out, hR.out⟩
     refine AllReadyH.cons rfl (fun K hK => ?_) AllReadyH.nil
     refine step_boxB [] [] hR.out rfl (d0 := (some 21)) rfl 40 hiW hzW rfl ?_
     intro kh g11 hb hR'
     have hR : Hid (Rs w31 w31.heap.size g11 [rB kh 40 [.slice none 0 0, .slice none 0 0, .slice none 0 0, .slice none 0 0]]) := hR'
     have D3 : Hid (Decls g11 (some ⟨a3, 0, none⟩) A ∧ Decls g11 (some ⟨b3, 0, none⟩) B ∧ Decls g11 (some ⟨d3, 0, none⟩) C) := Hid.mk' (⟨D3.out.1.later hb, D3.out.2.1.later hb, D3.out.2.2.later hb⟩)
     have E4 : Hid (InW g11 0 (some ⟨m4, 0, none⟩) (some ⟨n4, 0, none⟩) (some ⟨o4, 0, none⟩) (some ⟨p4, 0, none⟩) W) := Hid.mk' (E4.out.later hb)
     clear hR' hb; refine hK.out _ _ ?_ (fun hHeld => ?_)
     ·
      exact (k4 hR K0 K1 K2 K3 q0 q1 q2 q3 :)
     clear hK K; try simp only [zs]
     refine wpy 8 fun K hK => ?_
     go_simp; refine (toVal_any v.1 v.2.1 v.2.2.1 v.2.2.2 _).mono ?_
     rintro z g12 ⟨rfl, hb⟩
     have hR : Hid (Rs w31 w31.heap.size g12 [rB kh 40 [.slice none 0 0, .slice none 0 0, .slice none 0 0, .slice none 0 0]]) := Hid.mk' (hR.out.later hb)
     have D3 : Hid (Decls g12 (some ⟨a3, 0, none⟩) A ∧ Decls g12 (some ⟨b3, 0, none⟩) B ∧ Decls g12 (some ⟨d3, 0, none⟩) C) := Hid.mk' (⟨D3.out.1.later hb, D3.out.2.1.later hb, D3.out.2.2.later hb⟩)
     have E4 : Hid (InW g12 0 (some ⟨m4, 0, none⟩) (some ⟨n4, 0, none⟩) (some ⟨o4, 0, none⟩) (some ⟨p4, 0, none⟩) W) := Hid.mk' (E4.out.later hb)
     clear hb; refine hK.out _ _ ?_ (fun hHeld => ?_)
     ·
      exact (k4 hR K0 K1 K2 K3 q0 q1 q2 q3 :)
     clear hK K; try simp only [zs]
     refine wpy 9 fun K hK => ?_
     go_simp; refine (implPut_any (some ⟨a3, 0, none⟩) (some ⟨b3, 0, none⟩) (some ⟨d3, 0, none⟩) A.length B.length C.length A B C (some ⟨m4, 0, none⟩) (some ⟨n4, 0, none⟩) (some ⟨o4, 0, none⟩) (some ⟨p4, 0, none⟩) W.gens.length W.free.length W.tabs.length W.res.length W e comp v _ D3.out.1 D3.out.2.1 D3.out.2.2 NMH.out lA lB lC E4.out HK.out (Nat.le_refl _) BR.out BE.out OV.out).mono ?_
     rintro z g13 ⟨V2, W2, c2, rfl, hOW, hSR, hb⟩
     have hO := hOW.own
     have HF0 : Hid (OWf V2 W2) := hOW.f
     have HSR : Hid (PutR A B C W e comp v W2 c2) := hSR
     clear hOW hSR; have hR : Hid (Rs w31 w31.heap.size g13 ([rB kh 40 [.slice none 0 0, .slice none 0 0, .slice none 0 0, .slice none 0 0]] ++ (rW V2 W2))) := Hid.mk' (hR.out.insE [rB kh 40 [.slice none 0 0, .slice none 0 0, .slice none 0 0, .slice none 0 0]] (rW V2 W2) hb hO)
     clear hb hO; refine hK.out _ _ ?_ (fun hHeld => ?_)
     ·
      exact (k4 hR K0 K1 K2 K3 q0 q1 q2 q3 :)
     clear hK K; try simp only [zs]
     refine wpr 10 110 ?_; simp only [zs]; refine wpr 11 121 ?_; simp only [zs]; refine wpr 12 122 ?_; simp only [zs]; refine wpy 14 fun K hK => ?_
     refine step_put [] (rW V2 W2) hR.out rfl (d0 := none) rfl (.tmp 21) (.tmp 121) rfl [V2.g, V2.f, V2.t, V2.r] rfl rfl (by rw [hiW]; simp [hsW]) rfl (one_W (V := V2) (W := W2) hR.out.o.on (fun r hr => List.mem_append_right _ hr)) ?_
     intro g14 hR'
     have hR : Hid (Rs w31 w31.heap.size g14 ([rB kh 40 [V2.g, V2.f, V2.t, V2.r]] ++ (rW V2 W2))) := hR'
     clear hR'; refine hK.out _ _ ?_ (fun hHeld => ?_)
     ·
      exact (k4 hR K0 K1 K2 K3 q0 q1 q2 q3 :)
     clear hK K; try simp only [zs]
     refine wpr 15 22 ?_; simp only [zs]; refine wpAnyH_done (by kernel_rfl) ?_ _
     clear hHeld; go_wp2_with fail; go_meet; exact ⟨kh, V2, W2, c2, rfl, rfl, HF0.out, HSR.out, hR.out⟩
    refine AllReadyH.cons rfl (fun K hK => ?_) AllReadyH.nil
    refine step_boxB [] [] hR.out rfl (d0 := (some 21)) rfl 40 hiW hzW rfl ?_
    intro kh g15 hb hR'
    have hR : Hid (Rs w31 w31.heap.size g15 [rB kh 40 [.slice none 0 0, .slice none 0 0, .slice none 0 0, .slice none 0 0]]) := hR'
    have D3 : Hid (Decls g15 (some ⟨a3, 0, none⟩) A ∧ Decls g15 (some ⟨b3, 0, none⟩) B ∧ Decls g15 (some ⟨d3, 0, none⟩) C) := Hid.mk' (⟨D3.out.1.later hb, D3.out.2.1.later hb, D3.out.2.2.later hb⟩)
    have E4 : Hid (InW g15 0 (some ⟨m4, 0, none⟩) (some ⟨n4, 0, none⟩) (some ⟨o4, 0, none⟩) (some ⟨p4, 0, none⟩) W) := Hid.mk' (E4.out.later hb)
    clear hR' hb; refine hK.out _ _ ?_ (fun hHeld => ?_)
    ·
     exact (k4 hR K0 K1 K2 K3 q0 q1 q2 q3 :)
    clear hK K; try simp only [zs]
    refine wpy 5 fun K hK => ?_
    go_simp; refine (toEnt_any e.1 e.2 _).mono ?_
    rintro z g16 ⟨rfl, hb⟩
    have hR : Hid (Rs w31 w31.heap.size g16 [rB kh 40 [.slice none 0 0, .slice none 0 0, .slice none 0 0, .slice none 0 0]]) := Hid.mk' (hR.out.later hb)
    have D3 : Hid (Decls g16 (some ⟨a3, 0, none⟩) A ∧ Decls g16 (some ⟨b3, 0, none⟩) B ∧ Decls g16 (some ⟨d3, 0, none⟩) C) := Hid.mk' (⟨D3.out.1.later hb, D3.out.2.1.later hb, D3.out.2.2.later hb⟩)
    have E4 : Hid (InW g16 0 (some ⟨m4, 0, none⟩) (some ⟨n4, 0, none⟩) (some ⟨o4, 0, none⟩) (some ⟨p4, 0, none⟩) W) := Hid.mk' (E4.out.later hb)
    clear hb; refine hK.out _ _ ?_ (fun hHeld => ?_)
    ·
     exact (k4 hR K0 K1 K2 K3 q0 q1 q2 q3 :)
    clear hK K; try simp only [zs]
    refine wpy 8 fun K hK => ?_
    go_simp; refine (toVal_any v.1 v.2.1 v.2.2.1 v.2.2.2 _).mono ?_
    rintro z g17 ⟨rfl, hb⟩
    have hR : Hid (Rs w31 w31.heap.size g17 [rB kh 40 [.slice none 0 0, .slice none 0 0, .slice none 0 0, .slice none 0 0]]) := Hid.mk' (hR.out.later hb)
    have D3 : Hid (Decls g17 (some ⟨a3, 0, none⟩) A ∧ Decls g17 (some ⟨b3, 0, none⟩) B ∧ Decls g17 (some ⟨d3, 0, none⟩) C) := Hid.mk' (⟨D3.out.1.later hb, D3.out.2.1.later hb, D3.out.2.2.later hb⟩)
    have E4 : Hid (InW g17 0 (some ⟨m4, 0, none⟩) (some ⟨n4, 0, none⟩) (some ⟨o4, 0, none⟩) (some ⟨p4, 0, none⟩) W) := Hid.mk' (E4.out.later hb)
    clear hb; refine hK.out _ _ ?_ (fun hHeld => ?_)
    ·
     exact (k4 hR K0 K1 K2 K3 q0 q1 q2 q3 :)
    clear hK K; try simp only [zs]
    refine wpy 9 fun K hK => ?_
    go_simp; refine (implPut_any (some ⟨a3, 0, none⟩) (some ⟨b3, 0, none⟩) (some ⟨d3, 0, none⟩) A.length B.length C.length A B C (some ⟨m4, 0, none⟩) (some ⟨n4, 0, none⟩) (some ⟨o4, 0, none⟩) (some ⟨p4, 0, none⟩) W.gens.length W.free.length W.tabs.length W.res.length W e comp v _ D3.out.1 D3.out.2.1 D3.out.2.2 NMH.out lA lB lC E4.out HK.out (Nat.le_refl _) BR.out BE.out OV.out).mono ?_
    rintro z g18 ⟨V2, W2, c2, rfl, hOW, hSR, hb⟩
    have hO := hOW.own
    have HF0 : Hid (OWf V2 W2) := hOW.f
    have HSR : Hid (PutR A B C W e comp v W2 c2) := hSR
    clear hOW hSR; have hR : Hid (Rs w31 w31.heap.size g18 ([rB kh 40 [.slice none 0 0, .slice none 0 0, .slice none 0 0, .slice none 0 0]] ++ (rW V2 W2))) := Hid.mk' (hR.out.insE [rB kh 40 [.slice none 0 0, .slice none 0 0, .slice none 0 0, .slice none 0 0]] (rW V2 W2) hb hO)
    clear hb hO; refine hK.out _ _ ?_ (fun hHeld => ?_)
    ·
     exact (k4 hR K0 K1 K2 K3 q0 q1 q2 q3 :)
    clear hK K; try simp only [zs]
    refine wpr 10 110 ?_; simp only [zs]; refine wpr 11 121 ?_; simp only [zs]; refine wpr 12 122 ?_; simp only [zs]; refine wpy 14 fun K hK => ?_
    refine step_put [] (rW V2 W2) hR.out rfl (d0 := none) rfl (.tmp 21) (.tmp 121) rfl [V2.g, V2.f, V2.t, V2.r] rfl rfl (by rw [hiW]; simp [hsW]) rfl (one_W (V := V2) (W := W2) hR.out.o.on (fun r hr => List.mem_append_right _ hr)) ?_
    intro g19 hR'
    have hR : Hid (Rs w31 w31.heap.size g19 ([rB kh 40 [V2.g, V2.f, V2.t, V2.r]] ++ (rW V2 W2))) := hR'
    clear hR'; refine hK.out _ _ ?_ (fun hHeld => ?_)
    ·
     exact (k4 hR K0 K1 K2 K3 q0 q1 q2 q3 :)
    clear hK K; try simp only [zs]
    refine wpr 15 22 ?_; simp only [zs]; refine wpAnyH_done (by kernel_rfl) ?_ _
    clear hHeld; go_wp2_with fail; go_meet; exact ⟨kh, V2, W2, c2, rfl, rfl, HF0.out, HSR.out, hR.out⟩
   refine AllReadyH.cons rfl (fun K hK => ?_) AllReadyH.nil
   refine step_boxB [] [] hR.out rfl (d0 := (some 21)) rfl 40 hiW hzW rfl ?_
   intro kh g20 hb hR'
   have hR : Hid (Rs w31 w31.heap.size g20 [rB kh 40 [.slice none 0 0, .slice none 0 0, .slice none 0 0, .slice none 0 0]]) := hR'
   have D3 : Hid (Decls g20 (some ⟨a3, 0, none⟩) A ∧ Decls g20 (some ⟨b3, 0, none⟩) B ∧ Decls g20 (some ⟨d3, 0, none⟩) C) := Hid.mk' (⟨D3.out.1.later hb, D3.out.2.1.later hb, D3.out.2.2.later hb⟩)
   clear hR' hb; refine hK.out _ _ ?_ (fun hHeld => ?_)
   ·
    exact (k4 hR K0 K1 K2 K3 q0 q1 q2 q3 :)
   clear hK K; try simp only [zs]
   refine wpy 3 fun K hK => ?_
   go_simp; refine (toWorld_made i1 i2 i3 i4 j1 j2 j3 j4 W 0 _ (HW.out.later (bl_transG LX.out hR.out bX)) HK.out).mono ?_
   rintro z g21 ⟨⟨m4, n4, o4, p4, rfl, hE4⟩, hb⟩
   have hR : Hid (Rs w31 w31.heap.size g21 [rB kh 40 [.slice none 0 0, .slice none 0 0, .slice none 0 0, .slice none 0 0]]) := Hid.mk' (hR.out.later hb)
   have D3 : Hid (Decls g21 (some ⟨a3, 0, none⟩) A ∧ Decls g21 (some ⟨b3, 0, none⟩) B ∧ Decls g21 (some ⟨d3, 0, none⟩) C) := Hid.mk' (⟨D3.out.1.later hb, D3.out.2.1.later hb, D3.out.2.2.later hb⟩)
   have E4 : Hid (InW g21 0 (some ⟨m4, 0, none⟩) (some ⟨n4, 0, none⟩) (some ⟨o4, 0, none⟩) (some ⟨p4, 0, none⟩) W) := Hid.mk' (hE4.drop (Nat.zero_le _))
   clear hb; refine hK.out _ _ ?_ (fun hHeld => ?_)
   ·
    exact (k4 hR K0 K1 K2 K3 q0 q1 q2 q3 :)
   clear hK K; try simp only [zs]
   refine wpy 5 fun K hK => ?_
   go_simp; refine (toEnt_any e.1 e.2 _).mono ?_
   rintro z g22 ⟨rfl, hb⟩
   have hR : Hid (Rs w31 w31.heap.size g22 [rB kh 40 [.slice none 0 0, .slice none 0 0, .slice none 0 0, .slice none 0 0]]) := Hid.mk' (hR.out.later hb)
   have D3 : Hid (Decls g22 (some ⟨a3, 0, none⟩) A ∧ Decls g22 (some ⟨b3, 0, none⟩) B ∧ Decls g22 (some ⟨d3, 0, none⟩) C) := Hid.mk' (⟨D3.out.1.later hb, D3.out.2.1.later hb, D3.out.2.2.later hb⟩)
   have E4 : Hid (InW g22 0 (some ⟨m4, 0, none⟩) (some ⟨n4, 0, none⟩) (some ⟨o4, 0, none⟩) (some ⟨p4, 0, none⟩) W) := Hid.mk' (E4.out.later hb)
   clear hb; refine hK.out _ _ ?_ (fun hHeld => ?_)
   ·
    exact (k4 hR K0 K1 K2 K3 q0 q1 q2 q3 :)
   clear hK K; try simp only [zs]
   refine wpy 8 fun K hK => ?_
   go_simp; refine (toVal_any v.1 v.2.1 v.2.2.1 v.2.2.2 _).mono ?_
   rintro z g23 ⟨rfl, hb⟩
   have hR : Hid (Rs w31 w31.heap.size g23 [rB kh 40 [.slice none 0 0, .slice none 0 0, .slice none 0 0, .slice none 0 0]]) := Hid.mk' (hR.out.later hb)
   have D3 : Hid (Decls g23 (some ⟨a3, 0, none⟩) A ∧ Decls g23 (some ⟨b3, 0, none⟩) B ∧ Decls g23 (some ⟨d3, 0, none⟩) C) := Hid.mk' (⟨D3.out.1.later hb, D3.out.2.1.later hb, D3.out.2.2.later hb⟩)
   have E4 : Hid (InW g23 0 (some ⟨m4, 0, none⟩) (some ⟨n4, 0, none⟩) (some ⟨o4, 0, none⟩) (some ⟨p4, 0, none⟩) W) := Hid.mk' (E4.out.later hb)
   clear hb; refine hK.out _ _ ?_ (fun hHeld => ?_)
   ·
    exact (k4 hR K0 K1 K2 K3 q0 q1 q2 q3 :)
   clear hK K; try simp only [zs]
   refine wpy 9 fun K hK => ?_
   go_simp; refine (implPut_any (some ⟨a3, 0, none⟩) (some ⟨b3, 0, none⟩) (some ⟨d3, 0, none⟩) A.length B.length C.length A B C (some ⟨m4, 0, none⟩) (some ⟨n4, 0, none⟩) (some ⟨o4, 0, none⟩) (some ⟨p4, 0, none⟩) W.gens.length W.free.length W.tabs.length W.res.length W e comp v _ D3.out.1 D3.out.2.1 D3.out.2.2 NMH.out lA lB lC E4.out HK.out (Nat.le_refl _) BR.out BE.out OV.out).mono ?_
   rintro z g24 ⟨V2, W2, c2, rfl, hOW, hSR, hb⟩
   have hO := hOW.own
   have HF0 : Hid (OWf V2 W2) := hOW.f
   have HSR : Hid (PutR A B C W e comp v W2 c2) := hSR
   clear hOW hSR; have hR : Hid (Rs w31 w31.heap.size g24 ([rB kh 40 [.slice none 0 0, .slice none 0 0, .slice none 0 0, .slice none 0 0]] ++ (rW V2 W2))) := Hid.mk' (hR.out.insE [rB kh 40 [.slice none 0 0, .slice none 0 0, .slice none 0 0, .slice none 0 0]] (rW V2 W2) hb hO)
   clear hb hO; refine hK.out _ _ ?_ (fun hHeld => ?_)
   ·
    exact (k4 hR K0 K1 K2 K3 q0 q1 q2 q3 :)
   clear hK K; try simp only [zs]
   refine wpr 10 110 ?_; simp only [zs]; refine wpr 11 121 ?_; simp only [zs]; refine wpr 12 122 ?_; simp only [zs]; refine wpy 14 fun K hK => ?_
   refine step_put [] (rW V2 W2) hR.out rfl (d0 := none) rfl (.tmp 21) (.tmp 121) rfl [V2.g, V2.f, V2.t, V2.r] rfl rfl (by rw [hiW]; simp [hsW]) rfl (one_W (V := V2) (W := W2) hR.out.o.on (fun r hr => List.mem_append_right _ hr)) ?_
   intro g25 hR'
   have hR : Hid (Rs w31 w31.heap.size g25 ([rB kh 40 [V2.g, V2.f, V2.t, V2.r]] ++ (rW V2 W2))) := hR'
   clear hR'; refine hK.out _ _ ?_ (fun hHeld => ?_)
   ·
    exact (k4 hR K0 K1 K2 K3 q0 q1 q2 q3 :)
   clear hK K; try simp only [zs]
   refine wpr 15 22 ?_; simp only [zs]; refine wpAnyH_done (by kernel_rfl) ?_ _
   clear hHeld; go_wp2_with fail; go_meet; exact ⟨kh, V2, W2, c2, rfl, rfl, HF0.out, HSR.out, hR.out⟩
  refine AllReadyH.cons rfl (fun K hK => ?_) AllReadyH.nil
  refine step_boxB [] [] hR.out rfl (d0 := (some 21)) rfl 40 hiW hzW rfl ?_
  intro kh g26 hb hR'
  have hR : Hid (Rs w31 w31.heap.size g26 [rB kh 40 [.slice none 0 0, .slice none 0 0, .slice none 0 0, .slice none 0 0]]) := hR'
  clear hR' hb; refine hK.out _ _ ?_ (fun hHeld => ?_)
  ·
   exact (k4 hR K0 K1 K2 K3 q0 q1 q2 q3 :)
  clear hK K; try simp only [zs]
  refine wpy 1 fun K hK => ?_
  go_simp; refine (toReg_any s1 s2 s3 c1 c2 c3 A B C _ (HD.out.1.later (bl_transG LX.out hR.out bX)) (HD.out.2.1.later (bl_transG LX.out hR.out bX)) (HD.out.2.2.later (bl_transG LX.out hR.out bX)) lA lB lC).mono ?_
  rintro z g27 ⟨⟨a3, b3, d3, rfl, dA3, dB3, dC3⟩, hb⟩
  have hR : Hid (Rs w31 w31.heap.size g27 [rB kh 40 [.slice none 0 0, .slice none 0 0, .slice none 0 0, .slice none 0 0]]) := Hid.mk' (hR.out.later hb)
  have D3 : Hid (Decls g27 (some ⟨a3, 0, none⟩) A ∧ Decls g27 (some ⟨b3, 0, none⟩) B ∧ Decls g27 (some ⟨d3, 0, none⟩) C) := Hid.mk' (⟨dA3, dB3, dC3⟩)
  clear hb; refine hK.out _ _ ?_ (fun hHeld => ?_)
  ·
   exact (k4 hR K0 K1 K2 K3 q0 q1 q2 q3 :)
  clear hK K; try simp only [zs]
  refine wpy 3 fun K hK => ?_
  go_simp; refine (toWorld_made i1 i2 i3 i4 j1 j2 j3 j4 W 0 _ (HW.out.later (bl_transG LX.out hR.out bX)) HK.out).mono ?_
  rintro z g28 ⟨⟨m4, n4, o4, p4, rfl, hE4⟩, hb⟩
  have hR : Hid (Rs w31 w31.heap.size g28 [rB kh 40 [.slice none 0 0, .slice none 0 0, .slice none 0 0, .slice none 0 0]]) := Hid.mk' (hR.out.later hb)
  have D3 : Hid (Decls g28 (some ⟨a3, 0, none⟩) A ∧ Decls g28 (some ⟨b3, 0, none⟩) B ∧ Decls g28 (some ⟨d3, 0, none⟩) C) := Hid.mk' (⟨D3.out.1.later hb, D3.out.2.1.later hb, D3.out.2.2.later hb⟩)
  have E4 : Hid (InW g28 0 (some ⟨m4, 0, none⟩) (some ⟨n4, 0, none⟩) (some ⟨o4, 0, none⟩) (some ⟨p4, 0, none⟩) W) := Hid.mk' (hE4.drop (Nat.zero_le _))
  clear hb; refine hK.out _ _ ?_ (fun hHeld => ?_)
  ·
   exact (k4 hR K0 K1 K2 K3 q0 q1 q2 q3 :)
  clear hK K; try simp only [zs]
  refine wpy 5 fun K hK => ?_
  go_simp; refine (toEnt_any e.1 e.2 _).mono ?_
  rintro z g29 ⟨rfl, hb⟩
  have hR : Hid (Rs w31 w31.heap.size g29 [rB kh 40 [.slice none 0 0, .slice none 0 0, .slice none 0 0, .slice none 0 0]]) := Hid.mk' (hR.out.later hb)
  have D3 : Hid (Decls g29 (some ⟨a3, 0, none⟩) A ∧ Decls g29 (some ⟨b3, 0, none⟩) B ∧ Decls g29 (some ⟨d3, 0, none⟩) C) := Hid.mk' (⟨D3.out.1.later hb, D3.out.2.1.later hb, D3.out.2.2.later hb⟩)
  have E4 : Hid (InW g29 0 (some ⟨m4, 0, none⟩) (some ⟨n4, 0, none⟩) (some ⟨o4, 0, none⟩) (some ⟨p4, 0, none⟩) W) := Hid.mk' (E4.out.later hb)
  clear hb; refine hK.out _ _ ?_ (fun hHeld => ?_)
  ·
   exact (k4 hR K0 K1 K2 K3 q0 q1 q2 q3 :)
  clear hK K; try simp only [zs]
  refine wpy 8 fun K hK => ?_
  go_simp; refine (toVal_any v.1 v.2.1 v.2.2.1 v.2.2.2 _).mono ?_
  rintro z g30 ⟨rfl, hb⟩
  have hR : Hid (Rs w31 w31.heap.size g30 [rB kh 40 [.slice none 0 0, .slice none 0 0, .slice none 0 0, .slice none 0 0]]) := Hid.mk' (hR.out.later hb)
  have D3 : Hid (Decls g30 (some ⟨a3, 0, none⟩) A ∧ Decls g30 (some ⟨b3, 0, none⟩) B ∧ Decls g30 (some ⟨d3, 0, none⟩) C) := Hid.mk' (⟨D3.out.1.later hb, D3.out.2.1.later hb, D3.out.2.2.later hb⟩)
  have E4 : Hid (InW g30 0 (some ⟨m4, 0, none⟩) (some ⟨n4, 0, none⟩) (some ⟨o4, 0, none⟩) (some ⟨p4, 0, none⟩) W) := Hid.mk' (E4.out.later hb)
  clear hb; refine hK.out _ _ ?_ (fun hHeld => ?_)
  ·
   exact (k4 hR K0 K1 K2 K3 q0 q1 q2 q3 :)
  clear hK K; try simp only [zs]
  refine wpy 9 fun K hK => ?_
  go_simp; refine (implPut_any (some ⟨a3, 0, none⟩) (some ⟨b3, 0, none⟩) (some ⟨d3, 0, none⟩) A.length B.length C.length A B C (some ⟨m4, 0, none⟩) (some ⟨n4, 0, none⟩) (some ⟨o4, 0, none⟩) (some ⟨p4, 0, none⟩) W.gens.length W.free.length W.tabs.length W.res.length W e comp v _ D3.out.1 D3.out.2.1 D3.out.2.2 NMH.out lA lB lC E4.out HK.out (Nat.le_refl _) BR.out BE.out OV.out).mono ?_
  rintro z g31 ⟨V2, W2, c2, rfl, hOW, hSR, hb⟩
  have hO := hOW.own
  have HF0 : Hid (OWf V2 W2) := hOW.f
  have HSR : Hid (PutR A B C W e comp v W2 c2) := hSR
  clear hOW hSR; have hR : Hid (Rs w31 w31.heap.size g31 ([rB kh 40 [.slice none 0 0, .slice none 0 0, .slice none 0 0, .slice none 0 0]] ++ (rW V2 W2))) := Hid.mk' (hR.out.insE [rB kh 40 [.slice none 0 0, .slice none 0 0, .slice none 0 0, .slice none 0 0]] (rW V2 W2) hb hO)
  clear hb hO; refine hK.out _ _ ?_ (fun hHeld => ?_)
  ·
   exact (k4 hR K0 K1 K2 K3 q0 q1 q2 q3 :)
  clear hK K; try simp only [zs]
  refine wpr 10 110 ?_; simp only [zs]; refine wpr 11 121 ?_; simp only [zs]; refine wpr 12 122 ?_; simp only [zs]; refine wpy 14 fun K hK => ?_
  refine step_put [] (rW V2 W2) hR.out rfl (d0 := none) rfl (.tmp 21) (.tmp 121) rfl [V2.g, V2.f, V2.t, V2.r] rfl rfl (by rw [hiW]; simp [hsW]) rfl (one_W (V := V2) (W := W2) hR.out.o.on (fun r hr => List.mem_append_right _ hr)) ?_
  intro g32 hR'
  have hR : Hid (Rs w31 w31.heap.size g32 ([rB kh 40 [V2.g, V2.f, V2.t, V2.r]] ++ (rW V2 W2))) := hR'
  clear hR'; refine hK.out _ _ ?_ (fun hHeld => ?_)
  ·
   exact (k4 hR K0 K1 K2 K3 q0 q1 q2 q3 :)
  clear hK K; try simp only [zs]
  refine wpr 15 22 ?_; simp only [zs]; refine wpAnyH_done (by kernel_rfl) ?_ _
  clear hHeld; go_wp2_with fail; go_meet; exact ⟨kh, V2, W2, c2, rfl, rfl, HF0.out, HSR.out, hR.out⟩
 obtain ⟨kh, V2, W2, c2, rfl, rfl, hF2, hS2, hR2⟩ := hcut
 obtain ⟨rfl, rfl⟩ := HS0.out.same hS2
 have hl2 := hR2.l
 clear hR q0 q1 q2 q3 bX K0 K1 K2 K3 LX; obtain ⟨wx, hwx⟩ : ∃ wx, wx = wc := ⟨_, rfl⟩
 rw [← hwx] at hR2 hl2 ⊢
 clear hwx; have LZ : Hid (Below wz.heap.size wz wx) := bl_trans LZ.out hl2
 have H1 : Hid (Owns wx X7.heap.size (rB kg 40 [V1.g, V1.f, V1.t, V1.r] :: rW V1 (wW 1 W0))) := H1.out.later hl2
 have H2 : Hid (Owns wx w31.heap.size (rB kh 40 [V2.g, V2.f, V2.t, V2.r] :: rW V2 W0)) := hR2.o
 have HF2 := Hid.mk' hF2
 clear hF2 hS2 hR2 hl2; have H0 : Hid (Owns wx w2.heap.size (rB kz 40 [V0.g, V0.f, V0.t, V0.r] :: rW V0 W0)) := H0z.out.later LZ.out
 obtain ⟨x0, x1, x2, x3, x4⟩ := (show Blk wx kh #[V2.g, V2.f, V2.t, V2.r] 40 from rB_blk H2.out.head).four'
 obtain ⟨y0, y1, y2, y3, y4⟩ := (show Blk wx kz #[V0.g, V0.f, V0.t, V0.r] 40 from rB_blk H0.out.head).four'
 go_wp2_with fail; refine (eqW_own V2 V0 W0 _ _ _ H2.out.tail HF2.out H0.out.tail HF0.out HK0.out).mono ?_
 rintro r wy ⟨rfl, hby⟩
 have LZ : Hid (Below wz.heap.size wz wy) := bl_trans LZ.out hby
 have H1 : Hid (Owns wy X7.heap.size (rB kg 40 [V1.g, V1.f, V1.t, V1.r] :: rW V1 (wW 1 W0))) := H1.out.later hby
 clear hby x0 x1 x2 x3 x4 y0 y1 y2 y3 y4 H0 H2; obtain ⟨x0, x1, x2, x3, x4⟩ := (show Blk wy kg #[V1.g, V1.f, V1.t, V1.r] 40 from rB_blk H1.out.head).four'
 go_wp2_with fail; refine (heldW_o X7.heap.size V1 W0 _ (HFp.out.ow H1.out.tail) HK0.out).mono ?_
 rintro r wv ⟨rfl, hbv⟩
 have LF : Hid (Below w.heap.size w wv) := bl_trans LAz.out (bl_trans LZ.out hbv)
 clear hbv x0 x1 x2 x3 x4 H1; go_wp2_with fail; go_ret; exact ⟨rfl, LF.out⟩
end Go.Proofs.YtkihhadcoclnaaaGreat
