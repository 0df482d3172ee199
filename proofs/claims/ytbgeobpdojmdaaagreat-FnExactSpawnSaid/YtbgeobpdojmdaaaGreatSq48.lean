import Derived.Test.YtbgeobpdojmdaaaGreatSq47
namespace Go.Proofs.YtbgeobpdojmdaaaGreat
set_option linter.unusedVariables false
set_option linter.unusedSimpArgs false
section
open Go.RowKit Go.Maps Go.WideMaps
set_option maxRecDepth 100000
theorem owns_drewx {w : World} {B : Nat} {R : List OR} (h : Owns w B R) : Owns w.drew B R := ⟨fun r hr => h.on r hr, h.nd⟩
set_option maxHeartbeats 8000000 in
theorem implSpawn_any (s1 s2 s3 : Option Addr) (c1 c2 c3 : Nat) (A B C : List (ByteArray × Int)) (a1 a2 a3 a4 : Option Addr) (b1 b2 b3 b4 : Nat) (W : Wd) (sc : Option Addr) (cc : Nat) (L : List C5) (Bc : Nat) (w : World) (hA : Decls w s1 A) (hB : Decls w s2 B) (hC : Decls w s3 C) (nm : ∀ i, i < (A ++ B ++ C).length → (dAt (A ++ B ++ C) i).1.size ≤ maxLen) (l1 : A.length ≤ 1048576) (l2 : B.length ≤ 1048576) (l3 : C.length ≤ 1048576)
  (hW : InW w 0 a1 a2 a3 a4 W) (hk : kW W) (hcap : W.tabs.length ≤ b3) (bR : ∀ t ∈ W.tabs, ∀ x ∈ t.rows, bE x) (hL : Els 5 cCell w Bc sc L) (lL : L.length ≤ 1048576) (hcc : L.length ≤ cc) :
  Calls Tryz.prog 11 #[.agg #[.slice s1 A.length c1, .slice s2 B.length c2, .slice s3 C.length c3], .agg #[.slice a1 W.gens.length b1, .slice a2 W.free.length b2, .slice a3 W.tabs.length b3, .slice a4 W.res.length b4], .slice sc L.length cc] w fun r w' => WSays3 (SpawnR A B C W L) w r w' := by
 have hal := alloc_old
 have haf := alloc_oldf
 obtain ⟨X, hX, k0, k1, k2, k3, L0⟩ := box4y w #[.slice s1 A.length c1, .slice s2 B.length c2, .slice s3 C.length c3] #[.slice a1 W.gens.length b1, .slice a2 W.free.length b2, .slice a3 W.tabs.length b3, .slice a4 W.res.length b4] #[.slice none 0 0, .slice none 0 0, .slice none 0 0, .slice none 0 0] #[.int .i64 0, .int .i64 0] 47 40 40 42
 have n4 : w.heap.size + 1 + 1 + 1 < X.heap.size := k3.lt
 have okC : Hid (okCs L) := by
  intro a ha
  obtain ⟨j, hj, rfl⟩ := List.getElem_of_mem ha
  obtain ⟨_, _, _, _, _, ok, _⟩ := eCell_cells hL (List.getElem?_eq_getElem hj)
  exact ok
 have HL := Hid.mk' hL
 go_enter Tryz.func11, Tryz.ntmps11
 go_wp2_with fail; rw [← hX]
 clear hX; refine (openBoard_any s1 s2 s3 c1 c2 c3 A B C a1 a2 a3 a4 b1 b2 b3 b4 W _ (hA.later L0) (hB.later L0) (hC.later L0) nm l1 l2 l3 (hW.later L0) hk hcap bR).mono ?_
 rintro r w1 ⟨bb, V, mb, rfl, hR, hF, hS⟩
 obtain ⟨g1, d1, g2, d2, g3, d3, g4, d4, ts, rfl⟩ := (hF.ow hR.o.tail).shape
 have K0 := Hid.mk' k0
 have K2 := Hid.mk' k2
 have K3 := Hid.mk' k3
 have HR := Hid.mk' hR
 have HF := Hid.mk' hF
 have HS := Hid.mk' hS
 have HK := Hid.mk' hk
 have LX := Hid.mk' L0
 have HA := Hid.mk' hA
 clear k0 k1 k2 k3 hR hF hS hB hC hW hA nm bR hcap L0 hk hL; have hb0 : X.heap.size ≤ bb := (HR.out.o.head.lt bb rfl).1
 obtain ⟨y0, y1, y2, y3, y4⟩ := (HR.out.blk K2.out (by omega)).four'
 obtain ⟨q0, q1, q2⟩ := (HR.out.blk K3.out n4).two
 have KB : Blk w1 bb #[.slice g1 W.gens.length d1, .slice g2 W.free.length d2, .slice g3 W.tabs.length d3, .slice g4 W.res.length d4, .map mb] 88 := rB_blk HR.out.o.head
 have x0 := KB.cell 0
 have x1 := KB.cell 1
 have x2 := KB.cell 2
 have x3 := KB.cell 3
 have lw : Hid (Below w.heap.size w w1) := bl_trans LX.out HR.out.l
 cases hst : standB A B C W
 ·
  have HG : Hid (SpawnR A B C W L W (0, 0) 1) := Or.inl ⟨by rw [hst]; rfl, rfl, rfl, rfl⟩
  have hO := Hid.mk' ((((HR.out.o.tail.put4 (n := w.heap.size + 1 + 1) (by omega) (.slice g1 W.gens.length d1) (.slice g2 W.free.length d2) (.slice g3 W.tabs.length d3) (.slice g4 W.res.length d4)).putC (p := ⟨w.heap.size + 1 + 1 + 1, 0, none⟩) n4 (.int .i64 0)).putC (p := ⟨w.heap.size + 1 + 1 + 1, 1, none⟩) n4 (.int .i64 0)).mono (B' := w.heap.size) (by omega))
  have hOb := Hid.mk' ((((HR.out.o.tail.putC (p := ⟨w.heap.size + 1 + 1 + 1, 0, none⟩) n4 (.int .i64 0)).putC (p := ⟨w.heap.size + 1 + 1 + 1, 1, none⟩) n4 (.int .i64 0)).put4 (n := w.heap.size + 1 + 1) (by omega) (.slice g1 W.gens.length d1) (.slice g2 W.free.length d2) (.slice g3 W.tabs.length d3) (.slice g4 W.res.length d4)).mono (B' := w.heap.size) (by omega))
  clear hst KB HS HR; go_wp2_with fail; first
   | refine bodyPost_ret (v := .tuple #[.agg #[.slice g1 W.gens.length d1, .slice g2 W.free.length d2, .slice g3 W.tabs.length d3, .slice g4 W.res.length d4], .agg #[.int .i64 0, .int .i64 0], .int .i64 1]) (by simp [results, Tryz.results11, go_sem, y0, y1, y2, y3, q0, q1]) rfl ⟨_, W, (0, 0), 1, rfl, HF.out.ow hO.out, HG.out, ((bl_put4 lw.out (by omega) _ _ _ _).setCell (by simp; omega) _).setCell (by simp; omega) _⟩
   | refine bodyPost_ret (v := .tuple #[.agg #[.slice g1 W.gens.length d1, .slice g2 W.free.length d2, .slice g3 W.tabs.length d3, .slice g4 W.res.length d4], .agg #[.int .i64 0, .int .i64 0], .int .i64 1]) (by simp [results, Tryz.results11, go_sem, y0, y1, y2, y3, q0, q1]) rfl ⟨_, W, (0, 0), 1, rfl, HF.out.ow hOb.out, HG.out, bl_put4 ((lw.out.setCell (by simp; omega) _).setCell (by simp; omega) _) (by omega) _ _ _ _⟩
 obtain ⟨r0, r1, r2, r3⟩ := (HR.out.blk K0.out (by omega)).three'
 have hlw := lw
 go_wp2_with fail; refine (cellsOk_any s1 s2 s3 c1 c2 c3 A B C sc cc L Bc _ (HA.out.later lw.out) (HL.out.later cCell_keeps lw.out) l1 lL hcc).mono ?_
 rintro r w2 ⟨rfl, hb2⟩
 have HR2 := Hid.mk' (HR.out.later hb2)
 have HL2 := Hid.mk' ((HL.out.later cCell_keeps lw.out).later cCell_keeps hb2)
 clear x0 x1 x2 x3 y0 y1 y2 y3 y4 q0 q1 q2 r0 r1 r2 r3 KB lw hlw HR HL; obtain ⟨b, n, f, rfl, hM, hSt, hnb, hlb, hnn⟩ := HS.out hst
 rw [← sort_cells]
 cases hso : sortB A L
 ·
  have HG : Hid (SpawnR A B C W L W (0, 0) 1) := Or.inl ⟨by rw [hst, hso]; rfl, rfl, rfl, rfl⟩
  obtain ⟨y0, y1, y2, y3, y4⟩ := (HR2.out.blk K2.out (by omega)).four'
  obtain ⟨q0, q1, q2⟩ := (HR2.out.blk K3.out n4).two
  have KB : Blk w2 bb #[.slice g1 W.gens.length d1, .slice g2 W.free.length d2, .slice g3 W.tabs.length d3, .slice g4 W.res.length d4, .map (some b)] 88 := rB_blk HR2.out.o.head
  have x0 := KB.cell 0
  have x1 := KB.cell 1
  have x2 := KB.cell 2
  have x3 := KB.cell 3
  have lw : Hid (Below w.heap.size w w2) := bl_trans LX.out HR2.out.l
  have hO := Hid.mk' ((((HR2.out.o.tail.put4 (n := w.heap.size + 1 + 1) (by omega) (.slice g1 W.gens.length d1) (.slice g2 W.free.length d2) (.slice g3 W.tabs.length d3) (.slice g4 W.res.length d4)).putC (p := ⟨w.heap.size + 1 + 1 + 1, 0, none⟩) n4 (.int .i64 0)).putC (p := ⟨w.heap.size + 1 + 1 + 1, 1, none⟩) n4 (.int .i64 0)).mono (B' := w.heap.size) (by omega))
  have hOb := Hid.mk' ((((HR2.out.o.tail.putC (p := ⟨w.heap.size + 1 + 1 + 1, 0, none⟩) n4 (.int .i64 0)).putC (p := ⟨w.heap.size + 1 + 1 + 1, 1, none⟩) n4 (.int .i64 0)).put4 (n := w.heap.size + 1 + 1) (by omega) (.slice g1 W.gens.length d1) (.slice g2 W.free.length d2) (.slice g3 W.tabs.length d3) (.slice g4 W.res.length d4)).mono (B' := w.heap.size) (by omega))
  clear KB HS HR2 hM hSt hnb hlb hnn hso hst hb2; go_wp2_with fail; first
   | refine bodyPost_ret (v := .tuple #[.agg #[.slice g1 W.gens.length d1, .slice g2 W.free.length d2, .slice g3 W.tabs.length d3, .slice g4 W.res.length d4], .agg #[.int .i64 0, .int .i64 0], .int .i64 1]) (by simp [results, Tryz.results11, go_sem, y0, y1, y2, y3, q0, q1]) rfl ⟨_, W, (0, 0), 1, rfl, HF.out.ow hO.out, HG.out, ((bl_put4 lw.out (by omega) _ _ _ _).setCell (by simp; omega) _).setCell (by simp; omega) _⟩
   | refine bodyPost_ret (v := .tuple #[.agg #[.slice g1 W.gens.length d1, .slice g2 W.free.length d2, .slice g3 W.tabs.length d3, .slice g4 W.res.length d4], .agg #[.int .i64 0, .int .i64 0], .int .i64 1]) (by simp [results, Tryz.results11, go_sem, y0, y1, y2, y3, q0, q1]) rfl ⟨_, W, (0, 0), 1, rfl, HF.out.ow hOb.out, HG.out, bl_put4 ((lw.out.setCell (by simp; omega) _).setCell (by simp; omega) _) (by omega) _ _ _ _⟩
 obtain ⟨hrt, hon⟩ := stand_tabs hst
 have hl12 : L.length ≤ 12 := by
  have h1 := sort_len hso
  have h2 := okR_l12 (by simp only [standB, Bool.and_eq_true] at hst; exact hst.1.1.1.1.1)
  omega
 obtain ⟨⟨G', F', e, cd⟩, htk⟩ : ∃ o, takeB W.gens W.free = o := ⟨_, rfl⟩
 have htk2 := takeB_tk (stand_okE hst)
 rw [htk] at htk2
 have hbe : bE e := by
  have := tk_bE (stand_okE hst)
  rw [← htk2] at this
  exact this
 have HM : Hid (Rm X X.heap.size b n f w2 ([] ++ rB bb 88 [.slice g1 W.gens.length d1, .slice g2 W.free.length d2, .slice g3 W.tabs.length d3, .slice g4 W.res.length d4, .map (some b)] :: rW ⟨.slice g1 W.gens.length d1, .slice g2 W.free.length d2, .slice g3 W.tabs.length d3, .slice g4 W.res.length d4, ts⟩ W)) := ⟨HR2.out, hM.later hb2, hnb, hlb⟩
 have HKL := Hid.mk' (spawn_any (X := X) (B := X.heap.size) [] bb g1 g2 d1 d2 (.slice g4 W.res.length d4) g3 d3 ts W sc cc L Bc w2 HM.out HF.out HK.out HL2.out okC.out hl12 (fun t ht => (hrt t ht).len) (stand_lens hst).1 (stand_lens hst).2 (stand_40 hst) (stand_okE hst) (by omega) G' F' e cd htk hbe)
 have HST := Hid.mk' (And.intro hst hso)
 have HTK := Hid.mk' htk2.symm
 clear hst hso HS HM hM hSt hnb hlb hnn hrt hon hb2 htk htk2 hbe hl12; go_wp2_with fail; refine HKL.out.mono ?_
 rintro r w3 hr
 clear HKL HR2 HL2; rcases hr with ⟨hcd, rfl, hR3⟩ | ⟨rfl, K, hKp, hKs, ⟨rfl, hno, h4, hR3⟩ | ⟨i, T1, W1, s1', k1', s2', k2', st, cp1, ts1, rfl, hGA, hF3, hR3⟩⟩
 ·
  have HG : Hid (SpawnR A B C W L W (0, 0) 3) := Or.inr ⟨HST.out.1, HST.out.2, Or.inl ⟨Or.inl (by rw [HTK.out]; exact hcd), rfl, rfl, rfl⟩⟩
  have HR3 := Hid.mk' (((carr_Rm _ _ _ _ _).later hR3 (bl_alloc (Below.refl _ w3) (.cells #[.int .i64 0, .int .i64 0] 42))).rs)
  have KX := Hid.mk' (Blk.new w3 #[.int .i64 0, .int .i64 0] 42)
  have hkX : X.heap.size ≤ w3.heap.size := hR3.rs.s
  clear hR3 hcd; go_upto_region 5 with fail
  generalize hwx : w3.alloc (.cells #[.int .i64 0, .int .i64 0] 42) = wx at HR3 KX ⊢
  generalize hkx : w3.heap.size = kx at KX hkX ⊢
  clear hwx hkx; obtain ⟨t0, t1, t2⟩ := KX.out.two
  obtain ⟨y0, y1, y2, y3, y4⟩ := (HR3.out.blk K2.out (by omega)).four'
  obtain ⟨q0, q1, q2⟩ := (HR3.out.blk K3.out n4).two
  have KB : Blk wx bb #[.slice g1 W.gens.length d1, .slice g2 W.free.length d2, .slice g3 W.tabs.length d3, .slice g4 W.res.length d4, .map (some b)] 88 := rB_blk HR3.out.o.head
  have x0 := KB.cell 0
  have x1 := KB.cell 1
  have x2 := KB.cell 2
  have x3 := KB.cell 3
  have lw : Hid (Below w.heap.size w wx) := bl_trans LX.out HR3.out.l
  have hO := Hid.mk' ((((HR3.out.o.tail.put4 (n := w.heap.size + 1 + 1) (by omega) (.slice g1 W.gens.length d1) (.slice g2 W.free.length d2) (.slice g3 W.tabs.length d3) (.slice g4 W.res.length d4)).putC (p := ⟨w.heap.size + 1 + 1 + 1, 0, none⟩) n4 (.int .i64 0)).putC (p := ⟨w.heap.size + 1 + 1 + 1, 1, none⟩) n4 (.int .i64 0)).mono (B' := w.heap.size) (by omega))
  have hOb := Hid.mk' ((((HR3.out.o.tail.putC (p := ⟨w.heap.size + 1 + 1 + 1, 0, none⟩) n4 (.int .i64 0)).putC (p := ⟨w.heap.size + 1 + 1 + 1, 1, none⟩) n4 (.int .i64 0)).put4 (n := w.heap.size + 1 + 1) (by omega) (.slice g1 W.gens.length d1) (.slice g2 W.free.length d2) (.slice g3 W.tabs.length d3) (.slice g4 W.res.length d4)).mono (B' := w.heap.size) (by omega))
  have e1 : ¬ kx = w.heap.size + 1 + 1 := by omega
  have e2 : ¬ kx = w.heap.size + 1 + 1 + 1 := by omega
  have e3 : ¬ bb = w.heap.size + 1 + 1 := by omega
  have e4 : ¬ bb = w.heap.size + 1 + 1 + 1 := by omega
  have e5 : ¬ w.heap.size + 1 + 1 = kx := by omega
  have e6 : ¬ w.heap.size + 1 + 1 + 1 = kx := by omega
  have e7 : ¬ w.heap.size + 1 + 1 = bb := by omega
  have e8 : ¬ w.heap.size + 1 + 1 + 1 = bb := by omega
  clear KB HR3 KX; go_region
  go_wp2_with fail; refine bodyPost_ret (v := .tuple #[.agg #[.slice g1 W.gens.length d1, .slice g2 W.free.length d2, .slice g3 W.tabs.length d3, .slice g4 W.res.length d4], .agg #[.int .i64 0, .int .i64 0], .int .i64 3]) (by simp [results, Tryz.results11, go_sem, y0, y1, y2, y3, q0, q1]) rfl ⟨_, W, (0, 0), 3, rfl, HF.out.ow (owns_drewx hO.out), HG.out, (((bl_put4 lw.out (by omega) _ _ _ _).setCell (by simp; omega) _).setCell (by simp; omega) _).drew⟩
 ·
  have HG : Hid (SpawnR A B C W L W (0, 0) 3) := Or.inr ⟨HST.out.1, HST.out.2, Or.inl ⟨Or.inr ⟨by rw [← (sort_is HST.out.2 hKp hKs).1]; exact hno, h4⟩, rfl, rfl, rfl⟩⟩
  have HR3 := Hid.mk' (((carr_Rm _ _ _ _ _).later hR3 (bl_alloc (Below.refl _ w3) (.cells #[.int .i64 0, .int .i64 0] 42))).rs)
  have KX := Hid.mk' (Blk.new w3 #[.int .i64 0, .int .i64 0] 42)
  have hkX : X.heap.size ≤ w3.heap.size := hR3.rs.s
  clear hR3 hno h4 hKp hKs; go_upto_region 5 with fail
  generalize hwx : w3.alloc (.cells #[.int .i64 0, .int .i64 0] 42) = wx at HR3 KX ⊢
  generalize hkx : w3.heap.size = kx at KX hkX ⊢
  clear hwx hkx; obtain ⟨t0, t1, t2⟩ := KX.out.two
  obtain ⟨y0, y1, y2, y3, y4⟩ := (HR3.out.blk K2.out (by omega)).four'
  obtain ⟨q0, q1, q2⟩ := (HR3.out.blk K3.out n4).two
  have KB : Blk wx bb #[.slice g1 W.gens.length d1, .slice g2 W.free.length d2, .slice g3 W.tabs.length d3, .slice g4 W.res.length d4, .map (some b)] 88 := rB_blk HR3.out.o.head
  have x0 := KB.cell 0
  have x1 := KB.cell 1
  have x2 := KB.cell 2
  have x3 := KB.cell 3
  have lw : Hid (Below w.heap.size w wx) := bl_trans LX.out HR3.out.l
  have hO := Hid.mk' ((((HR3.out.o.tail.put4 (n := w.heap.size + 1 + 1) (by omega) (.slice g1 W.gens.length d1) (.slice g2 W.free.length d2) (.slice g3 W.tabs.length d3) (.slice g4 W.res.length d4)).putC (p := ⟨w.heap.size + 1 + 1 + 1, 0, none⟩) n4 (.int .i64 0)).putC (p := ⟨w.heap.size + 1 + 1 + 1, 1, none⟩) n4 (.int .i64 0)).mono (B' := w.heap.size) (by omega))
  have hOb := Hid.mk' ((((HR3.out.o.tail.putC (p := ⟨w.heap.size + 1 + 1 + 1, 0, none⟩) n4 (.int .i64 0)).putC (p := ⟨w.heap.size + 1 + 1 + 1, 1, none⟩) n4 (.int .i64 0)).put4 (n := w.heap.size + 1 + 1) (by omega) (.slice g1 W.gens.length d1) (.slice g2 W.free.length d2) (.slice g3 W.tabs.length d3) (.slice g4 W.res.length d4)).mono (B' := w.heap.size) (by omega))
  have e1 : ¬ kx = w.heap.size + 1 + 1 := by omega
  have e2 : ¬ kx = w.heap.size + 1 + 1 + 1 := by omega
  have e3 : ¬ bb = w.heap.size + 1 + 1 := by omega
  have e4 : ¬ bb = w.heap.size + 1 + 1 + 1 := by omega
  have e5 : ¬ w.heap.size + 1 + 1 = kx := by omega
  have e6 : ¬ w.heap.size + 1 + 1 + 1 = kx := by omega
  have e7 : ¬ w.heap.size + 1 + 1 = bb := by omega
  have e8 : ¬ w.heap.size + 1 + 1 + 1 = bb := by omega
  clear KB HR3 KX; go_region
  go_wp2_with fail; refine bodyPost_ret (v := .tuple #[.agg #[.slice g1 W.gens.length d1, .slice g2 W.free.length d2, .slice g3 W.tabs.length d3, .slice g4 W.res.length d4], .agg #[.int .i64 0, .int .i64 0], .int .i64 3]) (by simp [results, Tryz.results11, go_sem, y0, y1, y2, y3, q0, q1]) rfl ⟨_, W, (0, 0), 3, rfl, HF.out.ow (owns_drewx hO.out), HG.out, (((bl_put4 lw.out (by omega) _ _ _ _).setCell (by simp; omega) _).setCell (by simp; omega) _).drew⟩
 obtain ⟨W2, hW2⟩ : ∃ W2, Hid (setW ⟨G', F', W1.tabs, W1.res⟩ i (addT T1 e K) = W2) := ⟨_, rfl⟩
 have HG : Hid (SpawnR A B C W L W2 e 0) := Or.inr ⟨HST.out.1, HST.out.2, Or.inr ⟨by rw [HTK.out], i, T1, W1, by rw [← (sort_is HST.out.2 hKp hKs).1]; exact hGA, by rw [HTK.out, ← (sort_is HST.out.2 hKp hKs).1]; exact hW2.out.symm, by rw [HTK.out], rfl⟩⟩
 rw [hW2.out] at hR3 hF3
 have HF3 := Hid.mk' hF3
 have HR3 := Hid.mk' (((carr_Rm _ _ _ _ _).later hR3 (bl_alloc (Below.refl _ w3) (.cells #[.int .i64 e.1, .int .i64 e.2] 42))).rs)
 have KX := Hid.mk' (Blk.new w3 #[.int .i64 e.1, .int .i64 e.2] 42)
 have hkX : X.heap.size ≤ w3.heap.size := hR3.rs.s
 clear hR3 hGA hKp hKs hF3; go_upto_region 5 with fail
 generalize hwx : w3.alloc (.cells #[.int .i64 e.1, .int .i64 e.2] 42) = wx at HR3 KX ⊢
 generalize hkx : w3.heap.size = kx at KX hkX ⊢
 clear hwx hkx; obtain ⟨t0, t1, t2⟩ := KX.out.two
 obtain ⟨y0, y1, y2, y3, y4⟩ := (HR3.out.blk K2.out (by omega)).four'
 obtain ⟨q0, q1, q2⟩ := (HR3.out.blk K3.out n4).two
 have KB : Blk wx bb #[.slice s1' G'.length k1', .slice s2' F'.length k2', .slice st W1.tabs.length cp1, .slice g4 W.res.length d4, .map (some b)] 88 := rB_blk HR3.out.o.head
 have x0 := KB.cell 0
 have x1 := KB.cell 1
 have x2 := KB.cell 2
 have x3 := KB.cell 3
 have lw : Hid (Below w.heap.size w wx) := bl_trans LX.out HR3.out.l
 have hO := Hid.mk' ((((HR3.out.o.tail.put4 (n := w.heap.size + 1 + 1) (by omega) (.slice s1' G'.length k1') (.slice s2' F'.length k2') (.slice st W1.tabs.length cp1) (.slice g4 W.res.length d4)).putC (p := ⟨w.heap.size + 1 + 1 + 1, 0, none⟩) n4 (.int .i64 e.1)).putC (p := ⟨w.heap.size + 1 + 1 + 1, 1, none⟩) n4 (.int .i64 e.2)).mono (B' := w.heap.size) (by omega))
 have hOb := Hid.mk' ((((HR3.out.o.tail.putC (p := ⟨w.heap.size + 1 + 1 + 1, 0, none⟩) n4 (.int .i64 e.1)).putC (p := ⟨w.heap.size + 1 + 1 + 1, 1, none⟩) n4 (.int .i64 e.2)).put4 (n := w.heap.size + 1 + 1) (by omega) (.slice s1' G'.length k1') (.slice s2' F'.length k2') (.slice st W1.tabs.length cp1) (.slice g4 W.res.length d4)).mono (B' := w.heap.size) (by omega))
 have e1 : ¬ kx = w.heap.size + 1 + 1 := by omega
 have e2 : ¬ kx = w.heap.size + 1 + 1 + 1 := by omega
 have e3 : ¬ bb = w.heap.size + 1 + 1 := by omega
 have e4 : ¬ bb = w.heap.size + 1 + 1 + 1 := by omega
 have e5 : ¬ w.heap.size + 1 + 1 = kx := by omega
 have e6 : ¬ w.heap.size + 1 + 1 + 1 = kx := by omega
 have e7 : ¬ w.heap.size + 1 + 1 = bb := by omega
 have e8 : ¬ w.heap.size + 1 + 1 + 1 = bb := by omega
 clear KB HR3 KX; go_region
 go_wp2_with fail; refine bodyPost_ret (v := .tuple #[.agg #[.slice s1' G'.length k1', .slice s2' F'.length k2', .slice st W1.tabs.length cp1, .slice g4 W.res.length d4], .agg #[.int .i64 e.1, .int .i64 e.2], .int .i64 0]) (by simp [results, Tryz.results11, go_sem, y0, y1, y2, y3, q0, q1]) rfl ⟨_, W2, e, 0, rfl, HF3.out.ow (owns_drewx hO.out), HG.out, (((bl_put4 lw.out (by omega) _ _ _ _).setCell (by simp; omega) _).setCell (by simp; omega) _).drew⟩
end
section
open Go.RowKit Go.Maps Go.WideMaps
set_option maxRecDepth 100000
theorem SpA.same {A B C : List (ByteArray × Int)} {W : Wd} {L : List C5} {W1 W2 : Wd} {e1 e2 : E2} {c1 c2 : Int} (hst : standB A B C W = true) (h1 : SpA W L W1 e1 c1) (h2 : SpA W L W2 e2 c2) : W1 = W2 ∧ e1 = e2 ∧ c1 = c2 := by
 have no : ∀ {i : Nat} {T1 : Tab} {W1 : Wd}, (¬ (tk W.gens W.free).2.2.2 = 0 ∨ ((∀ t ∈ W.tabs, ¬ t.cols = L.map (·.1)) ∧ W.tabs.length = 40)) → (tk W.gens W.free).2.2.2 = 0 → GoA W W1 T1 L i → False := by
  rintro i T1 W1 (h | ⟨hn, h4⟩) h0 ⟨g1, g2, g3⟩
  ·
   exact h h0
  rcases g3 with rfl | ⟨rfl, g3, g4, g5, g6⟩
  ·
   exact hn _ (List.mem_of_getElem? g1) g2
  exact g6 h4
 rcases h1 with ⟨hn, rfl, rfl, rfl⟩ | ⟨h0, i, T1, V1, g1, rfl, rfl, rfl⟩
 ·
  rcases h2 with ⟨_, rfl, rfl, rfl⟩ | ⟨h0, i, T1, V1, g1, rfl, rfl, rfl⟩
  ·
   exact ⟨rfl, rfl, rfl⟩
  exact absurd g1 (no hn h0)
 rcases h2 with ⟨hn, rfl, rfl, rfl⟩ | ⟨_, j, T2, V2, g2, rfl, rfl, rfl⟩
 ·
  exact absurd g1 (no hn h0)
 obtain ⟨rfl, rfl, rfl⟩ := g1.same hst g2
 exact ⟨rfl, rfl, rfl⟩
theorem SpawnR.same {A B C : List (ByteArray × Int)} {W : Wd} {L : List C5} {W1 W2 : Wd} {e1 e2 : E2} {c1 c2 : Int} (h1 : SpawnR A B C W L W1 e1 c1) (h2 : SpawnR A B C W L W2 e2 c2) : W1 = W2 ∧ e1 = e2 ∧ c1 = c2 := by
 rcases h1 with ⟨hf, rfl, rfl, rfl⟩ | ⟨ht, hs, h1⟩
 ·
  rcases h2 with ⟨_, rfl, rfl, rfl⟩ | ⟨ht, hs, _⟩
  ·
   exact ⟨rfl, rfl, rfl⟩
  rw [ht, hs] at hf; cases hf
 rcases h2 with ⟨hf, _⟩ | ⟨_, _, h2⟩
 ·
  rw [ht, hs] at hf; cases hf
 exact h1.same ht h2
theorem tk_k {G F : List Int} (h : okE G F = true) : (tk G F).1.length ≤ 1048576 ∧ (tk G F).2.1.length ≤ 1048576 := by
 have hl := okE_len h
 unfold tk
 split
 ·
  simp; omega
 split <;> simp <;> omega
theorem SpawnR.kW {A B C : List (ByteArray × Int)} {W : Wd} {L : List C5} {W1 : Wd} {e1 : E2} {c1 : Int} (h : SpawnR A B C W L W1 e1 c1) (hk : kW W) : kW W1 := by
 rcases h with ⟨_, rfl, _⟩ | ⟨hst, hs, ⟨_, rfl, _⟩ | ⟨_, i, T1, V1, g1, rfl, rfl, _⟩⟩
 ·
  exact hk
 ·
  exact hk
 have hlo : (outL L A.length).length ≤ 1000 := by
  have h1 := outL_len_nodup L ((sortB_iff A L).1 hs).2 A.length
  have h2 := okR_l12 (by simp only [standB, Bool.and_eq_true] at hst; exact hst.1.1.1.1.1)
  omega
 have h := g1.size (e := (tk W.gens W.free).2.2.1) hk hlo (stand_lens hst).1 (stand_lens hst).2 (stand_40 hst)
 have h2 := tk_k (stand_okE hst)
 exact ⟨h2.1, h2.2, h.2.2.1, h.2.2.2⟩
end
end Go.Proofs.YtbgeobpdojmdaaaGreat
