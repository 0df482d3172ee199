import Derived.Test.YtaadndkcomgfiaaGreatSl34
import Derived.Test.YtaadndkcomgfiaaGreatSl36
import Derived.Test.YtaadndkcomgfiaaGreatSl28
namespace Go.Proofs.YtaadndkcomgfiaaGreat
open Go.RowKit Go.Maps Go.WideMaps
set_option linter.unusedVariables false
set_option linter.unusedSimpArgs false
set_option maxRecDepth 100000
theorem Owns.apart {w : World} {B : Nat} {R S : List OR} (h : Owns w B (R ++ S)) {a b : Nat} (ha : a ∈ blks R) (hb : b ∈ blks S) : ¬ a = b := by
 have := h.nd
 rw [blks_append] at this
 exact (List.nodup_append.1 this).2.2 a ha b hb
theorem far4 {w : World} {n b o o0 o1 o2 o3 : Nat} (u0 u1 u2 u3 : Value) (h : ¬ b = n) : ((((w.setCell ⟨n, o0, none⟩ u0).setCell ⟨n, o1, none⟩ u1).setCell ⟨n, o2, none⟩ u2).setCell ⟨n, o3, none⟩ u3).cell? ⟨b, o, none⟩ = w.cell? ⟨b, o, none⟩ := by
 have h' : ¬ n = b := fun e => h e.symm
 rw [World.cell?_setCell_far _ _ _ _ (by simpa using h'), World.cell?_setCell_far _ _ _ _ (by simpa using h'), World.cell?_setCell_far _ _ _ _ (by simpa using h'), World.cell?_setCell_far _ _ _ _ (by simpa using h')]
theorem own_path {X w : World} {B : Nat} {P : List OR} {V : WV} {W : Wd} {i j q : Nat} {T : Tab} {L : List V4} {p : V4} {c3 : Nat} {a3 : Option Addr} (hR : Rs X B w (P ++ rW V W)) (hF : OWf V W) (ht : V.t = .slice a3 W.tabs.length c3) (hT : W.tabs[i]? = some T) (hL : T.cells[q]? = some L) (hj : L[j]? = some p) :
  ∃ tb cb d' vb e', a3 = some ⟨tb, 0, none⟩ ∧ w.cell? ⟨tb, i * 3 + 2, none⟩ = some (.slice (some ⟨cb, 0, none⟩) T.cells.length d') ∧ w.cell? ⟨cb, q, none⟩ = some (.slice (some ⟨vb, 0, none⟩) L.length e') ∧ (∀ o, w.frozen? ⟨vb, o, none⟩ = false) ∧
   w.cell? ⟨vb, j * 4, none⟩ = some (.int .i64 p.1) ∧ w.cell? ⟨vb, j * 4 + 1, none⟩ = some (.int .i64 p.2.1) ∧ w.cell? ⟨vb, j * 4 + 2, none⟩ = some (.float .f64 p.2.2.1) ∧ w.cell? ⟨vb, j * 4 + 3, none⟩ = some (.float .f64 p.2.2.2) ∧ (¬ tb = vb) ∧ (¬ cb = vb) ∧ B ≤ vb ∧ ∀ k, k ∈ blks P → ¬ k = vb := by
 have hi : i < W.tabs.length := (List.getElem?_eq_some_iff.1 hT).1
 have hq : q < T.cells.length := (List.getElem?_eq_some_iff.1 hL).1
 have hjl : j < L.length := (List.getElem?_eq_some_iff.1 hj).1
 obtain ⟨t, htv⟩ := get_some (L := V.ts) (k := i) (by have := hF.len; omega)
 have hlx := hF.lens i t T htv hT
 obtain ⟨u, hu⟩ := get_some (L := t.xs) (k := q) (by omega)
 have hO := hR.o
 rw [rW_split htv hT] at hO
 have mT : ∀ r ∈ rTab t T, r.on w B := fun r hr => hO.on r (by simp [hr])
 have oT : World.ownsRow w B 88 3 (.slice a3 W.tabs.length c3) W.tabs.length (V.ts.flatMap tc) := by
  have h := hR.o.on (rT V.t V.ts) (by simp [rW])
  have h : World.ownsRow w B 88 3 V.t V.ts.length (V.ts.flatMap tc) := h
  rw [ht, hF.len] at h
  exact h
 obtain ⟨tb, hg⟩ := own_some oT (by omega)
 subst hg
 have c2 := (rT_cells oT hi htv).2.2
 have oS : World.ownsRow w B 41 1 t.x t.xs.length t.xs := mT (rS t.x t.xs) (by simp [rTab])
 obtain ⟨s', d', ex⟩ := OR.on.shape (r := rS t.x t.xs) oS
 have ex : t.x = .slice s' t.xs.length d' := ex
 have oS' := oS
 rw [ex] at oS'
 obtain ⟨cb, hg2⟩ := own_some oS' (by omega)
 subst hg2
 have c3' := World.ownsRow.cellAt oS' q (by omega)
 rw [hu] at c3'
 have oV : (rV u L).on w B := mT (rV u L) (by simp only [rTab, List.mem_cons]; exact Or.inr (Or.inr (Or.inr (mem_zipWith hu hL))))
 obtain ⟨sv, e', eu⟩ := oV.shape
 have eu : u = .slice sv L.length e' := eu
 subst eu
 have oV' : World.ownsRow w B 53 4 (.slice sv L.length e') L.length (L.flatMap vcells) := oV
 obtain ⟨vb, hg3⟩ := own_some oV' (by omega)
 subst hg3
 have ce : ∀ i u, (vcells p)[i]? = some u → w.cell? ⟨vb, j * 4 + i, none⟩ = some u := by
  intro i u hu
  have hi : i < 4 := (List.getElem?_eq_some_iff.1 hu).1
  rw [World.ownsRow.cellAt oV' (j * 4 + i) (by omega), flat_get (k := 4) (f := vcells) (fun _ => rfl) L j p hj i hi, hu]
 have hvb : vb ∈ blks (rVs t.xs T.cells) := mem_blks.2 ⟨_, mem_zipWith hu hL, rfl⟩
 refine ⟨tb, cb, d', vb, e', rfl, ?_, c3', fun o => World.ownsRow.frozenAt oV' o, ce 0 _ rfl, ce 1 _ rfl, ce 2 _ rfl, ce 3 _ rfl, ?_, ?_, (World.ownsRow.lt oV' vb rfl).1, ?_⟩
 ·
  rw [c2, ex, hlx]
 ·
  refine hO.apart (mem_blks.2 ⟨rT V.t V.ts, by simp, by show V.t.ownBlock = _; rw [ht]; rfl⟩) ?_
  rw [blks_append]
  refine List.mem_append_left _ ?_
  unfold rTab
  rw [blks_cons, blks_cons, blks_cons]
  simp [hvb]
 ·
  have h2 := hO.right.left
  unfold rTab at h2
  have h3 : Owns w B ([rI t.c T.cols, rE t.r T.rows, rS t.x t.xs] ++ rVs t.xs T.cells) := h2
  exact h3.apart (mem_blks.2 ⟨rS t.x t.xs, by simp, by show t.x.ownBlock = _; rw [ex]; rfl⟩) hvb
 ·
  intro k hk
  refine hO.apart (a := k) ?_ ?_ (b := vb)
  ·
   rw [blks_append, blks_append]
   exact List.mem_append_left _ (List.mem_append_left _ hk)
  ·
   rw [blks_append]
   refine List.mem_append_left _ ?_
   unfold rTab
   rw [blks_cons, blks_cons, blks_cons]
   simp [hvb]
set_option maxHeartbeats 8000000 in
theorem specSet_any (p1 q1 c1 p2 q2 c2 p3 q3 c3 : Nat) (A B C : List (ByteArray × Int)) (a1 a2 a3 a4 : Option Addr) (b1 b2 b3 b4 : Nat) (W : Wd) (e : E2) (comp : Int) (v : V4) (w : World) (hA : Decls w (some ⟨p1, q1, none⟩) A) (hB : Decls w (some ⟨p2, q2, none⟩) B) (hC : Decls w (some ⟨p3, q3, none⟩) C) (l1 : A.length ≤ 1048576)
  (hW : InW w 0 a1 a2 a3 a4 W) (hk : kW W) (ov : okV v) :
  Calls Tryz.prog 10 #[.agg #[.slice (some ⟨p1, q1, none⟩) A.length c1, .slice (some ⟨p2, q2, none⟩) B.length c2, .slice (some ⟨p3, q3, none⟩) C.length c3], .agg #[.slice a1 W.gens.length b1, .slice a2 W.free.length b2, .slice a3 W.tabs.length b3, .slice a4 W.res.length b4], .agg #[.int .i64 e.1, .int .i64 e.2], .int .i64 comp, .agg #[.int .i64 v.1, .int .i64 v.2.1, .float .f64 v.2.2.1, .float .f64 v.2.2.2]] w fun r w' => WSays (SetR A B C W e comp v) w r w' := by
 have hal := alloc_old
 have haf := alloc_oldf
 obtain ⟨X, hX, k0, k1, k2, k3, k4, L0⟩ := box5 w #[.slice (some ⟨p1, q1, none⟩) A.length c1, .slice (some ⟨p2, q2, none⟩) B.length c2, .slice (some ⟨p3, q3, none⟩) C.length c3] #[.slice a1 W.gens.length b1, .slice a2 W.free.length b2, .slice a3 W.tabs.length b3, .slice a4 W.res.length b4] #[.int .i64 e.1, .int .i64 e.2] #[.int .i64 v.1, .int .i64 v.2.1, .float .f64 v.2.2.1, .float .f64 v.2.2.2] #[.slice none 0 0, .slice none 0 0, .slice none 0 0, .slice none 0 0] 48 43 51 53 43
 have n4 : w.heap.size + 1 + 1 + 1 + 1 < X.heap.size := k4.lt
 go_enter Tryz.func10, Tryz.ntmps10
 go_wp2_with fail
 rw [← hX]
 clear hX
 refine (l4Copy_new a1 a2 a3 a4 b1 b2 b3 b4 W 0 _ (hW.later L0) hk).mono ?_
 rintro r w1 ⟨⟨V, rfl, hO⟩, hb1⟩
 obtain ⟨g1, d1, g2, d2, g3, d3, g4, d4, ts, rfl⟩ := hO.shape
 have K0 := Hid.mk' k0
 have K1 := Hid.mk' k1
 have K2 := Hid.mk' k2
 have K3 := Hid.mk' k3
 have K4 := Hid.mk' k4
 have HF := Hid.mk' hO.f
 have HA := Hid.mk' hA
 have HB := Hid.mk' hB
 have HC := Hid.mk' hC
 have HW := Hid.mk' hW
 have HK := Hid.mk' hk
 have LX := Hid.mk' L0
 have HR : Hid (Rs X X.heap.size (w1.alloc (.cells #[.slice g1 W.gens.length d1, .slice g2 W.free.length d2, .slice g3 W.tabs.length d3, .slice g4 W.res.length d4] 43)) (rB w1.heap.size 43 [.slice g1 W.gens.length d1, .slice g2 W.free.length d2, .slice g3 W.tabs.length d3, .slice g4 W.res.length d4] :: rW ⟨.slice g1 W.gens.length d1, .slice g2 W.free.length d2, .slice g3 W.tabs.length d3, .slice g4 W.res.length d4, ts⟩ W)) :=
  Rs.ins [] _ (⟨hb1, hO.own, hb1.size⟩ : Rs X X.heap.size w1 _) (bl_alloc (Below.refl _ w1) _) (blk_rB (Blk.new w1 _ _) (Nat.le_refl _))
 have hXw := hb1.size
 clear k0 k1 k2 k3 k4 hO hA hB hC hW L0 hb1
 go_upto_region 2 with fail
 generalize hY : w1.alloc (.cells #[.slice g1 W.gens.length d1, .slice g2 W.free.length d2, .slice g3 W.tabs.length d3, .slice g4 W.res.length d4] 43) = Y at HR ⊢
 generalize hkz : w1.heap.size = kz at HR hXw ⊢
 clear hY hkz
 have lw : Hid (Below w.heap.size w Y) := bl_trans LX.out HR.out.l
 obtain ⟨z0, z1, z2, z3⟩ := (HR.out.blk K0.out (by omega)).three'
 obtain ⟨t0, t1, t2, t3, t4⟩ := (HR.out.blk K1.out (by omega)).four'
 go_wp2_with fail
 refine (specWorldOk_any p1 q1 c1 p2 q2 c2 p3 q3 c3 A B C a1 a2 a3 a4 b1 b2 b3 b4 W _ (HA.out.later lw.out) (HB.out.later lw.out) (HC.out.later lw.out) (HW.out.later lw.out) HK.out).mono ?_
 rintro r w2 ⟨rfl, hb2⟩
 rw [spec_stand]
 have HR2 := Hid.mk' (HR.out.later hb2)
 have lw2 : Hid (Below w.heap.size w w2) := bl_trans lw.out hb2
 clear z0 z1 z2 z3 t0 t1 t2 t3 t4 hb2 HR lw
 obtain ⟨y0, y1, y2, y3, y4⟩ := (HR2.out.blk K4.out n4).four'
 obtain ⟨x0, x1, x2, x3, x4⟩ := (show Blk w2 kz #[.slice g1 W.gens.length d1, .slice g2 W.free.length d2, .slice g3 W.tabs.length d3, .slice g4 W.res.length d4] 43 from rB_blk HR2.out.o.head).four'
 cases hst : standB A B C W
 ·
  have HG : Hid (SetR A B C W e comp v W 1) := Or.inl ⟨by rw [hst]; rfl, rfl, rfl⟩
  have hO := Hid.mk' ((HR2.out.o.tail.put4 (n := w.heap.size + 1 + 1 + 1 + 1) n4 (.slice g1 W.gens.length d1) (.slice g2 W.free.length d2) (.slice g3 W.tabs.length d3) (.slice g4 W.res.length d4)).mono (B' := w.heap.size) (by omega))
  clear HR2 hst
  go_wp2_with fail
  refine bodyPost_ret (v := .tuple #[.agg #[.slice g1 W.gens.length d1, .slice g2 W.free.length d2, .slice g3 W.tabs.length d3, .slice g4 W.res.length d4], .int .i64 1]) (by simp [results, Tryz.results10, go_sem, y0, y1, y2, y3]) rfl ⟨_, W, 1, rfl, HF.out.ow hO.out, HG.out, bl_put4 lw2.out (by omega) _ _ _ _⟩
 ·
  obtain ⟨z0, z1, z2, z3⟩ := (HR2.out.blk K0.out (by omega)).three'
  obtain ⟨v0, v1, v2, v3, v4⟩ := (HR2.out.blk K3.out (by omega)).four'
  go_wp2_with fail
  refine (l4Fits_any (some ⟨p1, q1, none⟩) (some ⟨p2, q2, none⟩) (some ⟨p3, q3, none⟩) c1 c2 c3 A B C comp v _ (HA.out.later lw2.out) l1 ov).mono ?_
  rintro r w3 ⟨rfl, hb3⟩
  have HR3 := Hid.mk' (HR2.out.later hb3)
  have lw3 : Hid (Below w.heap.size w w3) := bl_trans lw2.out hb3
  clear z0 z1 z2 z3 v0 v1 v2 v3 v4 y0 y1 y2 y3 y4 x0 x1 x2 x3 x4 hb3 HR2 lw2
  obtain ⟨y0, y1, y2, y3, y4⟩ := (HR3.out.blk K4.out n4).four'
  obtain ⟨x0, x1, x2, x3, x4⟩ := (show Blk w3 kz #[.slice g1 W.gens.length d1, .slice g2 W.free.length d2, .slice g3 W.tabs.length d3, .slice g4 W.res.length d4] 43 from rB_blk HR3.out.o.head).four'
  cases hft : fitB A comp v
  ·
   have HG : Hid (SetR A B C W e comp v W 1) := Or.inl ⟨by rw [hst, hft]; rfl, rfl, rfl⟩
   have hO := Hid.mk' ((HR3.out.o.tail.put4 (n := w.heap.size + 1 + 1 + 1 + 1) n4 (.slice g1 W.gens.length d1) (.slice g2 W.free.length d2) (.slice g3 W.tabs.length d3) (.slice g4 W.res.length d4)).mono (B' := w.heap.size) (by omega))
   clear HR3 hst hft
   go_wp2_with fail
   refine bodyPost_ret (v := .tuple #[.agg #[.slice g1 W.gens.length d1, .slice g2 W.free.length d2, .slice g3 W.tabs.length d3, .slice g4 W.res.length d4], .int .i64 1]) (by simp [results, Tryz.results10, go_sem, y0, y1, y2, y3]) rfl ⟨_, W, 1, rfl, HF.out.ow hO.out, HG.out, bl_put4 lw3.out (by omega) _ _ _ _⟩
  ·
   have HB1 : Hid ((standB A B C W && fitB A comp v) = true) := by show _ = _; rw [hst, hft]; rfl
   obtain ⟨hrt, hon⟩ := stand_tabs hst
   simp only [onceB, decide_eq_true_eq] at hon
   have hoe : okE W.gens W.free = true := by
    have := hst
    simp only [standB, Bool.and_eq_true] at this
    exact this.1.1.1.1.2
   have HON := Hid.mk' hon
   have HRT := Hid.mk' hrt
   have HOE := Hid.mk' hoe
   obtain ⟨t0, t1, t2, t3, t4⟩ := (HR3.out.blk K1.out (by omega)).four'
   obtain ⟨u0, u1, u2⟩ := (HR3.out.blk K2.out (by omega)).two
   have hk1 := HK.out.1
   have hk2 := HK.out.2.1
   clear hon hrt hoe hst hft
   go_wp2_with fail
   refine (l2Live_any a1 a2 b1 b2 W.gens W.free e.1 e.2 _ (HW.out.later lw3.out).g.ints (HW.out.later lw3.out).f.ints hk1 hk2).mono ?_
   rintro r w4 ⟨rfl, hb4⟩
   have HR4 := Hid.mk' (HR3.out.later hb4)
   have lw4 : Hid (Below w.heap.size w w4) := bl_trans lw3.out hb4
   clear t0 t1 t2 t3 t4 u0 u1 u2 y0 y1 y2 y3 y4 x0 x1 x2 x3 x4 hb4 HR3 lw3
   obtain ⟨y0, y1, y2, y3, y4⟩ := (HR4.out.blk K4.out n4).four'
   obtain ⟨x0, x1, x2, x3, x4⟩ := (show Blk w4 kz #[.slice g1 W.gens.length d1, .slice g2 W.free.length d2, .slice g3 W.tabs.length d3, .slice g4 W.res.length d4] 43 from rB_blk HR4.out.o.head).four'
   cases hlv : l2B W.gens W.free e.1 e.2
   ·
    have HG : Hid (SetR A B C W e comp v W 2) := by
     refine Or.inr ⟨HB1.out, Or.inl ⟨fun hm => ?_, rfl, rfl⟩⟩
     have := (mem_live HOE.out).1 (HON.out.2.1 e hm)
     rw [hlv] at this
     cases this
    have hO := Hid.mk' ((HR4.out.o.tail.put4 (n := w.heap.size + 1 + 1 + 1 + 1) n4 (.slice g1 W.gens.length d1) (.slice g2 W.free.length d2) (.slice g3 W.tabs.length d3) (.slice g4 W.res.length d4)).mono (B' := w.heap.size) (by omega))
    clear HR4 hlv
    go_wp2_with fail
    refine bodyPost_ret (v := .tuple #[.agg #[.slice g1 W.gens.length d1, .slice g2 W.free.length d2, .slice g3 W.tabs.length d3, .slice g4 W.res.length d4], .int .i64 2]) (by simp [results, Tryz.results10, go_sem, y0, y1, y2, y3]) rfl ⟨_, W, 2, rfl, HF.out.ow hO.out, HG.out, bl_put4 lw4.out (by omega) _ _ _ _⟩
   ·
    have HER : Hid (e ∈ rowsOf W.tabs) := all_in HON.out.1 HON.out.2.1 HON.out.2.2 e ((mem_live HOE.out).2 hlv)
    obtain ⟨t0, t1, t2, t3, t4⟩ := (HR4.out.blk K1.out (by omega)).four'
    obtain ⟨u0, u1, u2⟩ := (HR4.out.blk K2.out (by omega)).two
    clear hlv
    go_wp2_with fail
    refine (specWhere_any a1 a2 a3 a4 b1 b2 b3 b4 W 0 e.1 e.2 _ (HW.out.later lw4.out) HK.out).mono ?_
    rintro r w5 ⟨⟨r1, r2, rfl, hwh⟩, hb5⟩
    have HR5 := Hid.mk' (HR4.out.later hb5)
    have lw5 : Hid (Below w.heap.size w w5) := bl_trans lw4.out hb5
    clear t0 t1 t2 t3 t4 u0 u1 u2 y0 y1 y2 y3 y4 x0 x1 x2 x3 x4 hb5 HR4 lw4
    obtain ⟨y0, y1, y2, y3, y4⟩ := (HR5.out.blk K4.out n4).four'
    obtain ⟨x0, x1, x2, x3, x4⟩ := (show Blk w5 kz #[.slice g1 W.gens.length d1, .slice g2 W.free.length d2, .slice g3 W.tabs.length d3, .slice g4 W.res.length d4] 43 from rB_blk HR5.out.o.head).four'
    rcases hwh with ⟨rfl, rfl, hno⟩ | ⟨i, j, t, rfl, rfl, ht, hx, _, _⟩
    ·
     exfalso
     have := HER.out
     simp only [rowsOf, List.mem_flatMap] at this
     obtain ⟨t, ht, hx⟩ := this
     obtain ⟨i, hi, rfl⟩ := List.getElem_of_mem ht
     obtain ⟨j, hj, he⟩ := List.getElem_of_mem hx
     exact hno i _ (List.getElem?_eq_getElem hi) j (by rw [List.getElem?_eq_getElem hj, he])
    ·
     have HTi := Hid.mk' ht
     have HXj := Hid.mk' hx
     have hit : i < W.tabs.length := (List.getElem?_eq_some_iff.1 ht).1
     obtain ⟨tb, tq, ea3, _, hpt, s1, f1, s2, f2, s3, f3, m0, m1, m2, o1, o2, o3⟩ := eTab_cells (HW.out.later lw5.out).t ht
     subst ea3
     have kt1 := (HK.out.2.2.1.2 t (List.mem_of_getElem? ht)).1
     have hkl := HK.out.2.2.1.1
     have O1 := Hid.mk' o1
     have iI0 : (0 : Int) ≤ (i : Int) := by omega
     have iI1 : (i : Int) < (W.tabs.length : Int) := by omega
     obtain ⟨t0, t1, t2, t3, t4⟩ := (HR5.out.blk K1.out (by omega)).four'
     clear ht hx o1 o2 o3
     go_wp2_with fail
     refine (l4At_any s1 f1 t.cols comp 0 _ O1.out kt1).mono ?_
     rintro r w6 ⟨⟨qa, rfl, hq⟩, rfl⟩
     rcases hq with ⟨rfl, hno⟩ | ⟨q, rfl, hq⟩
     ·
      have HG : Hid (SetR A B C W e comp v W 4) := Or.inr ⟨HB1.out, Or.inr (Or.inl ⟨i, j, t, HTi.out, HXj.out, hno, rfl, rfl⟩)⟩
      have hO := Hid.mk' ((HR5.out.o.tail.put4 (n := w.heap.size + 1 + 1 + 1 + 1) n4 (.slice g1 W.gens.length d1) (.slice g2 W.free.length d2) (.slice g3 W.tabs.length d3) (.slice g4 W.res.length d4)).mono (B' := w.heap.size) (by omega))
      clear HR5 hno m0 m1 m2 t0 t1 t2 t3 t4
      go_wp2_with fail
      refine bodyPost_ret (v := .tuple #[.agg #[.slice g1 W.gens.length d1, .slice g2 W.free.length d2, .slice g3 W.tabs.length d3, .slice g4 W.res.length d4], .int .i64 4]) (by simp [results, Tryz.results10, go_sem, y0, y1, y2, y3]) rfl ⟨_, W, 4, rfl, HF.out.ow hO.out, HG.out, bl_put4 lw5.out (by omega) _ _ _ _⟩
     ·
      have HQ := Hid.mk' hq
      have rt := HRT.out t (List.mem_of_getElem? HTi.out)
      have hqc : q < t.cells.length := by rw [rt.len]; exact (List.getElem?_eq_some_iff.1 hq).1
      obtain ⟨L, hL⟩ := get_some hqc
      have hLr := rt.each q L hL
      have hjr : j < t.rows.length := (List.getElem?_eq_some_iff.1 HXj.out).1
      obtain ⟨p, hp⟩ := get_some (L := L) (k := j) (by omega)
      have hjL : j < L.length := by omega
      have HG : Hid (SetR A B C W e comp v (setW W i (setT t q (L.set j v))) 0) := Or.inr ⟨HB1.out, Or.inr (Or.inr ⟨i, j, q, t, L, HTi.out, HXj.out, hq, hL, rfl, rfl⟩)⟩
      obtain ⟨ob, cb, d', vb, e', eob, n2, n3, fz, pp1, pp2, pp3, pp4, nv1, nv2, nv3, nv4⟩ := own_path (P := [rB kz 43 [.slice g1 W.gens.length d1, .slice g2 W.free.length d2, .slice g3 W.tabs.length d3, .slice g4 W.res.length d4]]) HR5.out HF.out rfl HTi.out hL hp
      subst eob
      have nv5 : ¬ kz = vb := nv4 kz (by simp [blks, rB, Value.ownBlock])
      obtain ⟨-, hR6, hF6⟩ := cell_glue (w := w6.drew) (vo := j * 4) (P := [rB kz 43 [.slice g1 W.gens.length d1, .slice g2 W.free.length d2, .slice (some ⟨ob, 0, none⟩) W.tabs.length d3, .slice g4 W.res.length d4]]) HR5.out.drew HF.out rfl HTi.out hL hp rfl (by rw [Nat.zero_add]; exact n2) (by rw [Nat.zero_add]; exact n3) (by rw [Nat.zero_add]) v ov
      have HR6 := Hid.mk' hR6
      have HF6 := Hid.mk' hF6
      have lw6x : Hid (Below w.heap.size w ((((w6.drew.setCell ⟨vb, j * 4, none⟩ (.int .i64 v.1)).setCell ⟨vb, j * 4 + 1, none⟩ (.int .i64 v.2.1)).setCell ⟨vb, j * 4 + 2, none⟩ (.float .f64 v.2.2.1)).setCell ⟨vb, j * 4 + 3, none⟩ (.float .f64 v.2.2.2))) := bl_trans LX.out hR6.l
      obtain ⟨v0, v1, v2, v3, v4⟩ := (HR5.out.blk K3.out (by omega)).four'
      have qI0 : (0 : Int) ≤ (q : Int) := by omega
      have qI1 : (q : Int) < (t.cells.length : Int) := by omega
      have qn : ¬ ((q : Int) < 0) := by omega
      have jI0 : (0 : Int) ≤ (j : Int) := by omega
      have jI1 : (j : Int) < (L.length : Int) := by omega
      have nv6 : ¬ w.heap.size + 1 + 1 + 1 = vb := by omega
      clear hq hL hp hLr rt HR5 hR6 hF6 m0 m1 m2 t0 t1 t2 t3 t4 y0 y1 y2 y3 y4
      go_upto_region 10 with fail
      go_cut [12] (fun pz wx => pz = .pointer (some ⟨kz, 0, none⟩) ∧ Rs X X.heap.size wx (rB kz 43 [.slice g1 W.gens.length d1, .slice g2 W.free.length d2, .slice (some ⟨ob, 0, none⟩) W.tabs.length d3, .slice g4 W.res.length d4] :: rW ⟨.slice g1 W.gens.length d1, .slice g2 W.free.length d2, .slice (some ⟨ob, 0, none⟩) W.tabs.length d3, .slice g4 W.res.length d4, ts⟩ (setW W i (setT t q (L.set j v)))))
      case first =>
       refine wp_region_held_drew (S := (fun w' => w'.cell? ⟨kz, 2, none⟩ = some (.slice (some ⟨ob, 0, none⟩) W.tabs.length d3) ∧ w'.cell? ⟨ob, i * 3 + 2, none⟩ = some (.slice (some ⟨cb, 0, none⟩) t.cells.length d') ∧ w'.cell? ⟨cb, q, none⟩ = some (.slice (some ⟨vb, 0, none⟩) L.length e') ∧ w'.cell? ⟨w.heap.size + 1 + 1 + 1, 0, none⟩ = some (.int .i64 v.1) ∧ w'.cell? ⟨w.heap.size + 1 + 1 + 1, 1, none⟩ = some (.int .i64 v.2.1) ∧ w'.cell? ⟨w.heap.size + 1 + 1 + 1, 2, none⟩ = some (.float .f64 v.2.2.1) ∧ w'.cell? ⟨w.heap.size + 1 + 1 + 1, 3, none⟩ = some (.float .f64 v.2.2.2))) (by kernel_rfl) ?_ (fun hHeld => ?_)
       ·
        exact ⟨x2, n2, n3, v0, v1, v2, v3⟩
       refine wpAnyH_one (i := 0) (d := 53) (v := ?_) rfl rfl (by kernel_rfl) (by kernel_rfl) (by kernel_rfl) (fun _ _ _ h => h) (by rfl) (by assumption) ?_ ?_
       rotate_left 1
       ·
        intro w hSw; (try dsimp only at hSw); obtain ⟨s0, s1, s2, s3, s4, s5, s6⟩ := hSw; go_simp <;> with_reducible rfl
       simp only [List.foldl, Act.put, List.setIfInBounds_toArray, List.set_cons_zero, List.set_cons_succ]
       refine wpAnyH_one (i := 1) (d := 54) (v := ?_) rfl rfl (by kernel_rfl) (by kernel_rfl) (by kernel_rfl) (fun _ _ _ h => h) (by rfl) (by assumption) ?_ ?_
       rotate_left 1
       ·
        intro w hSw; (try dsimp only at hSw); obtain ⟨s0, s1, s2, s3, s4, s5, s6⟩ := hSw; go_simp <;> with_reducible rfl
       simp only [List.foldl, Act.put, List.setIfInBounds_toArray, List.set_cons_zero, List.set_cons_succ]
       refine wpAnyH_one (i := 2) (d := 55) (v := ?_) rfl rfl (by kernel_rfl) (by kernel_rfl) (by kernel_rfl) (fun _ _ _ h => h) (by rfl) (by assumption) ?_ ?_
       rotate_left 1
       ·
        intro w hSw; (try dsimp only at hSw); obtain ⟨s0, s1, s2, s3, s4, s5, s6⟩ := hSw; go_simp <;> with_reducible rfl
       simp only [List.foldl, Act.put, List.setIfInBounds_toArray, List.set_cons_zero, List.set_cons_succ]
       refine wpAnyH_one (i := 3) (d := 56) (v := ?_) rfl rfl (by kernel_rfl) (by kernel_rfl) (by kernel_rfl) (fun _ _ _ h => h) (by rfl) (by assumption) ?_ ?_
       rotate_left 1
       ·
        intro w hSw; (try dsimp only at hSw); obtain ⟨s0, s1, s2, s3, s4, s5, s6⟩ := hSw; go_simp <;> with_reducible rfl
       simp only [List.foldl, Act.put, List.setIfInBounds_toArray, List.set_cons_zero, List.set_cons_succ]
       refine wpAnyH_one (i := 4) (d := 57) (v := ?_) rfl rfl (by kernel_rfl) (by kernel_rfl) (by kernel_rfl) (fun _ _ _ h => h) (by rfl) (by assumption) ?_ ?_
       rotate_left 1
       ·
        intro w hSw; (try dsimp only at hSw); obtain ⟨s0, s1, s2, s3, s4, s5, s6⟩ := hSw; go_simp <;> with_reducible rfl
       simp only [List.foldl, Act.put, List.setIfInBounds_toArray, List.set_cons_zero, List.set_cons_succ]
       refine wpAnyH_one (i := 5) (d := 58) (v := ?_) rfl rfl (by kernel_rfl) (by kernel_rfl) (by kernel_rfl) (fun _ _ _ h => h) (by rfl) (by assumption) ?_ ?_
       rotate_left 1
       ·
        intro w hSw; (try dsimp only at hSw); obtain ⟨s0, s1, s2, s3, s4, s5, s6⟩ := hSw; go_simp <;> with_reducible rfl
       simp only [List.foldl, Act.put, List.setIfInBounds_toArray, List.set_cons_zero, List.set_cons_succ]
       refine wpAnyH_one (i := 6) (d := 59) (v := ?_) rfl rfl (by kernel_rfl) (by kernel_rfl) (by kernel_rfl) (fun _ _ _ h => h) (by rfl) (by assumption) ?_ ?_
       rotate_left 1
       ·
        intro w hSw; (try dsimp only at hSw); obtain ⟨s0, s1, s2, s3, s4, s5, s6⟩ := hSw; go_simp <;> with_reducible rfl
       simp only [List.foldl, Act.put, List.setIfInBounds_toArray, List.set_cons_zero, List.set_cons_succ]
       refine wpAnyH_one (i := 7) (d := 60) (v := ?_) rfl rfl (by kernel_rfl) (by kernel_rfl) (by kernel_rfl) (fun _ _ _ h => h) (by rfl) (by assumption) ?_ ?_
       rotate_left 1
       ·
        intro w hSw; (try dsimp only at hSw); obtain ⟨s0, s1, s2, s3, s4, s5, s6⟩ := hSw; go_simp <;> with_reducible rfl
       simp only [List.foldl, Act.put, List.setIfInBounds_toArray, List.set_cons_zero, List.set_cons_succ]
       refine wpAnyH_one (i := 8) (d := 61) (v := ?_) rfl rfl (by kernel_rfl) (by kernel_rfl) (by kernel_rfl) (fun _ _ _ h => h) (by rfl) (by assumption) ?_ ?_
       rotate_left 1
       ·
        intro w hSw; (try dsimp only at hSw); obtain ⟨s0, s1, s2, s3, s4, s5, s6⟩ := hSw; go_simp <;> with_reducible rfl
       simp only [List.foldl, Act.put, List.setIfInBounds_toArray, List.set_cons_zero, List.set_cons_succ]
       refine wpAnyH_one (i := 9) (d := 62) (v := ?_) rfl rfl (by kernel_rfl) (by kernel_rfl) (by kernel_rfl) (fun _ _ _ h => h) (by rfl) (by assumption) ?_ ?_
       rotate_left 1
       ·
        intro w hSw; (try dsimp only at hSw); obtain ⟨s0, s1, s2, s3, s4, s5, s6⟩ := hSw; go_simp <;> with_reducible rfl
       simp only [List.foldl, Act.put, List.setIfInBounds_toArray, List.set_cons_zero, List.set_cons_succ]
       refine wpAnyH_one (i := 10) (d := 63) (v := ?_) rfl rfl (by kernel_rfl) (by kernel_rfl) (by kernel_rfl) (fun _ _ _ h => h) (by rfl) (by assumption) ?_ ?_
       rotate_left 1
       ·
        intro w hSw; (try dsimp only at hSw); obtain ⟨s0, s1, s2, s3, s4, s5, s6⟩ := hSw; go_simp <;> with_reducible rfl
       simp only [List.foldl, Act.put, List.setIfInBounds_toArray, List.set_cons_zero, List.set_cons_succ]
       refine wpAnyH_one (i := 11) (d := 64) (v := ?_) rfl rfl (by kernel_rfl) (by kernel_rfl) (by kernel_rfl) (fun _ _ _ h => h) (by rfl) (by assumption) ?_ ?_
       rotate_left 1
       ·
        intro w hSw; (try dsimp only at hSw); obtain ⟨s0, s1, s2, s3, s4, s5, s6⟩ := hSw; go_simp <;> with_reducible rfl
       simp only [List.foldl, Act.put, List.setIfInBounds_toArray, List.set_cons_zero, List.set_cons_succ]
       refine wpAnyH_ready (rs := [12]) (by kernel_rfl) (by simp) ?_
       refine AllReadyH.cons rfl (fun K hK => ?_) AllReadyH.nil
       have fz' : ∀ o, w6.drew.frozen? ⟨vb, o, none⟩ = false := fz
       have pp1' : w6.drew.cell? ⟨vb, j * 4, none⟩ = some (.int .i64 p.1) := pp1
       have pp2' : w6.drew.cell? ⟨vb, j * 4 + 1, none⟩ = some (.int .i64 p.2.1) := pp2
       have pp3' : w6.drew.cell? ⟨vb, j * 4 + 2, none⟩ = some (.float .f64 p.2.2.1) := pp3
       have pp4' : w6.drew.cell? ⟨vb, j * 4 + 3, none⟩ = some (.float .f64 p.2.2.2) := pp4
       go_simp
       refine hK.out _ _ ?_ (fun hHeld => ?_)
       ·
        exact ⟨(far4 _ _ _ _ (by omega)).trans x2, (far4 _ _ _ _ (by omega)).trans n2, (far4 _ _ _ _ (by omega)).trans n3, (far4 _ _ _ _ (by omega)).trans v0, (far4 _ _ _ _ (by omega)).trans v1, (far4 _ _ _ _ (by omega)).trans v2, (far4 _ _ _ _ (by omega)).trans v3⟩
       clear hK K
       try simp only [List.foldl, Act.put, List.setIfInBounds_toArray, List.set_cons_zero, List.set_cons_succ]
       refine wpAnyH_done (by kernel_rfl) ?_ _
       clear hHeld
       go_wp2_with fail
       go_meet
       exact ⟨rfl, HR6.out⟩
      case rest =>
       clear x0 x1 x2 x3 x4 v0 v1 v2 v3 v4 n2 n3 fz pp1 pp2 pp3 pp4 HR6
       obtain ⟨rfl, hR6⟩ := hcut
       have HR6 := Hid.mk' hR6
       have lw6 : Hid (Below w.heap.size w wc) := bl_trans LX.out hR6.l
       clear hR6
       obtain ⟨y0, y1, y2, y3, y4⟩ := (HR6.out.blk K4.out n4).four'
       obtain ⟨x0, x1, x2, x3, x4⟩ := (show Blk wc kz #[.slice g1 W.gens.length d1, .slice g2 W.free.length d2, .slice (some ⟨ob, 0, none⟩) W.tabs.length d3, .slice g4 W.res.length d4] 43 from rB_blk HR6.out.o.head).four'
       have hO := Hid.mk' ((HR6.out.o.tail.put4 (n := w.heap.size + 1 + 1 + 1 + 1) n4 (.slice g1 W.gens.length d1) (.slice g2 W.free.length d2) (.slice (some ⟨ob, 0, none⟩) W.tabs.length d3) (.slice g4 W.res.length d4)).mono (B' := w.heap.size) (by omega))
       clear HR6
       go_wp2_with fail
       refine bodyPost_ret (v := .tuple #[.agg #[.slice g1 W.gens.length d1, .slice g2 W.free.length d2, .slice (some ⟨ob, 0, none⟩) W.tabs.length d3, .slice g4 W.res.length d4], .int .i64 0]) (by simp [results, Tryz.results10, go_sem, y0, y1, y2, y3]) rfl ⟨_, _, 0, rfl, HF6.out.ow hO.out, HG.out, bl_put4 lw6.out (by omega) _ _ _ _⟩
end Go.Proofs.YtaadndkcomgfiaaGreat
