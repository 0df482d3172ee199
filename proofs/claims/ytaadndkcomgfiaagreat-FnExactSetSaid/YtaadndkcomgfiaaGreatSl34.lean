import Derived.Test.YtaadndkcomgfiaaGreatSl33
namespace Go.Proofs.YtaadndkcomgfiaaGreat
open Go.RowKit Go.Maps Go.WideMaps
set_option linter.unusedVariables false
set_option linter.unusedSimpArgs false
set_option maxRecDepth 100000
theorem cell_glue {X w : World} {B : Nat} {P : List OR} {V : WV} {W : Wd} {i j q : Nat} {T : Tab} {L : List V4} {p : V4} {vb vo tb tq cb cq n' d' vq e' c3 : Nat} {a3 : Option Addr} (hR : Rs X B w (P ++ rW V W)) (hF : OWf V W) (ht : V.t = .slice a3 W.tabs.length c3) (hT : W.tabs[i]? = some T) (hL : T.cells[q]? = some L) (hj : L[j]? = some p)
  (e1 : a3 = some ⟨tb, tq, none⟩) (e2 : w.cell? ⟨tb, tq + i * 3 + 2, none⟩ = some (.slice (some ⟨cb, cq, none⟩) n' d')) (e3 : w.cell? ⟨cb, cq + q, none⟩ = some (.slice (some ⟨vb, vq, none⟩) L.length e')) (e4 : vo = vq + j * 4) (v : V4) (ok : okV v) :
  (∀ o, w.frozen? ⟨vb, o, none⟩ = false) ∧ Rs X B ((((w.setCell ⟨vb, vo, none⟩ (.int .i64 v.1)).setCell ⟨vb, vo + 1, none⟩ (.int .i64 v.2.1)).setCell ⟨vb, vo + 2, none⟩ (.float .f64 v.2.2.1)).setCell ⟨vb, vo + 3, none⟩ (.float .f64 v.2.2.2)) (P ++ rW V (setW W i (setT T q (L.set j v)))) ∧ OWf V (setW W i (setT T q (L.set j v))) := by
 have hi : i < W.tabs.length := (List.getElem?_eq_some_iff.1 hT).1
 have hq : q < T.cells.length := (List.getElem?_eq_some_iff.1 hL).1
 have hjl : j < L.length := (List.getElem?_eq_some_iff.1 hj).1
 obtain ⟨t, htv⟩ := get_some (L := V.ts) (k := i) (by have := hF.len; omega)
 have hlx := hF.lens i t T htv hT
 obtain ⟨u, hu⟩ := get_some (L := t.xs) (k := q) (by omega)
 have mT : ∀ r ∈ rTab t T, r ∈ P ++ rW V W := by
  intro r hr
  have := rTabs_mem htv hT r hr
  simp [rW, this]
 have oT : World.ownsRow w B 88 3 (.slice a3 W.tabs.length c3) W.tabs.length (V.ts.flatMap tc) := by
  have h := hR.o.on (rT V.t V.ts) (by simp [rW])
  have h : World.ownsRow w B 88 3 V.t V.ts.length (V.ts.flatMap tc) := h
  rw [ht, hF.len] at h
  exact h
 obtain ⟨g, hg⟩ := own_some oT (by omega)
 subst hg
 simp only [Option.some.injEq, Addr.mk.injEq, and_true] at e1
 obtain ⟨rfl, rfl⟩ := e1
 have c2 := (rT_cells oT hi htv).2.2
 rw [Nat.zero_add, c2] at e2
 simp only [Option.some.injEq] at e2
 have oS : World.ownsRow w B 41 1 t.x t.xs.length t.xs := hR.o.on (rS t.x t.xs) (mT _ (by simp [rTab]))
 rw [e2] at oS
 have hn' : n' = t.xs.length := by
  obtain ⟨s, c, e⟩ := OR.on.shape (r := ⟨41, 1, .slice (some ⟨cb, cq, none⟩) n' d', t.xs.length, t.xs⟩) oS
  simp only [Value.slice.injEq] at e
  exact e.2.1
 subst hn'
 obtain ⟨g2, hg2⟩ := own_some oS (by omega)
 simp only [Option.some.injEq, Addr.mk.injEq, and_true] at hg2
 obtain ⟨rfl, rfl⟩ := hg2
 have c3' := World.ownsRow.cellAt oS q (by omega)
 rw [hu] at c3'
 rw [Nat.zero_add, c3'] at e3
 simp only [Option.some.injEq] at e3
 subst e3
 have oV : (rV (.slice (some ⟨vb, vq, none⟩) L.length e') L).on w B := hR.o.on _ (mT _ (by simp only [rTab, List.mem_cons]; exact Or.inr (Or.inr (Or.inr (mem_zipWith hu hL)))))
 obtain ⟨g3, hg3⟩ := own_some (s := some ⟨vb, vq, none⟩) oV (by show 0 < L.length; omega)
 simp only [Option.some.injEq, Addr.mk.injEq, and_true] at hg3
 obtain ⟨rfl, rfl⟩ := hg3
 rw [Nat.zero_add] at e4
 subst e4
 obtain ⟨h1, h2⟩ := rV_set hj v oV
 refine ⟨fun o => World.ownsRow.frozenAt (n := L.length) (cap := e') oV o, hR.setV htv hT hu hL h2 h1, hF.setW hT (okVs_set (hF.okc T (List.mem_of_getElem? hT) L (List.mem_of_getElem? hL)) ok)⟩
theorem box5 (w : World) (c d f g h : Array Value) (t u v x y : TypeId) : ∃ X, X = ((((w.alloc (.cells c t)).alloc (.cells d u)).alloc (.cells f v)).alloc (.cells g x)).alloc (.cells h y) ∧ Blk X w.heap.size c t ∧ Blk X (w.heap.size + 1) d u ∧ Blk X (w.heap.size + 1 + 1) f v ∧ Blk X (w.heap.size + 1 + 1 + 1) g x ∧ Blk X (w.heap.size + 1 + 1 + 1 + 1) h y ∧ Below w.heap.size w X :=
 ⟨_, rfl, (((Blk.new w c t).alloc _).alloc _).alloc _ |>.alloc _, (((Blk.new' _ d u (by simp)).alloc _).alloc _).alloc _, ((Blk.new' _ f v (by simp)).alloc _).alloc _, (Blk.new' _ g x (by simp)).alloc _, Blk.new' _ h y (by simp), bl_alloc (bl_alloc (bl_alloc (bl_alloc (bl_alloc (Below.refl _ _) _) _) _) _) _⟩
def WSays (R : Wd → Int → Prop) (w : World) (r : Ending) (w' : World) : Prop := ∃ (V : WV) (W' : Wd) (code : Int), r = .returned (.tuple #[.agg #[V.g, V.f, V.t, V.r], .int .i64 code]) ∧ OW w' w.heap.size V W' ∧ R W' code ∧ Below w.heap.size w w'
theorem Owns.put4 {w : World} {B : Nat} {R : List OR} (h : Owns w B R) {n : Nat} (hn : n < B) (u0 u1 u2 u3 : Value) : Owns ((((w.setCell ⟨n, 0, none⟩ u0).setCell ⟨n, 1, none⟩ u1).setCell ⟨n, 2, none⟩ u2).setCell ⟨n, 3, none⟩ u3) B R := (((h.putC hn _).putC hn _).putC hn _).putC hn _
theorem bl_put4 {w0 w : World} {B : Nat} (h : Below B w0 w) {n : Nat} (hn : B ≤ n) (u0 u1 u2 u3 : Value) : Below B w0 ((((w.setCell ⟨n, 0, none⟩ u0).setCell ⟨n, 1, none⟩ u1).setCell ⟨n, 2, none⟩ u2).setCell ⟨n, 3, none⟩ u3) := (((h.setCell hn _).setCell hn _).setCell hn _).setCell hn _
set_option maxHeartbeats 8000000 in
theorem implSet_any (s1 s2 s3 : Option Addr) (c1 c2 c3 : Nat) (A B C : List (ByteArray × Int)) (a1 a2 a3 a4 : Option Addr) (b1 b2 b3 b4 : Nat) (W : Wd) (e : E2) (comp : Int) (v : V4) (w : World) (hA : Decls w s1 A) (hB : Decls w s2 B) (hC : Decls w s3 C) (nm : ∀ i, i < (A ++ B ++ C).length → (dAt (A ++ B ++ C) i).1.size ≤ maxLen) (l1 : A.length ≤ 1048576) (l2 : B.length ≤ 1048576) (l3 : C.length ≤ 1048576)
  (hW : InW w 0 a1 a2 a3 a4 W) (hk : kW W) (hcap : W.tabs.length ≤ b3) (bR : ∀ t ∈ W.tabs, ∀ x ∈ t.rows, bE x) (be : bE e) (ov : okV v) :
  Calls Tryz.prog 15 #[.agg #[.slice s1 A.length c1, .slice s2 B.length c2, .slice s3 C.length c3], .agg #[.slice a1 W.gens.length b1, .slice a2 W.free.length b2, .slice a3 W.tabs.length b3, .slice a4 W.res.length b4], .agg #[.int .i64 e.1, .int .i64 e.2], .int .i64 comp, .agg #[.int .i64 v.1, .int .i64 v.2.1, .float .f64 v.2.2.1, .float .f64 v.2.2.2]] w fun r w' => WSays (SetR A B C W e comp v) w r w' := by
 have hal := alloc_old
 have haf := alloc_oldf
 obtain ⟨X, hX, k0, k1, k2, k3, k4, L0⟩ := box5 w #[.slice s1 A.length c1, .slice s2 B.length c2, .slice s3 C.length c3] #[.slice a1 W.gens.length b1, .slice a2 W.free.length b2, .slice a3 W.tabs.length b3, .slice a4 W.res.length b4] #[.int .i64 e.1, .int .i64 e.2] #[.int .i64 v.1, .int .i64 v.2.1, .float .f64 v.2.2.1, .float .f64 v.2.2.2] #[.slice none 0 0, .slice none 0 0, .slice none 0 0, .slice none 0 0] 48 43 51 53 43
 have n4 : w.heap.size + 1 + 1 + 1 + 1 < X.heap.size := k4.lt
 go_enter Tryz.func15, Tryz.ntmps15
 go_wp2_with fail
 rw [← hX]
 clear hX
 refine (openBoard_any s1 s2 s3 c1 c2 c3 A B C a1 a2 a3 a4 b1 b2 b3 b4 W _ (hA.later L0) (hB.later L0) (hC.later L0) nm l1 l2 l3 (hW.later L0) hk hcap bR).mono ?_
 rintro r w1 ⟨bb, V, mb, rfl, hR, hF, hS⟩
 obtain ⟨g1, d1, g2, d2, g3, d3, g4, d4, ts, rfl⟩ := (hF.ow hR.o.tail).shape
 have K0 := Hid.mk' k0
 have K2 := Hid.mk' k2
 have K3 := Hid.mk' k3
 have K4 := Hid.mk' k4
 have HR := Hid.mk' hR
 have HF := Hid.mk' hF
 have HS := Hid.mk' hS
 have HA := Hid.mk' hA
 have HK := Hid.mk' hk
 have LX := Hid.mk' L0
 clear k0 k1 k2 k3 k4 hR hF hS hB hC hW hA nm bR hcap L0
 obtain ⟨y0, y1, y2, y3, y4⟩ := (HR.out.blk K4.out n4).four'
 have KB : Blk w1 bb #[.slice g1 W.gens.length d1, .slice g2 W.free.length d2, .slice g3 W.tabs.length d3, .slice g4 W.res.length d4, .map mb] 101 := rB_blk HR.out.o.head
 have x0 := KB.cell 0
 have x1 := KB.cell 1
 have x2 := KB.cell 2
 have x3 := KB.cell 3
 have lw : Hid (Below w.heap.size w w1) := bl_trans LX.out HR.out.l
 have hb0 : X.heap.size ≤ bb := (HR.out.o.head.lt bb rfl).1
 cases hst : standB A B C W
 ·
  have HG : Hid (SetR A B C W e comp v W 1) := Or.inl ⟨by rw [hst]; rfl, rfl, rfl⟩
  have hO := Hid.mk' ((HR.out.o.tail.put4 (n := w.heap.size + 1 + 1 + 1 + 1) n4 (.slice g1 W.gens.length d1) (.slice g2 W.free.length d2) (.slice g3 W.tabs.length d3) (.slice g4 W.res.length d4)).mono (B' := w.heap.size) (by omega))
  clear hst KB HS HR
  go_wp2_with fail
  refine bodyPost_ret (v := .tuple #[.agg #[.slice g1 W.gens.length d1, .slice g2 W.free.length d2, .slice g3 W.tabs.length d3, .slice g4 W.res.length d4], .int .i64 1]) (by simp [results, Tryz.results15, go_sem, y0, y1, y2, y3]) rfl ⟨_, W, 1, rfl, HF.out.ow hO.out, HG.out, bl_put4 lw.out (by omega) _ _ _ _⟩
 ·
  obtain ⟨z0, z1, z2, z3⟩ := (HR.out.blk K0.out (by omega)).three'
  obtain ⟨v0, v1, v2, v3, v4⟩ := (HR.out.blk K3.out (by omega)).four'
  clear KB
  go_wp2_with fail
  refine (cellOk_any s1 s2 s3 c1 c2 c3 A B C comp v _ (HA.out.later lw.out) l1).mono ?_
  rintro r w2 ⟨rfl, hb2⟩
  have HR2 := Hid.mk' (HR.out.later hb2)
  have lw2 : Hid (Below w.heap.size w w2) := bl_trans lw.out hb2
  clear x0 x1 x2 x3 y0 y1 y2 y3 y4 z0 z1 z2 z3 v0 v1 v2 v3 v4
  obtain ⟨y0, y1, y2, y3, y4⟩ := (HR2.out.blk K4.out n4).four'
  have KB : Blk w2 bb #[.slice g1 W.gens.length d1, .slice g2 W.free.length d2, .slice g3 W.tabs.length d3, .slice g4 W.res.length d4, .map mb] 101 := rB_blk HR2.out.o.head
  have x0 := KB.cell 0
  have x1 := KB.cell 1
  have x2 := KB.cell 2
  have x3 := KB.cell 3
  cases hft : fitB A comp v
  ·
   have HG : Hid (SetR A B C W e comp v W 1) := Or.inl ⟨by rw [hst, hft]; rfl, rfl, rfl⟩
   have hO := Hid.mk' ((HR2.out.o.tail.put4 (n := w.heap.size + 1 + 1 + 1 + 1) n4 (.slice g1 W.gens.length d1) (.slice g2 W.free.length d2) (.slice g3 W.tabs.length d3) (.slice g4 W.res.length d4)).mono (B' := w.heap.size) (by omega))
   clear hst KB HS HR HR2 hft hb2
   go_wp2_with fail
   refine bodyPost_ret (v := .tuple #[.agg #[.slice g1 W.gens.length d1, .slice g2 W.free.length d2, .slice g3 W.tabs.length d3, .slice g4 W.res.length d4], .int .i64 1]) (by simp [results, Tryz.results15, go_sem, y0, y1, y2, y3]) rfl ⟨_, W, 1, rfl, HF.out.ow hO.out, HG.out, bl_put4 lw2.out (by omega) _ _ _ _⟩
  ·
   obtain ⟨b, n, f, rfl, hM, hSt, hnb⟩ := HS.out hst
   have hM2 := hM.later hb2
   obtain ⟨hrt, hon⟩ := stand_tabs hst
   simp only [onceB, decide_eq_true_eq] at hon
   have HB1 : Hid ((standB A B C W && fitB A comp v) = true) := by show _ = _; rw [hst, hft]; rfl
   have HON := Hid.mk' hon
   have HSt := Hid.mk' hSt
   have hI := (HF.out.ow HR2.out.o.tail).inW
   obtain ⟨q1, r1, q2, r2, q3, r3, q4, r4, f1, f2, f3, f4, hIn⟩ := hI
   simp only [Value.slice.injEq] at f1 f2 f3 f4
   obtain ⟨rfl, -, rfl⟩ := f1
   obtain ⟨rfl, -, rfl⟩ := f2
   obtain ⟨rfl, -, rfl⟩ := f3
   obtain ⟨rfl, -, rfl⟩ := f4
   have hin0 := hIn.drop (Nat.zero_le _)
   have hlv : ∀ x, x ∈ listB W.gens W.free → x ∈ rowsOf W.tabs := all_in hon.1 hon.2.1 hon.2.2
   have hcs : ∀ t ∈ W.tabs, (∀ (p q : Nat) x y, p ≤ q → t.cols[p]? = some x → t.cols[q]? = some y → x ≤ y) ∧ t.cells.length = t.cols.length ∧ ∀ (q : Nat) L, t.cells[q]? = some L → L.length = t.rows.length := by
    intro t ht
    refine ⟨fun p q x y hpq hx hy => ?_, (hrt t ht).len, (hrt t ht).each⟩
    rcases Nat.lt_or_eq_of_le hpq with h | rfl
    ·
     exact Int.le_of_lt ((hrt t ht).up p q x y h hx hy)
    ·
     rw [hx] at hy; cases hy; exact Int.le_refl _
   have HRT := Hid.mk' hrt
   have HM2 := Hid.mk' hM2
   have HI0 := Hid.mk' hin0
   have HLV := Hid.mk' hlv
   have HCS := Hid.mk' hcs
   have KBH := Hid.mk' KB
   obtain ⟨w0', w1', w2'⟩ := (HR2.out.blk K2.out (by omega)).two
   clear hM hM2 hSt hon hrt hin0 hIn hlv hcs hb2 hnb hst hft HS HR
   go_wp2_with fail
   refine (cell_own bb g1 g2 g3 g4 d1 d2 d3 d4 b n W f e comp (listB W.gens W.free) _ KBH.out HI0.out HK.out HM2.out HSt.out HLV.out be HCS.out).mono ?_
   rintro r w3 ⟨hc, hb3⟩
   have HR3 := Hid.mk' (HR2.out.later hb3)
   have lw3 : Hid (Below w.heap.size w w3) := bl_trans lw2.out hb3
   clear x0 x1 x2 x3 y0 y1 y2 y3 y4 KB KBH w0' w1' w2' HR2 HM2 HI0 hb3
   obtain ⟨y0, y1, y2, y3, y4⟩ := (HR3.out.blk K4.out n4).four'
   have KB : Blk w3 bb #[.slice g1 W.gens.length d1, .slice g2 W.free.length d2, .slice g3 W.tabs.length d3, .slice g4 W.res.length d4, .map (some b)] 101 := rB_blk HR3.out.o.head
   rcases hc with ⟨hf, rfl⟩ | ⟨i, j, t, hf, ht, hno, rfl⟩ | ⟨i, j, q, t, L, p, vb, vo, hf, ht, hq, hL, hp, rfl, p1, p2, p3, p4, tb, tq, cb, cq, n', d', vq, e', m1, m2, m3, m4⟩
   ·
    have x0 := KB.cell 0
    have x1 := KB.cell 1
    have x2 := KB.cell 2
    have x3 := KB.cell 3
    have HG : Hid (SetR A B C W e comp v W 2) := by
     refine Or.inr ⟨HB1.out, Or.inl ⟨fun hm => ?_, rfl, rfl⟩⟩
     obtain ⟨s, hs, _⟩ := HSt.out.taken e hm
     rw [hf] at hs
     cases hs
    have hO := Hid.mk' ((HR3.out.o.tail.put4 (n := w.heap.size + 1 + 1 + 1 + 1) n4 (.slice g1 W.gens.length d1) (.slice g2 W.free.length d2) (.slice g3 W.tabs.length d3) (.slice g4 W.res.length d4)).mono (B' := w.heap.size) (by omega))
    clear KB HR3 hf HSt
    go_wp2_with fail
    refine bodyPost_ret (v := .tuple #[.agg #[.slice g1 W.gens.length d1, .slice g2 W.free.length d2, .slice g3 W.tabs.length d3, .slice g4 W.res.length d4], .int .i64 2]) (by simp [results, Tryz.results15, go_sem, y0, y1, y2, y3]) rfl ⟨_, W, 2, rfl, HF.out.ow hO.out, HG.out, bl_put4 lw3.out (by omega) _ _ _ _⟩
   ·
    have x0 := KB.cell 0
    have x1 := KB.cell 1
    have x2 := KB.cell 2
    have x3 := KB.cell 3
    have HG : Hid (SetR A B C W e comp v W 4) := by
     obtain ⟨j2, hx⟩ : ∃ j2, t.rows[j2]? = some e := by
      obtain ⟨s, hs, i2, j2, t2, rfl, g1', g2'⟩ := HSt.out.taken e (by
       by_cases h : e ∈ listB W.gens W.free
       ·
        exact HLV.out e h
       ·
        have := HSt.out.out e h
        rw [hf] at this
        cases this)
      rw [hf] at hs
      simp only [Option.some.injEq, Prod.mk.injEq] at hs
      have : i = i2 := by omega
      subst this
      rw [ht] at g1'
      cases g1'
      exact ⟨j2, g2'⟩
     exact Or.inr ⟨HB1.out, Or.inr (Or.inl ⟨i, j2, t, ht, hx, hno, rfl, rfl⟩)⟩
    have hO := Hid.mk' ((HR3.out.o.tail.put4 (n := w.heap.size + 1 + 1 + 1 + 1) n4 (.slice g1 W.gens.length d1) (.slice g2 W.free.length d2) (.slice g3 W.tabs.length d3) (.slice g4 W.res.length d4)).mono (B' := w.heap.size) (by omega))
    clear KB HR3 hf HSt ht hno
    go_wp2_with fail
    refine bodyPost_ret (v := .tuple #[.agg #[.slice g1 W.gens.length d1, .slice g2 W.free.length d2, .slice g3 W.tabs.length d3, .slice g4 W.res.length d4], .int .i64 4]) (by simp [results, Tryz.results15, go_sem, y0, y1, y2, y3]) rfl ⟨_, W, 4, rfl, HF.out.ow hO.out, HG.out, bl_put4 lw3.out (by omega) _ _ _ _⟩
   ·
    have HG : Hid (SetR A B C W e comp v (setW W i (setT t q (L.set j v))) 0) := by
     obtain ⟨s, hs, i2, j2, t2, rfl, g1', g2'⟩ := HSt.out.taken e (by
      by_cases h : e ∈ listB W.gens W.free
      ·
       exact HLV.out e h
      ·
       have := HSt.out.out e h
       rw [hf] at this
       cases this)
     rw [hf] at hs
     simp only [Option.some.injEq, Prod.mk.injEq] at hs
     have h1 : i = i2 := by omega
     have h2 : j = j2 := by omega
     subst h1
     subst h2
     rw [ht] at g1'
     cases g1'
     exact Or.inr ⟨HB1.out, Or.inr (Or.inr ⟨i, j, q, t, L, ht, g2', hq, hL, rfl, rfl⟩)⟩
    obtain ⟨fz, hR4, hF4⟩ := cell_glue (P := [brd bb ⟨.slice g1 W.gens.length d1, .slice g2 W.free.length d2, .slice g3 W.tabs.length d3, .slice g4 W.res.length d4, ts⟩ (some b)]) HR3.out HF.out rfl ht hL hp m1 m2 m3 m4 v ov
    obtain ⟨v0, v1, v2, v3, v4⟩ := (HR3.out.blk K3.out (by omega)).four'
    have HR4 := Hid.mk' hR4
    have HF4 := Hid.mk' hF4
    have lw4 : Hid (Below w.heap.size w ((((w3.setCell ⟨vb, vo, none⟩ (.int .i64 v.1)).setCell ⟨vb, vo + 1, none⟩ (.int .i64 v.2.1)).setCell ⟨vb, vo + 2, none⟩ (.float .f64 v.2.2.1)).setCell ⟨vb, vo + 3, none⟩ (.float .f64 v.2.2.2))) := bl_trans LX.out hR4.l
    clear hf ht hq hL hp m1 m2 m3 m4 hR4 hF4 HSt KB HR3
    go_upto_region 7 with fail
    generalize hW4 : (((w3.setCell ⟨vb, vo, none⟩ (.int .i64 v.1)).setCell ⟨vb, vo + 1, none⟩ (.int .i64 v.2.1)).setCell ⟨vb, vo + 2, none⟩ (.float .f64 v.2.2.1)).setCell ⟨vb, vo + 3, none⟩ (.float .f64 v.2.2.2) = W4 at HR4 lw4 ⊢
    clear hW4 y0 y1 y2 y3 y4 v0 v1 v2 v3 v4 p1 p2 p3 p4 fz
    obtain ⟨y0, y1, y2, y3, y4⟩ := (HR4.out.blk K4.out n4).four'
    have KB : Blk W4 bb #[.slice g1 W.gens.length d1, .slice g2 W.free.length d2, .slice g3 W.tabs.length d3, .slice g4 W.res.length d4, .map (some b)] 101 := rB_blk HR4.out.o.head
    have x0 := KB.cell 0
    have x1 := KB.cell 1
    have x2 := KB.cell 2
    have x3 := KB.cell 3
    have hO := Hid.mk' ((HR4.out.o.tail.put4 (n := w.heap.size + 1 + 1 + 1 + 1) n4 (.slice g1 W.gens.length d1) (.slice g2 W.free.length d2) (.slice g3 W.tabs.length d3) (.slice g4 W.res.length d4)).mono (B' := w.heap.size) (by omega))
    clear KB HR4
    go_wp2_with fail
    refine bodyPost_ret (v := .tuple #[.agg #[.slice g1 W.gens.length d1, .slice g2 W.free.length d2, .slice g3 W.tabs.length d3, .slice g4 W.res.length d4], .int .i64 0]) (by simp [results, Tryz.results15, go_sem, y0, y1, y2, y3]) rfl ⟨_, _, 0, rfl, HF4.out.ow hO.out, HG.out, bl_put4 lw4.out (by omega) _ _ _ _⟩
end Go.Proofs.YtaadndkcomgfiaaGreat
