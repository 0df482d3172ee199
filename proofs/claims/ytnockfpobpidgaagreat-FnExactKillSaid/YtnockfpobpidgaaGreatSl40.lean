import Derived.Test.YtnockfpobpidgaaGreatSl39
namespace Go.Proofs.YtnockfpobpidgaaGreat
section
open Go.RowKit Go.Maps Go.WideMaps
set_option linter.unusedVariables false
set_option linter.unusedSimpArgs false
set_option maxRecDepth 100000
theorem inW_of {w : World} {B : Nat} {g1 g2 g3 g4 : Option Addr} {d1 d2 d3 d4 : Nat} {ts : List TV} {W : Wd} (h : OW w B ⟨.slice g1 W.gens.length d1, .slice g2 W.free.length d2, .slice g3 W.tabs.length d3, .slice g4 W.res.length d4, ts⟩ W) : InW w B g1 g2 g3 g4 W := by
 obtain ⟨q1, r1, q2, r2, q3, r3, q4, r4, f1, f2, f3, f4, hIn⟩ := h.inW
 simp only [Value.slice.injEq] at f1 f2 f3 f4
 obtain ⟨rfl, -, rfl⟩ := f1
 obtain ⟨rfl, -, rfl⟩ := f2
 obtain ⟨rfl, -, rfl⟩ := f3
 obtain ⟨rfl, -, rfl⟩ := f4
 exact hIn
set_option maxHeartbeats 8000000 in
theorem l4Kill_any {X : World} {B : Nat} (P : List OR) (g1 g2 g3 g4 : Option Addr) (d1 d2 d3 d4 : Nat) (ts : List TV) (W : Wd) (e : E2) (w : World) (hR : Rs X B w (P ++ rW ⟨.slice g1 W.gens.length d1, .slice g2 W.free.length d2, .slice g3 W.tabs.length d3, .slice g4 W.res.length d4, ts⟩ W)) (hF : OWf ⟨.slice g1 W.gens.length d1, .slice g2 W.free.length d2, .slice g3 W.tabs.length d3, .slice g4 W.res.length d4, ts⟩ W) (hk : kW W)
  (hrt : ∀ t ∈ W.tabs, RTab t) (hlv : ∀ x, x ∈ listB W.gens W.free ↔ x ∈ rowsOf W.tabs) (hok : okE W.gens W.free = true) :
  Calls Tryz.prog 37 #[.agg #[.slice g1 W.gens.length d1, .slice g2 W.free.length d2, .slice g3 W.tabs.length d3, .slice g4 W.res.length d4], .agg #[.int .i64 e.1, .int .i64 e.2]] w fun r w' => ∃ (V' : WV) (W' : Wd) (code : Int), r = .returned (.tuple #[.agg #[V'.g, V'.f, V'.t, V'.r], .int .i64 code]) ∧ Rs X B w' (P ++ rW V' W') ∧ OWf V' W' ∧ ((¬ e ∈ rowsOf W.tabs ∧ W' = W ∧ code = 2) ∨ ∃ (i j : Nat) (T : Tab), W.tabs[i]? = some T ∧ T.rows[j]? = some e ∧ W' = killW W i j T e ∧ code = 0) := by
 have hal := alloc_old
 have haf := alloc_oldf
 have hr0 : Rs X B (((w.alloc (.cells #[.slice g1 W.gens.length d1, .slice g2 W.free.length d2, .slice g3 W.tabs.length d3, .slice g4 W.res.length d4] 40)).alloc (.cells #[.int .i64 e.1, .int .i64 e.2] 48)).alloc (.cells #[.slice none 0 0, .slice none 0 0, .slice none 0 0, .slice none 0 0] 40)) ((P ++ [rB w.heap.size 40 [.slice g1 W.gens.length d1, .slice g2 W.free.length d2, .slice g3 W.tabs.length d3, .slice g4 W.res.length d4], rB (w.heap.size + 1) 48 [.int .i64 e.1, .int .i64 e.2], rB (w.heap.size + 1 + 1) 40 [.slice none 0 0, .slice none 0 0, .slice none 0 0, .slice none 0 0]]) ++ rW ⟨.slice g1 W.gens.length d1, .slice g2 W.free.length d2, .slice g3 W.tabs.length d3, .slice g4 W.res.length d4, ts⟩ W) := by
  have h1 := Rs.ins P _ hR (bl_alloc (Below.refl _ _) (.cells #[.slice g1 W.gens.length d1, .slice g2 W.free.length d2, .slice g3 W.tabs.length d3, .slice g4 W.res.length d4] 40)) (blk_rB (cs := [.slice g1 W.gens.length d1, .slice g2 W.free.length d2, .slice g3 W.tabs.length d3, .slice g4 W.res.length d4]) (Blk.new w _ _) (Nat.le_refl _))
  have h2 := Rs.ins (P ++ [rB w.heap.size 40 [.slice g1 W.gens.length d1, .slice g2 W.free.length d2, .slice g3 W.tabs.length d3, .slice g4 W.res.length d4]]) (rW ⟨.slice g1 W.gens.length d1, .slice g2 W.free.length d2, .slice g3 W.tabs.length d3, .slice g4 W.res.length d4, ts⟩ W) (by simpa only [List.append_assoc, List.cons_append, List.nil_append] using h1) (bl_alloc (Below.refl _ _) (.cells #[.int .i64 e.1, .int .i64 e.2] 48)) (blk_rB (cs := [.int .i64 e.1, .int .i64 e.2]) (Blk.new _ _ _) (Nat.le_refl _))
  have h3 := Rs.ins (P ++ [rB w.heap.size 40 [.slice g1 W.gens.length d1, .slice g2 W.free.length d2, .slice g3 W.tabs.length d3, .slice g4 W.res.length d4], rB (w.alloc (.cells #[.slice g1 W.gens.length d1, .slice g2 W.free.length d2, .slice g3 W.tabs.length d3, .slice g4 W.res.length d4] 40)).heap.size 48 [.int .i64 e.1, .int .i64 e.2]]) (rW ⟨.slice g1 W.gens.length d1, .slice g2 W.free.length d2, .slice g3 W.tabs.length d3, .slice g4 W.res.length d4, ts⟩ W) (by simpa only [List.append_assoc, List.cons_append, List.nil_append] using h2) (bl_alloc (Below.refl _ _) (.cells #[.slice none 0 0, .slice none 0 0, .slice none 0 0, .slice none 0 0] 40)) (blk_rB (cs := [.slice none 0 0, .slice none 0 0, .slice none 0 0, .slice none 0 0]) (Blk.new _ _ _) (Nat.le_refl _))
  simp only [World.size_alloc] at h3
  simpa only [List.append_assoc, List.cons_append, List.nil_append] using h3
 have HR0 := Hid.mk' hr0
 go_enter Tryz.func37, Tryz.ntmps37
 go_upto_region 1 with fail
 generalize hX0 : (((w.alloc (.cells #[.slice g1 W.gens.length d1, .slice g2 W.free.length d2, .slice g3 W.tabs.length d3, .slice g4 W.res.length d4] 40)).alloc (.cells #[.int .i64 e.1, .int .i64 e.2] 48)).alloc (.cells #[.slice none 0 0, .slice none 0 0, .slice none 0 0, .slice none 0 0] 40)) = X0 at HR0 ⊢
 generalize hka : w.heap.size = ka at HR0 ⊢
 generalize hkb : ka + 1 = kb at HR0 ⊢
 generalize hkc : kb + 1 = kc at HR0 ⊢
 clear hX0 hka hkb hkc hr0 hR
 have HF := Hid.mk' hF
 have HLV := Hid.mk' hlv
 clear hlv hF
 obtain ⟨x0, x1, x2, x3, x4⟩ := (show Blk X0 ka #[.slice g1 W.gens.length d1, .slice g2 W.free.length d2, .slice g3 W.tabs.length d3, .slice g4 W.res.length d4] 40 from rB_blk (HR0.out.o.on (rB ka 40 [.slice g1 W.gens.length d1, .slice g2 W.free.length d2, .slice g3 W.tabs.length d3, .slice g4 W.res.length d4]) (by simp))).four'
 obtain ⟨y0, y1, y2⟩ := (show Blk X0 kb #[.int .i64 e.1, .int .i64 e.2] 48 from rB_blk (HR0.out.o.on (rB kb 48 [.int .i64 e.1, .int .i64 e.2]) (by simp))).two
 have hI := inW_of (HF.out.ow HR0.out.o.right)
 go_wp2_with fail
 refine (l2Live_any g1 g2 d1 d2 W.gens W.free e.1 e.2 X0 hI.g.ints hI.f.ints hk.1 hk.2.1).mono ?_
 rintro r w1 ⟨rfl, hb1⟩
 have HR1 := Hid.mk' (HR0.out.later hb1)
 clear x0 x1 x2 x3 x4 y0 y1 y2 hI hb1 HR0
 obtain ⟨x0, x1, x2, x3, x4⟩ := (show Blk w1 ka #[.slice g1 W.gens.length d1, .slice g2 W.free.length d2, .slice g3 W.tabs.length d3, .slice g4 W.res.length d4] 40 from rB_blk (HR1.out.o.on (rB ka 40 [.slice g1 W.gens.length d1, .slice g2 W.free.length d2, .slice g3 W.tabs.length d3, .slice g4 W.res.length d4]) (by simp))).four'
 have hac : ¬ ka = kc := own_ne (P := P) (r := rB ka 40 [.slice g1 W.gens.length d1, .slice g2 W.free.length d2, .slice g3 W.tabs.length d3, .slice g4 W.res.length d4]) (q := rB kc 40 [.slice none 0 0, .slice none 0 0, .slice none 0 0, .slice none 0 0]) (by have h := HR1.out.o; simp only [List.append_assoc, List.cons_append, List.nil_append] at h; exact h) rfl (by simp) rfl
 have hca : ¬ kc = ka := fun h => hac h.symm
 cases hlive : l2B W.gens W.free e.1 e.2
 ·
  obtain ⟨z0, z1, z2, z3, z4⟩ := (show Blk w1 kc #[.slice none 0 0, .slice none 0 0, .slice none 0 0, .slice none 0 0] 40 from rB_blk (HR1.out.o.on (rB kc 40 [.slice none 0 0, .slice none 0 0, .slice none 0 0, .slice none 0 0]) (by simp))).four'
  have HN : Hid (¬ e ∈ rowsOf W.tabs) := fun hm => by
   have := (mem_live hok).1 ((HLV.out e).2 hm)
   rw [hlive] at this
   cases this
  have h8 : Rs X B w1 (P ++ rB ka 40 [.slice g1 W.gens.length d1, .slice g2 W.free.length d2, .slice g3 W.tabs.length d3, .slice g4 W.res.length d4] :: (rB kb 48 [.int .i64 e.1, .int .i64 e.2] :: rB kc 40 [.slice none 0 0, .slice none 0 0, .slice none 0 0, .slice none 0 0] :: rW ⟨.slice g1 W.gens.length d1, .slice g2 W.free.length d2, .slice g3 W.tabs.length d3, .slice g4 W.res.length d4, ts⟩ W)) := by simpa only [List.append_assoc, List.cons_append, List.nil_append] using HR1.out
  have H9 := Hid.mk' (Rs.less P _ (Rs.setB _ _ 3 (.slice g4 W.res.length d4) (Rs.setB _ _ 2 (.slice g3 W.tabs.length d3) (Rs.setB _ _ 1 (.slice g2 W.free.length d2) (Rs.setB _ _ 0 (.slice g1 W.gens.length d1) (Rs.less P _ (Rs.less P _ h8)))))))
  clear h8 HR1 hlive
  go_wp2_with fail
  refine bodyPost_ret (v := .tuple #[.agg #[.slice g1 W.gens.length d1, .slice g2 W.free.length d2, .slice g3 W.tabs.length d3, .slice g4 W.res.length d4], .int .i64 2]) (by simp [results, Tryz.results37, go_sem, z0, z1, z2, z3]) rfl ⟨⟨.slice g1 W.gens.length d1, .slice g2 W.free.length d2, .slice g3 W.tabs.length d3, .slice g4 W.res.length d4, ts⟩, W, 2, rfl, H9.out, HF.out, Or.inl ⟨HN.out, rfl, rfl⟩⟩
 ·
  obtain ⟨q, hq1, hq2, hq3, hq4⟩ := l2B_parts hlive hok
  have hin : e ∈ rowsOf W.tabs := (HLV.out e).1 ((mem_live hok).2 hlive)
  have HIN := Hid.mk' hin
  obtain ⟨y0, y1, y2⟩ := (show Blk w1 kb #[.int .i64 e.1, .int .i64 e.2] 48 from rB_blk (HR1.out.o.on (rB kb 48 [.int .i64 e.1, .int .i64 e.2]) (by simp))).two
  have hI := inW_of (HF.out.ow HR1.out.o.right)
  have HQ1 := Hid.mk' hq1
  clear hlive hin hq1
  go_wp2_with fail
  refine (specWhere_any g1 g2 g3 g4 d1 d2 d3 d4 W B e.1 e.2 w1 hI hk).mono ?_
  rintro r w2 ⟨⟨r1, r2, rfl, hwh⟩, hb2⟩
  have HR2 := Hid.mk' (HR1.out.later hb2)
  clear x0 x1 x2 x3 x4 y0 y1 y2 hI hb2 HR1
  rcases hwh with ⟨rfl, rfl, hno⟩ | ⟨i, j, T, rfl, rfl, hT, hTj, _, _⟩
  ·
   exfalso
   have := HIN.out
   simp only [rowsOf, List.mem_flatMap] at this
   obtain ⟨t, ht, hx⟩ := this
   obtain ⟨i, hi, rfl⟩ := List.getElem_of_mem ht
   obtain ⟨j, hj, he⟩ := List.getElem_of_mem hx
   exact hno i _ (List.getElem?_eq_getElem hi) j (by rw [List.getElem?_eq_getElem hj, he])
  ·
   have HT := Hid.mk' hT
   have HTj := Hid.mk' hTj
   have hjl : j < T.rows.length := (List.getElem?_eq_some_iff.1 hTj).1
   have hlT : ∀ L ∈ T.cells, L.length = T.rows.length := by
    intro L hL
    obtain ⟨q, hq, rfl⟩ := List.getElem_of_mem hL
    exact (hrt T (List.mem_of_getElem? hT)).each q _ (List.getElem?_eq_getElem hq)
   obtain ⟨t, tb, cp', sr, cr, sx, cx, ht, eV, _⟩ := tab_at HR2.out.o (V := ⟨.slice g1 W.gens.length d1, .slice g2 W.free.length d2, .slice g3 W.tabs.length d3, .slice g4 W.res.length d4, ts⟩) (W := W) (fun r hr => List.mem_append_right _ hr) HF.out hT
   simp only [Value.slice.injEq, true_and] at eV
   obtain ⟨rfl, rfl⟩ := eV
   have oG : World.ownsRow w2 B 3 1 (.slice g1 W.gens.length d1) W.gens.length (W.gens.map (Value.int .i64)) := HR2.out.o.on (rI (.slice g1 W.gens.length d1) W.gens) (by simp [rW])
   obtain ⟨g0, rfl⟩ := own_some oG (by omega)
   have HLT := Hid.mk' hlT
   clear ht hT hTj hlT hrt oG
   obtain ⟨e1, e2⟩ := e
   have hq1 := HQ1.out
   dsimp only at hq1 hq3 hq4 HTj HIN HR2 ⊢
   subst hq1
   clear HQ1
   obtain ⟨x0, x1, x2, x3, x4⟩ := (show Blk w2 ka #[.slice (some ⟨g0, 0, none⟩) W.gens.length d1, .slice g2 W.free.length d2, .slice (some ⟨tb, 0, none⟩) W.tabs.length d3, .slice g4 W.res.length d4] 40 from rB_blk (HR2.out.o.on (rB ka 40 [.slice (some ⟨g0, 0, none⟩) W.gens.length d1, .slice g2 W.free.length d2, .slice (some ⟨tb, 0, none⟩) W.tabs.length d3, .slice g4 W.res.length d4]) (by simp))).four'
   go_wp2_with fail
   refine (l4Leave_any (P ++ [rB ka 40 [.slice (some ⟨g0, 0, none⟩) W.gens.length d1, .slice g2 W.free.length d2, .slice (some ⟨tb, 0, none⟩) W.tabs.length d3, .slice g4 W.res.length d4], rB kb 48 [.int .i64 (q : Int), .int .i64 e2], rB kc 40 [.slice none 0 0, .slice none 0 0, .slice none 0 0, .slice none 0 0]]) (some ⟨g0, 0, none⟩) g2 g4 d1 d2 d4 tb d3 ts W i j T w2 HR2.out HF.out HT.out hjl hk HLT.out).mono ?_
   rintro r w3 ⟨ts', rfl, hR3, hF3⟩
   have HF3 := Hid.mk' hF3
   have h8 : Rs X B w3 (P ++ rB ka 40 [.slice (some ⟨g0, 0, none⟩) W.gens.length d1, .slice g2 W.free.length d2, .slice (some ⟨tb, 0, none⟩) W.tabs.length d3, .slice g4 W.res.length d4] :: (rB kb 48 [.int .i64 (q : Int), .int .i64 e2] :: rB kc 40 [.slice none 0 0, .slice none 0 0, .slice none 0 0, .slice none 0 0] :: rI (.slice (some ⟨g0, 0, none⟩) W.gens.length d1) W.gens :: (rI (.slice g2 W.free.length d2) W.free :: (rT (.slice (some ⟨tb, 0, none⟩) W.tabs.length d3) ts' :: rV (.slice g4 W.res.length d4) W.res :: rTabs ts' (W.tabs.set i (gone T j)))))) := by
    have h := hR3
    simp only [rW, setW, List.append_assoc, List.cons_append, List.nil_append] at h
    exact h
   have h9 := (Rs.setB _ _ 3 (.slice g4 W.res.length d4) (Rs.setB _ _ 2 (.slice (some ⟨tb, 0, none⟩) W.tabs.length d3) (Rs.setB _ _ 1 (.slice g2 W.free.length d2) (Rs.setB _ _ 0 (.slice (some ⟨g0, 0, none⟩) W.gens.length d1) h8))))
   have HR4 : Hid (Rs X B ((((w3.setCell ⟨ka, 0, none⟩ (.slice (some ⟨g0, 0, none⟩) W.gens.length d1)).setCell ⟨ka, 1, none⟩ (.slice g2 W.free.length d2)).setCell ⟨ka, 2, none⟩ (.slice (some ⟨tb, 0, none⟩) W.tabs.length d3)).setCell ⟨ka, 3, none⟩ (.slice g4 W.res.length d4)) ((P ++ [rB ka 40 [.slice (some ⟨g0, 0, none⟩) W.gens.length d1, .slice g2 W.free.length d2, .slice (some ⟨tb, 0, none⟩) W.tabs.length d3, .slice g4 W.res.length d4], rB kb 48 [.int .i64 (q : Int), .int .i64 e2], rB kc 40 [.slice none 0 0, .slice none 0 0, .slice none 0 0, .slice none 0 0]]) ++ rI (.slice (some ⟨g0, 0, none⟩) W.gens.length d1) W.gens :: (rI (.slice g2 W.free.length d2) W.free :: (rT (.slice (some ⟨tb, 0, none⟩) W.tabs.length d3) ts' :: rV (.slice g4 W.res.length d4) W.res :: rTabs ts' (W.tabs.set i (gone T j)))))) := by
    show Rs _ _ _ _
    have h : Rs X B ((((w3.setCell ⟨ka, 0, none⟩ (.slice (some ⟨g0, 0, none⟩) W.gens.length d1)).setCell ⟨ka, 1, none⟩ (.slice g2 W.free.length d2)).setCell ⟨ka, 2, none⟩ (.slice (some ⟨tb, 0, none⟩) W.tabs.length d3)).setCell ⟨ka, 3, none⟩ (.slice g4 W.res.length d4)) (P ++ rB ka 40 [.slice (some ⟨g0, 0, none⟩) W.gens.length d1, .slice g2 W.free.length d2, .slice (some ⟨tb, 0, none⟩) W.tabs.length d3, .slice g4 W.res.length d4] :: (rB kb 48 [.int .i64 (q : Int), .int .i64 e2] :: rB kc 40 [.slice none 0 0, .slice none 0 0, .slice none 0 0, .slice none 0 0] :: rI (.slice (some ⟨g0, 0, none⟩) W.gens.length d1) W.gens :: (rI (.slice g2 W.free.length d2) W.free :: (rT (.slice (some ⟨tb, 0, none⟩) W.tabs.length d3) ts' :: rV (.slice g4 W.res.length d4) W.res :: rTabs ts' (W.tabs.set i (gone T j)))))) := h9
    simpa only [List.append_assoc, List.cons_append, List.nil_append] using h
   clear x0 x1 x2 x3 x4
   obtain ⟨x0, x1, x2, x3, x4⟩ := (show Blk w3 ka #[.slice (some ⟨g0, 0, none⟩) W.gens.length d1, .slice g2 W.free.length d2, .slice (some ⟨tb, 0, none⟩) W.tabs.length d3, .slice g4 W.res.length d4] 40 from rB_blk (hR3.o.on (rB ka 40 [.slice (some ⟨g0, 0, none⟩) W.gens.length d1, .slice g2 W.free.length d2, .slice (some ⟨tb, 0, none⟩) W.tabs.length d3, .slice g4 W.res.length d4]) (by simp))).four'
   clear h8 h9 hR3 hF3 HR2
   go_upto_region 5 with fail
   generalize hX4 : ((((w3.setCell ⟨ka, 0, none⟩ (.slice (some ⟨g0, 0, none⟩) W.gens.length d1)).setCell ⟨ka, 1, none⟩ (.slice g2 W.free.length d2)).setCell ⟨ka, 2, none⟩ (.slice (some ⟨tb, 0, none⟩) W.tabs.length d3)).setCell ⟨ka, 3, none⟩ (.slice g4 W.res.length d4)) = X4 at HR4 ⊢
   clear hX4 x0 x1 x2 x3 x4
   obtain ⟨x0, x1, x2, x3, x4⟩ := (show Blk X4 ka #[.slice (some ⟨g0, 0, none⟩) W.gens.length d1, .slice g2 W.free.length d2, .slice (some ⟨tb, 0, none⟩) W.tabs.length d3, .slice g4 W.res.length d4] 40 from rB_blk (HR4.out.o.on (rB ka 40 [.slice (some ⟨g0, 0, none⟩) W.gens.length d1, .slice g2 W.free.length d2, .slice (some ⟨tb, 0, none⟩) W.tabs.length d3, .slice g4 W.res.length d4]) (by simp))).four'
   obtain ⟨y0, y1, y2⟩ := (show Blk X4 kb #[.int .i64 (q : Int), .int .i64 e2] 48 from rB_blk (HR4.out.o.on (rB kb 48 [.int .i64 (q : Int), .int .i64 e2]) (by simp))).two
   go_wp2_with fail
   refine (l2Give_own (P ++ [rB ka 40 [.slice (some ⟨g0, 0, none⟩) W.gens.length d1, .slice g2 W.free.length d2, .slice (some ⟨tb, 0, none⟩) W.tabs.length d3, .slice g4 W.res.length d4], rB kb 48 [.int .i64 (q : Int), .int .i64 e2], rB kc 40 [.slice none 0 0, .slice none 0 0, .slice none 0 0, .slice none 0 0]]) (rT (.slice (some ⟨tb, 0, none⟩) W.tabs.length d3) ts' :: rV (.slice g4 W.res.length d4) W.res :: rTabs ts' (W.tabs.set i (gone T j))) g0 d1 g2 d2 W.gens W.free q e2 X4 HR4.out hq2 hq3 hq4 hk.1 hk.2.1).mono ?_
   rintro r w5 ⟨sf', cf', rfl, hR5⟩
   clear x0 x1 x2 x3 x4 y0 y1 y2 HR4
   obtain ⟨x0, x1, x2, x3, x4⟩ := (show Blk w5 ka #[.slice (some ⟨g0, 0, none⟩) W.gens.length d1, .slice g2 W.free.length d2, .slice (some ⟨tb, 0, none⟩) W.tabs.length d3, .slice g4 W.res.length d4] 40 from rB_blk (hR5.o.on (rB ka 40 [.slice (some ⟨g0, 0, none⟩) W.gens.length d1, .slice g2 W.free.length d2, .slice (some ⟨tb, 0, none⟩) W.tabs.length d3, .slice g4 W.res.length d4]) (by simp))).four'
   obtain ⟨z0, z1, z2, z3, z4⟩ := (show Blk w5 kc #[.slice none 0 0, .slice none 0 0, .slice none 0 0, .slice none 0 0] 40 from rB_blk (hR5.o.on (rB kc 40 [.slice none 0 0, .slice none 0 0, .slice none 0 0, .slice none 0 0]) (by simp))).four'
   have h8 : Rs X B w5 (P ++ rB ka 40 [.slice (some ⟨g0, 0, none⟩) W.gens.length d1, .slice g2 W.free.length d2, .slice (some ⟨tb, 0, none⟩) W.tabs.length d3, .slice g4 W.res.length d4] :: (rB kb 48 [.int .i64 (q : Int), .int .i64 e2] :: rB kc 40 [.slice none 0 0, .slice none 0 0, .slice none 0 0, .slice none 0 0] :: rI (.slice (some ⟨g0, 0, none⟩) W.gens.length d1) (W.gens.set q (ng e2)) :: (rI (.slice sf' (W.free.length + 1) cf') (W.free ++ [(q : Int)]) :: (rT (.slice (some ⟨tb, 0, none⟩) W.tabs.length d3) ts' :: rV (.slice g4 W.res.length d4) W.res :: rTabs ts' (W.tabs.set i (gone T j)))))) := by simpa only [List.append_assoc, List.cons_append, List.nil_append] using hR5
   have h9 := Rs.less P _ (Rs.less P _ (Rs.setB _ _ 1 (.slice sf' (W.free.length + 1) cf') (Rs.setB _ _ 0 (.slice (some ⟨g0, 0, none⟩) W.gens.length d1) h8)))
   have h10 := Rs.less P _ (Rs.setB _ _ 3 (.slice g4 W.res.length d4) (Rs.setB _ _ 2 (.slice (some ⟨tb, 0, none⟩) W.tabs.length d3) (Rs.setB _ _ 1 (.slice sf' (W.free.length + 1) cf') (Rs.setB _ _ 0 (.slice (some ⟨g0, 0, none⟩) W.gens.length d1) h9))))
   have hkw : killW W i j T ((q : Int), e2) = ⟨W.gens.set q (ng e2), W.free ++ [(q : Int)], W.tabs.set i (gone T j), W.res⟩ := by simp [killW]
   have H11 : Hid (Rs X B ((((((w5.setCell ⟨ka, 0, none⟩ (.slice (some ⟨g0, 0, none⟩) W.gens.length d1)).setCell ⟨ka, 1, none⟩ (.slice sf' (W.free.length + 1) cf')).setCell ⟨kc, 0, none⟩ (.slice (some ⟨g0, 0, none⟩) W.gens.length d1)).setCell ⟨kc, 1, none⟩ (.slice sf' (W.free.length + 1) cf')).setCell ⟨kc, 2, none⟩ (.slice (some ⟨tb, 0, none⟩) W.tabs.length d3)).setCell ⟨kc, 3, none⟩ (.slice g4 W.res.length d4)) (P ++ rW ⟨.slice (some ⟨g0, 0, none⟩) W.gens.length d1, .slice sf' (W.free.length + 1) cf', .slice (some ⟨tb, 0, none⟩) W.tabs.length d3, .slice g4 W.res.length d4, ts'⟩ (killW W i j T ((q : Int), e2)))) := by
    show Rs _ _ _ _
    rw [hkw]
    exact h10
   have HF4 : Hid (OWf ⟨.slice (some ⟨g0, 0, none⟩) W.gens.length d1, .slice sf' (W.free.length + 1) cf', .slice (some ⟨tb, 0, none⟩) W.tabs.length d3, .slice g4 W.res.length d4, ts'⟩ (killW W i j T ((q : Int), e2))) := ⟨HF3.out.len, HF3.out.lens, HF3.out.okc, HF3.out.okr⟩
   clear h8 h9 h10 hR5 hkw HF3
   go_wp2_with fail
   refine bodyPost_ret (v := .tuple #[.agg #[.slice (some ⟨g0, 0, none⟩) W.gens.length d1, .slice sf' (W.free.length + 1) cf', .slice (some ⟨tb, 0, none⟩) W.tabs.length d3, .slice g4 W.res.length d4], .int .i64 0]) (by simp [results, Tryz.results37, go_sem, z0, z1, z2, z3]) rfl ⟨⟨.slice (some ⟨g0, 0, none⟩) W.gens.length d1, .slice sf' (W.free.length + 1) cf', .slice (some ⟨tb, 0, none⟩) W.tabs.length d3, .slice g4 W.res.length d4, ts'⟩, killW W i j T ((q : Int), e2), 0, rfl, H11.out, HF4.out, Or.inr ⟨i, j, T, HT.out, HTj.out, rfl, rfl⟩⟩
end
section
open Go.RowKit Go.Maps Go.WideMaps
set_option linter.unusedVariables false
set_option linter.unusedSimpArgs false
set_option maxRecDepth 100000
set_option maxHeartbeats 8000000 in
theorem specKill_any (p1 q1 c1 p2 q2 c2 p3 q3 c3 : Nat) (A B C : List (ByteArray × Int)) (a1 a2 a3 a4 : Option Addr) (b1 b2 b3 b4 : Nat) (W : Wd) (e : E2) (w : World) (hA : Decls w (some ⟨p1, q1, none⟩) A) (hB : Decls w (some ⟨p2, q2, none⟩) B) (hC : Decls w (some ⟨p3, q3, none⟩) C)
  (hW : InW w 0 a1 a2 a3 a4 W) (hk : kW W) :
  Calls Tryz.prog 9 #[.agg #[.slice (some ⟨p1, q1, none⟩) A.length c1, .slice (some ⟨p2, q2, none⟩) B.length c2, .slice (some ⟨p3, q3, none⟩) C.length c3], .agg #[.slice a1 W.gens.length b1, .slice a2 W.free.length b2, .slice a3 W.tabs.length b3, .slice a4 W.res.length b4], .agg #[.int .i64 e.1, .int .i64 e.2]] w fun r w' => WSays (KillR A B C W e) w r w' := by
 have hal := alloc_old
 have haf := alloc_oldf
 obtain ⟨X, hX, k0, k1, k2, k3, L0⟩ := box4y w #[.slice (some ⟨p1, q1, none⟩) A.length c1, .slice (some ⟨p2, q2, none⟩) B.length c2, .slice (some ⟨p3, q3, none⟩) C.length c3] #[.slice a1 W.gens.length b1, .slice a2 W.free.length b2, .slice a3 W.tabs.length b3, .slice a4 W.res.length b4] #[.int .i64 e.1, .int .i64 e.2] #[.slice none 0 0, .slice none 0 0, .slice none 0 0, .slice none 0 0] 45 40 48 40
 have n4 : w.heap.size + 1 + 1 + 1 < X.heap.size := k3.lt
 go_enter Tryz.func9, Tryz.ntmps9
 go_wp2_with fail
 rw [← hX]
 clear hX
 refine (specWorldOk_any p1 q1 c1 p2 q2 c2 p3 q3 c3 A B C a1 a2 a3 a4 b1 b2 b3 b4 W _ (hA.later L0) (hB.later L0) (hC.later L0) (hW.later L0) hk).mono ?_
 rintro r w1 ⟨rfl, hb1⟩
 rw [spec_stand]
 have K1 := Hid.mk' (k1.later hb1)
 have K2 := Hid.mk' (k2.later hb1)
 have K3 := Hid.mk' (k3.later hb1)
 have L1 := Hid.mk' (bl_trans L0 hb1)
 have HW1 := Hid.mk' (hW.later L1.out)
 have n5 : w.heap.size + 1 + 1 + 1 < w1.heap.size := K3.out.lt
 clear k0 k1 k2 k3 hb1 hA hB hC hW L0
 obtain ⟨x0, x1, x2, x3, x4⟩ := K1.out.four'
 cases hst : standB A B C W
 ·
  have HG : Hid (KillR A B C W e W 1) := Or.inl ⟨hst, rfl, rfl⟩
  clear hst
  go_wp2_with fail
  refine (l4Copy_new a1 a2 a3 a4 b1 b2 b3 b4 W 0 w1 HW1.out hk).mono ?_
  rintro r w2 ⟨⟨V, rfl, hO⟩, hb2⟩
  obtain ⟨g1, d1, g2, d2, g3, d3, g4, d4, ts, rfl⟩ := hO.shape
  have HF := Hid.mk' hO.f
  obtain ⟨y0, y1, y2, y3, y4⟩ := (K3.out.later hb2).four'
  have lw : Hid (Below w.heap.size w w2) := bl_trans L1.out hb2
  have hO2 := Hid.mk' ((hO.own.put4 (n := w.heap.size + 1 + 1 + 1) n5 (.slice g1 W.gens.length d1) (.slice g2 W.free.length d2) (.slice g3 W.tabs.length d3) (.slice g4 W.res.length d4)).mono (B' := w.heap.size) (by omega))
  clear x0 x1 x2 x3 x4 hO hb2
  go_wp2_with fail
  refine bodyPost_ret (v := .tuple #[.agg #[.slice g1 W.gens.length d1, .slice g2 W.free.length d2, .slice g3 W.tabs.length d3, .slice g4 W.res.length d4], .int .i64 1]) (by simp [results, Tryz.results9, go_sem, y0, y1, y2, y3]) rfl ⟨_, W, 1, rfl, HF.out.ow hO2.out, HG.out, bl_put4 lw.out (by omega) _ _ _ _⟩
 ·
  obtain ⟨hrt, hon⟩ := stand_tabs hst
  simp only [onceB, decide_eq_true_eq] at hon
  have hlv : ∀ x, x ∈ listB W.gens W.free ↔ x ∈ rowsOf W.tabs := fun x => ⟨all_in hon.1 hon.2.1 hon.2.2 x, hon.2.1 x⟩
  have hok := stand_okE hst
  have HLV := Hid.mk' hlv
  have HRT := Hid.mk' hrt
  have HOK := Hid.mk' hok
  have HST := Hid.mk' hst
  obtain ⟨z0, z1, z2⟩ := K2.out.two
  have HW2 : Hid (InW w1.drew 0 a1 a2 a3 a4 W) := HW1.out.later (bl_drew (Below.refl _ _))
  clear hst hrt hon hlv hok
  go_wp2_with fail
  go_region_with (first
   | (go_at_call 37; refine (l4Kill_any (X := w1.drew) (B := w1.drew.heap.size) [] g1 g2 g3 g4 d1 d2 d3 d4 ts W e w2 hRs HF.out hk HRT.out HLV.out HOK.out).mono ?_; rintro r w3 ⟨V', W', code, rfl, hR3, hF3, hans⟩; obtain ⟨t1, m1, t2, m2, t3, m3, t4, m4, ts', rfl⟩ := (hF3.ow hR3.o).shape; have hb3 : Below w1.heap.size w1 w3 := bl_trans (bl_drew (Below.refl _ _)) hR3.l; obtain ⟨y0, y1, y2, y3, y4⟩ := (K3.out.later hb3).four')
   | (go_at_call 36; refine (l4Copy_new a1 a2 a3 a4 b1 b2 b3 b4 W 0 w1.drew HW2.out hk).mono ?_; rintro r w2 ⟨⟨V, rfl, hO⟩, hb2⟩; obtain ⟨g1, d1, g2, d2, g3, d3, g4, d4, ts, rfl⟩ := hO.shape; have HF := Hid.mk' hO.f; have hRs : Rs w1.drew w1.drew.heap.size w2 ([] ++ rW ⟨.slice g1 W.gens.length d1, .slice g2 W.free.length d2, .slice g3 W.tabs.length d3, .slice g4 W.res.length d4, ts⟩ W) := ⟨hb2, hO.own, hb2.size⟩; have hb2' : Below w1.heap.size w1 w2 := bl_trans (bl_drew (Below.refl _ _)) hb2; have z0 := kcell hb2' z0; have z1 := kcell hb2' z1; obtain ⟨y0, y1, y2, y3, y4⟩ := (K3.out.later hb2').four'))
  all_goals
   have HG : Hid (KillR A B C W e W' code) := Or.inr ⟨HST.out, hans⟩
   have HF3 := Hid.mk' hF3
   have hO2 := Hid.mk' (((show Owns w3 w1.heap.size (rW ⟨.slice t1 W'.gens.length m1, .slice t2 W'.free.length m2, .slice t3 W'.tabs.length m3, .slice t4 W'.res.length m4, ts'⟩ W') from hR3.o).put4 (n := w.heap.size + 1 + 1 + 1) n5 (.slice t1 W'.gens.length m1) (.slice t2 W'.free.length m2) (.slice t3 W'.tabs.length m3) (.slice t4 W'.res.length m4)).mono (B' := w.heap.size) (by omega))
   have lw : Hid (Below w.heap.size w w3) := bl_trans L1.out hb3
   clear hF3 hR3 hans hRs hO hb2 hb2' hb3
   go_wp2_with fail
   refine bodyPost_ret (v := .tuple #[.agg #[.slice t1 W'.gens.length m1, .slice t2 W'.free.length m2, .slice t3 W'.tabs.length m3, .slice t4 W'.res.length m4], .int .i64 code]) (by simp [results, Tryz.results9, go_sem, y0, y1, y2, y3]) rfl ⟨_, W', code, rfl, HF3.out.ow hO2.out, HG.out, bl_put4 lw.out (by omega) _ _ _ _⟩
end
end Go.Proofs.YtnockfpobpidgaaGreat
