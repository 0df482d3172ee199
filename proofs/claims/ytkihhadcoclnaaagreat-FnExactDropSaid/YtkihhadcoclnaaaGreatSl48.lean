import Derived.Test.YtkihhadcoclnaaaGreatSl46
import Derived.Test.YtkihhadcoclnaaaGreatSl47
import Derived.Test.YtkihhadcoclnaaaGreatSl44
namespace Go.Proofs.YtkihhadcoclnaaaGreat
section
open Go.RowKit Go.Maps Go.WideMaps
set_option linter.unusedVariables false
set_option linter.unusedSimpArgs false
set_option maxRecDepth 100000
theorem erase_ne {L : List Int} {q : Nat} (h : q < L.length) : ¬ L = L.eraseIdx q := by
 intro e
 have := List.length_eraseIdx_of_lt h
 rw [← e] at this
 omega
theorem slice_behind (g n c r : Nat) (hr : r ≤ n) (hc : n ≤ c) : ∃ o : Nat, (∀ W, (Instr.slice 66 (.slice (some ⟨g, 0, none⟩) n c) (some (.int .i64 (r : Int))) none none).run Tryz.prog W = .ok (.slice (some ⟨g, o, none⟩) (n - r) (c - r)) W) ∧ (r < n → o = r * 5) := by
 have ht : Tryz.prog.underlying 66 = some (.slice (Tryz.prog.elem 66)) := by kernel_rfl
 have hsz : ∀ W, (Go.sizeOf (Tryz.prog.elem 66)).run Tryz.prog W = .ok 5 W := fun W => by kernel_rfl
 by_cases hq : r = c
 ·
  refine ⟨0, fun W => ?_, fun h => by omega⟩
  rw [run_slice_l (P := Tryz.prog) W 66 (some ⟨g, 0, none⟩) n c ht .i64 (r : Int) (by omega) (by omega), hsz]
  simp [Result.andThen, sliced, hq]
 ·
  refine ⟨r * 5, fun W => ?_, fun _ => rfl⟩
  rw [run_slice_l (P := Tryz.prog) W 66 (some ⟨g, 0, none⟩) n c ht .i64 (r : Int) (by omega) (by omega), hsz]
  have h0 : ¬ c = r := fun h => hq h.symm
  simp [Result.andThen, sliced, h0, Addr.add]
  intro h
  omega
set_option maxHeartbeats 16000000 in
theorem l4Drop_any {X : World} {B : Nat} (P : List OR) (g1 g2 g3 g4 : Option Addr) (d1 d2 d3 d4 : Nat) (ts : List TV) (W : Wd) (e : E2) (x : Int) (w : World) (hR : Rs X B w (P ++ rW ⟨.slice g1 W.gens.length d1, .slice g2 W.free.length d2, .slice g3 W.tabs.length d3, .slice g4 W.res.length d4, ts⟩ W)) (hF : OWf ⟨.slice g1 W.gens.length d1, .slice g2 W.free.length d2, .slice g3 W.tabs.length d3, .slice g4 W.res.length d4, ts⟩ W) (hk : kW W)
  (hrt : ∀ t ∈ W.tabs, RTab t) (hlv : ∀ x, x ∈ listB W.gens W.free ↔ x ∈ rowsOf W.tabs) (hok : okE W.gens W.free = true) (hcl : ∀ T ∈ W.tabs, T.cols.length ≤ 1000) (hrl : ∀ T ∈ W.tabs, T.rows.length ≤ 100000) (h40 : W.tabs.length ≤ 40) :
  Calls Tryz.prog 35 #[.agg #[.slice g1 W.gens.length d1, .slice g2 W.free.length d2, .slice g3 W.tabs.length d3, .slice g4 W.res.length d4], .agg #[.int .i64 e.1, .int .i64 e.2], .int .i64 x] w fun r w' => ∃ (V' : WV) (W' : Wd) (code : Int), r = .returned (.tuple #[.agg #[V'.g, V'.f, V'.t, V'.r], .int .i64 code]) ∧ Rs X B w' (P ++ rW V' W') ∧ OWf V' W' ∧ ((¬ e ∈ rowsOf W.tabs ∧ W' = W ∧ code = 2) ∨ (∃ (i j : Nat) (T : Tab), W.tabs[i]? = some T ∧ T.rows[j]? = some e ∧ ((¬ x ∈ T.cols ∧ W' = W ∧ code = 4) ∨ ∃ q : Nat, T.cols[q]? = some x ∧ MvA W e i j T ((rowC T j).eraseIdx q) W' code))) := by
 have hal := alloc_old
 have haf := alloc_oldf
 have hr0 : Rs X B (((w.alloc (.cells #[.slice g1 W.gens.length d1, .slice g2 W.free.length d2, .slice g3 W.tabs.length d3, .slice g4 W.res.length d4] 40)).alloc (.cells #[.int .i64 e.1, .int .i64 e.2] 48)).alloc (.cells #[.slice none 0 0, .slice none 0 0, .slice none 0 0, .slice none 0 0] 40)) ((P ++ [rB w.heap.size 40 [.slice g1 W.gens.length d1, .slice g2 W.free.length d2, .slice g3 W.tabs.length d3, .slice g4 W.res.length d4], rB (w.heap.size + 1) 48 [.int .i64 e.1, .int .i64 e.2], rB (w.heap.size + 1 + 1) 40 [.slice none 0 0, .slice none 0 0, .slice none 0 0, .slice none 0 0]]) ++ rW ⟨.slice g1 W.gens.length d1, .slice g2 W.free.length d2, .slice g3 W.tabs.length d3, .slice g4 W.res.length d4, ts⟩ W) := by
  have h1 := Rs.ins P _ hR (bl_alloc (Below.refl _ _) (.cells #[.slice g1 W.gens.length d1, .slice g2 W.free.length d2, .slice g3 W.tabs.length d3, .slice g4 W.res.length d4] 40)) (blk_rB (cs := [.slice g1 W.gens.length d1, .slice g2 W.free.length d2, .slice g3 W.tabs.length d3, .slice g4 W.res.length d4]) (Blk.new w _ _) (Nat.le_refl _))
  have h2 := Rs.ins (P ++ [rB w.heap.size 40 [.slice g1 W.gens.length d1, .slice g2 W.free.length d2, .slice g3 W.tabs.length d3, .slice g4 W.res.length d4]]) (rW ⟨.slice g1 W.gens.length d1, .slice g2 W.free.length d2, .slice g3 W.tabs.length d3, .slice g4 W.res.length d4, ts⟩ W) (by simpa only [List.append_assoc, List.cons_append, List.nil_append] using h1) (bl_alloc (Below.refl _ _) (.cells #[.int .i64 e.1, .int .i64 e.2] 48)) (blk_rB (cs := [.int .i64 e.1, .int .i64 e.2]) (Blk.new _ _ _) (Nat.le_refl _))
  have h3 := Rs.ins (P ++ [rB w.heap.size 40 [.slice g1 W.gens.length d1, .slice g2 W.free.length d2, .slice g3 W.tabs.length d3, .slice g4 W.res.length d4], rB (w.alloc (.cells #[.slice g1 W.gens.length d1, .slice g2 W.free.length d2, .slice g3 W.tabs.length d3, .slice g4 W.res.length d4] 40)).heap.size 48 [.int .i64 e.1, .int .i64 e.2]]) (rW ⟨.slice g1 W.gens.length d1, .slice g2 W.free.length d2, .slice g3 W.tabs.length d3, .slice g4 W.res.length d4, ts⟩ W) (by simpa only [List.append_assoc, List.cons_append, List.nil_append] using h2) (bl_alloc (Below.refl _ _) (.cells #[.slice none 0 0, .slice none 0 0, .slice none 0 0, .slice none 0 0] 40)) (blk_rB (cs := [.slice none 0 0, .slice none 0 0, .slice none 0 0, .slice none 0 0]) (Blk.new _ _ _) (Nat.le_refl _))
  simp only [World.size_alloc] at h3
  simpa only [List.append_assoc, List.cons_append, List.nil_append] using h3
 have HR0 := Hid.mk' hr0
 go_enter Tryz.func35, Tryz.ntmps35
 go_upto_region 1 with fail
 generalize hX0 : (((w.alloc (.cells #[.slice g1 W.gens.length d1, .slice g2 W.free.length d2, .slice g3 W.tabs.length d3, .slice g4 W.res.length d4] 40)).alloc (.cells #[.int .i64 e.1, .int .i64 e.2] 48)).alloc (.cells #[.slice none 0 0, .slice none 0 0, .slice none 0 0, .slice none 0 0] 40)) = X0 at HR0 ⊢
 generalize hka : w.heap.size = ka at HR0 ⊢
 generalize hkb : ka + 1 = kb at HR0 ⊢
 generalize hkc : kb + 1 = kc at HR0 ⊢
 clear hX0 hka hkb hkc hr0 hR
 have HF := Hid.mk' hF
 have HLV := Hid.mk' hlv
 have HSZ := Hid.mk' (And.intro hcl hrl)
 clear hlv hF hcl hrl
 obtain ⟨x0, x1, x2, x3, x4⟩ := (show Blk X0 ka #[.slice g1 W.gens.length d1, .slice g2 W.free.length d2, .slice g3 W.tabs.length d3, .slice g4 W.res.length d4] 40 from rB_blk (HR0.out.o.on (rB ka 40 [.slice g1 W.gens.length d1, .slice g2 W.free.length d2, .slice g3 W.tabs.length d3, .slice g4 W.res.length d4]) (by simp))).four'
 obtain ⟨y0, y1, y2⟩ := (show Blk X0 kb #[.int .i64 e.1, .int .i64 e.2] 48 from rB_blk (HR0.out.o.on (rB kb 48 [.int .i64 e.1, .int .i64 e.2]) (by simp))).two
 have hI := inW_of (HF.out.ow HR0.out.o.right)
 go_wp2_with fail
 refine (l2Live_any g1 g2 d1 d2 W.gens W.free e.1 e.2 X0 hI.g.ints hI.f.ints hk.1 hk.2.1).mono ?_
 rintro r w1 ⟨rfl, hb1⟩
 have HR1 := Hid.mk' (HR0.out.later hb1)
 clear x0 x1 x2 x3 x4 y0 y1 y2 hI hb1 HR0
 obtain ⟨x0, x1, x2, x3, x4⟩ := (show Blk w1 ka #[.slice g1 W.gens.length d1, .slice g2 W.free.length d2, .slice g3 W.tabs.length d3, .slice g4 W.res.length d4] 40 from rB_blk (HR1.out.o.on (rB ka 40 [.slice g1 W.gens.length d1, .slice g2 W.free.length d2, .slice g3 W.tabs.length d3, .slice g4 W.res.length d4]) (by simp))).four'
 have hac : ¬ ka = kc := own_ne (P := P) (r := rB ka 40 [.slice g1 W.gens.length d1, .slice g2 W.free.length d2, .slice g3 W.tabs.length d3, .slice g4 W.res.length d4]) (q := rB kc 40 [.slice none 0 0, .slice none 0 0, .slice none 0 0, .slice none 0 0]) (by have h := HR1.out.o; simp only [List.append_assoc, List.cons_append, List.nil_append] at h; exact h) rfl (by simp) rfl
 have hca : ¬ kc = ka := fun h => hac h.symm
 cases hlive : l2B W.gens W.free e.1 e.2
 ·
  obtain ⟨z0, z1, z2, z3, z4⟩ := (show Blk w1 kc #[.slice none 0 0, .slice none 0 0, .slice none 0 0, .slice none 0 0] 40 from rB_blk (HR1.out.o.on (rB kc 40 [.slice none 0 0, .slice none 0 0, .slice none 0 0, .slice none 0 0]) (by simp))).four'
  have HN : Hid (¬ e ∈ rowsOf W.tabs) := fun hm => by
   have := (mem_live hok).1 ((HLV.out e).2 hm)
   rw [hlive] at this
   cases this
  have h8 : Rs X B w1 (P ++ rB ka 40 [.slice g1 W.gens.length d1, .slice g2 W.free.length d2, .slice g3 W.tabs.length d3, .slice g4 W.res.length d4] :: (rB kb 48 [.int .i64 e.1, .int .i64 e.2] :: rB kc 40 [.slice none 0 0, .slice none 0 0, .slice none 0 0, .slice none 0 0] :: rW ⟨.slice g1 W.gens.length d1, .slice g2 W.free.length d2, .slice g3 W.tabs.length d3, .slice g4 W.res.length d4, ts⟩ W)) := by simpa only [List.append_assoc, List.cons_append, List.nil_append] using HR1.out
  have H9 := Hid.mk' (Rs.less P _ (Rs.setB _ _ 3 (.slice g4 W.res.length d4) (Rs.setB _ _ 2 (.slice g3 W.tabs.length d3) (Rs.setB _ _ 1 (.slice g2 W.free.length d2) (Rs.setB _ _ 0 (.slice g1 W.gens.length d1) (Rs.less P _ (Rs.less P _ h8)))))))
  clear h8 HR1 hlive
  go_wp2_with fail
  refine bodyPost_ret (v := .tuple #[.agg #[.slice g1 W.gens.length d1, .slice g2 W.free.length d2, .slice g3 W.tabs.length d3, .slice g4 W.res.length d4], .int .i64 2]) (by simp [results, Tryz.results35, go_sem, z0, z1, z2, z3]) rfl ⟨⟨.slice g1 W.gens.length d1, .slice g2 W.free.length d2, .slice g3 W.tabs.length d3, .slice g4 W.res.length d4, ts⟩, W, 2, rfl, H9.out, HF.out, Or.inl ⟨HN.out, rfl, rfl⟩⟩
 ·
  have hin : e ∈ rowsOf W.tabs := (HLV.out e).1 ((mem_live hok).2 hlive)
  have HIN := Hid.mk' hin
  obtain ⟨y0, y1, y2⟩ := (show Blk w1 kb #[.int .i64 e.1, .int .i64 e.2] 48 from rB_blk (HR1.out.o.on (rB kb 48 [.int .i64 e.1, .int .i64 e.2]) (by simp))).two
  have hI := inW_of (HF.out.ow HR1.out.o.right)
  clear hlive hin
  go_wp2_with fail
  refine (specWhere_any g1 g2 g3 g4 d1 d2 d3 d4 W B e.1 e.2 w1 hI hk).mono ?_
  rintro r w2 ⟨⟨r1, r2, rfl, hwh⟩, hb2⟩
  have HR2 := Hid.mk' (HR1.out.later hb2)
  clear x0 x1 x2 x3 x4 y0 y1 y2 hI hb2 HR1
  rcases hwh with ⟨rfl, rfl, hno⟩ | ⟨i, j, T, rfl, rfl, hT, hTj, _, _⟩
  ·
   exfalso
   have := HIN.out
   simp only [rowsOf, List.mem_flatMap] at this
   obtain ⟨t, ht, hx⟩ := this
   obtain ⟨i, hi, rfl⟩ := List.getElem_of_mem ht
   obtain ⟨j, hj, he⟩ := List.getElem_of_mem hx
   exact hno i _ (List.getElem?_eq_getElem hi) j (by rw [List.getElem?_eq_getElem hj, he])
  ·
   have HT := Hid.mk' hT
   have HTj := Hid.mk' hTj
   have hjl : j < T.rows.length := (List.getElem?_eq_some_iff.1 hTj).1
   have hil : i < W.tabs.length := (List.getElem?_eq_some_iff.1 hT).1
   have hmem := List.mem_of_getElem? hT
   have HRT := Hid.mk' (hrt T hmem)
   have HCC : Hid (∀ T ∈ W.tabs, T.cells.length = T.cols.length) := fun U hU => (hrt U hU).len
   have HLT := Hid.mk' (rtab_each (hrt T hmem))
   have HLA : Hid (∀ U ∈ W.tabs, ∀ M ∈ U.cells, M.length ≤ 100000) := fun U hU M hM => by rw [rtab_each (hrt U hU) M hM]; exact HSZ.out.2 U hU
   have HKT := Hid.mk' (hk.2.2.1.2 T hmem)
   have hct : T.cols.length ≤ 1000 := HSZ.out.1 T hmem
   have hkw : W.tabs.length ≤ 1048576 := by omega
   have HK := Hid.mk' hk
   have hI := inW_of (HF.out.ow HR2.out.o.right)
   obtain ⟨tb, t0, rfl, _, hp, s1, e1, s2, e2, s3, e3, t1, t2, t3, f1, f2, f3⟩ := eTab_cells hI.t hT
   have HTB : Hid (∀ {w' : World}, Rs X B w' ((P ++ [rB ka 40 [.slice g1 W.gens.length d1, .slice g2 W.free.length d2, .slice (some ⟨tb, t0, none⟩) W.tabs.length d3, .slice g4 W.res.length d4], rB kb 48 [.int .i64 e.1, .int .i64 e.2], rB kc 40 [.slice none 0 0, .slice none 0 0, .slice none 0 0, .slice none 0 0]]) ++ rW ⟨.slice g1 W.gens.length d1, .slice g2 W.free.length d2, .slice (some ⟨tb, t0, none⟩) W.tabs.length d3, .slice g4 W.res.length d4, ts⟩ W) → Els 3 cTab w' B (some ⟨tb, t0, none⟩) W.tabs) := fun h => (inW_of (HF.out.ow h.o.right)).t
   have i0 : (0 : Int) ≤ (i : Int) := by omega
   have i1 : (i : Int) < (W.tabs.length : Int) := by omega
   obtain ⟨x0, x1, x2, x3, x4⟩ := (show Blk w2 ka #[.slice g1 W.gens.length d1, .slice g2 W.free.length d2, .slice (some ⟨tb, t0, none⟩) W.tabs.length d3, .slice g4 W.res.length d4] 40 from rB_blk (HR2.out.o.on (rB ka 40 [.slice g1 W.gens.length d1, .slice g2 W.free.length d2, .slice (some ⟨tb, t0, none⟩) W.tabs.length d3, .slice g4 W.res.length d4]) (by simp))).four'
   clear hT hTj hrt hmem f2 f3 hI hk
   go_wp2_with fail
   refine (l4At_any s1 e1 T.cols x B w2 f1 (by omega)).mono ?_
   rintro r w3 ⟨⟨r, rfl, hr⟩, rfl⟩
   clear f1 t1 t2 t3
   rcases hr with ⟨rfl, hnx⟩ | ⟨q, rfl, hq⟩
   ·
    obtain ⟨z0, z1, z2, z3, z4⟩ := (show Blk w3 kc #[.slice none 0 0, .slice none 0 0, .slice none 0 0, .slice none 0 0] 40 from rB_blk (HR2.out.o.on (rB kc 40 [.slice none 0 0, .slice none 0 0, .slice none 0 0, .slice none 0 0]) (by simp))).four'
    have HNX := Hid.mk' hnx
    have h8 : Rs X B w3 (P ++ rB ka 40 [.slice g1 W.gens.length d1, .slice g2 W.free.length d2, .slice (some ⟨tb, t0, none⟩) W.tabs.length d3, .slice g4 W.res.length d4] :: (rB kb 48 [.int .i64 e.1, .int .i64 e.2] :: rB kc 40 [.slice none 0 0, .slice none 0 0, .slice none 0 0, .slice none 0 0] :: rW ⟨.slice g1 W.gens.length d1, .slice g2 W.free.length d2, .slice (some ⟨tb, t0, none⟩) W.tabs.length d3, .slice g4 W.res.length d4, ts⟩ W)) := by simpa only [List.append_assoc, List.cons_append, List.nil_append] using HR2.out
    have H9 := Hid.mk' (Rs.less P _ (Rs.setB _ _ 3 (.slice g4 W.res.length d4) (Rs.setB _ _ 2 (.slice (some ⟨tb, t0, none⟩) W.tabs.length d3) (Rs.setB _ _ 1 (.slice g2 W.free.length d2) (Rs.setB _ _ 0 (.slice g1 W.gens.length d1) (Rs.less P _ (Rs.less P _ h8)))))))
    clear h8 HR2 hnx
    go_wp2_with fail
    refine bodyPost_ret (v := .tuple #[.agg #[.slice g1 W.gens.length d1, .slice g2 W.free.length d2, .slice (some ⟨tb, t0, none⟩) W.tabs.length d3, .slice g4 W.res.length d4], .int .i64 4]) (by simp [results, Tryz.results35, go_sem, z0, z1, z2, z3]) rfl ⟨⟨.slice g1 W.gens.length d1, .slice g2 W.free.length d2, .slice (some ⟨tb, t0, none⟩) W.tabs.length d3, .slice g4 W.res.length d4, ts⟩, W, 4, rfl, H9.out, HF.out, Or.inr ⟨i, j, T, HT.out, HTj.out, Or.inl ⟨HNX.out, rfl, rfl⟩⟩⟩
   ·
    have HQ := Hid.mk' hq
    have hql : q < T.cols.length := (List.getElem?_eq_some_iff.1 hq).1
    obtain ⟨L, hL⟩ : ∃ L, Hid (L = rowC T j) := ⟨_, rfl⟩
    have hLl : Hid (L.length = T.cols.length) := by show _ = _; rw [hL.out]; exact rowC_len HRT.out.len
    have lL : L.length ≤ 1000 := by rw [hLl.out]; exact hct
    have qL : q < L.length := by rw [hLl.out]; exact hql
    have HOK : Hid (okCs L) := by
     show okCs L
     rw [hL.out]
     exact okCs_rowC (fun M hM => HF.out.okc T (List.mem_of_getElem? HT.out) M hM) (fun M hM => by rw [HLT.out M hM]; exact hjl)
    have tq : ¬ ((q : Int) < 0) := by omega
    clear hq
    go_wp2_with fail
    refine (l4Row_any (Bt := B) g1 g2 (some ⟨tb, t0, none⟩) g4 W.gens.length W.free.length W.res.length d1 d2 d3 d4 W i j T w3 (HTB.out HR2.out) HT.out HRT.out.len HLT.out hjl HKT.out hkw L hL.out lL).mono ?_
    rintro r w5 ⟨so, c0, rfl, hOr, hb5⟩
    obtain ⟨ob, rfl⟩ := own_some (show World.ownsRow w5 w3.heap.size 103 5 (.slice so L.length c0) L.length (L.flatMap ccells) from hOr) (by omega)
    have hcap := own_cap (show World.ownsRow w5 w3.heap.size 103 5 (.slice (some ⟨ob, 0, none⟩) L.length c0) L.length (L.flatMap ccells) from hOr)
    have HR5 : Hid (Rs X B w5 ((P ++ [rB ka 40 [.slice g1 W.gens.length d1, .slice g2 W.free.length d2, .slice (some ⟨tb, t0, none⟩) W.tabs.length d3, .slice g4 W.res.length d4], rB kb 48 [.int .i64 e.1, .int .i64 e.2], rB kc 40 [.slice none 0 0, .slice none 0 0, .slice none 0 0, .slice none 0 0], rC (.slice (some ⟨ob, 0, none⟩) L.length c0) L]) ++ rW ⟨.slice g1 W.gens.length d1, .slice g2 W.free.length d2, .slice (some ⟨tb, t0, none⟩) W.tabs.length d3, .slice g4 W.res.length d4, ts⟩ W)) := by
     show Rs _ _ _ _
     have h := Rs.ins (P ++ [rB ka 40 [.slice g1 W.gens.length d1, .slice g2 W.free.length d2, .slice (some ⟨tb, t0, none⟩) W.tabs.length d3, .slice g4 W.res.length d4], rB kb 48 [.int .i64 e.1, .int .i64 e.2], rB kc 40 [.slice none 0 0, .slice none 0 0, .slice none 0 0, .slice none 0 0]]) _ HR2.out hb5 hOr
     simpa only [List.append_assoc, List.cons_append, List.nil_append] using h
    clear HR2 HTB hOr hb5 x0 x1 x2 x3 x4
    obtain ⟨K, hK⟩ : ∃ K, Hid (L.eraseIdx q = K) := ⟨_, rfl⟩
    have HKL : Hid (K.length = L.length - 1) := by show _ = _; rw [← hK.out]; exact List.length_eraseIdx_of_lt qL
    have HKE : Hid (K = L.take q ++ L.drop (q + 1)) := by show _ = _; rw [← hK.out]; exact List.eraseIdx_eq_take_drop_succ L q
    have ht : Tryz.prog.underlying 66 = some (.slice (Tryz.prog.elem 66)) := by kernel_rfl
    have hsz : ∀ W, (Go.sizeOf (Tryz.prog.elem 66)).run Tryz.prog W = .ok 5 W := fun W => by kernel_rfl
    have sA := slice_upto 66 5 ht hsz ob L.length c0 q (by omega)
    obtain ⟨oB, sB, hoB⟩ := slice_behind ob L.length c0 (q + 1) (by omega) hcap
    have tw : IntKind.i64.wrap ((q : Int) + 1) = (q : Int) + 1 := by rw [IntKind.wrap_i64]; omega
    have eq1 : ((q + 1 : Nat) : Int) = (q : Int) + 1 := by omega
    simp only [eq1] at sB
    clear eq1
    have HOB := Hid.mk' hoB
    obtain ⟨i9, hi9, hz9, hs9, hb9⟩ := info_parts Tryz.infoCe
    have HR6 : Hid (Rs X B (w5.alloc (.cells #[] 103)).drew ((P ++ [rB ka 40 [.slice g1 W.gens.length d1, .slice g2 W.free.length d2, .slice (some ⟨tb, t0, none⟩) W.tabs.length d3, .slice g4 W.res.length d4], rB kb 48 [.int .i64 e.1, .int .i64 e.2], rB kc 40 [.slice none 0 0, .slice none 0 0, .slice none 0 0, .slice none 0 0], rC (.slice (some ⟨ob, 0, none⟩) L.length c0) L]) ++ rC (.slice (some ⟨w5.heap.size, 0, none⟩) 0 0) [] :: rW ⟨.slice g1 W.gens.length d1, .slice g2 W.free.length d2, .slice (some ⟨tb, t0, none⟩) W.tabs.length d3, .slice g4 W.res.length d4, ts⟩ W)) := (Rs.ins (P ++ [rB ka 40 [.slice g1 W.gens.length d1, .slice g2 W.free.length d2, .slice (some ⟨tb, t0, none⟩) W.tabs.length d3, .slice g4 W.res.length d4], rB kb 48 [.int .i64 e.1, .int .i64 e.2], rB kc 40 [.slice none 0 0, .slice none 0 0, .slice none 0 0, .slice none 0 0], rC (.slice (some ⟨ob, 0, none⟩) L.length c0) L]) (rW ⟨.slice g1 W.gens.length d1, .slice g2 W.free.length d2, .slice (some ⟨tb, t0, none⟩) W.tabs.length d3, .slice g4 W.res.length d4, ts⟩ W) HR5.out (bl_alloc (Below.refl _ _) _) (rC_nil w5)).drew
    have HNW : Hid (∀ (jj : Nat) (u : Value), ((L.take q).flatMap ccells)[jj]? = some u → (w5.alloc (.cells #[] 103)).drew.cell? ((⟨ob, 0, none⟩ : Addr).add jj) = some u) := by
     intro jj u hu
     have ho : World.ownsRow (w5.alloc (.cells #[] 103)).drew B 103 5 (.slice (some ⟨ob, 0, none⟩) L.length c0) L.length (L.flatMap ccells) := HR6.out.o.on (rC (.slice (some ⟨ob, 0, none⟩) L.length c0) L) (by simp)
     rw [fm_take, List.getElem?_take] at hu
     split at hu
     ·
      have hlt := (List.getElem?_eq_some_iff.1 hu).1
      rw [fm_len] at hlt
      have hc := World.ownsRow.cellAt ho jj (by omega)
      rw [hu] at hc
      rw [Addr.add_lit, Nat.zero_add]
      exact hc
     ·
      cases hu
    have HNW2 : Hid (∀ {w' : World} {r : OR}, Rs X B w' ((P ++ [rB ka 40 [.slice g1 W.gens.length d1, .slice g2 W.free.length d2, .slice (some ⟨tb, t0, none⟩) W.tabs.length d3, .slice g4 W.res.length d4], rB kb 48 [.int .i64 e.1, .int .i64 e.2], rB kc 40 [.slice none 0 0, .slice none 0 0, .slice none 0 0, .slice none 0 0], rC (.slice (some ⟨ob, 0, none⟩) L.length c0) L]) ++ r :: rW ⟨.slice g1 W.gens.length d1, .slice g2 W.free.length d2, .slice (some ⟨tb, t0, none⟩) W.tabs.length d3, .slice g4 W.res.length d4, ts⟩ W) → ∀ (jj : Nat) (u : Value), ((L.drop (q + 1)).flatMap ccells)[jj]? = some u → w'.cell? ((⟨ob, oB, none⟩ : Addr).add jj) = some u) := by
     intro w' r h jj u hu
     have ho : World.ownsRow w' B 103 5 (.slice (some ⟨ob, 0, none⟩) L.length c0) L.length (L.flatMap ccells) := h.o.on (rC (.slice (some ⟨ob, 0, none⟩) L.length c0) L) (by simp)
     rw [fm_drop, List.getElem?_drop] at hu
     have hlt := (List.getElem?_eq_some_iff.1 hu).1
     rw [fm_len] at hlt
     have e9 := HOB.out (by omega)
     subst e9
     rw [Addr.add_lit, World.ownsRow.cellAt ho _ (by omega)]
     exact hu
    have HON1 : Hid (∀ (M : List C5), ∀ u ∈ M.flatMap ccells, u.oneCell' = true) := fun M => ccells_one M
    have hTL : (L.take q).length = q := by rw [List.length_take]; omega
    have hDL : (L.drop (q + 1)).length = L.length - (q + 1) := by rw [List.length_drop]
    have HL1 : Hid (((L.take q).flatMap ccells).length = q * (rC (.slice (some ⟨w5.heap.size, 0, none⟩) 0 0) []).k) := by show _ = q * 5; rw [fm_len, hTL]
    have HFE : Hid (∀ v : Value, (fun v => rC v (L.take q)) v = ⟨(rC (.slice (some ⟨w5.heap.size, 0, none⟩) 0 0) []).T, (rC (.slice (some ⟨w5.heap.size, 0, none⟩) 0 0) []).k, v, q, (rC (.slice (some ⟨w5.heap.size, 0, none⟩) 0 0) []).cs ++ (L.take q).flatMap ccells⟩) := by
     intro v
     show rC v (L.take q) = _
     unfold rC
     rw [hTL]
     rfl
    have HM1 : Hid ((rC (.slice (some ⟨w5.heap.size, 0, none⟩) 0 0) []).n + q ≤ maxLen) := by show 0 + q ≤ _; unfold maxLen; omega
    have HM2 : Hid (((rC (.slice (some ⟨w5.heap.size, 0, none⟩) 0 0) []).n + q) * 40 ≤ 140737488355328) := by show (0 + q) * 40 ≤ _; omega
    have HN1 : Hid ((rC (.slice (some ⟨w5.heap.size, 0, none⟩) 0 0) []).n + q = q) := by show 0 + q = q; omega
    have HFE2 : Hid (∀ u v : Value, (fun v => rC v K) v = ⟨(rC u (L.take q)).T, (rC u (L.take q)).k, v, K.length, (rC u (L.take q)).cs ++ (L.drop (q + 1)).flatMap ccells⟩) := by
     intro u v
     show rC v K = _
     unfold rC
     rw [HKE.out, List.flatMap_append]
    have HL2 : Hid (∀ u : Value, ((L.drop (q + 1)).flatMap ccells).length = (L.length - (q + 1)) * (rC u (L.take q)).k) := by intro u; show _ = (L.length - (q + 1)) * 5; rw [fm_len, hDL]
    have HM3 : Hid (∀ u : Value, (rC u (L.take q)).n + (L.length - (q + 1)) ≤ maxLen) := by intro u; show (L.take q).length + _ ≤ _; rw [hTL]; unfold maxLen; omega
    have HM4 : Hid (∀ u : Value, ((rC u (L.take q)).n + (L.length - (q + 1))) * 40 ≤ 140737488355328) := by intro u; show ((L.take q).length + _) * 40 ≤ _; rw [hTL]; omega
    have HN2 : Hid (∀ u : Value, (rC u (L.take q)).n + (L.length - (q + 1)) = K.length) := by intro u; show (L.take q).length + _ = _; rw [hTL, HKL.out]; omega
    clear hTL hDL ht hsz hoB
    go_wp2_with fail
    go_cut [12] (fun p0 wx => ∃ (s' : Option Addr) (c' : Nat), p0 = .slice s' K.length c' ∧ Rs X B wx ((P ++ [rB ka 40 [.slice g1 W.gens.length d1, .slice g2 W.free.length d2, .slice (some ⟨tb, t0, none⟩) W.tabs.length d3, .slice g4 W.res.length d4], rB kb 48 [.int .i64 e.1, .int .i64 e.2], rB kc 40 [.slice none 0 0, .slice none 0 0, .slice none 0 0, .slice none 0 0], rC (.slice (some ⟨ob, 0, none⟩) L.length c0) L]) ++ rC (.slice s' K.length c') K :: rW ⟨.slice g1 W.gens.length d1, .slice g2 W.free.length d2, .slice (some ⟨tb, t0, none⟩) W.tabs.length d3, .slice g4 W.res.length d4, ts⟩ W))
    case first =>
     go_region_law (first
      | (refine step_appC (carr_Rs X B) (P ++ [rB ka 40 [.slice g1 W.gens.length d1, .slice g2 W.free.length d2, .slice (some ⟨tb, t0, none⟩) W.tabs.length d3, .slice g4 W.res.length d4], rB kb 48 [.int .i64 e.1, .int .i64 e.2], rB kc 40 [.slice none 0 0, .slice none 0 0, .slice none 0 0, .slice none 0 0], rC (.slice (some ⟨ob, 0, none⟩) L.length c0) L]) (rW ⟨.slice g1 W.gens.length d1, .slice g2 W.free.length d2, .slice (some ⟨tb, t0, none⟩) W.tabs.length d3, .slice g4 W.res.length d4, ts⟩ W) (r := rC (.slice s' q c') (L.take q)) hQ6 rfl rfl (.tmp 44) (.tmp 48) 66 40 rfl Tryz.underlying66 hi9 hz9 hs9 hb9 rfl (Nat.zero_lt_succ 4) (by simp [Act.eval, Act.put, rC]) ⟨ob, oB, none⟩ (L.length - (q + 1)) (c0 - (q + 1)) (by simp [Act.eval, Act.put]) ((L.drop (q + 1)).flatMap ccells) (HL2.out _) (HNW2.out hQ6) (HON1.out _) (HM3.out _) (HM4.out _) K.length (HN2.out _) (fun v => rC v K) (HFE2.out _) ?_; intro s'' c'' w7 hQ7 hgr7)
      | (refine step_appC (carr_Rs X B) (P ++ [rB ka 40 [.slice g1 W.gens.length d1, .slice g2 W.free.length d2, .slice (some ⟨tb, t0, none⟩) W.tabs.length d3, .slice g4 W.res.length d4], rB kb 48 [.int .i64 e.1, .int .i64 e.2], rB kc 40 [.slice none 0 0, .slice none 0 0, .slice none 0 0, .slice none 0 0], rC (.slice (some ⟨ob, 0, none⟩) L.length c0) L]) (rW ⟨.slice g1 W.gens.length d1, .slice g2 W.free.length d2, .slice (some ⟨tb, t0, none⟩) W.tabs.length d3, .slice g4 W.res.length d4, ts⟩ W) (r := rC (.slice (some ⟨w5.heap.size, 0, none⟩) 0 0) []) HR6.out rfl rfl (.tmp 40) (.tmp 43) 66 40 rfl Tryz.underlying66 hi9 hz9 hs9 hb9 rfl (Nat.zero_lt_succ 4) (by simp [Act.eval, Act.put, rC]) ⟨ob, 0, none⟩ q c0 (by simp [Act.eval, Act.put]) ((L.take q).flatMap ccells) HL1.out HNW.out (HON1.out _) HM1.out HM2.out q HN1.out (fun v => rC v (L.take q)) HFE.out ?_; intro s' c' w6 hQ6 hgr6))
     all_goals
      go_wp2_with fail
      go_meet
      exact ⟨s'', c'', rfl, hQ7⟩
    case rest =>
     obtain ⟨s', c', rfl, hR7⟩ := hcut
     have HR7 : Hid (Rs X B wc ((P ++ [rB ka 40 [.slice g1 W.gens.length d1, .slice g2 W.free.length d2, .slice (some ⟨tb, t0, none⟩) W.tabs.length d3, .slice g4 W.res.length d4], rB kb 48 [.int .i64 e.1, .int .i64 e.2], rB kc 40 [.slice none 0 0, .slice none 0 0, .slice none 0 0, .slice none 0 0], rC (.slice (some ⟨ob, 0, none⟩) L.length c0) L, rC (.slice s' K.length c') K]) ++ rW ⟨.slice g1 W.gens.length d1, .slice g2 W.free.length d2, .slice (some ⟨tb, t0, none⟩) W.tabs.length d3, .slice g4 W.res.length d4, ts⟩ W)) := by
      show Rs _ _ _ _
      simpa only [List.append_assoc, List.cons_append, List.nil_append] using hR7
     obtain ⟨x0, x1, x2, x3, x4⟩ := (show Blk wc ka #[.slice g1 W.gens.length d1, .slice g2 W.free.length d2, .slice (some ⟨tb, t0, none⟩) W.tabs.length d3, .slice g4 W.res.length d4] 40 from rB_blk (HR7.out.o.on (rB ka 40 [.slice g1 W.gens.length d1, .slice g2 W.free.length d2, .slice (some ⟨tb, t0, none⟩) W.tabs.length d3, .slice g4 W.res.length d4]) (by simp))).four'
     have okK : okCs K := fun c hc => HOK.out c (List.mem_of_mem_eraseIdx (by rw [hK.out]; exact hc))
     have hne : ¬ T.cols = K.map (·.1) := by
      rw [← hK.out, hL.out, erase_comps HRT.out.len]
      exact erase_ne hql
     have HMV := Hid.mk' (l4Move_any (X := X) (B := B) (P ++ [rB ka 40 [.slice g1 W.gens.length d1, .slice g2 W.free.length d2, .slice (some ⟨tb, t0, none⟩) W.tabs.length d3, .slice g4 W.res.length d4], rB kb 48 [.int .i64 e.1, .int .i64 e.2], rB kc 40 [.slice none 0 0, .slice none 0 0, .slice none 0 0, .slice none 0 0], rC (.slice (some ⟨ob, 0, none⟩) L.length c0) L, rC (.slice s' K.length c') K]) g1 g2 _ g4 d1 d2 d3 d4 ts W e i j T s' c' K wc HR7.out HF.out HK.out (by simp) okK (by rw [HKL.out]; omega) HCC.out HSZ.out.2 HLA.out h40 HT.out HTj.out HLT.out hne)
     clear HR5 HR6 HNW HNW2 HON1 HL1 HFE HM1 HM2 HN1 HFE2 HL2 HM3 HM4 HN2 sA sB hR7 HR7 okK hne
     go_wp2_with fail
     refine HMV.out.mono ?_
     clear HMV x0 x1 x2 x3 x4
     rintro r w8 ⟨V', W', code, rfl, hR8, hF8, hans⟩
     obtain ⟨q1, m1, q2, m2, q3, m3, q4, m4, ts', rfl⟩ := (hF8.ow hR8.o.right).shape
     have HF8 := Hid.mk' hF8
     have HANS : Hid (MvA W e i j T ((rowC T j).eraseIdx q) W' code) := by
      show MvA _ _ _ _ _ _ _ _
      rw [← hL.out, hK.out]
      exact hans
     obtain ⟨z0, z1, z2, z3, z4⟩ := (show Blk w8 kc #[.slice none 0 0, .slice none 0 0, .slice none 0 0, .slice none 0 0] 40 from rB_blk (hR8.o.on (rB kc 40 [.slice none 0 0, .slice none 0 0, .slice none 0 0, .slice none 0 0]) (by simp))).four'
     have h8 : Rs X B w8 (P ++ rB ka 40 [.slice g1 W.gens.length d1, .slice g2 W.free.length d2, .slice (some ⟨tb, t0, none⟩) W.tabs.length d3, .slice g4 W.res.length d4] :: (rB kb 48 [.int .i64 e.1, .int .i64 e.2] :: rB kc 40 [.slice none 0 0, .slice none 0 0, .slice none 0 0, .slice none 0 0] :: rC (.slice (some ⟨ob, 0, none⟩) L.length c0) L :: rC (.slice s' K.length c') K :: rW ⟨.slice q1 W'.gens.length m1, .slice q2 W'.free.length m2, .slice q3 W'.tabs.length m3, .slice q4 W'.res.length m4, ts'⟩ W')) := by simpa only [List.append_assoc, List.cons_append, List.nil_append] using hR8
     have h9 := Rs.less P _ (Rs.less P _ (Rs.less P _ (Rs.setB _ _ 3 (.slice q4 W'.res.length m4) (Rs.setB _ _ 2 (.slice q3 W'.tabs.length m3) (Rs.setB _ _ 1 (.slice q2 W'.free.length m2) (Rs.setB _ _ 0 (.slice q1 W'.gens.length m1) (Rs.less P _ (Rs.less P _ h8))))))))
     have H9 := Hid.mk' h9
     clear h8 h9 hR8 hF8 hans
     go_wp2_with fail
     refine bodyPost_ret (v := .tuple #[.agg #[.slice q1 W'.gens.length m1, .slice q2 W'.free.length m2, .slice q3 W'.tabs.length m3, .slice q4 W'.res.length m4], .int .i64 code]) (by simp [results, Tryz.results35, go_sem, z0, z1, z2, z3]) rfl ⟨⟨.slice q1 W'.gens.length m1, .slice q2 W'.free.length m2, .slice q3 W'.tabs.length m3, .slice q4 W'.res.length m4, ts'⟩, W', code, rfl, H9.out, HF8.out, Or.inr ⟨i, j, T, HT.out, HTj.out, Or.inr ⟨q, HQ.out, HANS.out⟩⟩⟩
end
end Go.Proofs.YtkihhadcoclnaaaGreat
