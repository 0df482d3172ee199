import Derived.Test.YtkihhadcoclnaaaGreatSp39
import Derived.Test.YtkihhadcoclnaaaGreatSp43
namespace Go.Proofs.YtkihhadcoclnaaaGreat
open Go.RowKit Go.Maps Go.WideMaps
set_option linter.unusedVariables false
set_option linter.unusedSimpArgs false
set_option maxRecDepth 100000
theorem Carr.rowsO {B : Nat} {Q : World → List OR → Prop} (c : Carr B Q) {w w1 : World} {P : List OR} {V : WV} {W : Wd} {i : Nat} {t : TV} {T : Tab} {v' : Value} {R' : List E2} (hR : Q w (P ++ rW V W)) (ht : V.ts[i]? = some t) (hT : W.tabs[i]? = some T)
  (hg : w.grownBy w1 t.r.ownBlock) (hr : (rE v' R').on w1 B) (ho : ∀ g, v'.ownBlock = some g → t.r.ownBlock = some g ∨ w.heap.size ≤ g) : (∀ r ∈ P ++ [rI V.g W.gens, rI V.f W.free, rT V.t V.ts, rV V.r W.res], r.on w1 B) ∧ ∀ (k : Nat) (u : TV) (U : Tab), ¬ k = i → V.ts[k]? = some u → W.tabs[k]? = some U → ∀ r ∈ rTab u U, r.on w1 B := by
 rw [rW_split ht hT] at hR
 have h1 := c.turn ((P ++ [rI V.g W.gens, rI V.f W.free, rT V.t V.ts, rV V.r W.res] ++ rTabs (V.ts.take i) (W.tabs.take i)) ++ [rI t.c T.cols]) (rS t.x t.xs :: rVs t.xs T.cells ++ rTabs (V.ts.drop (i + 1)) (W.tabs.drop (i + 1))) (r := rE t.r T.rows) (r' := rE v' R') (by simpa [rTab] using hR) hg hr ho
 refine ⟨fun r hr => (c.own h1).on r (List.mem_append_left _ (List.mem_append_left _ (List.mem_append_left _ hr))), fun k u U hk hu hU r hr => ?_⟩
 by_cases hlt : k < i
 ·
  have := rTabs_mem (ts := V.ts.take i) (Ts := W.tabs.take i) (by rw [List.getElem?_take, if_pos hlt]; exact hu) (by rw [List.getElem?_take, if_pos hlt]; exact hU) r hr
  exact (c.own h1).on r (by simp [this])
 have e : i + 1 + (k - (i + 1)) = k := by omega
 have := rTabs_mem (ts := V.ts.drop (i + 1)) (Ts := W.tabs.drop (i + 1)) (j := k - (i + 1)) (by rw [List.getElem?_drop, e]; exact hu) (by rw [List.getElem?_drop, e]; exact hU) r hr
 exact (c.own h1).on r (by simp [this])
set_option maxHeartbeats 16000000 in
theorem l4Move_any {X : World} {B : Nat} (P : List OR) (g1 g2 g3 g4 : Option Addr) (d1 d2 d3 d4 : Nat) (ts : List TV) (W : Wd) (e : E2) (fi fj : Nat) (T : Tab) (sc : Option Addr) (cc : Nat) (L : List C5) (w : World) (hR : Rs X B w (P ++ rW ⟨.slice g1 W.gens.length d1, .slice g2 W.free.length d2, .slice g3 W.tabs.length d3, .slice g4 W.res.length d4, ts⟩ W)) (hF : OWf ⟨.slice g1 W.gens.length d1, .slice g2 W.free.length d2, .slice g3 W.tabs.length d3, .slice g4 W.res.length d4, ts⟩ W) (hk : kW W) (hC : rC (.slice sc L.length cc) L ∈ P) (okL : okCs L) (lL : L.length ≤ 1000) (hcl : ∀ T ∈ W.tabs, T.cells.length = T.cols.length) (hrl : ∀ T ∈ W.tabs, T.rows.length ≤ 100000) (hll : ∀ T ∈ W.tabs, ∀ M ∈ T.cells, M.length ≤ 100000) (h40 : W.tabs.length ≤ 40)
  (hT : W.tabs[fi]? = some T) (he : T.rows[fj]? = some e) (hl : ∀ M ∈ T.cells, M.length = T.rows.length) (hne : ¬ T.cols = L.map (·.1)) :
  Calls Tryz.prog 79 #[.agg #[.slice g1 W.gens.length d1, .slice g2 W.free.length d2, .slice g3 W.tabs.length d3, .slice g4 W.res.length d4], .int .i64 fi, .int .i64 fj, .slice sc L.length cc] w fun r w' => ∃ (V' : WV) (W' : Wd) (code : Int), r = .returned (.tuple #[.agg #[V'.g, V'.f, V'.t, V'.r], .int .i64 code]) ∧ Rs X B w' (P ++ rW V' W') ∧ OWf V' W' ∧ MvA W e fi fj T L W' code := by
 have hal := alloc_old
 have haf := alloc_oldf
 have hr0 : Rs X B ((w.alloc (.cells #[.slice g1 W.gens.length d1, .slice g2 W.free.length d2, .slice g3 W.tabs.length d3, .slice g4 W.res.length d4] 40)).alloc (.cells #[.slice none 0 0, .slice none 0 0, .slice none 0 0, .slice none 0 0] 40)) ((P ++ [rB w.heap.size 40 [.slice g1 W.gens.length d1, .slice g2 W.free.length d2, .slice g3 W.tabs.length d3, .slice g4 W.res.length d4], rB (w.heap.size + 1) 40 [.slice none 0 0, .slice none 0 0, .slice none 0 0, .slice none 0 0]]) ++ rW ⟨.slice g1 W.gens.length d1, .slice g2 W.free.length d2, .slice g3 W.tabs.length d3, .slice g4 W.res.length d4, ts⟩ W) := by
  have h1 := Rs.ins P _ hR (bl_alloc (Below.refl _ _) (.cells #[.slice g1 W.gens.length d1, .slice g2 W.free.length d2, .slice g3 W.tabs.length d3, .slice g4 W.res.length d4] 40)) (blk_rB (cs := [.slice g1 W.gens.length d1, .slice g2 W.free.length d2, .slice g3 W.tabs.length d3, .slice g4 W.res.length d4]) (Blk.new w _ _) (Nat.le_refl _))
  have h2 := Rs.ins (P ++ [rB w.heap.size 40 [.slice g1 W.gens.length d1, .slice g2 W.free.length d2, .slice g3 W.tabs.length d3, .slice g4 W.res.length d4]]) (rW ⟨.slice g1 W.gens.length d1, .slice g2 W.free.length d2, .slice g3 W.tabs.length d3, .slice g4 W.res.length d4, ts⟩ W) (by simpa only [List.append_assoc, List.cons_append, List.nil_append] using h1) (bl_alloc (Below.refl _ _) (.cells #[.slice none 0 0, .slice none 0 0, .slice none 0 0, .slice none 0 0] 40)) (blk_rB (cs := [.slice none 0 0, .slice none 0 0, .slice none 0 0, .slice none 0 0]) (Blk.new _ _ _) (Nat.le_refl _))
  simp only [World.size_alloc] at h2
  simpa only [List.append_assoc, List.cons_append, List.nil_append] using h2
 have HR0 := Hid.mk' hr0
 have HF := Hid.mk' hF
 have HC := Hid.mk' hC
 have HK := Hid.mk' hk
 have HTf := Hid.mk' hT
 have HE := Hid.mk' he
 have HL := Hid.mk' hl
 have HNE := Hid.mk' hne
 have HSZ := Hid.mk' (And.intro hcl (And.intro hrl hll))
 have hfi : fi < W.tabs.length := (List.getElem?_eq_some_iff.1 hT).1
 have hfj : fj < T.rows.length := (List.getElem?_eq_some_iff.1 he).1
 have hfr : T.rows.length ≤ 100000 := hrl T (List.mem_of_getElem? hT)
 go_enter Tryz.func79, Tryz.ntmps79
 go_upto_region 1 with fail
 generalize hX0 : ((w.alloc (.cells #[.slice g1 W.gens.length d1, .slice g2 W.free.length d2, .slice g3 W.tabs.length d3, .slice g4 W.res.length d4] 40)).alloc (.cells #[.slice none 0 0, .slice none 0 0, .slice none 0 0, .slice none 0 0] 40)) = X0 at HR0 ⊢
 generalize hka : w.heap.size = ka at HR0 ⊢
 generalize hkc : ka + 1 = kc at HR0 ⊢
 clear hX0 hka hkc hr0 hR hk hF hC hT he hl hne hcl hrl hll; have HR1 : Hid (Rs X B (X0.alloc (.cells #[] 3)) ((P ++ [rB ka 40 [.slice g1 W.gens.length d1, .slice g2 W.free.length d2, .slice g3 W.tabs.length d3, .slice g4 W.res.length d4], rB kc 40 [.slice none 0 0, .slice none 0 0, .slice none 0 0, .slice none 0 0]]) ++ rI (.slice (some ⟨X0.heap.size, 0, none⟩) 0 0) [] :: rW ⟨.slice g1 W.gens.length d1, .slice g2 W.free.length d2, .slice g3 W.tabs.length d3, .slice g4 W.res.length d4, ts⟩ W)) := Rs.ins (P ++ [rB ka 40 [.slice g1 W.gens.length d1, .slice g2 W.free.length d2, .slice g3 W.tabs.length d3, .slice g4 W.res.length d4], rB kc 40 [.slice none 0 0, .slice none 0 0, .slice none 0 0, .slice none 0 0]]) (rW ⟨.slice g1 W.gens.length d1, .slice g2 W.free.length d2, .slice g3 W.tabs.length d3, .slice g4 W.res.length d4, ts⟩ W) HR0.out (bl_alloc (Below.refl _ _) _) (rI_nil X0)
 clear HR0; go_wp2_with fail; go_loopw [10, 11] (fun u i' wr => ∃ (m cb c' : Nat), m ≤ L.length ∧ i' = .int .i64 m ∧ u = .slice (some ⟨cb, 0, none⟩) m c' ∧ Hid (Rs X B wr ((P ++ [rB ka 40 [.slice g1 W.gens.length d1, .slice g2 W.free.length d2, .slice g3 W.tabs.length d3, .slice g4 W.res.length d4], rB kc 40 [.slice none 0 0, .slice none 0 0, .slice none 0 0, .slice none 0 0]]) ++ rI (.slice (some ⟨cb, 0, none⟩) m c') ((L.take m).map (·.1)) :: rW ⟨.slice g1 W.gens.length d1, .slice g2 W.free.length d2, .slice g3 W.tabs.length d3, .slice g4 W.res.length d4, ts⟩ W))) (fun _ i' _ => L.length - (intOf i').toNat)
 case atStart => exact ⟨0, X0.heap.size, 0, Nat.zero_le _, rfl, rfl, HR1.out⟩
 clear HR1; obtain ⟨m, cb, c', hm, rfl, rfl, hN⟩ := hrel
 by_cases hlt : m < L.length
 ·
  obtain ⟨c, ha⟩ := get_some hlt
  obtain ⟨qb, qo, rfl, _, hp, okc, e0, e1, e2, e3, e4⟩ := eCell_cells (rC_els (hN.out.o.on _ (List.mem_append_left _ (List.mem_append_left _ HC.out))) okL) ha
  obtain ⟨iI, hiI, hzI, hsI, hbI⟩ := info_parts Tryz.infoI
  have m0 : (0 : Int) ≤ (m : Int) := by omega
  have m1 : (m : Int) < (L.length : Int) := by omega
  obtain ⟨J, hJ⟩ : ∃ J, Hid ((L.take m).map (·.1) = J) := ⟨_, rfl⟩
  have HJL : Hid (J.length = m) := by show _ = _; rw [← hJ.out, List.length_map, List.length_take]; omega
  have HJ1 : Hid ((L.take (m + 1)).map (·.1) = J ++ [c.1]) := by show _ = _; rw [List.take_add_one, ha, List.map_append, hJ.out]; rfl
  rw [hJ.out] at hN
  have HR3 := Hid.mk' (hN.out.later (bl_alloc (Below.refl _ wr) (.cells #[.int .i64 c.1] 3)))
  have HNW : Hid (∀ (j : Nat) (u : Value), [Value.int .i64 c.1][j]? = some u → (wr.alloc (.cells #[.int .i64 c.1] 3)).cell? ((⟨wr.heap.size, 0, none⟩ : Addr).add j) = some u) := by
   intro j u hj
   have hb := Blk.new wr #[.int .i64 c.1] 3
   match j, hj with
   | 0, hj => simp at hj; subst hj; exact hb.cell 0
  have HON1 : Hid (∀ u ∈ [Value.int .i64 c.1], u.oneCell' = true) := by intro u hu; simp at hu; subst hu; rfl
  have HFE : Hid (∀ v : Value, (fun v => rI v (J ++ [c.1])) v = ⟨(rI (.slice (some ⟨cb, 0, none⟩) m c') J).T, (rI (.slice (some ⟨cb, 0, none⟩) m c') J).k, v, m + 1, (rI (.slice (some ⟨cb, 0, none⟩) m c') J).cs ++ [.int .i64 c.1]⟩) := by
   intro v
   show rI v (J ++ [c.1]) = _
   unfold rI
   rw [List.length_append, List.map_append, HJL.out]
   rfl
  have HM1 : Hid ((rI (.slice (some ⟨cb, 0, none⟩) m c') J).n + 1 ≤ maxLen) := by show J.length + 1 ≤ _; rw [HJL.out]; unfold maxLen; omega
  have HM2 : Hid (((rI (.slice (some ⟨cb, 0, none⟩) m c') J).n + 1) * 8 ≤ 140737488355328) := by show (J.length + 1) * 8 ≤ _; rw [HJL.out]; omega
  have HN1 : Hid ((rI (.slice (some ⟨cb, 0, none⟩) m c') J).n + 1 = m + 1) := by show J.length + 1 = _; rw [HJL.out]
  clear ha hN okc e1 e2 e3 e4; go_wp2_with (at_builtin; refine wpList_appR (carr_Rs X B) _ rfl (.tmp 22) (.tmp 28) 25 rfl (P ++ [rB ka 40 [.slice g1 W.gens.length d1, .slice g2 W.free.length d2, .slice g3 W.tabs.length d3, .slice g4 W.res.length d4], rB kc 40 [.slice none 0 0, .slice none 0 0, .slice none 0 0, .slice none 0 0]]) (rW ⟨.slice g1 W.gens.length d1, .slice g2 W.free.length d2, .slice g3 W.tabs.length d3, .slice g4 W.res.length d4, ts⟩ W) (r := rI (.slice (some ⟨cb, 0, none⟩) m c') J) HR3.out 8 Tryz.underlying25 hiI hzI hsI hbI rfl Nat.zero_lt_one rfl ⟨wr.heap.size, 0, none⟩ 1 1 rfl [.int .i64 c.1] rfl HNW.out HON1.out HM1.out HM2.out (m + 1) HN1.out (fun v => rI v (J ++ [c.1])) HFE.out ?_)
  intro s' k' w9 hR9
  have oJ : World.ownsRow w9 B 3 1 (.slice s' (m + 1) k') (J ++ [c.1]).length ((J ++ [c.1]).map (Value.int .i64)) := hR9.o.on (rI (.slice s' (m + 1) k') (J ++ [c.1])) (by simp)
  rw [show (J ++ [c.1]).length = m + 1 by rw [List.length_append, HJL.out]; rfl] at oJ
  obtain ⟨cb', rfl⟩ := own_some oJ (by omega)
  rw [← HJ1.out] at hR9
  have HR9 := Hid.mk' hR9
  clear hR9 oJ HR3 HNW HON1 HFE HM1 HM2 HN1 e0; go_wp2_with fail; go_roundw
  case rel => exact ⟨m + 1, cb', k', by omega, by go_num, rfl, by show Rs _ _ _ _; simpa only [List.append_assoc, List.cons_append, List.nil_append] using HR9.out⟩
  case measure => simp [intOf]; omega
 have hme : m = L.length := by omega
 subst hme
 obtain ⟨cols, hcols⟩ : ∃ cols, Hid (L.map (·.1) = cols) := ⟨_, rfl⟩
 have hcl1 : Hid (cols.length = L.length) := by show _ = _; rw [← hcols.out, List.length_map]
 have HR2 := Hid.mk' hN.out
 rw [List.take_length, hcols.out, ← hcl1.out] at HR2
 have HRL : Hid (L.length = cols.length) := hcl1.out.symm
 have lC : cols.length ≤ 1000 := by rw [hcl1.out]; exact lL
 have HR3 : Hid (Rs X B wr ((P ++ [rB ka 40 [.slice g1 W.gens.length d1, .slice g2 W.free.length d2, .slice g3 W.tabs.length d3, .slice g4 W.res.length d4], rB kc 40 [.slice none 0 0, .slice none 0 0, .slice none 0 0, .slice none 0 0], rI (.slice (some ⟨cb, 0, none⟩) cols.length c') cols]) ++ rW ⟨.slice g1 W.gens.length d1, .slice g2 W.free.length d2, .slice g3 W.tabs.length d3, .slice g4 W.res.length d4, ts⟩ W)) := by
  show Rs _ _ _ _
  simpa only [List.append_assoc, List.cons_append, List.nil_append] using HR2.out
 obtain ⟨x0, x1, x2, x3, x4⟩ := (show Blk wr ka #[.slice g1 W.gens.length d1, .slice g2 W.free.length d2, .slice g3 W.tabs.length d3, .slice g4 W.res.length d4] 40 from rB_blk (HR3.out.o.on (rB ka 40 [.slice g1 W.gens.length d1, .slice g2 W.free.length d2, .slice g3 W.tabs.length d3, .slice g4 W.res.length d4]) (by simp))).four'
 have HCT := Hid.mk' (l4Table_any (X := X) (B := B) (P ++ [rB ka 40 [.slice g1 W.gens.length d1, .slice g2 W.free.length d2, .slice g3 W.tabs.length d3, .slice g4 W.res.length d4], rB kc 40 [.slice none 0 0, .slice none 0 0, .slice none 0 0, .slice none 0 0], rI (.slice (some ⟨cb, 0, none⟩) cols.length c') cols]) g1 g2 g3 g4 d1 d2 d3 d4 ts W cb c' L cols hcols.out wr HR3.out HF.out HK.out (by simp) lC h40)
 rw [hcl1.out] at HCT
 clear hN HR2 HR3; go_wp2_with fail; refine HCT.out.mono ?_
 clear HCT x0 x1 x2 x3 x4; rintro r w3 (⟨rfl, hno, h4, hR3⟩ | ⟨i, T1, W1, st, cp1, ts1, rfl, hGA, hF1, hR3⟩)
 ·
  have HMV : Hid (MvA W e fi fj T L W 3) := Or.inl ⟨rfl, rfl, by rw [hcols.out]; exact hno, h4⟩
  have h7 : Rs X B (w3.alloc (.cells #[.slice g1 W.gens.length d1, .slice g2 W.free.length d2, .slice g3 W.tabs.length d3, .slice g4 W.res.length d4] 40)) (P ++ rB ka 40 [.slice g1 W.gens.length d1, .slice g2 W.free.length d2, .slice g3 W.tabs.length d3, .slice g4 W.res.length d4] :: (rB kc 40 [.slice none 0 0, .slice none 0 0, .slice none 0 0, .slice none 0 0] :: rI (.slice (some ⟨cb, 0, none⟩) L.length c') cols :: rW ⟨.slice g1 W.gens.length d1, .slice g2 W.free.length d2, .slice g3 W.tabs.length d3, .slice g4 W.res.length d4, ts⟩ W)) := by
   have h := hR3.later (bl_alloc (Below.refl _ _) (.cells #[.slice g1 W.gens.length d1, .slice g2 W.free.length d2, .slice g3 W.tabs.length d3, .slice g4 W.res.length d4] 40))
   simpa only [List.append_assoc, List.cons_append, List.nil_append] using h
  have HR7 := Hid.mk' h7
  clear h7 hR3 hno h4; go_upto_region 7 with fail
  generalize hX7 : (w3.alloc (.cells #[.slice g1 W.gens.length d1, .slice g2 W.free.length d2, .slice g3 W.tabs.length d3, .slice g4 W.res.length d4] 40)) = X7 at HR7 ⊢
  clear hX7; obtain ⟨x0, x1, x2, x3, x4⟩ := (show Blk X7 ka #[.slice g1 W.gens.length d1, .slice g2 W.free.length d2, .slice g3 W.tabs.length d3, .slice g4 W.res.length d4] 40 from rB_blk (HR7.out.o.on (rB ka 40 [.slice g1 W.gens.length d1, .slice g2 W.free.length d2, .slice g3 W.tabs.length d3, .slice g4 W.res.length d4]) (by simp))).four'
  obtain ⟨z0, z1, z2, z3, z4⟩ := (show Blk X7 kc #[.slice none 0 0, .slice none 0 0, .slice none 0 0, .slice none 0 0] 40 from rB_blk (HR7.out.o.on (rB kc 40 [.slice none 0 0, .slice none 0 0, .slice none 0 0, .slice none 0 0]) (by simp))).four'
  have h9 := Rs.less P _ (Rs.less P _ (Rs.setB _ _ 3 (.slice g4 W.res.length d4) (Rs.setB _ _ 2 (.slice g3 W.tabs.length d3) (Rs.setB _ _ 1 (.slice g2 W.free.length d2) (Rs.setB _ _ 0 (.slice g1 W.gens.length d1) (Rs.less P _ HR7.out))))))
  have H9 := Hid.mk' h9
  clear h9 HR7; go_wp2_with fail; refine bodyPost_ret (v := .tuple #[.agg #[.slice g1 W.gens.length d1, .slice g2 W.free.length d2, .slice g3 W.tabs.length d3, .slice g4 W.res.length d4], .int .i64 3]) (by simp [results, Tryz.results79, go_sem, z0, z1, z2, z3]) rfl ⟨⟨.slice g1 W.gens.length d1, .slice g2 W.free.length d2, .slice g3 W.tabs.length d3, .slice g4 W.res.length d4, ts⟩, W, 3, rfl, H9.out, HF.out, HMV.out⟩
 have HGA := Hid.mk' hGA
 have HF1 := Hid.mk' hF1
 have HTW := Hid.mk' hGA.tabs
 have hT1 := hGA.1
 have hi1 : i < W1.tabs.length := (List.getElem?_eq_some_iff.1 hT1).1
 have hcases : T1.cells.length = L.length ∧ T1.rows.length ≤ 100000 ∧ (∀ M ∈ T1.cells, M.length ≤ 100000) ∧ W1.tabs.length ≤ 41 := by
  obtain ⟨h1, h2, h3⟩ := hGA
  rcases h3 with rfl | ⟨rfl, rfl, rfl, _, _⟩
  ·
   have hm := List.mem_of_getElem? h1
   refine ⟨by rw [HSZ.out.1 T1 hm, h2, List.length_map], HSZ.out.2.1 T1 hm, HSZ.out.2.2 T1 hm, by omega⟩
  refine ⟨by simp [newT], by simp [newT], fun M hM => ?_, by show (W.tabs ++ [_]).length ≤ _; simp; omega⟩
  have hM : M ∈ List.replicate L.length ([] : List V4) := hM
  obtain rfl := (List.mem_replicate.1 hM).2
  simp
 obtain ⟨hcL, hrL, hML, hwL⟩ := hcases
 have HML := Hid.mk' hML
 have HCL := Hid.mk' hcL
 have hcl41 : T1.cells.length ≤ 1000 := by omega
 have h7 : Rs X B (w3.alloc (.cells #[.slice g1 W.gens.length d1, .slice g2 W.free.length d2, .slice st W1.tabs.length cp1, .slice g4 W.res.length d4] 40)) ((P ++ [rB ka 40 [.slice g1 W.gens.length d1, .slice g2 W.free.length d2, .slice g3 W.tabs.length d3, .slice g4 W.res.length d4], rB kc 40 [.slice none 0 0, .slice none 0 0, .slice none 0 0, .slice none 0 0], rI (.slice (some ⟨cb, 0, none⟩) L.length c') cols, rB w3.heap.size 40 [.slice g1 W.gens.length d1, .slice g2 W.free.length d2, .slice st W1.tabs.length cp1, .slice g4 W.res.length d4]]) ++ rW ⟨.slice g1 W.gens.length d1, .slice g2 W.free.length d2, .slice st W1.tabs.length cp1, .slice g4 W.res.length d4, ts1⟩ W1) := by
  have h := Rs.ins (P ++ [rB ka 40 [.slice g1 W.gens.length d1, .slice g2 W.free.length d2, .slice g3 W.tabs.length d3, .slice g4 W.res.length d4], rB kc 40 [.slice none 0 0, .slice none 0 0, .slice none 0 0, .slice none 0 0], rI (.slice (some ⟨cb, 0, none⟩) L.length c') cols]) _ hR3 (bl_alloc (Below.refl _ _) (.cells #[.slice g1 W.gens.length d1, .slice g2 W.free.length d2, .slice st W1.tabs.length cp1, .slice g4 W.res.length d4] 40)) (blk_rB (cs := [.slice g1 W.gens.length d1, .slice g2 W.free.length d2, .slice st W1.tabs.length cp1, .slice g4 W.res.length d4]) (Blk.new w3 _ _) (Nat.le_refl _))
  simpa only [List.append_assoc, List.cons_append, List.nil_append] using h
 have HR7 := Hid.mk' h7
 have ti0 : ¬ ((i : Int) < 0) := by omega
 clear h7 hR3 hGA hF1 hML hcL; go_upto_region 7 with fail
 generalize hX7 : (w3.alloc (.cells #[.slice g1 W.gens.length d1, .slice g2 W.free.length d2, .slice st W1.tabs.length cp1, .slice g4 W.res.length d4] 40)) = X7 at HR7 ⊢
 generalize hkd : w3.heap.size = kd at HR7 ⊢
 clear hX7 hkd; obtain ⟨t, tb, cp', sr, cr, sx, cx, ht, eV, er, ex, hxl, oR, oX, c1, c2, fz⟩ := tab_at HR7.out.o (V := ⟨.slice g1 W.gens.length d1, .slice g2 W.free.length d2, .slice st W1.tabs.length cp1, .slice g4 W.res.length d4, ts1⟩) (W := W1) (fun r hr => by simp [hr]) HF1.out hT1
 simp only [Value.slice.injEq, true_and] at eV
 obtain ⟨rfl, rfl⟩ := eV
 obtain ⟨tc0, tr, tx, xs⟩ := t
 dsimp only at er ex hxl oR oX c1 c2
 subst er ex
 obtain ⟨t', tb', cp', sr2, cr2, sx2, cx2, ht', eV', er', ex', hxl', oR', oX', c1', c2', fz'⟩ := tab_at HR7.out.o (V := ⟨.slice g1 W.gens.length d1, .slice g2 W.free.length d2, .slice (some ⟨tb, 0, none⟩) W1.tabs.length cp1, .slice g4 W.res.length d4, ts1⟩) (W := W1) (fun r hr => by simp [hr]) HF1.out (HTW.out.2.2.2.2.2.2 fi T HTf.out)
 simp only [Value.slice.injEq, Option.some.injEq, Addr.mk.injEq, and_true, true_and] at eV'
 obtain ⟨rfl, rfl⟩ := eV'
 rw [er'] at c1' oR'
 obtain ⟨rb2, rfl⟩ := own_some (show World.ownsRow X7 B 48 2 (.slice sr2 T.rows.length cr2) T.rows.length (ecells T.rows) from oR') (by omega)
 have eE := rE_els oR'
 have Ht := Hid.mk' ht
 have HT := Hid.mk' hT1
 have HXL := Hid.mk' hxl
 obtain ⟨b5, o5, ee5, _, _, u0, u1⟩ := eEnt_cells eE HE.out
 simp only [Option.some.injEq, Addr.mk.injEq, and_true] at ee5
 obtain ⟨rfl, rfl⟩ := ee5
 simp only [Nat.zero_add] at u0 u1
 have i0 : (0 : Int) ≤ (i : Int) := by omega
 have i1 : (i : Int) < (W1.tabs.length : Int) := by omega
 have f0 : (0 : Int) ≤ (fi : Int) := by omega
 have f1 : (fi : Int) < (W1.tabs.length : Int) := by have := HTW.out.2.2.2.1; omega
 have fj0 : (0 : Int) ≤ (fj : Int) := by omega
 have fj1 : (fj : Int) < (T.rows.length : Int) := by omega
 obtain ⟨x0, x1, x2, x3, x4⟩ := (show Blk X7 kd #[.slice g1 W.gens.length d1, .slice g2 W.free.length d2, .slice (some ⟨tb, 0, none⟩) W1.tabs.length cp1, .slice g4 W.res.length d4] 40 from rB_blk (HR7.out.o.on (rB kd 40 [.slice g1 W.gens.length d1, .slice g2 W.free.length d2, .slice (some ⟨tb, 0, none⟩) W1.tabs.length cp1, .slice g4 W.res.length d4]) (by simp))).four'
 have mT : ∀ r ∈ rTab ⟨tc0, .slice sr T1.rows.length cr, .slice sx T1.cells.length cx, xs⟩ T1, r ∈ (P ++ [rB ka 40 [.slice g1 W.gens.length d1, .slice g2 W.free.length d2, .slice g3 W.tabs.length d3, .slice g4 W.res.length d4], rB kc 40 [.slice none 0 0, .slice none 0 0, .slice none 0 0, .slice none 0 0], rI (.slice (some ⟨cb, 0, none⟩) L.length c') cols, rB kd 40 [.slice g1 W.gens.length d1, .slice g2 W.free.length d2, .slice (some ⟨tb, 0, none⟩) W1.tabs.length cp1, .slice g4 W.res.length d4]]) ++ rW ⟨.slice g1 W.gens.length d1, .slice g2 W.free.length d2, .slice (some ⟨tb, 0, none⟩) W1.tabs.length cp1, .slice g4 W.res.length d4, ts1⟩ W1 := fun r hr => List.mem_append_right _ (by have := rTabs_mem ht hT1 r hr; simp [rW, this])
 have hQ10 := (carr_Rs X B).drew ((carr_Rs X B).later HR7.out (bl_alloc (Below.refl _ X7) (.cells #[.int .i64 e.1, .int .i64 e.2] 48)))
 have OR10 : Hid (OR.on (X7.alloc (.cells #[.int .i64 e.1, .int .i64 e.2] 48)).drew B (rE (.slice sr T1.rows.length cr) T1.rows)) := hQ10.o.on _ (mT _ (by simp [rTab]))
 have HQ10 := Hid.mk' hQ10
 have HB10 : Hid (B ≤ (X7.alloc (.cells #[.int .i64 e.1, .int .i64 e.2] 48)).drew.heap.size) := hQ10.s
 obtain ⟨iE, hiE, hzE, hsE, hbE⟩ := info_parts Tryz.infoE
 have HNW : Hid (∀ (jj : Nat) (u : Value), [Value.int .i64 e.1, .int .i64 e.2][jj]? = some u → (X7.alloc (.cells #[.int .i64 e.1, .int .i64 e.2] 48)).drew.cell? ((⟨X7.heap.size, 0, none⟩ : Addr).add jj) = some u) := by
  intro jj u hj
  have hb := Blk.new X7 #[.int .i64 e.1, .int .i64 e.2] 48
  match jj, hj with
  | 0, hj => simp at hj; subst hj; exact hb.cell 0
  | 1, hj => simp at hj; subst hj; exact hb.cell 1
 have HON1 : Hid (∀ u ∈ [Value.int .i64 e.1, .int .i64 e.2], u.oneCell' = true) := by
  intro u hu
  simp only [List.mem_cons, List.not_mem_nil, or_false] at hu
  rcases hu with rfl | rfl <;> rfl
 have HM1 : Hid ((rE (.slice sr T1.rows.length cr) T1.rows).n + 1 ≤ maxLen) := by show T1.rows.length + 1 ≤ _; unfold maxLen; omega
 have HM2 : Hid (((rE (.slice sr T1.rows.length cr) T1.rows).n + 1) * 16 ≤ 140737488355328) := by show (T1.rows.length + 1) * 16 ≤ _; omega
 have HFE : Hid (∀ v : Value, (fun v => rE v (T1.rows ++ [e])) v = ⟨(rE (.slice sr T1.rows.length cr) T1.rows).T, (rE (.slice sr T1.rows.length cr) T1.rows).k, v, T1.rows.length + 1, (rE (.slice sr T1.rows.length cr) T1.rows).cs ++ [Value.int .i64 e.1, .int .i64 e.2]⟩) := by
  intro v
  show rE v (T1.rows ++ [e]) = _
  unfold rE ecells
  rw [List.length_append, List.flatMap_append]
  rfl
 have hifi : ¬ fi = i := by
  rintro rfl
  have h := HTW.out.2.2.2.2.2.2 fi T HTf.out
  rw [hT1] at h
  cases h
  exact HNE.out HGA.out.2.1
 have HS9 : Hid (∀ (sr' : Option Addr) (cr' : Nat) (w5 : World), (X7.alloc (.cells #[.int .i64 e.1, .int .i64 e.2] 48)).drew.grownBy w5 (Value.slice sr T1.rows.length cr).ownBlock → (rE (.slice sr' (T1.rows.length + 1) cr') (T1.rows ++ [e])).on w5 B → (∀ g, (Value.slice sr' (T1.rows.length + 1) cr').ownBlock = some g → (Value.slice sr T1.rows.length cr).ownBlock = some g ∨ (X7.alloc (.cells #[.int .i64 e.1, .int .i64 e.2] 48)).drew.heap.size ≤ g) → Rs X B (w5.setCell ⟨tb, i * 3 + 1, none⟩ (.slice sr' (T1.rows.length + 1) cr')) ((P ++ [rB ka 40 [.slice g1 W.gens.length d1, .slice g2 W.free.length d2, .slice g3 W.tabs.length d3, .slice g4 W.res.length d4], rB kc 40 [.slice none 0 0, .slice none 0 0, .slice none 0 0, .slice none 0 0], rI (.slice (some ⟨cb, 0, none⟩) L.length c') cols, rB kd 40 [.slice g1 W.gens.length d1, .slice g2 W.free.length d2, .slice (some ⟨tb, 0, none⟩) W1.tabs.length cp1, .slice g4 W.res.length d4]]) ++ rW (setTV ⟨.slice g1 W.gens.length d1, .slice g2 W.free.length d2, .slice (some ⟨tb, 0, none⟩) W1.tabs.length cp1, .slice g4 W.res.length d4, ts1⟩ i ⟨tc0, .slice sr' (T1.rows.length + 1) cr', .slice sx T1.cells.length cx, xs⟩) (setW W1 i ⟨T1.cols, T1.rows ++ [e], T1.cells⟩)) →
   (w5.cell? ⟨kd, 2, none⟩ = some (.slice (some ⟨tb, 0, none⟩) W1.tabs.length cp1) ∧ w5.cell? ⟨tb, fi * 3 + 1, none⟩ = some (.slice (some ⟨rb2, 0, none⟩) T.rows.length cr2) ∧ w5.cell? ⟨rb2, fj * 2, none⟩ = some (.int .i64 e.1) ∧ w5.cell? ⟨rb2, fj * 2 + 1, none⟩ = some (.int .i64 e.2)) ∧
   ((w5.setCell ⟨tb, i * 3 + 1, none⟩ (.slice sr' (T1.rows.length + 1) cr')).cell? ⟨kd, 2, none⟩ = some (.slice (some ⟨tb, 0, none⟩) W1.tabs.length cp1) ∧ (w5.setCell ⟨tb, i * 3 + 1, none⟩ (.slice sr' (T1.rows.length + 1) cr')).cell? ⟨tb, fi * 3 + 1, none⟩ = some (.slice (some ⟨rb2, 0, none⟩) T.rows.length cr2) ∧ (w5.setCell ⟨tb, i * 3 + 1, none⟩ (.slice sr' (T1.rows.length + 1) cr')).cell? ⟨rb2, fj * 2, none⟩ = some (.int .i64 e.1) ∧ (w5.setCell ⟨tb, i * 3 + 1, none⟩ (.slice sr' (T1.rows.length + 1) cr')).cell? ⟨rb2, fj * 2 + 1, none⟩ = some (.int .i64 e.2))) := by
  intro sr' cr' w5 hg5 hO5 hn5 hR5
  have hTfi := HTW.out.2.2.2.2.2.2 fi T HTf.out
  have key : ∀ (w6 : World) (ts6 : List TV), ts6[fi]? = some t' → ts6.length = W1.tabs.length → (rB kd 40 [.slice g1 W.gens.length d1, .slice g2 W.free.length d2, .slice (some ⟨tb, 0, none⟩) W1.tabs.length cp1, .slice g4 W.res.length d4]).on w6 B → (rT (.slice (some ⟨tb, 0, none⟩) W1.tabs.length cp1) ts6).on w6 B → (rE t'.r T.rows).on w6 B → w6.cell? ⟨kd, 2, none⟩ = some (.slice (some ⟨tb, 0, none⟩) W1.tabs.length cp1) ∧ w6.cell? ⟨tb, fi * 3 + 1, none⟩ = some (.slice (some ⟨rb2, 0, none⟩) T.rows.length cr2) ∧ w6.cell? ⟨rb2, fj * 2, none⟩ = some (.int .i64 e.1) ∧ w6.cell? ⟨rb2, fj * 2 + 1, none⟩ = some (.int .i64 e.2) := by
   intro w6 ts6 k1 k2 k3 k4 k5
   obtain ⟨c1, _, _⟩ := cellT k4 k2 k1
   rw [er'] at c1 k5
   obtain ⟨b5, o5, ee5, _, _, u0, u1⟩ := eEnt_cells (rE_els k5) HE.out
   simp only [Option.some.injEq, Addr.mk.injEq, and_true] at ee5
   obtain ⟨rfl, rfl⟩ := ee5
   simp only [Nat.zero_add] at u0 u1
   exact ⟨(show Blk w6 kd #[.slice g1 W.gens.length d1, .slice g2 W.free.length d2, .slice (some ⟨tb, 0, none⟩) W1.tabs.length cp1, .slice g4 W.res.length d4] 40 from rB_blk k3).cell 2, c1, u0, u1⟩
  constructor
  ·
   obtain ⟨o1, o2⟩ := (carr_Rs X B).rowsO (P := (P ++ [rB ka 40 [.slice g1 W.gens.length d1, .slice g2 W.free.length d2, .slice g3 W.tabs.length d3, .slice g4 W.res.length d4], rB kc 40 [.slice none 0 0, .slice none 0 0, .slice none 0 0, .slice none 0 0], rI (.slice (some ⟨cb, 0, none⟩) L.length c') cols, rB kd 40 [.slice g1 W.gens.length d1, .slice g2 W.free.length d2, .slice (some ⟨tb, 0, none⟩) W1.tabs.length cp1, .slice g4 W.res.length d4]])) (V := ⟨.slice g1 W.gens.length d1, .slice g2 W.free.length d2, .slice (some ⟨tb, 0, none⟩) W1.tabs.length cp1, .slice g4 W.res.length d4, ts1⟩) (W := W1) (i := i) (t := ⟨tc0, .slice sr T1.rows.length cr, .slice sx T1.cells.length cx, xs⟩) (T := T1) hQ10 ht hT1 hg5 hO5 hn5
   exact key w5 ts1 ht' HF1.out.len (o1 _ (by simp)) (o1 _ (by simp)) (o2 fi t' T hifi ht' hTfi _ (by simp [rTab]))
  refine key _ (ts1.set i ⟨tc0, .slice sr' (T1.rows.length + 1) cr', .slice sx T1.cells.length cx, xs⟩) (by rw [List.getElem?_set_ne (fun h => hifi h.symm)]; exact ht') (by rw [List.length_set]; exact HF1.out.len) (hR5.o.on _ (by simp)) (hR5.o.on _ (by simp [rW, setTV])) (hR5.o.on _ (List.mem_append_right _ ?_))
  have := rTabs_mem (ts := ts1.set i ⟨tc0, .slice sr' (T1.rows.length + 1) cr', .slice sx T1.cells.length cx, xs⟩) (Ts := W1.tabs.set i ⟨T1.cols, T1.rows ++ [e], T1.cells⟩) (j := fi) (t := t') (T := T) (by rw [List.getElem?_set_ne (fun h => hifi h.symm)]; exact ht') (by rw [List.getElem?_set_ne (fun h => hifi h.symm)]; exact hTfi) (rE t'.r T.rows) (by simp [rTab])
  simp [rW, setTV, setW, this]
 have hbA := bl_drew (bl_alloc (Below.refl X7.heap.size X7) (.cells #[.int .i64 e.1, .int .i64 e.2] 48))
 have HSB9 := Hid.mk' (And.intro (kcell hbA x2) (And.intro (kcell hbA c1') (And.intro (kcell hbA u0) (kcell hbA u1))))
 clear hbA hQ10 mT hT1 ht hxl oR oX eE ht' er' ex' hxl' oR' oX' c2' fz' c2 HR7; go_upto_region 9 with fail
 go_cut [] (fun wx => ∃ (sr' : Option Addr) (cr' : Nat), Rs X B wx ((P ++ [rB ka 40 [.slice g1 W.gens.length d1, .slice g2 W.free.length d2, .slice g3 W.tabs.length d3, .slice g4 W.res.length d4], rB kc 40 [.slice none 0 0, .slice none 0 0, .slice none 0 0, .slice none 0 0], rI (.slice (some ⟨cb, 0, none⟩) L.length c') cols, rB kd 40 [.slice g1 W.gens.length d1, .slice g2 W.free.length d2, .slice (some ⟨tb, 0, none⟩) W1.tabs.length cp1, .slice g4 W.res.length d4]]) ++ rW ⟨.slice g1 W.gens.length d1, .slice g2 W.free.length d2, .slice (some ⟨tb, 0, none⟩) W1.tabs.length cp1, .slice g4 W.res.length d4, (ts1.set i ⟨tc0, .slice sr' (T1.rows.length + 1) cr', .slice sx T1.cells.length cx, xs⟩)⟩ (setW W1 i (addN T1 e L 0))))
 case first =>
  refine wp_region_held_drew (S := (fun w' => w'.cell? ⟨kd, 2, none⟩ = some (.slice (some ⟨tb, 0, none⟩) W1.tabs.length cp1) ∧ w'.cell? ⟨tb, fi * 3 + 1, none⟩ = some (.slice (some ⟨rb2, 0, none⟩) T.rows.length cr2) ∧ w'.cell? ⟨rb2, fj * 2, none⟩ = some (.int .i64 e.1) ∧ w'.cell? ⟨rb2, fj * 2 + 1, none⟩ = some (.int .i64 e.2))) (by kernel_rfl) ?_ (fun hHeld => ?_)
  ·
   exact ⟨x2, c1', u0, u1⟩
  refine wpr 0 39 ?_; simp only [zs]; refine wpr 1 40 ?_; simp only [zs]; refine wpr 2 41 ?_; simp only [zs]; refine wpr 3 42 ?_; simp only [zs]; refine wpr 4 43 ?_; simp only [zs]; refine wpr 5 44 ?_; simp only [zs]; refine wpr 6 45 ?_; simp only [zs]; refine wpr 7 46 ?_; simp only [zs]; refine wpr 9 48 ?_; simp only [zs]; refine wpr 10 49 ?_; simp only [zs]; refine wpr 11 50 ?_; simp only [zs]; refine wpr 12 51 ?_
  simp only [zs]; refine wpr 13 52 ?_; simp only [zs]; refine wpr 14 53 ?_; simp only [zs]; refine wpr 15 54 ?_; simp only [zs]; refine wpr 16 55 ?_; simp only [zs]; refine wpr 17 56 ?_; simp only [zs]; refine wpAnyH_ready (rs := [8, 18]) (by kernel_rfl) (by simp) ?_
  refine AllReadyH.cons rfl (fun K hK => ?_) (AllReadyH.cons rfl (fun K hK => ?_) AllReadyH.nil)
  rotate_left 1; go_simp; refine hK.out _ _ ?_ (fun hHeld => ?_)
  ·
   exact HSB9.out
  clear hK K; try simp only [zs]
  refine wpy 8 fun K hK => ?_
  go_simp; refine hK.out _ _ ?_ (fun hHeld => ?_)
  ·
   exact hHeld
  clear hK K; try simp only [zs]
  rotate_left 1; go_simp; refine hK.out _ _ ?_ (fun hHeld => ?_)
  ·
   exact hHeld
  clear hK K; try simp only [zs]
  refine wpy 18 fun K hK => ?_
  go_simp; refine hK.out _ _ ?_ (fun hHeld => ?_)
  ·
   exact HSB9.out
  clear hK K; try simp only [zs]
  all_goals
   refine wpy 19 fun K hK => ?_
   refine step_appO (r := rE (.slice sr T1.rows.length cr) T1.rows) OR10.out HB10.out rfl rfl (.tmp 47) (.tmp 57) 130 16 rfl Tryz.underlying130 hiE hzE hsE hbE rfl (Nat.zero_lt_succ 1) (by simp [Act.eval, Act.put, rE]) ⟨X7.heap.size, 0, none⟩ 1 1 (by simp [Act.eval, Act.put]) [Value.int .i64 e.1, .int .i64 e.2] rfl HNW.out HON1.out HM1.out HM2.out (T1.rows.length + 1) rfl (fun v => rE v (T1.rows ++ [e])) HFE.out ?_
   intro sr' cr' w5 hO5 hg5 hn5
   obtain ⟨fz, c1, hR5⟩ := (carr_Rs X B).rowsT (P := (P ++ [rB ka 40 [.slice g1 W.gens.length d1, .slice g2 W.free.length d2, .slice g3 W.tabs.length d3, .slice g4 W.res.length d4], rB kc 40 [.slice none 0 0, .slice none 0 0, .slice none 0 0, .slice none 0 0], rI (.slice (some ⟨cb, 0, none⟩) L.length c') cols, rB kd 40 [.slice g1 W.gens.length d1, .slice g2 W.free.length d2, .slice (some ⟨tb, 0, none⟩) W1.tabs.length cp1, .slice g4 W.res.length d4]])) (V := ⟨.slice g1 W.gens.length d1, .slice g2 W.free.length d2, .slice (some ⟨tb, 0, none⟩) W1.tabs.length cp1, .slice g4 W.res.length d4, ts1⟩) (W := W1) (i := i) (t := ⟨tc0, .slice sr T1.rows.length cr, .slice sx T1.cells.length cx, xs⟩) (T := T1) (tb := tb) (n := W1.tabs.length) (cap := cp1) HQ10.out Ht.out HT.out rfl HF1.out.len.symm hg5 hO5 hn5
   obtain ⟨hS5, hS6⟩ := HS9.out sr' cr' w5 hg5 hO5 hn5 hR5
   refine hK.out _ _ ?_ (fun hHeld => ?_)
   ·
    exact hS5
   clear hK K; try simp only [zs]
   refine wpr 20 59 ?_; simp only [zs]; refine wpr 21 60 ?_; simp only [zs]; refine wpy 22 fun K hK => ?_
   go_simp; refine hK.out _ _ ?_ (fun hHeld => ?_)
   ·
    exact hS6
   clear hK K; try simp only [zs]
   refine wpAnyH_done (by kernel_rfl) ?_ _
   go_wp2_with fail; go_meet; exact ⟨sr', cr', hR5⟩
 obtain ⟨sr', cr', hR5⟩ := hcut
 have HR5 := Hid.mk' hR5
 clear hR5 HQ10 OR10 HB10 HNW HON1 HM1 HM2 HFE hiE hzE hsE hbE x0 x1 x2 x3 x4 c1 fz c1' u0 u1; go_wp2_with fail; go_loopw [14] (fun i' wr => ∃ (m : Nat) (ys : List Value), m ≤ L.length ∧ i' = .int .i64 m ∧ Hid (ys.length = T1.cells.length ∧ Rs X B wr ((P ++ [rB ka 40 [.slice g1 W.gens.length d1, .slice g2 W.free.length d2, .slice g3 W.tabs.length d3, .slice g4 W.res.length d4], rB kc 40 [.slice none 0 0, .slice none 0 0, .slice none 0 0, .slice none 0 0], rI (.slice (some ⟨cb, 0, none⟩) L.length c') cols, rB kd 40 [.slice g1 W.gens.length d1, .slice g2 W.free.length d2, .slice (some ⟨tb, 0, none⟩) W1.tabs.length cp1, .slice g4 W.res.length d4]]) ++ rW ⟨.slice g1 W.gens.length d1, .slice g2 W.free.length d2, .slice (some ⟨tb, 0, none⟩) W1.tabs.length cp1, .slice g4 W.res.length d4, (ts1.set i ⟨tc0, .slice sr' (T1.rows.length + 1) cr', .slice sx T1.cells.length cx, ys⟩)⟩ (setW W1 i (addN T1 e L m))))) (fun i' _ => L.length - (intOf i').toNat)
 case atStart => exact ⟨0, xs, Nat.zero_le _, rfl, HXL.out, HR5.out⟩
 clear HR5; obtain ⟨m, ys, hm, rfl, hN⟩ := hrel
 by_cases hlt : m < L.length
 ·
  have Hts : Hid ((ts1.set i ⟨tc0, .slice sr' (T1.rows.length + 1) cr', .slice sx T1.cells.length cx, ys⟩)[i]? = some ⟨tc0, .slice sr' (T1.rows.length + 1) cr', .slice sx T1.cells.length cx, ys⟩) := List.getElem?_set_self (List.getElem?_eq_some_iff.1 Ht.out).1
  have HTs : Hid ((setW W1 i (addN T1 e L m)).tabs[i]? = some (addN T1 e L m)) := List.getElem?_set_self hi1
  obtain ⟨c, ha⟩ := get_some hlt
  obtain ⟨M, hM⟩ := get_some (L := T1.cells) (k := m) (by rw [HCL.out]; exact hlt)
  obtain ⟨v, hv⟩ := get_some (L := ys) (k := m) (by rw [hN.out.1, HCL.out]; exact hlt)
  have mT : ∀ r ∈ rTab ⟨tc0, .slice sr' (T1.rows.length + 1) cr', .slice sx T1.cells.length cx, ys⟩ (addN T1 e L m), r ∈ (P ++ [rB ka 40 [.slice g1 W.gens.length d1, .slice g2 W.free.length d2, .slice g3 W.tabs.length d3, .slice g4 W.res.length d4], rB kc 40 [.slice none 0 0, .slice none 0 0, .slice none 0 0, .slice none 0 0], rI (.slice (some ⟨cb, 0, none⟩) L.length c') cols, rB kd 40 [.slice g1 W.gens.length d1, .slice g2 W.free.length d2, .slice (some ⟨tb, 0, none⟩) W1.tabs.length cp1, .slice g4 W.res.length d4]]) ++ rW ⟨.slice g1 W.gens.length d1, .slice g2 W.free.length d2, .slice (some ⟨tb, 0, none⟩) W1.tabs.length cp1, .slice g4 W.res.length d4, (ts1.set i ⟨tc0, .slice sr' (T1.rows.length + 1) cr', .slice sx T1.cells.length cx, ys⟩)⟩ (setW W1 i (addN T1 e L m)) := fun r hr => List.mem_append_right _ (by have := rTabs_mem Hts.out HTs.out r hr; simp [rW, this])
  obtain ⟨qb, qo, rfl, _, hp, okc, e0, e1, e2, e3, e4⟩ := eCell_cells (rC_els (hN.out.2.o.on _ (List.mem_append_left _ (List.mem_append_left _ HC.out))) okL) ha
  have hMk : M.length ≤ 100000 := HML.out M (List.mem_of_getElem? hM)
  have oX : World.ownsRow wr B 38 1 (.slice sx T1.cells.length cx) T1.cells.length ys := by
   have h := hN.out.2.o.on (rS (.slice sx T1.cells.length cx) ys) (mT _ (by simp [rTab]))
   unfold OR.on rS at h
   dsimp only at h
   rw [hN.out.1] at h
   exact h
  have oV : (rV v M).on wr B := hN.out.2.o.on _ (mT _ (by simp only [rTab, List.mem_cons]; exact Or.inr (Or.inr (Or.inr (mem_zipWith hv (addN_get HCL.out hM))))))
  obtain ⟨xb, rfl⟩ := own_some oX (by have := HCL.out; omega)
  obtain ⟨sv, cv, ev⟩ := oV.shape
  have ev : v = .slice sv M.length cv := ev
  subst ev
  have hc := World.ownsRow.cellAt oX m (by have := HCL.out; omega)
  rw [hv] at hc
  have HLEN : Hid ((ts1.set i ⟨tc0, .slice sr' (T1.rows.length + 1) cr', .slice (some ⟨xb, 0, none⟩) T1.cells.length cx, ys⟩).length = W1.tabs.length) := by show _ = _; rw [List.length_set]; exact HF1.out.len
  have HNL := Hid.mk' hN.out.1
  have HL1 := Hid.mk' hM
  have HV1 := Hid.mk' hv
  have HA1 := Hid.mk' ha
  obtain ⟨_, c2, fz⟩ := cellT (hN.out.2.o.on (rT (.slice (some ⟨tb, 0, none⟩) W1.tabs.length cp1) (ts1.set i ⟨tc0, .slice sr' (T1.rows.length + 1) cr', .slice (some ⟨xb, 0, none⟩) T1.cells.length cx, ys⟩)) (by simp [rW])) HLEN.out Hts.out
  dsimp only at c2
  obtain ⟨x0, x1, x2, x3, x4⟩ := (show Blk wr kd #[.slice g1 W.gens.length d1, .slice g2 W.free.length d2, .slice (some ⟨tb, 0, none⟩) W1.tabs.length cp1, .slice g4 W.res.length d4] 40 from rB_blk (hN.out.2.o.on (rB kd 40 [.slice g1 W.gens.length d1, .slice g2 W.free.length d2, .slice (some ⟨tb, 0, none⟩) W1.tabs.length cp1, .slice g4 W.res.length d4]) (by simp))).four'
  have hY := (carr_Rs X B).drew ((carr_Rs X B).later hN.out.2 (bl_alloc (Below.refl _ wr) (.cells #[.int .i64 c.2.1, .int .i64 c.2.2.1, .float .f64 c.2.2.2.1, .float .f64 c.2.2.2.2] 59)))
  have HY := Hid.mk' hY
  have OVY : Hid (OR.on (wr.alloc (.cells #[.int .i64 c.2.1, .int .i64 c.2.2.1, .float .f64 c.2.2.2.1, .float .f64 c.2.2.2.2] 59)).drew B (rV (.slice sv M.length cv) M)) := hY.o.on _ (mT _ (by simp only [rTab, List.mem_cons]; exact Or.inr (Or.inr (Or.inr (mem_zipWith hv (addN_get HCL.out hM))))))
  have HBY : Hid (B ≤ (wr.alloc (.cells #[.int .i64 c.2.1, .int .i64 c.2.2.1, .float .f64 c.2.2.2.1, .float .f64 c.2.2.2.2] 59)).drew.heap.size) := hY.s
  obtain ⟨iV, hiV, hzV, hsV, hbV⟩ := info_parts Tryz.infoV
  have HNW : Hid (∀ (jj : Nat) (u : Value), [Value.int .i64 c.2.1, .int .i64 c.2.2.1, .float .f64 c.2.2.2.1, .float .f64 c.2.2.2.2][jj]? = some u → (wr.alloc (.cells #[.int .i64 c.2.1, .int .i64 c.2.2.1, .float .f64 c.2.2.2.1, .float .f64 c.2.2.2.2] 59)).drew.cell? ((⟨wr.heap.size, 0, none⟩ : Addr).add jj) = some u) := by
   intro jj u hj
   have hb := Blk.new wr #[.int .i64 c.2.1, .int .i64 c.2.2.1, .float .f64 c.2.2.2.1, .float .f64 c.2.2.2.2] 59
   match jj, hj with
   | 0, hj => simp at hj; subst hj; exact hb.cell 0
   | 1, hj => simp at hj; subst hj; exact hb.cell 1
   | 2, hj => simp at hj; subst hj; exact hb.cell 2
   | 3, hj => simp at hj; subst hj; exact hb.cell 3
  have HON1 : Hid (∀ u ∈ [Value.int .i64 c.2.1, .int .i64 c.2.2.1, .float .f64 c.2.2.2.1, .float .f64 c.2.2.2.2], u.oneCell' = true) := by
   intro u hu
   simp only [List.mem_cons, List.not_mem_nil, or_false] at hu
   rcases hu with rfl | rfl | rfl | rfl <;> rfl
  have HM1 : Hid ((rV (.slice sv M.length cv) M).n + 1 ≤ maxLen) := by show M.length + 1 ≤ _; unfold maxLen; omega
  have HM2 : Hid (((rV (.slice sv M.length cv) M).n + 1) * 32 ≤ 140737488355328) := by show (M.length + 1) * 32 ≤ _; omega
  have HFE : Hid (∀ u : Value, (fun u => rV u (M ++ [c.2])) u = ⟨(rV (.slice sv M.length cv) M).T, (rV (.slice sv M.length cv) M).k, u, M.length + 1, (rV (.slice sv M.length cv) M).cs ++ [Value.int .i64 c.2.1, .int .i64 c.2.2.1, .float .f64 c.2.2.2.1, .float .f64 c.2.2.2.2]⟩) := by
   intro u
   show rV u (M ++ [c.2]) = _
   unfold rV
   rw [List.length_append, List.flatMap_append]
   rfl
  have HS13 : Hid (∀ (w6 : World) (ts6 : List TV) (t6 : TV), ts6[i]? = some t6 → ts6.length = W1.tabs.length → t6.x = .slice (some ⟨xb, 0, none⟩) T1.cells.length cx → (rB kd 40 [.slice g1 W.gens.length d1, .slice g2 W.free.length d2, .slice (some ⟨tb, 0, none⟩) W1.tabs.length cp1, .slice g4 W.res.length d4]).on w6 B → (rT (.slice (some ⟨tb, 0, none⟩) W1.tabs.length cp1) ts6).on w6 B → (rC (.slice (some ⟨qb, qo, none⟩) L.length cc) L).on w6 B → w6.cell? ⟨kd, 2, none⟩ = some (.slice (some ⟨tb, 0, none⟩) W1.tabs.length cp1) ∧ w6.cell? ⟨tb, i * 3 + 2, none⟩ = some (.slice (some ⟨xb, 0, none⟩) T1.cells.length cx) ∧ w6.cell? ⟨qb, qo + m * 5 + 1, none⟩ = some (.int .i64 c.2.1) ∧ w6.cell? ⟨qb, qo + m * 5 + 2, none⟩ = some (.int .i64 c.2.2.1) ∧ w6.cell? ⟨qb, qo + m * 5 + 3, none⟩ = some (.float .f64 c.2.2.2.1) ∧ w6.cell? ⟨qb, qo + m * 5 + 4, none⟩ = some (.float .f64 c.2.2.2.2)) := by
   intro w6 ts6 t6 k1 k2 k3 k4 k5 k6
   obtain ⟨_, c2, _⟩ := cellT k5 k2 k1
   rw [k3] at c2
   obtain ⟨b9, o9, ee, _, _, _, _, f1, f2, f3, f4⟩ := eCell_cells (rC_els k6 okL) HA1.out
   simp only [Option.some.injEq, Addr.mk.injEq, and_true] at ee
   obtain ⟨rfl, rfl⟩ := ee
   exact ⟨(show Blk w6 kd #[.slice g1 W.gens.length d1, .slice g2 W.free.length d2, .slice (some ⟨tb, 0, none⟩) W1.tabs.length cp1, .slice g4 W.res.length d4] 40 from rB_blk k4).cell 2, c2, f1, f2, f3, f4⟩
  have m0 : (0 : Int) ≤ (m : Int) := by omega
  have m1 : (m : Int) < (T1.cells.length : Int) := by have := HCL.out; omega
  have m2 : (m : Int) < (L.length : Int) := by omega
  have hbA := bl_drew (bl_alloc (Below.refl wr.heap.size wr) (.cells #[.int .i64 c.2.1, .int .i64 c.2.2.1, .float .f64 c.2.2.2.1, .float .f64 c.2.2.2.2] 59))
  have HSB13 := Hid.mk' (And.intro (kcell hbA x2) (And.intro (kcell hbA c2) (And.intro (kcell hbA e1) (And.intro (kcell hbA e2) (And.intro (kcell hbA e3) (kcell hbA e4))))))
  clear hbA oX oV mT hM hv ha hN hY okc e0; go_upto_region 13 with fail
  refine wp_region_held_drew (S := (fun w' => w'.cell? ⟨kd, 2, none⟩ = some (.slice (some ⟨tb, 0, none⟩) W1.tabs.length cp1) ∧ w'.cell? ⟨tb, i * 3 + 2, none⟩ = some (.slice (some ⟨xb, 0, none⟩) T1.cells.length cx) ∧ w'.cell? ⟨qb, qo + m * 5 + 1, none⟩ = some (.int .i64 c.2.1) ∧ w'.cell? ⟨qb, qo + m * 5 + 2, none⟩ = some (.int .i64 c.2.2.1) ∧ w'.cell? ⟨qb, qo + m * 5 + 3, none⟩ = some (.float .f64 c.2.2.2.1) ∧ w'.cell? ⟨qb, qo + m * 5 + 4, none⟩ = some (.float .f64 c.2.2.2.2))) (by kernel_rfl) ?_ (fun hHeld => ?_)
  ·
   exact ⟨x2, c2, e1, e2, e3, e4⟩
  refine wpr 0 67 ?_; simp only [zs]; refine wpr 1 68 ?_; simp only [zs]; refine wpr 2 69 ?_; simp only [zs]; refine wpr 3 70 ?_; simp only [zs]; refine wpr 4 71 ?_; simp only [zs]; refine wpr 5 72 ?_; simp only [zs]; refine wpr 6 73 ?_; simp only [zs]; refine wpr 7 74 ?_; simp only [zs]; refine wpr 8 75 ?_; simp only [zs]; refine wpr 9 76 ?_; simp only [zs]; refine wpr 10 77 ?_; simp only [zs]; refine wpr 11 78 ?_
  simp only [zs]; refine wpr 12 79 ?_; simp only [zs]; refine wpr 13 80 ?_; simp only [zs]; refine wpr 14 81 ?_; simp only [zs]; refine wpr 16 83 ?_; simp only [zs]; refine wpr 17 84 ?_; simp only [zs]; refine wpr 18 85 ?_; simp only [zs]; refine wpr 19 86 ?_; simp only [zs]; refine wpr 20 87 ?_; simp only [zs]; refine wpAnyH_ready (rs := [15, 21]) (by kernel_rfl) (by simp) ?_
  refine AllReadyH.cons rfl (fun K hK => ?_) (AllReadyH.cons rfl (fun K hK => ?_) AllReadyH.nil)
  rotate_left 1; go_simp; refine hK.out _ _ ?_ (fun hHeld => ?_)
  ·
   exact HSB13.out
  clear hK K; try simp only [zs]
  refine wpy 15 fun K hK => ?_
  go_simp; refine hK.out _ _ ?_ (fun hHeld => ?_)
  ·
   exact hHeld
  clear hK K; try simp only [zs]
  rotate_left 1; go_simp; refine hK.out _ _ ?_ (fun hHeld => ?_)
  ·
   exact hHeld
  clear hK K; try simp only [zs]
  refine wpy 21 fun K hK => ?_
  go_simp; refine hK.out _ _ ?_ (fun hHeld => ?_)
  ·
   exact HSB13.out
  clear hK K; try simp only [zs]
  all_goals
   refine wpy 22 fun K hK => ?_
   refine step_appO (r := rV (.slice sv M.length cv) M) OVY.out HBY.out rfl rfl (.tmp 82) (.tmp 88) 38 32 rfl Tryz.underlying38 hiV hzV hsV hbV rfl (Nat.zero_lt_succ 3) (by simp [Act.eval, Act.put, rV]) ⟨wr.heap.size, 0, none⟩ 1 1 (by simp [Act.eval, Act.put]) [Value.int .i64 c.2.1, .int .i64 c.2.2.1, .float .f64 c.2.2.2.1, .float .f64 c.2.2.2.2] rfl HNW.out HON1.out HM1.out HM2.out (M.length + 1) rfl (fun u => rV u (M ++ [c.2])) HFE.out ?_
   intro s9 c9 w5 hO5 hg5 hn5
   obtain ⟨fx, hx5, hP5, hR5⟩ := (carr_Rs X B).colT (P := (P ++ [rB ka 40 [.slice g1 W.gens.length d1, .slice g2 W.free.length d2, .slice g3 W.tabs.length d3, .slice g4 W.res.length d4], rB kc 40 [.slice none 0 0, .slice none 0 0, .slice none 0 0, .slice none 0 0], rI (.slice (some ⟨cb, 0, none⟩) L.length c') cols, rB kd 40 [.slice g1 W.gens.length d1, .slice g2 W.free.length d2, .slice (some ⟨tb, 0, none⟩) W1.tabs.length cp1, .slice g4 W.res.length d4]])) (V := ⟨.slice g1 W.gens.length d1, .slice g2 W.free.length d2, .slice (some ⟨tb, 0, none⟩) W1.tabs.length cp1, .slice g4 W.res.length d4, (ts1.set i ⟨tc0, .slice sr' (T1.rows.length + 1) cr', .slice (some ⟨xb, 0, none⟩) T1.cells.length cx, ys⟩)⟩) (W := setW W1 i (addN T1 e L m)) (i := i) (m := m) (t := ⟨tc0, .slice sr' (T1.rows.length + 1) cr', .slice (some ⟨xb, 0, none⟩) T1.cells.length cx, ys⟩) (T := addN T1 e L m) (xb := xb) (n := T1.cells.length) (cap := cx) HY.out Hts.out HTs.out rfl HNL.out.symm HV1.out (addN_get HCL.out HL1.out) hg5 hO5 hn5
   have hS5 := HS13.out w5 (ts1.set i ⟨tc0, .slice sr' (T1.rows.length + 1) cr', .slice (some ⟨xb, 0, none⟩) T1.cells.length cx, ys⟩) _ Hts.out HLEN.out rfl (hP5 (rB kd 40 [.slice g1 W.gens.length d1, .slice g2 W.free.length d2, .slice (some ⟨tb, 0, none⟩) W1.tabs.length cp1, .slice g4 W.res.length d4]) (by simp)) (hP5 _ (by simp)) (hP5 _ (List.mem_append_left _ (List.mem_append_left _ HC.out)))
   have hS6 := HS13.out _ ((ts1.set i ⟨tc0, .slice sr' (T1.rows.length + 1) cr', .slice (some ⟨xb, 0, none⟩) T1.cells.length cx, ys⟩).set i ⟨tc0, .slice sr' (T1.rows.length + 1) cr', .slice (some ⟨xb, 0, none⟩) T1.cells.length cx, (ys.set m (.slice s9 (M.length + 1) c9))⟩) _ (List.getElem?_set_self (List.getElem?_eq_some_iff.1 Hts.out).1) (by rw [List.length_set]; exact HLEN.out) rfl (hR5.o.on (rB kd 40 [.slice g1 W.gens.length d1, .slice g2 W.free.length d2, .slice (some ⟨tb, 0, none⟩) W1.tabs.length cp1, .slice g4 W.res.length d4]) (by simp)) (hR5.o.on _ (by simp [rW, setTV])) (hR5.o.on _ (List.mem_append_left _ (List.mem_append_left _ HC.out)))
   refine hK.out _ _ ?_ (fun hHeld => ?_)
   ·
    exact hS5
   clear hK K; try simp only [zs]
   refine wpr 23 90 ?_; simp only [zs]; refine wpy 24 fun K hK => ?_
   go_simp; refine hK.out _ _ ?_ (fun hHeld => ?_)
   ·
    exact hS6
   clear hK K; try simp only [zs]
   refine wpAnyH_done (by kernel_rfl) ?_ _
   have hR6 : Rs X B (w5.setCell ⟨xb, m, none⟩ (.slice s9 (M.length + 1) c9)) ((P ++ [rB ka 40 [.slice g1 W.gens.length d1, .slice g2 W.free.length d2, .slice g3 W.tabs.length d3, .slice g4 W.res.length d4], rB kc 40 [.slice none 0 0, .slice none 0 0, .slice none 0 0, .slice none 0 0], rI (.slice (some ⟨cb, 0, none⟩) L.length c') cols, rB kd 40 [.slice g1 W.gens.length d1, .slice g2 W.free.length d2, .slice (some ⟨tb, 0, none⟩) W1.tabs.length cp1, .slice g4 W.res.length d4]]) ++ rW ⟨.slice g1 W.gens.length d1, .slice g2 W.free.length d2, .slice (some ⟨tb, 0, none⟩) W1.tabs.length cp1, .slice g4 W.res.length d4, (ts1.set i ⟨tc0, .slice sr' (T1.rows.length + 1) cr', .slice (some ⟨xb, 0, none⟩) T1.cells.length cx, (ys.set m (.slice s9 (M.length + 1) c9))⟩)⟩ (setW W1 i (addN T1 e L (m + 1)))) := by
    have e1 := addN_set (e := e) HCL.out HL1.out HA1.out
    have h := hR5
    rw [setW_setW] at h
    simp only [setTV, List.set_set] at h
    rw [e1] at h
    exact h
   have HR9 := Hid.mk' hR6
   clear hR5 hR6 hP5 hO5 hg5 hn5 HY OVY HBY HNW HON1 HM1 HM2 HFE hiV hzV hsV hbV; go_wp2_with fail; go_roundw
   case rel => exact ⟨m + 1, ys.set m (.slice s9 (M.length + 1) c9), by omega, by go_num, by rw [List.length_set]; exact HNL.out, HR9.out⟩
   case measure => simp [intOf]; omega
 have hme : m = L.length := by omega
 subst hme
 have HFa : Hid (OWf ⟨.slice g1 W.gens.length d1, .slice g2 W.free.length d2, .slice (some ⟨tb, 0, none⟩) W1.tabs.length cp1, .slice g4 W.res.length d4, (ts1.set i ⟨tc0, .slice sr' (T1.rows.length + 1) cr', .slice sx T1.cells.length cx, ys⟩)⟩ (setW W1 i (addN T1 e L L.length))) := owf_set2 (t' := ⟨tc0, .slice sr' (T1.rows.length + 1) cr', .slice sx T1.cells.length cx, ys⟩) HF1.out HT.out (by rw [addN_len HCL.out]; exact hN.out.1) (okc_addN (fun M hM => HF1.out.okc T1 (List.mem_of_getElem? HT.out) M hM) okL)
 have HRa := Hid.mk' hN.out.2
 rw [addN_all HCL.out] at HRa HFa
 obtain ⟨x0, x1, x2, x3, x4⟩ := (show Blk wr kd #[.slice g1 W.gens.length d1, .slice g2 W.free.length d2, .slice (some ⟨tb, 0, none⟩) W1.tabs.length cp1, .slice g4 W.res.length d4] 40 from rB_blk (HRa.out.o.on (rB kd 40 [.slice g1 W.gens.length d1, .slice g2 W.free.length d2, .slice (some ⟨tb, 0, none⟩) W1.tabs.length cp1, .slice g4 W.res.length d4]) (by simp))).four'
 have q1 : (setW W1 i (addT T1 e L)).gens.length = W.gens.length := by show W1.gens.length = _; rw [HTW.out.1]
 have q2 : (setW W1 i (addT T1 e L)).free.length = W.free.length := by show W1.free.length = _; rw [HTW.out.2.1]
 have q3 : (setW W1 i (addT T1 e L)).tabs.length = W1.tabs.length := by show (W1.tabs.set i _).length = _; rw [List.length_set]
 have q4 : (setW W1 i (addT T1 e L)).res.length = W.res.length := by show W1.res.length = _; rw [HTW.out.2.2.1]
 have HLV := Hid.mk' (l4Leave_any (X := X) (B := B) (P ++ [rB ka 40 [.slice g1 W.gens.length d1, .slice g2 W.free.length d2, .slice g3 W.tabs.length d3, .slice g4 W.res.length d4], rB kc 40 [.slice none 0 0, .slice none 0 0, .slice none 0 0, .slice none 0 0], rI (.slice (some ⟨cb, 0, none⟩) L.length c') cols, rB kd 40 [.slice g1 W.gens.length d1, .slice g2 W.free.length d2, .slice (some ⟨tb, 0, none⟩) W1.tabs.length cp1, .slice g4 W.res.length d4]]) g1 g2 g4 d1 d2 d4 tb cp1 (ts1.set i ⟨tc0, .slice sr' (T1.rows.length + 1) cr', .slice sx T1.cells.length cx, ys⟩) (setW W1 i (addT T1 e L)) fi fj T wr (by rw [q1, q2, q3, q4]; exact HRa.out) (by rw [q1, q2, q3, q4]; exact HFa.out) (HGA.out.other HTf.out HNE.out) hfj (HGA.out.size HK.out lL HSZ.out.2.1 HSZ.out.2.2 h40) HL.out)
 rw [q1, q2, q3, q4] at HLV
 have HMV : Hid (MvA W e fi fj T L (setW (setW W1 i (addT T1 e L)) fi (gone T fj)) 0) := Or.inr ⟨i, T1, W1, HGA.out, rfl, rfl⟩
 clear hN HRa HFa q1 q2 q3 q4; go_wp2_with fail; refine HLV.out.mono ?_
 clear HLV x0 x1 x2 x3 x4; rintro r w8 ⟨ts', rfl, hR8, hF8⟩
 have HF8 := Hid.mk' hF8
 obtain ⟨z0, z1, z2, z3, z4⟩ := (show Blk w8 kc #[.slice none 0 0, .slice none 0 0, .slice none 0 0, .slice none 0 0] 40 from rB_blk (hR8.o.on (rB kc 40 [.slice none 0 0, .slice none 0 0, .slice none 0 0, .slice none 0 0]) (by simp))).four'
 have h8 : Rs X B w8 (P ++ rB ka 40 [.slice g1 W.gens.length d1, .slice g2 W.free.length d2, .slice g3 W.tabs.length d3, .slice g4 W.res.length d4] :: (rB kc 40 [.slice none 0 0, .slice none 0 0, .slice none 0 0, .slice none 0 0] :: rI (.slice (some ⟨cb, 0, none⟩) L.length c') cols :: rB kd 40 [.slice g1 W.gens.length d1, .slice g2 W.free.length d2, .slice (some ⟨tb, 0, none⟩) W1.tabs.length cp1, .slice g4 W.res.length d4] :: rW ⟨.slice g1 W.gens.length d1, .slice g2 W.free.length d2, .slice (some ⟨tb, 0, none⟩) W1.tabs.length cp1, .slice g4 W.res.length d4, ts'⟩ (setW (setW W1 i (addT T1 e L)) fi (gone T fj)))) := by simpa only [List.append_assoc, List.cons_append, List.nil_append] using hR8
 have h9 := Rs.less P _ (Rs.less P _ (Rs.less P _ (Rs.setB _ _ 3 (.slice g4 W.res.length d4) (Rs.setB _ _ 2 (.slice (some ⟨tb, 0, none⟩) W1.tabs.length cp1) (Rs.setB _ _ 1 (.slice g2 W.free.length d2) (Rs.setB _ _ 0 (.slice g1 W.gens.length d1) (Rs.less P _ h8)))))))
 have H9 := Hid.mk' h9
 clear h8 h9 hR8 hF8; go_wp2_with fail; refine bodyPost_ret (v := .tuple #[.agg #[.slice g1 W.gens.length d1, .slice g2 W.free.length d2, .slice (some ⟨tb, 0, none⟩) W1.tabs.length cp1, .slice g4 W.res.length d4], .int .i64 0]) (by simp [results, Tryz.results79, go_sem, z0, z1, z2, z3]) rfl ⟨⟨.slice g1 W.gens.length d1, .slice g2 W.free.length d2, .slice (some ⟨tb, 0, none⟩) W1.tabs.length cp1, .slice g4 W.res.length d4, ts'⟩, _, 0, rfl, H9.out, HF8.out, HMV.out⟩
end Go.Proofs.YtkihhadcoclnaaaGreat
