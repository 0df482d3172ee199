import Derived.Test.YtkihhadcoclnaaaGreatSp44
import Derived.Test.YtkihhadcoclnaaaGreatSp46
namespace Go.Proofs.YtkihhadcoclnaaaGreat
open Go.RowKit Go.Maps Go.WideMaps
set_option linter.unusedVariables false
set_option linter.unusedSimpArgs false
set_option maxRecDepth 100000
theorem fnd_at {T : Tab} {j m : Nat} {x : Int} {c : C5} (hr : RTab T) (hx : ¬ x ∈ T.cols) (h : ∀ (p : Nat) (c : C5), p < m → (rowC T j)[p]? = some c → c.1 ≤ x) (hc : (rowC T j)[m]? = some c) (hm : x < c.1) : Fnd T.cols x m := by
 have e : ∀ (p : Nat) (a : Int), T.cols[p]? = some a → ∃ d : C5, (rowC T j)[p]? = some d ∧ d.1 = a := by
  intro p a hp
  rw [← rowC_comps (j := j) hr.len, List.getElem?_map] at hp
  cases h9 : (rowC T j)[p]? with
  | none => rw [h9] at hp; cases hp
  | some d => rw [h9] at hp; exact ⟨d, rfl, Option.some.inj hp⟩
 have hml : m < T.cols.length := by rw [← rowC_len (j := j) hr.len]; exact (List.getElem?_eq_some_iff.1 hc).1
 obtain ⟨a, ha⟩ := get_some hml
 obtain ⟨d, hd, rfl⟩ := e m a ha
 rw [hc] at hd
 cases hd
 refine ⟨by omega, fun p b hp hb => ?_, fun p b hp hb => ?_⟩
 ·
  obtain ⟨d, hd, rfl⟩ := e p b hb
  have h1 := h p d hp hd
  have h2 : ¬ d.1 = x := fun he => hx (by rw [← he]; exact List.mem_of_getElem? hb)
  omega
 by_cases h1 : m = p
 ·
  subst h1
  rw [ha] at hb
  cases hb
  omega
 have := hr.up m p _ b (by omega) ha hb
 omega
theorem fnd_end {T : Tab} {j : Nat} {x : Int} (hr : RTab T) (hx : ¬ x ∈ T.cols) (h : ∀ (p : Nat) (c : C5), p < (rowC T j).length → (rowC T j)[p]? = some c → c.1 ≤ x) : Fnd T.cols x (rowC T j).length := by
 refine ⟨by rw [rowC_len hr.len]; exact Nat.le_refl _, fun p b hp hb => ?_, fun p b hp hb => ?_⟩
 ·
  have hb' := hb
  rw [← rowC_comps (j := j) hr.len, List.getElem?_map] at hb'
  cases h9 : (rowC T j)[p]? with
  | none => rw [h9] at hb'; cases hb'
  | some d =>
   rw [h9] at hb'
   have e9 : d.1 = b := Option.some.inj hb'
   subst e9
   have h1 := h p d hp h9
   have h2 : ¬ d.1 = x := fun he => hx (by rw [← he]; exact List.mem_of_getElem? hb)
   omega
 have := (List.getElem?_eq_some_iff.1 hb).1
 rw [rowC_len hr.len] at hp
 omega
theorem ins_take {L : List C5} {q m : Nat} {c d : C5} (hq : q ≤ m) (hm : m < L.length) (hd : L[m]? = some d) : (L.insertIdx q c).take (m + 1) ++ [d] = (L.insertIdx q c).take (m + 1 + 1) := by
 rw [List.take_add_one (l := L.insertIdx q c) (i := m + 1)]
 congr 1
 have e : (L.insertIdx q c)[m + 1]? = some d := by
  rw [ins_eq c L q (by omega), List.getElem?_append_right (by rw [List.length_take]; omega), List.length_take, show m + 1 - min q L.length = (m - q) + 1 by omega, List.getElem?_cons_succ, List.getElem?_drop, show q + (m - q) = m by omega]
  exact hd
 rw [e]
 rfl
theorem ins_first {L : List C5} {m : Nat} {c : C5} (hm : m ≤ L.length) : L.take m ++ [c] = (L.insertIdx m c).take (m + 1) := by
 rw [ins_eq c L m hm, List.take_append, List.length_take, List.take_take, Nat.min_eq_left hm, Nat.min_eq_right (by omega), show m + 1 - m = 1 by omega]
 rfl
set_option maxHeartbeats 16000000 in
theorem l4Put_any {X : World} {B : Nat} (P : List OR) (g1 g2 g3 g4 : Option Addr) (d1 d2 d3 d4 : Nat) (ts : List TV) (W : Wd) (e : E2) (x : Int) (v : V4) (w : World) (hR : Rs X B w (P ++ rW ⟨.slice g1 W.gens.length d1, .slice g2 W.free.length d2, .slice g3 W.tabs.length d3, .slice g4 W.res.length d4, ts⟩ W)) (hF : OWf ⟨.slice g1 W.gens.length d1, .slice g2 W.free.length d2, .slice g3 W.tabs.length d3, .slice g4 W.res.length d4, ts⟩ W) (hk : kW W)
  (hrt : ∀ t ∈ W.tabs, RTab t) (hlv : ∀ x, x ∈ listB W.gens W.free ↔ x ∈ rowsOf W.tabs) (hok : okE W.gens W.free = true) (hcl : ∀ T ∈ W.tabs, T.cols.length ≤ 900) (hrl : ∀ T ∈ W.tabs, T.rows.length ≤ 100000) (h40 : W.tabs.length ≤ 40) (okv : okV v) :
  Calls Tryz.prog 55 #[.agg #[.slice g1 W.gens.length d1, .slice g2 W.free.length d2, .slice g3 W.tabs.length d3, .slice g4 W.res.length d4], .agg #[.int .i64 e.1, .int .i64 e.2], .int .i64 x, .agg #[.int .i64 v.1, .int .i64 v.2.1, .float .f64 v.2.2.1, .float .f64 v.2.2.2]] w fun r w' => ∃ (V' : WV) (W' : Wd) (code : Int), r = .returned (.tuple #[.agg #[V'.g, V'.f, V'.t, V'.r], .int .i64 code]) ∧ Rs X B w' (P ++ rW V' W') ∧ OWf V' W' ∧ ((¬ e ∈ rowsOf W.tabs ∧ W' = W ∧ code = 2) ∨ (∃ (i j : Nat) (T : Tab), W.tabs[i]? = some T ∧ T.rows[j]? = some e ∧ ((∃ (q : Nat) (M : List V4), T.cols[q]? = some x ∧ T.cells[q]? = some M ∧ W' = setW W i (setT T q (M.set j v)) ∧ code = 0) ∨ (¬ x ∈ T.cols ∧ ∃ q : Nat, Fnd T.cols x q ∧ MvA W e i j T ((rowC T j).insertIdx q (x, v)) W' code)))) := by
 have hal := alloc_old
 have haf := alloc_oldf
 have hr0 : Rs X B ((((w.alloc (.cells #[.slice g1 W.gens.length d1, .slice g2 W.free.length d2, .slice g3 W.tabs.length d3, .slice g4 W.res.length d4] 40)).alloc (.cells #[.int .i64 e.1, .int .i64 e.2] 48)).alloc (.cells #[.int .i64 v.1, .int .i64 v.2.1, .float .f64 v.2.2.1, .float .f64 v.2.2.2] 59)).alloc (.cells #[.slice none 0 0, .slice none 0 0, .slice none 0 0, .slice none 0 0] 40)) ((P ++ [rB w.heap.size 40 [.slice g1 W.gens.length d1, .slice g2 W.free.length d2, .slice g3 W.tabs.length d3, .slice g4 W.res.length d4], rB (w.heap.size + 1) 48 [.int .i64 e.1, .int .i64 e.2], rB (w.heap.size + 1 + 1) 59 [.int .i64 v.1, .int .i64 v.2.1, .float .f64 v.2.2.1, .float .f64 v.2.2.2], rB (w.heap.size + 1 + 1 + 1) 40 [.slice none 0 0, .slice none 0 0, .slice none 0 0, .slice none 0 0]]) ++ rW ⟨.slice g1 W.gens.length d1, .slice g2 W.free.length d2, .slice g3 W.tabs.length d3, .slice g4 W.res.length d4, ts⟩ W) := by
  have h1 := Rs.ins P _ hR (bl_alloc (Below.refl _ _) (.cells #[.slice g1 W.gens.length d1, .slice g2 W.free.length d2, .slice g3 W.tabs.length d3, .slice g4 W.res.length d4] 40)) (blk_rB (cs := [.slice g1 W.gens.length d1, .slice g2 W.free.length d2, .slice g3 W.tabs.length d3, .slice g4 W.res.length d4]) (Blk.new w _ _) (Nat.le_refl _))
  have h2 := Rs.ins (P ++ [rB w.heap.size 40 [.slice g1 W.gens.length d1, .slice g2 W.free.length d2, .slice g3 W.tabs.length d3, .slice g4 W.res.length d4]]) (rW ⟨.slice g1 W.gens.length d1, .slice g2 W.free.length d2, .slice g3 W.tabs.length d3, .slice g4 W.res.length d4, ts⟩ W) (by simpa only [List.append_assoc, List.cons_append, List.nil_append] using h1) (bl_alloc (Below.refl _ _) (.cells #[.int .i64 e.1, .int .i64 e.2] 48)) (blk_rB (cs := [.int .i64 e.1, .int .i64 e.2]) (Blk.new _ _ _) (Nat.le_refl _))
  have h3 := Rs.ins (P ++ [rB w.heap.size 40 [.slice g1 W.gens.length d1, .slice g2 W.free.length d2, .slice g3 W.tabs.length d3, .slice g4 W.res.length d4], rB (w.alloc (.cells #[.slice g1 W.gens.length d1, .slice g2 W.free.length d2, .slice g3 W.tabs.length d3, .slice g4 W.res.length d4] 40)).heap.size 48 [.int .i64 e.1, .int .i64 e.2]]) (rW ⟨.slice g1 W.gens.length d1, .slice g2 W.free.length d2, .slice g3 W.tabs.length d3, .slice g4 W.res.length d4, ts⟩ W) (by simpa only [List.append_assoc, List.cons_append, List.nil_append] using h2) (bl_alloc (Below.refl _ _) (.cells #[.int .i64 v.1, .int .i64 v.2.1, .float .f64 v.2.2.1, .float .f64 v.2.2.2] 59)) (blk_rB (cs := [.int .i64 v.1, .int .i64 v.2.1, .float .f64 v.2.2.1, .float .f64 v.2.2.2]) (Blk.new _ _ _) (Nat.le_refl _))
  have h4 := Rs.ins (P ++ [rB w.heap.size 40 [.slice g1 W.gens.length d1, .slice g2 W.free.length d2, .slice g3 W.tabs.length d3, .slice g4 W.res.length d4], rB (w.alloc (.cells #[.slice g1 W.gens.length d1, .slice g2 W.free.length d2, .slice g3 W.tabs.length d3, .slice g4 W.res.length d4] 40)).heap.size 48 [.int .i64 e.1, .int .i64 e.2], rB ((w.alloc (.cells #[.slice g1 W.gens.length d1, .slice g2 W.free.length d2, .slice g3 W.tabs.length d3, .slice g4 W.res.length d4] 40)).alloc (.cells #[.int .i64 e.1, .int .i64 e.2] 48)).heap.size 59 [.int .i64 v.1, .int .i64 v.2.1, .float .f64 v.2.2.1, .float .f64 v.2.2.2]]) (rW ⟨.slice g1 W.gens.length d1, .slice g2 W.free.length d2, .slice g3 W.tabs.length d3, .slice g4 W.res.length d4, ts⟩ W) (by simpa only [List.append_assoc, List.cons_append, List.nil_append] using h3) (bl_alloc (Below.refl _ _) (.cells #[.slice none 0 0, .slice none 0 0, .slice none 0 0, .slice none 0 0] 40)) (blk_rB (cs := [.slice none 0 0, .slice none 0 0, .slice none 0 0, .slice none 0 0]) (Blk.new _ _ _) (Nat.le_refl _))
  simp only [World.size_alloc] at h4
  simpa only [List.append_assoc, List.cons_append, List.nil_append] using h4
 have HR0 := Hid.mk' hr0
 go_enter Tryz.func55, Tryz.ntmps55
 go_upto_region 1 with fail
 generalize hX0 : ((((w.alloc (.cells #[.slice g1 W.gens.length d1, .slice g2 W.free.length d2, .slice g3 W.tabs.length d3, .slice g4 W.res.length d4] 40)).alloc (.cells #[.int .i64 e.1, .int .i64 e.2] 48)).alloc (.cells #[.int .i64 v.1, .int .i64 v.2.1, .float .f64 v.2.2.1, .float .f64 v.2.2.2] 59)).alloc (.cells #[.slice none 0 0, .slice none 0 0, .slice none 0 0, .slice none 0 0] 40)) = X0 at HR0 ⊢
 generalize hka : w.heap.size = ka at HR0 ⊢
 generalize hkb : ka + 1 = kb at HR0 ⊢
 generalize hkv : kb + 1 = kv at HR0 ⊢
 generalize hkc : kv + 1 = kc at HR0 ⊢
 clear hX0 hka hkb hkv hkc hr0 hR; have HF := Hid.mk' hF
 have HLV := Hid.mk' hlv
 have HSZ := Hid.mk' (And.intro hcl hrl)
 clear hlv hF hcl hrl; obtain ⟨x0, x1, x2, x3, x4⟩ := (show Blk X0 ka #[.slice g1 W.gens.length d1, .slice g2 W.free.length d2, .slice g3 W.tabs.length d3, .slice g4 W.res.length d4] 40 from rB_blk (HR0.out.o.on (rB ka 40 [.slice g1 W.gens.length d1, .slice g2 W.free.length d2, .slice g3 W.tabs.length d3, .slice g4 W.res.length d4]) (by simp))).four'
 obtain ⟨y0, y1, y2⟩ := (show Blk X0 kb #[.int .i64 e.1, .int .i64 e.2] 48 from rB_blk (HR0.out.o.on (rB kb 48 [.int .i64 e.1, .int .i64 e.2]) (by simp))).two
 have hI := inW_of (HF.out.ow HR0.out.o.right)
 go_wp2_with fail; refine (l2Live_any g1 g2 d1 d2 W.gens W.free e.1 e.2 X0 hI.g.ints hI.f.ints hk.1 hk.2.1).mono ?_
 rintro r w1 ⟨rfl, hb1⟩
 have HR1 := Hid.mk' (HR0.out.later hb1)
 clear x0 x1 x2 x3 x4 y0 y1 y2 hI hb1 HR0; obtain ⟨x0, x1, x2, x3, x4⟩ := (show Blk w1 ka #[.slice g1 W.gens.length d1, .slice g2 W.free.length d2, .slice g3 W.tabs.length d3, .slice g4 W.res.length d4] 40 from rB_blk (HR1.out.o.on (rB ka 40 [.slice g1 W.gens.length d1, .slice g2 W.free.length d2, .slice g3 W.tabs.length d3, .slice g4 W.res.length d4]) (by simp))).four'
 have hac : ¬ ka = kc := own_ne (P := P) (r := rB ka 40 [.slice g1 W.gens.length d1, .slice g2 W.free.length d2, .slice g3 W.tabs.length d3, .slice g4 W.res.length d4]) (q := rB kc 40 [.slice none 0 0, .slice none 0 0, .slice none 0 0, .slice none 0 0]) (by have h := HR1.out.o; simp only [List.append_assoc, List.cons_append, List.nil_append] at h; exact h) rfl (by simp) rfl
 have hca : ¬ kc = ka := fun h => hac h.symm
 cases hlive : l2B W.gens W.free e.1 e.2
 ·
  obtain ⟨z0, z1, z2, z3, z4⟩ := (show Blk w1 kc #[.slice none 0 0, .slice none 0 0, .slice none 0 0, .slice none 0 0] 40 from rB_blk (HR1.out.o.on (rB kc 40 [.slice none 0 0, .slice none 0 0, .slice none 0 0, .slice none 0 0]) (by simp))).four'
  have HN : Hid (¬ e ∈ rowsOf W.tabs) := fun hm => by
   have := (mem_live hok).1 ((HLV.out e).2 hm)
   rw [hlive] at this
   cases this
  have h8 : Rs X B w1 (P ++ rB ka 40 [.slice g1 W.gens.length d1, .slice g2 W.free.length d2, .slice g3 W.tabs.length d3, .slice g4 W.res.length d4] :: (rB kb 48 [.int .i64 e.1, .int .i64 e.2] :: rB kv 59 [.int .i64 v.1, .int .i64 v.2.1, .float .f64 v.2.2.1, .float .f64 v.2.2.2] :: rB kc 40 [.slice none 0 0, .slice none 0 0, .slice none 0 0, .slice none 0 0] :: rW ⟨.slice g1 W.gens.length d1, .slice g2 W.free.length d2, .slice g3 W.tabs.length d3, .slice g4 W.res.length d4, ts⟩ W)) := by simpa only [List.append_assoc, List.cons_append, List.nil_append] using HR1.out
  have H9 := Hid.mk' (Rs.less P _ (Rs.setB _ _ 3 (.slice g4 W.res.length d4) (Rs.setB _ _ 2 (.slice g3 W.tabs.length d3) (Rs.setB _ _ 1 (.slice g2 W.free.length d2) (Rs.setB _ _ 0 (.slice g1 W.gens.length d1) (Rs.less P _ (Rs.less P _ (Rs.less P _ h8))))))))
  clear h8 HR1 hlive; go_wp2_with fail; refine bodyPost_ret (v := .tuple #[.agg #[.slice g1 W.gens.length d1, .slice g2 W.free.length d2, .slice g3 W.tabs.length d3, .slice g4 W.res.length d4], .int .i64 2]) (by simp [results, Tryz.results55, go_sem, z0, z1, z2, z3]) rfl ⟨⟨.slice g1 W.gens.length d1, .slice g2 W.free.length d2, .slice g3 W.tabs.length d3, .slice g4 W.res.length d4, ts⟩, W, 2, rfl, H9.out, HF.out, Or.inl ⟨HN.out, rfl, rfl⟩⟩
 have hin : e ∈ rowsOf W.tabs := (HLV.out e).1 ((mem_live hok).2 hlive)
 have HIN := Hid.mk' hin
 obtain ⟨y0, y1, y2⟩ := (show Blk w1 kb #[.int .i64 e.1, .int .i64 e.2] 48 from rB_blk (HR1.out.o.on (rB kb 48 [.int .i64 e.1, .int .i64 e.2]) (by simp))).two
 have hI := inW_of (HF.out.ow HR1.out.o.right)
 clear hlive hin; go_wp2_with fail; refine (specWhere_any g1 g2 g3 g4 d1 d2 d3 d4 W B e.1 e.2 w1 hI hk).mono ?_
 rintro r w2 ⟨⟨r1, r2, rfl, hwh⟩, hb2⟩
 have HR2 := Hid.mk' (HR1.out.later hb2)
 clear x0 x1 x2 x3 x4 y0 y1 y2 hI hb2 HR1; rcases hwh with ⟨rfl, rfl, hno⟩ | ⟨i, j, T, rfl, rfl, hT, hTj, _, _⟩
 ·
  exfalso
  have := HIN.out
  simp only [rowsOf, List.mem_flatMap] at this
  obtain ⟨t, ht, hx⟩ := this
  obtain ⟨i, hi, rfl⟩ := List.getElem_of_mem ht
  obtain ⟨j, hj, he⟩ := List.getElem_of_mem hx
  exact hno i _ (List.getElem?_eq_getElem hi) j (by rw [List.getElem?_eq_getElem hj, he])
 have HT := Hid.mk' hT
 have HTj := Hid.mk' hTj
 have hjl : j < T.rows.length := (List.getElem?_eq_some_iff.1 hTj).1
 have hil : i < W.tabs.length := (List.getElem?_eq_some_iff.1 hT).1
 have hmem := List.mem_of_getElem? hT
 have HRT := Hid.mk' (hrt T hmem)
 have HCC : Hid (∀ T ∈ W.tabs, T.cells.length = T.cols.length) := fun U hU => (hrt U hU).len
 have HLT := Hid.mk' (rtab_each (hrt T hmem))
 have HLA : Hid (∀ U ∈ W.tabs, ∀ M ∈ U.cells, M.length ≤ 100000) := fun U hU M hM => by rw [rtab_each (hrt U hU) M hM]; exact HSZ.out.2 U hU
 have HKT := Hid.mk' (hk.2.2.1.2 T hmem)
 have hct : T.cols.length ≤ 900 := HSZ.out.1 T hmem
 have hkw : W.tabs.length ≤ 1048576 := by omega
 have HK := Hid.mk' hk
 have hI := inW_of (HF.out.ow HR2.out.o.right)
 obtain ⟨tb, t0, rfl, _, hp, s1, e1, s2, e2, s3, e3, t1, t2, t3, f1, f2, f3⟩ := eTab_cells hI.t hT
 have HTB : Hid (∀ {w' : World}, Rs X B w' ((P ++ [rB ka 40 [.slice g1 W.gens.length d1, .slice g2 W.free.length d2, .slice (some ⟨tb, t0, none⟩) W.tabs.length d3, .slice g4 W.res.length d4], rB kb 48 [.int .i64 e.1, .int .i64 e.2], rB kv 59 [.int .i64 v.1, .int .i64 v.2.1, .float .f64 v.2.2.1, .float .f64 v.2.2.2], rB kc 40 [.slice none 0 0, .slice none 0 0, .slice none 0 0, .slice none 0 0]]) ++ rW ⟨.slice g1 W.gens.length d1, .slice g2 W.free.length d2, .slice (some ⟨tb, t0, none⟩) W.tabs.length d3, .slice g4 W.res.length d4, ts⟩ W) → Els 3 cTab w' B (some ⟨tb, t0, none⟩) W.tabs) := fun h => (inW_of (HF.out.ow h.o.right)).t
 have i0 : (0 : Int) ≤ (i : Int) := by omega
 have i1 : (i : Int) < (W.tabs.length : Int) := by omega
 obtain ⟨x0, x1, x2, x3, x4⟩ := (show Blk w2 ka #[.slice g1 W.gens.length d1, .slice g2 W.free.length d2, .slice (some ⟨tb, t0, none⟩) W.tabs.length d3, .slice g4 W.res.length d4] 40 from rB_blk (HR2.out.o.on (rB ka 40 [.slice g1 W.gens.length d1, .slice g2 W.free.length d2, .slice (some ⟨tb, t0, none⟩) W.tabs.length d3, .slice g4 W.res.length d4]) (by simp))).four'
 clear hT hTj hrt hmem f2 f3 hI hk; go_wp2_with fail; refine (l4At_any s1 e1 T.cols x B w2 f1 (by omega)).mono ?_
 rintro r w3 ⟨⟨r, rfl, hr⟩, rfl⟩
 clear f1 t1 t2 t3; rcases hr with ⟨rfl, hnx⟩ | ⟨q, rfl, hq⟩
 ·
  have HNX := Hid.mk' hnx
  obtain ⟨L, hL⟩ : ∃ L, Hid (L = rowC T j) := ⟨_, rfl⟩
  have hLl : Hid (L.length = T.cols.length) := by show _ = _; rw [hL.out]; exact rowC_len HRT.out.len
  have lL : L.length ≤ 900 := by rw [hLl.out]; exact hct
  have HOK : Hid (okCs L) := by
   show okCs L
   rw [hL.out]
   exact okCs_rowC (fun M hM => HF.out.okc T (List.mem_of_getElem? HT.out) M hM) (fun M hM => by rw [HLT.out M hM]; exact hjl)
  obtain ⟨i9, hi9, hz9, hs9, hb9⟩ := info_parts Tryz.infoCe
  clear hnx; have HR4 : Hid (Rs X B (w3.alloc (.cells #[] 103)) ((P ++ [rB ka 40 [.slice g1 W.gens.length d1, .slice g2 W.free.length d2, .slice (some ⟨tb, t0, none⟩) W.tabs.length d3, .slice g4 W.res.length d4], rB kb 48 [.int .i64 e.1, .int .i64 e.2], rB kv 59 [.int .i64 v.1, .int .i64 v.2.1, .float .f64 v.2.2.1, .float .f64 v.2.2.2], rB kc 40 [.slice none 0 0, .slice none 0 0, .slice none 0 0, .slice none 0 0]]) ++ rC (.slice (some ⟨w3.heap.size, 0, none⟩) 0 0) [] :: rW ⟨.slice g1 W.gens.length d1, .slice g2 W.free.length d2, .slice (some ⟨tb, t0, none⟩) W.tabs.length d3, .slice g4 W.res.length d4, ts⟩ W)) := Rs.ins (P ++ [rB ka 40 [.slice g1 W.gens.length d1, .slice g2 W.free.length d2, .slice (some ⟨tb, t0, none⟩) W.tabs.length d3, .slice g4 W.res.length d4], rB kb 48 [.int .i64 e.1, .int .i64 e.2], rB kv 59 [.int .i64 v.1, .int .i64 v.2.1, .float .f64 v.2.2.1, .float .f64 v.2.2.2], rB kc 40 [.slice none 0 0, .slice none 0 0, .slice none 0 0, .slice none 0 0]]) (rW ⟨.slice g1 W.gens.length d1, .slice g2 W.free.length d2, .slice (some ⟨tb, t0, none⟩) W.tabs.length d3, .slice g4 W.res.length d4, ts⟩ W) HR2.out (bl_alloc (Below.refl _ _) _) (rC_nil w3)
  have hb4 : Below w3.heap.size w3 (w3.alloc (.cells #[] 103)) := bl_alloc (Below.refl _ _) _
  have HTB4 := Hid.mk' ((HTB.out HR2.out).later cTab_keeps hb4)
  obtain ⟨x0, x1, x2, x3, x4⟩ := (show Blk (w3.alloc (.cells #[] 103)) ka #[.slice g1 W.gens.length d1, .slice g2 W.free.length d2, .slice (some ⟨tb, t0, none⟩) W.tabs.length d3, .slice g4 W.res.length d4] 40 from rB_blk (HR4.out.o.on (rB ka 40 [.slice g1 W.gens.length d1, .slice g2 W.free.length d2, .slice (some ⟨tb, t0, none⟩) W.tabs.length d3, .slice g4 W.res.length d4]) (by simp))).four'
  clear hb4; go_wp2_with fail; generalize hX4 : w3.alloc (.cells #[] 103) = X4 at HR4 HTB4 x0 x1 x2 x3 x4 ⊢
  generalize hkl : w3.heap.size = kl at HR4 ⊢
  clear hX4 hkl; refine (l4Row_any (Bt := B) g1 g2 (some ⟨tb, t0, none⟩) g4 W.gens.length W.free.length W.res.length d1 d2 d3 d4 W i j T X4 HTB4.out HT.out HRT.out.len HLT.out hjl HKT.out hkw L hL.out (by omega)).mono ?_
  rintro r w5 ⟨so, c0, rfl, hOr, hb5⟩
  have HR5 : Hid (Rs X B w5 ((P ++ [rB ka 40 [.slice g1 W.gens.length d1, .slice g2 W.free.length d2, .slice (some ⟨tb, t0, none⟩) W.tabs.length d3, .slice g4 W.res.length d4], rB kb 48 [.int .i64 e.1, .int .i64 e.2], rB kv 59 [.int .i64 v.1, .int .i64 v.2.1, .float .f64 v.2.2.1, .float .f64 v.2.2.2], rB kc 40 [.slice none 0 0, .slice none 0 0, .slice none 0 0, .slice none 0 0], rC (.slice so L.length c0) L]) ++ rC (.slice (some ⟨kl, 0, none⟩) 0 0) [] :: rW ⟨.slice g1 W.gens.length d1, .slice g2 W.free.length d2, .slice (some ⟨tb, t0, none⟩) W.tabs.length d3, .slice g4 W.res.length d4, ts⟩ W)) := by
   show Rs _ _ _ _
   have h := Rs.ins (P ++ [rB ka 40 [.slice g1 W.gens.length d1, .slice g2 W.free.length d2, .slice (some ⟨tb, t0, none⟩) W.tabs.length d3, .slice g4 W.res.length d4], rB kb 48 [.int .i64 e.1, .int .i64 e.2], rB kv 59 [.int .i64 v.1, .int .i64 v.2.1, .float .f64 v.2.2.1, .float .f64 v.2.2.2], rB kc 40 [.slice none 0 0, .slice none 0 0, .slice none 0 0, .slice none 0 0]]) _ HR4.out hb5 hOr
   simpa only [List.append_assoc, List.cons_append, List.nil_append] using h
  clear HR2 HR4 HTB HTB4 hOr hb5 x0 x1 x2 x3 x4; go_wp2_with fail; go_loopw [13, 15, 16] (fun u d i' wr => ∃ (m : Nat) (O : List C5) (s : Option Addr) (c' : Nat) (dn : Bool), m ≤ L.length ∧ i' = .int .i64 m ∧ u = .slice s O.length c' ∧ d = .bool dn ∧ O.length ≤ m + 1 ∧ Hid (Rs X B wr ((P ++ [rB ka 40 [.slice g1 W.gens.length d1, .slice g2 W.free.length d2, .slice (some ⟨tb, t0, none⟩) W.tabs.length d3, .slice g4 W.res.length d4], rB kb 48 [.int .i64 e.1, .int .i64 e.2], rB kv 59 [.int .i64 v.1, .int .i64 v.2.1, .float .f64 v.2.2.1, .float .f64 v.2.2.2], rB kc 40 [.slice none 0 0, .slice none 0 0, .slice none 0 0, .slice none 0 0], rC (.slice so L.length c0) L]) ++ rC (.slice s O.length c') O :: rW ⟨.slice g1 W.gens.length d1, .slice g2 W.free.length d2, .slice (some ⟨tb, t0, none⟩) W.tabs.length d3, .slice g4 W.res.length d4, ts⟩ W)) ∧ Hid ((dn = false ∧ O = L.take m ∧ (∀ (p : Nat) (c : C5), p < m → L[p]? = some c → c.1 ≤ x)) ∨ (dn = true ∧ ∃ q, q < m ∧ Fnd T.cols x q ∧ O = (L.insertIdx q (x, v)).take (m + 1)))) (fun _ _ i' _ => L.length - (intOf i').toNat)
  case atStart => exact ⟨0, [], _, _, false, Nat.zero_le _, rfl, rfl, rfl, Nat.zero_le _, HR5, Or.inl ⟨rfl, by simp, fun p c hp => absurd hp (Nat.not_lt_zero _)⟩⟩
  clear HR5; obtain ⟨m, O, s, c', dn, hm, rfl, rfl, rfl, hOl, hN, hD⟩ := hrel
  by_cases hlt : m < L.length
  ·
   obtain ⟨c, ha⟩ := get_some hlt
   obtain ⟨qb, qo, rfl, _, hp, okc, e0, e1, e2, e3, e4⟩ := eCell_cells (rC_els (hN.out.o.on (rC (.slice so L.length c0) L) (by simp)) HOK.out) ha
   have HA := Hid.mk' ha
   have HP8 : Hid (∀ {wk : World} {r : OR}, Rs X B wk ((P ++ [rB ka 40 [.slice g1 W.gens.length d1, .slice g2 W.free.length d2, .slice (some ⟨tb, t0, none⟩) W.tabs.length d3, .slice g4 W.res.length d4], rB kb 48 [.int .i64 e.1, .int .i64 e.2], rB kv 59 [.int .i64 v.1, .int .i64 v.2.1, .float .f64 v.2.2.1, .float .f64 v.2.2.2], rB kc 40 [.slice none 0 0, .slice none 0 0, .slice none 0 0, .slice none 0 0], rC (.slice (some ⟨qb, qo, none⟩) L.length c0) L]) ++ r :: rW ⟨.slice g1 W.gens.length d1, .slice g2 W.free.length d2, .slice (some ⟨tb, t0, none⟩) W.tabs.length d3, .slice g4 W.res.length d4, ts⟩ W) → wk.cell? ⟨qb, qo + m * 5, none⟩ = some (.int .i64 c.1) ∧ wk.cell? ⟨qb, qo + m * 5 + 1, none⟩ = some (.int .i64 c.2.1) ∧ wk.cell? ⟨qb, qo + m * 5 + 2, none⟩ = some (.int .i64 c.2.2.1) ∧ wk.cell? ⟨qb, qo + m * 5 + 3, none⟩ = some (.float .f64 c.2.2.2.1) ∧ wk.cell? ⟨qb, qo + m * 5 + 4, none⟩ = some (.float .f64 c.2.2.2.2)) := by
    intro wk r h
    obtain ⟨b9, o9, ee, _, _, _, e0, e1, e2, e3, e4⟩ := eCell_cells (rC_els (h.o.on (rC (.slice (some ⟨qb, qo, none⟩) L.length c0) L) (by simp)) HOK.out) HA.out
    simp only [Option.some.injEq, Addr.mk.injEq, and_true] at ee
    obtain ⟨rfl, rfl⟩ := ee
    exact ⟨e0, e1, e2, e3, e4⟩
   have m0 : (0 : Int) ≤ (m : Int) := by omega
   have m1 : (m : Int) < (L.length : Int) := by omega
   clear okc ha e1 e2 e3 e4; by_cases hins : dn = false ∧ x < c.1
   ·
    obtain ⟨rfl, hxc⟩ := hins
    rcases hD.out with ⟨_, hO, hle⟩ | ⟨h9, _⟩
    case inr => cases h9
    have HRL : Hid (∃ q, q < m + 1 ∧ Fnd T.cols x q ∧ O ++ [(x, v)] ++ [c] = (L.insertIdx q (x, v)).take (m + 1 + 1)) := by
     refine ⟨m, by omega, ?_, ?_⟩
     ·
      have h1 := hle
      have h2 := HA.out
      rw [hL.out] at h1 h2
      exact fnd_at HRT.out HNX.out h1 h2 hxc
     rw [hO, ins_first (by omega), ins_take (Nat.le_refl _) hlt HA.out]
    have tg : decide (c.1 > x) = true := by simp; omega
    have hOm : O.length ≤ 1000 := by omega
    have HOl : Hid (O.length ≤ m + 1) := hOl
    obtain ⟨z0, z1, z2, z3, z4⟩ := (show Blk wr kv #[.int .i64 v.1, .int .i64 v.2.1, .float .f64 v.2.2.1, .float .f64 v.2.2.2] 59 from rB_blk (hN.out.o.on (rB kv 59 [.int .i64 v.1, .int .i64 v.2.1, .float .f64 v.2.2.1, .float .f64 v.2.2.2]) (by simp))).four'
    have hx' : x < c.1 := hxc
    clear hD hO hle hxc; obtain ⟨O1, hO1⟩ : ∃ O1, Hid (O ++ [(x, v)] = O1) := ⟨_, rfl⟩
    have HR3 := Hid.mk' (hN.out.later (bl_alloc (Below.refl _ wr) (.cells #[.int .i64 x, .int .i64 v.1, .int .i64 v.2.1, .float .f64 v.2.2.1, .float .f64 v.2.2.2] 103)))
    have HNW : Hid (∀ (jj : Nat) (u : Value), [Value.int .i64 x, .int .i64 v.1, .int .i64 v.2.1, .float .f64 v.2.2.1, .float .f64 v.2.2.2][jj]? = some u → (wr.alloc (.cells #[.int .i64 x, .int .i64 v.1, .int .i64 v.2.1, .float .f64 v.2.2.1, .float .f64 v.2.2.2] 103)).cell? ((⟨wr.heap.size, 0, none⟩ : Addr).add jj) = some u) := by
     intro jj u hj
     have hb := Blk.new wr #[.int .i64 x, .int .i64 v.1, .int .i64 v.2.1, .float .f64 v.2.2.1, .float .f64 v.2.2.2] 103
     match jj, hj with
     | 0, hj => simp at hj; subst hj; exact hb.cell 0
     | 1, hj => simp at hj; subst hj; exact hb.cell 1
     | 2, hj => simp at hj; subst hj; exact hb.cell 2
     | 3, hj => simp at hj; subst hj; exact hb.cell 3
     | 4, hj => simp at hj; subst hj; exact hb.cell 4
    have HON1 : Hid (∀ u ∈ [Value.int .i64 x, .int .i64 v.1, .int .i64 v.2.1, .float .f64 v.2.2.1, .float .f64 v.2.2.2], u.oneCell' = true) := by
     intro u hu
     simp only [List.mem_cons, List.not_mem_nil, or_false] at hu
     rcases hu with rfl | rfl | rfl | rfl | rfl <;> rfl
    have HNL : Hid (O.length + 1 = O1.length) := by show _ = _; rw [← hO1.out, List.length_append]; rfl
    have HFE : Hid (∀ u : Value, (fun u => rC u O1) u = ⟨(rC (.slice s O.length c') O).T, (rC (.slice s O.length c') O).k, u, O1.length, (rC (.slice s O.length c') O).cs ++ [.int .i64 x, .int .i64 v.1, .int .i64 v.2.1, .float .f64 v.2.2.1, .float .f64 v.2.2.2]⟩) := by
     intro u
     show rC u O1 = _
     unfold rC
     rw [← hO1.out, List.flatMap_append]
     rfl
    have HM1 : Hid ((rC (.slice s O.length c') O).n + 1 ≤ maxLen) := by show O.length + 1 ≤ _; unfold maxLen; omega
    have HM2 : Hid (((rC (.slice s O.length c') O).n + 1) * 40 ≤ 140737488355328) := by show (O.length + 1) * 40 ≤ _; omega
    have HN1 : Hid ((rC (.slice s O.length c') O).n + 1 = O1.length) := HNL.out
    go_wp2_with (at_builtin; refine wpList_appR (carr_Rs X B) _ rfl (.tmp 74) (.tmp 78) 66 rfl (P ++ [rB ka 40 [.slice g1 W.gens.length d1, .slice g2 W.free.length d2, .slice (some ⟨tb, t0, none⟩) W.tabs.length d3, .slice g4 W.res.length d4], rB kb 48 [.int .i64 e.1, .int .i64 e.2], rB kv 59 [.int .i64 v.1, .int .i64 v.2.1, .float .f64 v.2.2.1, .float .f64 v.2.2.2], rB kc 40 [.slice none 0 0, .slice none 0 0, .slice none 0 0, .slice none 0 0], rC (.slice (some ⟨qb, qo, none⟩) L.length c0) L]) (rW ⟨.slice g1 W.gens.length d1, .slice g2 W.free.length d2, .slice (some ⟨tb, t0, none⟩) W.tabs.length d3, .slice g4 W.res.length d4, ts⟩ W) (r := rC (.slice s O.length c') O) HR3.out 40 Tryz.underlying66 hi9 hz9 hs9 hb9 rfl (Nat.zero_lt_succ 4) rfl ⟨wr.heap.size, 0, none⟩ 1 1 rfl [.int .i64 x, .int .i64 v.1, .int .i64 v.2.1, .float .f64 v.2.2.1, .float .f64 v.2.2.2] rfl HNW.out HON1.out HM1.out HM2.out O1.length HN1.out (fun u => rC u O1) HFE.out ?_)
    intro s9 c9 w9 hR9
    have HR9 : Hid (Rs X B w9 ((P ++ [rB ka 40 [.slice g1 W.gens.length d1, .slice g2 W.free.length d2, .slice (some ⟨tb, t0, none⟩) W.tabs.length d3, .slice g4 W.res.length d4], rB kb 48 [.int .i64 e.1, .int .i64 e.2], rB kv 59 [.int .i64 v.1, .int .i64 v.2.1, .float .f64 v.2.2.1, .float .f64 v.2.2.2], rB kc 40 [.slice none 0 0, .slice none 0 0, .slice none 0 0, .slice none 0 0], rC (.slice (some ⟨qb, qo, none⟩) L.length c0) L]) ++ rC (.slice s9 O1.length c9) O1 :: rW ⟨.slice g1 W.gens.length d1, .slice g2 W.free.length d2, .slice (some ⟨tb, t0, none⟩) W.tabs.length d3, .slice g4 W.res.length d4, ts⟩ W)) := by show Rs _ _ _ _; simpa only [List.append_assoc, List.cons_append, List.nil_append] using hR9
    have hO9 : O1.length ≤ 1001 := by have := HNL.out; omega
    rw [hO1.out] at HRL
    clear hR9 HR3 HNW HON1 HFE HM1 HM2 HN1 HNL z0 z1 z2 z3 z4 e0 tg hx'; obtain ⟨e0, e1, e2, e3, e4⟩ := HP8.out HR9.out
    obtain ⟨O2, hO2⟩ : ∃ O2, Hid (O1 ++ [c] = O2) := ⟨_, rfl⟩
    have HR3 := Hid.mk' (HR9.out.later (bl_alloc (Below.refl _ w9) (.cells #[.int .i64 c.1, .int .i64 c.2.1, .int .i64 c.2.2.1, .float .f64 c.2.2.2.1, .float .f64 c.2.2.2.2] 103)))
    have HNW : Hid (∀ (jj : Nat) (u : Value), [Value.int .i64 c.1, .int .i64 c.2.1, .int .i64 c.2.2.1, .float .f64 c.2.2.2.1, .float .f64 c.2.2.2.2][jj]? = some u → (w9.alloc (.cells #[.int .i64 c.1, .int .i64 c.2.1, .int .i64 c.2.2.1, .float .f64 c.2.2.2.1, .float .f64 c.2.2.2.2] 103)).cell? ((⟨w9.heap.size, 0, none⟩ : Addr).add jj) = some u) := by
     intro jj u hj
     have hb := Blk.new w9 #[.int .i64 c.1, .int .i64 c.2.1, .int .i64 c.2.2.1, .float .f64 c.2.2.2.1, .float .f64 c.2.2.2.2] 103
     match jj, hj with
     | 0, hj => simp at hj; subst hj; exact hb.cell 0
     | 1, hj => simp at hj; subst hj; exact hb.cell 1
     | 2, hj => simp at hj; subst hj; exact hb.cell 2
     | 3, hj => simp at hj; subst hj; exact hb.cell 3
     | 4, hj => simp at hj; subst hj; exact hb.cell 4
    have HON1 : Hid (∀ u ∈ [Value.int .i64 c.1, .int .i64 c.2.1, .int .i64 c.2.2.1, .float .f64 c.2.2.2.1, .float .f64 c.2.2.2.2], u.oneCell' = true) := by
     intro u hu
     simp only [List.mem_cons, List.not_mem_nil, or_false] at hu
     rcases hu with rfl | rfl | rfl | rfl | rfl <;> rfl
    have HNL : Hid (O1.length + 1 = O2.length) := by show _ = _; rw [← hO2.out, List.length_append]; rfl
    have HFE : Hid (∀ u : Value, (fun u => rC u O2) u = ⟨(rC (.slice s9 O1.length c9) O1).T, (rC (.slice s9 O1.length c9) O1).k, u, O2.length, (rC (.slice s9 O1.length c9) O1).cs ++ [.int .i64 c.1, .int .i64 c.2.1, .int .i64 c.2.2.1, .float .f64 c.2.2.2.1, .float .f64 c.2.2.2.2]⟩) := by
     intro u
     show rC u O2 = _
     unfold rC
     rw [← hO2.out, List.flatMap_append]
     rfl
    have HM1 : Hid ((rC (.slice s9 O1.length c9) O1).n + 1 ≤ maxLen) := by show O1.length + 1 ≤ _; unfold maxLen; omega
    have HM2 : Hid (((rC (.slice s9 O1.length c9) O1).n + 1) * 40 ≤ 140737488355328) := by show (O1.length + 1) * 40 ≤ _; omega
    have HN1 : Hid ((rC (.slice s9 O1.length c9) O1).n + 1 = O2.length) := HNL.out
    go_wp2_with (at_builtin; refine wpList_appR (carr_Rs X B) _ rfl (.tmp 80) (.tmp 85) 66 rfl (P ++ [rB ka 40 [.slice g1 W.gens.length d1, .slice g2 W.free.length d2, .slice (some ⟨tb, t0, none⟩) W.tabs.length d3, .slice g4 W.res.length d4], rB kb 48 [.int .i64 e.1, .int .i64 e.2], rB kv 59 [.int .i64 v.1, .int .i64 v.2.1, .float .f64 v.2.2.1, .float .f64 v.2.2.2], rB kc 40 [.slice none 0 0, .slice none 0 0, .slice none 0 0, .slice none 0 0], rC (.slice (some ⟨qb, qo, none⟩) L.length c0) L]) (rW ⟨.slice g1 W.gens.length d1, .slice g2 W.free.length d2, .slice (some ⟨tb, t0, none⟩) W.tabs.length d3, .slice g4 W.res.length d4, ts⟩ W) (r := rC (.slice s9 O1.length c9) O1) HR3.out 40 Tryz.underlying66 hi9 hz9 hs9 hb9 rfl (Nat.zero_lt_succ 4) rfl ⟨w9.heap.size, 0, none⟩ 1 1 rfl [.int .i64 c.1, .int .i64 c.2.1, .int .i64 c.2.2.1, .float .f64 c.2.2.2.1, .float .f64 c.2.2.2.2] rfl HNW.out HON1.out HM1.out HM2.out O2.length HN1.out (fun u => rC u O2) HFE.out ?_)
    intro s8 c8 w8 hR8
    have HR8 : Hid (Rs X B w8 ((P ++ [rB ka 40 [.slice g1 W.gens.length d1, .slice g2 W.free.length d2, .slice (some ⟨tb, t0, none⟩) W.tabs.length d3, .slice g4 W.res.length d4], rB kb 48 [.int .i64 e.1, .int .i64 e.2], rB kv 59 [.int .i64 v.1, .int .i64 v.2.1, .float .f64 v.2.2.1, .float .f64 v.2.2.2], rB kc 40 [.slice none 0 0, .slice none 0 0, .slice none 0 0, .slice none 0 0], rC (.slice (some ⟨qb, qo, none⟩) L.length c0) L]) ++ rC (.slice s8 O2.length c8) O2 :: rW ⟨.slice g1 W.gens.length d1, .slice g2 W.free.length d2, .slice (some ⟨tb, t0, none⟩) W.tabs.length d3, .slice g4 W.res.length d4, ts⟩ W)) := by show Rs _ _ _ _; simpa only [List.append_assoc, List.cons_append, List.nil_append] using hR8
    rw [hO2.out] at HRL
    have HLE : Hid (O2.length ≤ m + 1 + 1) := by
     show _ ≤ _
     obtain ⟨q, _, _, h9⟩ := HRL.out
     rw [h9, List.length_take]
     exact Nat.min_le_left _ _
    clear hR8 HR3 HNW HON1 HFE HM1 HM2 HN1 e0 e1 e2 e3 e4 HR9; go_wp2_with fail; go_roundw
    case rel => exact ⟨m + 1, O2, s8, c8, true, by omega, by go_num, rfl, rfl, HLE.out, HR8, Or.inr ⟨rfl, HRL.out⟩⟩
    case measure => simp [intOf]; omega
   have HRL : Hid ((dn = false ∧ O ++ [c] = L.take (m + 1) ∧ ∀ (p : Nat) (c : C5), p < m + 1 → L[p]? = some c → c.1 ≤ x) ∨ (dn = true ∧ ∃ q, q < m + 1 ∧ Fnd T.cols x q ∧ O ++ [c] = (L.insertIdx q (x, v)).take (m + 1 + 1))) := by
    show _ ∨ _
    rcases hD.out with ⟨h1, h2, h3⟩ | ⟨h1, q, h2, h3, h4⟩
    ·
     refine Or.inl ⟨h1, ?_, fun p d hp hd => ?_⟩
     ·
      rw [h2, List.take_add_one, HA.out]; rfl
     by_cases h9 : p = m
     ·
      subst h9
      rw [HA.out] at hd
      cases hd
      by_cases h8 : x < c.1
      ·
       exact absurd ⟨h1, h8⟩ hins
      omega
     exact h3 p d (by omega) hd
    exact Or.inr ⟨h1, q, by omega, h3, by rw [h4, ins_take (by omega) hlt HA.out]⟩
   have hOm : O.length ≤ 1000 := by omega
   have HOl : Hid (O.length ≤ m + 1) := hOl
   obtain ⟨e0', e1, e2, e3, e4⟩ := HP8.out hN.out
   clear hD; cases dn with
   | false =>
    have tg2 : ¬ x < c.1 := fun h => hins ⟨rfl, h⟩
    have tg : decide (c.1 > x) = false := by simp; omega
    clear hins; obtain ⟨O1, hO1⟩ : ∃ O1, Hid (O ++ [c] = O1) := ⟨_, rfl⟩
    have HR3 := Hid.mk' (hN.out.later (bl_alloc (Below.refl _ wr) (.cells #[.int .i64 c.1, .int .i64 c.2.1, .int .i64 c.2.2.1, .float .f64 c.2.2.2.1, .float .f64 c.2.2.2.2] 103)))
    have HNW : Hid (∀ (jj : Nat) (u : Value), [Value.int .i64 c.1, .int .i64 c.2.1, .int .i64 c.2.2.1, .float .f64 c.2.2.2.1, .float .f64 c.2.2.2.2][jj]? = some u → (wr.alloc (.cells #[.int .i64 c.1, .int .i64 c.2.1, .int .i64 c.2.2.1, .float .f64 c.2.2.2.1, .float .f64 c.2.2.2.2] 103)).cell? ((⟨wr.heap.size, 0, none⟩ : Addr).add jj) = some u) := by
     intro jj u hj
     have hb := Blk.new wr #[.int .i64 c.1, .int .i64 c.2.1, .int .i64 c.2.2.1, .float .f64 c.2.2.2.1, .float .f64 c.2.2.2.2] 103
     match jj, hj with
     | 0, hj => simp at hj; subst hj; exact hb.cell 0
     | 1, hj => simp at hj; subst hj; exact hb.cell 1
     | 2, hj => simp at hj; subst hj; exact hb.cell 2
     | 3, hj => simp at hj; subst hj; exact hb.cell 3
     | 4, hj => simp at hj; subst hj; exact hb.cell 4
    have HON1 : Hid (∀ u ∈ [Value.int .i64 c.1, .int .i64 c.2.1, .int .i64 c.2.2.1, .float .f64 c.2.2.2.1, .float .f64 c.2.2.2.2], u.oneCell' = true) := by
     intro u hu
     simp only [List.mem_cons, List.not_mem_nil, or_false] at hu
     rcases hu with rfl | rfl | rfl | rfl | rfl <;> rfl
    have HNL : Hid (O.length + 1 = O1.length) := by show _ = _; rw [← hO1.out, List.length_append]; rfl
    have HFE : Hid (∀ u : Value, (fun u => rC u O1) u = ⟨(rC (.slice s O.length c') O).T, (rC (.slice s O.length c') O).k, u, O1.length, (rC (.slice s O.length c') O).cs ++ [.int .i64 c.1, .int .i64 c.2.1, .int .i64 c.2.2.1, .float .f64 c.2.2.2.1, .float .f64 c.2.2.2.2]⟩) := by
     intro u
     show rC u O1 = _
     unfold rC
     rw [← hO1.out, List.flatMap_append]
     rfl
    have HM1 : Hid ((rC (.slice s O.length c') O).n + 1 ≤ maxLen) := by show O.length + 1 ≤ _; unfold maxLen; omega
    have HM2 : Hid (((rC (.slice s O.length c') O).n + 1) * 40 ≤ 140737488355328) := by show (O.length + 1) * 40 ≤ _; omega
    have HN1 : Hid ((rC (.slice s O.length c') O).n + 1 = O1.length) := HNL.out
    go_wp2_with (at_builtin; refine wpList_appR (carr_Rs X B) _ rfl (.tmp 80) (.tmp 85) 66 rfl (P ++ [rB ka 40 [.slice g1 W.gens.length d1, .slice g2 W.free.length d2, .slice (some ⟨tb, t0, none⟩) W.tabs.length d3, .slice g4 W.res.length d4], rB kb 48 [.int .i64 e.1, .int .i64 e.2], rB kv 59 [.int .i64 v.1, .int .i64 v.2.1, .float .f64 v.2.2.1, .float .f64 v.2.2.2], rB kc 40 [.slice none 0 0, .slice none 0 0, .slice none 0 0, .slice none 0 0], rC (.slice (some ⟨qb, qo, none⟩) L.length c0) L]) (rW ⟨.slice g1 W.gens.length d1, .slice g2 W.free.length d2, .slice (some ⟨tb, t0, none⟩) W.tabs.length d3, .slice g4 W.res.length d4, ts⟩ W) (r := rC (.slice s O.length c') O) HR3.out 40 Tryz.underlying66 hi9 hz9 hs9 hb9 rfl (Nat.zero_lt_succ 4) rfl ⟨wr.heap.size, 0, none⟩ 1 1 rfl [.int .i64 c.1, .int .i64 c.2.1, .int .i64 c.2.2.1, .float .f64 c.2.2.2.1, .float .f64 c.2.2.2.2] rfl HNW.out HON1.out HM1.out HM2.out O1.length HN1.out (fun u => rC u O1) HFE.out ?_)
    intro s8 c8 w8 hR8
    have HR8 : Hid (Rs X B w8 ((P ++ [rB ka 40 [.slice g1 W.gens.length d1, .slice g2 W.free.length d2, .slice (some ⟨tb, t0, none⟩) W.tabs.length d3, .slice g4 W.res.length d4], rB kb 48 [.int .i64 e.1, .int .i64 e.2], rB kv 59 [.int .i64 v.1, .int .i64 v.2.1, .float .f64 v.2.2.1, .float .f64 v.2.2.2], rB kc 40 [.slice none 0 0, .slice none 0 0, .slice none 0 0, .slice none 0 0], rC (.slice (some ⟨qb, qo, none⟩) L.length c0) L]) ++ rC (.slice s8 O1.length c8) O1 :: rW ⟨.slice g1 W.gens.length d1, .slice g2 W.free.length d2, .slice (some ⟨tb, t0, none⟩) W.tabs.length d3, .slice g4 W.res.length d4, ts⟩ W)) := by show Rs _ _ _ _; simpa only [List.append_assoc, List.cons_append, List.nil_append] using hR8
    rw [hO1.out] at HRL
    have HLE : Hid (O1.length ≤ m + 1 + 1) := by
     show _ ≤ _
     have h1 := HOl.out
     have h2 := HNL.out
     omega
    clear hR8 HR3 HNW HON1 HFE HM1 HM2 HN1 HNL e0 e0' e1 e2 e3 e4 hN; go_wp2_with fail; go_roundw
    case rel => exact ⟨m + 1, O1, s8, c8, _, by omega, by go_num, rfl, rfl, HLE.out, HR8, by
     show _ ∨ _
     rcases HRL.out with ⟨h0, h1⟩ | ⟨h0, h1⟩
     ·
      first | exact Or.inl ⟨rfl, h1⟩ | exact absurd h0 (by simp)
     first | exact Or.inr ⟨rfl, h1⟩ | exact absurd h0 (by simp)⟩
    case measure => simp [intOf]; omega
   | true =>
    clear hins; obtain ⟨O1, hO1⟩ : ∃ O1, Hid (O ++ [c] = O1) := ⟨_, rfl⟩
    have HR3 := Hid.mk' (hN.out.later (bl_alloc (Below.refl _ wr) (.cells #[.int .i64 c.1, .int .i64 c.2.1, .int .i64 c.2.2.1, .float .f64 c.2.2.2.1, .float .f64 c.2.2.2.2] 103)))
    have HNW : Hid (∀ (jj : Nat) (u : Value), [Value.int .i64 c.1, .int .i64 c.2.1, .int .i64 c.2.2.1, .float .f64 c.2.2.2.1, .float .f64 c.2.2.2.2][jj]? = some u → (wr.alloc (.cells #[.int .i64 c.1, .int .i64 c.2.1, .int .i64 c.2.2.1, .float .f64 c.2.2.2.1, .float .f64 c.2.2.2.2] 103)).cell? ((⟨wr.heap.size, 0, none⟩ : Addr).add jj) = some u) := by
     intro jj u hj
     have hb := Blk.new wr #[.int .i64 c.1, .int .i64 c.2.1, .int .i64 c.2.2.1, .float .f64 c.2.2.2.1, .float .f64 c.2.2.2.2] 103
     match jj, hj with
     | 0, hj => simp at hj; subst hj; exact hb.cell 0
     | 1, hj => simp at hj; subst hj; exact hb.cell 1
     | 2, hj => simp at hj; subst hj; exact hb.cell 2
     | 3, hj => simp at hj; subst hj; exact hb.cell 3
     | 4, hj => simp at hj; subst hj; exact hb.cell 4
    have HON1 : Hid (∀ u ∈ [Value.int .i64 c.1, .int .i64 c.2.1, .int .i64 c.2.2.1, .float .f64 c.2.2.2.1, .float .f64 c.2.2.2.2], u.oneCell' = true) := by
     intro u hu
     simp only [List.mem_cons, List.not_mem_nil, or_false] at hu
     rcases hu with rfl | rfl | rfl | rfl | rfl <;> rfl
    have HNL : Hid (O.length + 1 = O1.length) := by show _ = _; rw [← hO1.out, List.length_append]; rfl
    have HFE : Hid (∀ u : Value, (fun u => rC u O1) u = ⟨(rC (.slice s O.length c') O).T, (rC (.slice s O.length c') O).k, u, O1.length, (rC (.slice s O.length c') O).cs ++ [.int .i64 c.1, .int .i64 c.2.1, .int .i64 c.2.2.1, .float .f64 c.2.2.2.1, .float .f64 c.2.2.2.2]⟩) := by
     intro u
     show rC u O1 = _
     unfold rC
     rw [← hO1.out, List.flatMap_append]
     rfl
    have HM1 : Hid ((rC (.slice s O.length c') O).n + 1 ≤ maxLen) := by show O.length + 1 ≤ _; unfold maxLen; omega
    have HM2 : Hid (((rC (.slice s O.length c') O).n + 1) * 40 ≤ 140737488355328) := by show (O.length + 1) * 40 ≤ _; omega
    have HN1 : Hid ((rC (.slice s O.length c') O).n + 1 = O1.length) := HNL.out
    go_wp2_with (at_builtin; refine wpList_appR (carr_Rs X B) _ rfl (.tmp 80) (.tmp 85) 66 rfl (P ++ [rB ka 40 [.slice g1 W.gens.length d1, .slice g2 W.free.length d2, .slice (some ⟨tb, t0, none⟩) W.tabs.length d3, .slice g4 W.res.length d4], rB kb 48 [.int .i64 e.1, .int .i64 e.2], rB kv 59 [.int .i64 v.1, .int .i64 v.2.1, .float .f64 v.2.2.1, .float .f64 v.2.2.2], rB kc 40 [.slice none 0 0, .slice none 0 0, .slice none 0 0, .slice none 0 0], rC (.slice (some ⟨qb, qo, none⟩) L.length c0) L]) (rW ⟨.slice g1 W.gens.length d1, .slice g2 W.free.length d2, .slice (some ⟨tb, t0, none⟩) W.tabs.length d3, .slice g4 W.res.length d4, ts⟩ W) (r := rC (.slice s O.length c') O) HR3.out 40 Tryz.underlying66 hi9 hz9 hs9 hb9 rfl (Nat.zero_lt_succ 4) rfl ⟨wr.heap.size, 0, none⟩ 1 1 rfl [.int .i64 c.1, .int .i64 c.2.1, .int .i64 c.2.2.1, .float .f64 c.2.2.2.1, .float .f64 c.2.2.2.2] rfl HNW.out HON1.out HM1.out HM2.out O1.length HN1.out (fun u => rC u O1) HFE.out ?_)
    intro s8 c8 w8 hR8
    have HR8 : Hid (Rs X B w8 ((P ++ [rB ka 40 [.slice g1 W.gens.length d1, .slice g2 W.free.length d2, .slice (some ⟨tb, t0, none⟩) W.tabs.length d3, .slice g4 W.res.length d4], rB kb 48 [.int .i64 e.1, .int .i64 e.2], rB kv 59 [.int .i64 v.1, .int .i64 v.2.1, .float .f64 v.2.2.1, .float .f64 v.2.2.2], rB kc 40 [.slice none 0 0, .slice none 0 0, .slice none 0 0, .slice none 0 0], rC (.slice (some ⟨qb, qo, none⟩) L.length c0) L]) ++ rC (.slice s8 O1.length c8) O1 :: rW ⟨.slice g1 W.gens.length d1, .slice g2 W.free.length d2, .slice (some ⟨tb, t0, none⟩) W.tabs.length d3, .slice g4 W.res.length d4, ts⟩ W)) := by show Rs _ _ _ _; simpa only [List.append_assoc, List.cons_append, List.nil_append] using hR8
    rw [hO1.out] at HRL
    have HLE : Hid (O1.length ≤ m + 1 + 1) := by
     show _ ≤ _
     have h1 := HOl.out
     have h2 := HNL.out
     omega
    clear hR8 HR3 HNW HON1 HFE HM1 HM2 HN1 HNL e0 e0' e1 e2 e3 e4 hN; go_wp2_with fail; go_roundw
    case rel => exact ⟨m + 1, O1, s8, c8, _, by omega, by go_num, rfl, rfl, HLE.out, HR8, by
     show _ ∨ _
     rcases HRL.out with ⟨h0, h1⟩ | ⟨h0, h1⟩
     ·
      first | exact Or.inl ⟨rfl, h1⟩ | exact absurd h0 (by simp)
     first | exact Or.inr ⟨rfl, h1⟩ | exact absurd h0 (by simp)⟩
    case measure => simp [intOf]; omega
  have hme : m = L.length := by omega
  subst hme
  have hOm : O.length ≤ 1000 := by omega
  obtain ⟨z0, z1, z2, z3, z4⟩ := (show Blk wr kv #[.int .i64 v.1, .int .i64 v.2.1, .float .f64 v.2.2.1, .float .f64 v.2.2.2] 59 from rB_blk (hN.out.o.on (rB kv 59 [.int .i64 v.1, .int .i64 v.2.1, .float .f64 v.2.2.1, .float .f64 v.2.2.2]) (by simp))).four'
  cases dn with
  | false =>
   rcases hD.out with ⟨_, hO, hle⟩ | ⟨h9, _⟩
   case inr => cases h9
   have hOL : O = L := by rw [hO, List.take_length]
   subst hOL
   have HFD : Hid (Fnd T.cols x O.length) := by
    have h1 := hle
    rw [hL.out] at h1 ⊢
    exact fnd_end HRT.out HNX.out h1
   clear hD hO hle; obtain ⟨K, hK⟩ : ∃ K, Hid (O ++ [(x, v)] = K) := ⟨_, rfl⟩
   have HR3 := Hid.mk' (hN.out.later (bl_alloc (Below.refl _ wr) (.cells #[.int .i64 x, .int .i64 v.1, .int .i64 v.2.1, .float .f64 v.2.2.1, .float .f64 v.2.2.2] 103)))
   have HNW : Hid (∀ (jj : Nat) (u : Value), [Value.int .i64 x, .int .i64 v.1, .int .i64 v.2.1, .float .f64 v.2.2.1, .float .f64 v.2.2.2][jj]? = some u → (wr.alloc (.cells #[.int .i64 x, .int .i64 v.1, .int .i64 v.2.1, .float .f64 v.2.2.1, .float .f64 v.2.2.2] 103)).cell? ((⟨wr.heap.size, 0, none⟩ : Addr).add jj) = some u) := by
    intro jj u hj
    have hb := Blk.new wr #[.int .i64 x, .int .i64 v.1, .int .i64 v.2.1, .float .f64 v.2.2.1, .float .f64 v.2.2.2] 103
    match jj, hj with
    | 0, hj => simp at hj; subst hj; exact hb.cell 0
    | 1, hj => simp at hj; subst hj; exact hb.cell 1
    | 2, hj => simp at hj; subst hj; exact hb.cell 2
    | 3, hj => simp at hj; subst hj; exact hb.cell 3
    | 4, hj => simp at hj; subst hj; exact hb.cell 4
   have HON1 : Hid (∀ u ∈ [Value.int .i64 x, .int .i64 v.1, .int .i64 v.2.1, .float .f64 v.2.2.1, .float .f64 v.2.2.2], u.oneCell' = true) := by
    intro u hu
    simp only [List.mem_cons, List.not_mem_nil, or_false] at hu
    rcases hu with rfl | rfl | rfl | rfl | rfl <;> rfl
   have HNL : Hid (O.length + 1 = K.length) := by show _ = _; rw [← hK.out, List.length_append]; rfl
   have HFE : Hid (∀ u : Value, (fun u => rC u K) u = ⟨(rC (.slice s O.length c') O).T, (rC (.slice s O.length c') O).k, u, K.length, (rC (.slice s O.length c') O).cs ++ [.int .i64 x, .int .i64 v.1, .int .i64 v.2.1, .float .f64 v.2.2.1, .float .f64 v.2.2.2]⟩) := by
    intro u
    show rC u K = _
    unfold rC
    rw [← hK.out, List.flatMap_append]
    rfl
   have HM1 : Hid ((rC (.slice s O.length c') O).n + 1 ≤ maxLen) := by show O.length + 1 ≤ _; unfold maxLen; omega
   have HM2 : Hid (((rC (.slice s O.length c') O).n + 1) * 40 ≤ 140737488355328) := by show (O.length + 1) * 40 ≤ _; omega
   have HN1 : Hid ((rC (.slice s O.length c') O).n + 1 = K.length) := HNL.out
   go_wp2_with (at_builtin; refine wpList_appR (carr_Rs X B) _ rfl (.tmp 89) (.tmp 93) 66 rfl (P ++ [rB ka 40 [.slice g1 W.gens.length d1, .slice g2 W.free.length d2, .slice (some ⟨tb, t0, none⟩) W.tabs.length d3, .slice g4 W.res.length d4], rB kb 48 [.int .i64 e.1, .int .i64 e.2], rB kv 59 [.int .i64 v.1, .int .i64 v.2.1, .float .f64 v.2.2.1, .float .f64 v.2.2.2], rB kc 40 [.slice none 0 0, .slice none 0 0, .slice none 0 0, .slice none 0 0], rC (.slice so O.length c0) O]) (rW ⟨.slice g1 W.gens.length d1, .slice g2 W.free.length d2, .slice (some ⟨tb, t0, none⟩) W.tabs.length d3, .slice g4 W.res.length d4, ts⟩ W) (r := rC (.slice s O.length c') O) HR3.out 40 Tryz.underlying66 hi9 hz9 hs9 hb9 rfl (Nat.zero_lt_succ 4) rfl ⟨wr.heap.size, 0, none⟩ 1 1 rfl [.int .i64 x, .int .i64 v.1, .int .i64 v.2.1, .float .f64 v.2.2.1, .float .f64 v.2.2.2] rfl HNW.out HON1.out HM1.out HM2.out K.length HN1.out (fun u => rC u K) HFE.out ?_)
   intro s9 c9 w9 hR9
   have HR9 : Hid (Rs X B w9 ((P ++ [rB ka 40 [.slice g1 W.gens.length d1, .slice g2 W.free.length d2, .slice (some ⟨tb, t0, none⟩) W.tabs.length d3, .slice g4 W.res.length d4], rB kb 48 [.int .i64 e.1, .int .i64 e.2], rB kv 59 [.int .i64 v.1, .int .i64 v.2.1, .float .f64 v.2.2.1, .float .f64 v.2.2.2], rB kc 40 [.slice none 0 0, .slice none 0 0, .slice none 0 0, .slice none 0 0], rC (.slice so O.length c0) O]) ++ rC (.slice s9 K.length c9) K :: rW ⟨.slice g1 W.gens.length d1, .slice g2 W.free.length d2, .slice (some ⟨tb, t0, none⟩) W.tabs.length d3, .slice g4 W.res.length d4, ts⟩ W)) := by show Rs _ _ _ _; simpa only [List.append_assoc, List.cons_append, List.nil_append] using hR9
   have HFQ : Hid (∃ q, Fnd T.cols x q ∧ K = (rowC T j).insertIdx q (x, v)) := ⟨O.length, HFD.out, by rw [← hK.out, ← hL.out, ins_eq _ O O.length (Nat.le_refl _)]; simp⟩
   clear hR9 HR3 HNW HON1 HFE HM1 HM2 HN1 HNL z0 z1 z2 z3 z4 HFD; have HR7 : Hid (Rs X B w9 ((P ++ [rB ka 40 [.slice g1 W.gens.length d1, .slice g2 W.free.length d2, .slice (some ⟨tb, t0, none⟩) W.tabs.length d3, .slice g4 W.res.length d4], rB kb 48 [.int .i64 e.1, .int .i64 e.2], rB kv 59 [.int .i64 v.1, .int .i64 v.2.1, .float .f64 v.2.2.1, .float .f64 v.2.2.2], rB kc 40 [.slice none 0 0, .slice none 0 0, .slice none 0 0, .slice none 0 0], rC (.slice so O.length c0) O, rC (.slice s9 K.length c9) K]) ++ rW ⟨.slice g1 W.gens.length d1, .slice g2 W.free.length d2, .slice (some ⟨tb, t0, none⟩) W.tabs.length d3, .slice g4 W.res.length d4, ts⟩ W)) := by
    show Rs _ _ _ _
    simpa only [List.append_assoc, List.cons_append, List.nil_append] using HR9.out
   obtain ⟨x0, x1, x2, x3, x4⟩ := (show Blk w9 ka #[.slice g1 W.gens.length d1, .slice g2 W.free.length d2, .slice (some ⟨tb, t0, none⟩) W.tabs.length d3, .slice g4 W.res.length d4] 40 from rB_blk (HR7.out.o.on (rB ka 40 [.slice g1 W.gens.length d1, .slice g2 W.free.length d2, .slice (some ⟨tb, t0, none⟩) W.tabs.length d3, .slice g4 W.res.length d4]) (by simp))).four'
   obtain ⟨qf, hfd, hKf⟩ := HFQ.out
   have hqf := hfd.1
   have okK : okCs K := by
    rw [hKf]
    exact okCs_insert (by rw [← hL.out]; exact HOK.out) okv (by rw [rowC_len HRT.out.len]; exact hqf)
   have hne : ¬ T.cols = K.map (·.1) := by
    rw [hKf, insert_comps HRT.out.len hqf]
    exact insert_ne HNX.out
   have hKl : K.length ≤ 1000 := by
    rw [hKf, List.length_insertIdx_of_le_length (by rw [rowC_len HRT.out.len]; exact hqf), rowC_len HRT.out.len]
    omega
   have HMV := Hid.mk' (l4Move_any (X := X) (B := B) (P ++ [rB ka 40 [.slice g1 W.gens.length d1, .slice g2 W.free.length d2, .slice (some ⟨tb, t0, none⟩) W.tabs.length d3, .slice g4 W.res.length d4], rB kb 48 [.int .i64 e.1, .int .i64 e.2], rB kv 59 [.int .i64 v.1, .int .i64 v.2.1, .float .f64 v.2.2.1, .float .f64 v.2.2.2], rB kc 40 [.slice none 0 0, .slice none 0 0, .slice none 0 0, .slice none 0 0], rC (.slice so O.length c0) O, rC (.slice s9 K.length c9) K]) g1 g2 _ g4 d1 d2 d3 d4 ts W e i j T s9 c9 K w9 HR7.out HF.out HK.out (by simp) okK hKl HCC.out HSZ.out.2 HLA.out h40 HT.out HTj.out HLT.out hne)
   clear HR9 HR7 okK hne hKl hfd hKf hqf; go_wp2_with fail; refine HMV.out.mono ?_
   clear HMV x0 x1 x2 x3 x4; rintro r w8 ⟨V', W', code, rfl, hR8, hF8, hans⟩
   obtain ⟨q1, m1, q2, m2, q3, m3, q4, m4, ts', rfl⟩ := (hF8.ow hR8.o.right).shape
   have HF8 := Hid.mk' hF8
   have HANS : Hid (¬ x ∈ T.cols ∧ ∃ q : Nat, Fnd T.cols x q ∧ MvA W e i j T ((rowC T j).insertIdx q (x, v)) W' code) := by
    refine ⟨HNX.out, ?_⟩
    obtain ⟨q, h1, h2⟩ := HFQ.out
    exact ⟨q, h1, by rw [← h2]; exact hans⟩
   obtain ⟨z0, z1, z2, z3, z4⟩ := (show Blk w8 kc #[.slice none 0 0, .slice none 0 0, .slice none 0 0, .slice none 0 0] 40 from rB_blk (hR8.o.on (rB kc 40 [.slice none 0 0, .slice none 0 0, .slice none 0 0, .slice none 0 0]) (by simp))).four'
   have h8 : Rs X B w8 (P ++ rB ka 40 [.slice g1 W.gens.length d1, .slice g2 W.free.length d2, .slice (some ⟨tb, t0, none⟩) W.tabs.length d3, .slice g4 W.res.length d4] :: (rB kb 48 [.int .i64 e.1, .int .i64 e.2] :: rB kv 59 [.int .i64 v.1, .int .i64 v.2.1, .float .f64 v.2.2.1, .float .f64 v.2.2.2] :: rB kc 40 [.slice none 0 0, .slice none 0 0, .slice none 0 0, .slice none 0 0] :: rC (.slice so O.length c0) O :: rC (.slice s9 K.length c9) K :: rW ⟨.slice q1 W'.gens.length m1, .slice q2 W'.free.length m2, .slice q3 W'.tabs.length m3, .slice q4 W'.res.length m4, ts'⟩ W')) := by simpa only [List.append_assoc, List.cons_append, List.nil_append] using hR8
   have h9 := Rs.less P _ (Rs.less P _ (Rs.less P _ (Rs.setB _ _ 3 (.slice q4 W'.res.length m4) (Rs.setB _ _ 2 (.slice q3 W'.tabs.length m3) (Rs.setB _ _ 1 (.slice q2 W'.free.length m2) (Rs.setB _ _ 0 (.slice q1 W'.gens.length m1) (Rs.less P _ (Rs.less P _ (Rs.less P _ h8)))))))))
   have H9 := Hid.mk' h9
   clear h8 h9 hR8 hF8 hans; go_wp2_with fail; refine bodyPost_ret (v := .tuple #[.agg #[.slice q1 W'.gens.length m1, .slice q2 W'.free.length m2, .slice q3 W'.tabs.length m3, .slice q4 W'.res.length m4], .int .i64 code]) (by simp [results, Tryz.results55, go_sem, z0, z1, z2, z3]) rfl ⟨⟨.slice q1 W'.gens.length m1, .slice q2 W'.free.length m2, .slice q3 W'.tabs.length m3, .slice q4 W'.res.length m4, ts'⟩, W', code, rfl, H9.out, HF8.out, Or.inr ⟨i, j, T, HT.out, HTj.out, Or.inr HANS.out⟩⟩
  | true =>
   rcases hD.out with ⟨h9, _⟩ | ⟨_, q, hq, hfd, hO⟩
   case inl => cases h9
   have HFQ : Hid (∃ q, Fnd T.cols x q ∧ O = (rowC T j).insertIdx q (x, v)) := by
    refine ⟨q, hfd, ?_⟩
    rw [hO, hL.out, List.take_of_length_le (by rw [List.length_insertIdx_of_le_length (by rw [← hL.out]; omega)]; exact Nat.le_refl _)]
   have HR9 := hN
   obtain ⟨K, hK⟩ : ∃ K, K = O := ⟨_, rfl⟩
   obtain ⟨s9, hs9'⟩ : ∃ s9, s9 = s := ⟨_, rfl⟩
   obtain ⟨c9, hc9'⟩ : ∃ c9, c9 = c' := ⟨_, rfl⟩
   rw [← hK, ← hs9', ← hc9'] at HR9 ⊢
   rw [← hK] at HFQ
   obtain ⟨w9, hw9⟩ : ∃ w9, w9 = wr := ⟨_, rfl⟩
   rw [← hw9] at HR9 ⊢
   clear hD hO hfd hN z0 z1 z2 z3 z4 hw9 hK hs9' hc9' hq; have HR7 : Hid (Rs X B w9 ((P ++ [rB ka 40 [.slice g1 W.gens.length d1, .slice g2 W.free.length d2, .slice (some ⟨tb, t0, none⟩) W.tabs.length d3, .slice g4 W.res.length d4], rB kb 48 [.int .i64 e.1, .int .i64 e.2], rB kv 59 [.int .i64 v.1, .int .i64 v.2.1, .float .f64 v.2.2.1, .float .f64 v.2.2.2], rB kc 40 [.slice none 0 0, .slice none 0 0, .slice none 0 0, .slice none 0 0], rC (.slice so L.length c0) L, rC (.slice s9 K.length c9) K]) ++ rW ⟨.slice g1 W.gens.length d1, .slice g2 W.free.length d2, .slice (some ⟨tb, t0, none⟩) W.tabs.length d3, .slice g4 W.res.length d4, ts⟩ W)) := by
    show Rs _ _ _ _
    simpa only [List.append_assoc, List.cons_append, List.nil_append] using HR9.out
   obtain ⟨x0, x1, x2, x3, x4⟩ := (show Blk w9 ka #[.slice g1 W.gens.length d1, .slice g2 W.free.length d2, .slice (some ⟨tb, t0, none⟩) W.tabs.length d3, .slice g4 W.res.length d4] 40 from rB_blk (HR7.out.o.on (rB ka 40 [.slice g1 W.gens.length d1, .slice g2 W.free.length d2, .slice (some ⟨tb, t0, none⟩) W.tabs.length d3, .slice g4 W.res.length d4]) (by simp))).four'
   obtain ⟨qf, hfd, hKf⟩ := HFQ.out
   have hqf := hfd.1
   have okK : okCs K := by
    rw [hKf]
    exact okCs_insert (by rw [← hL.out]; exact HOK.out) okv (by rw [rowC_len HRT.out.len]; exact hqf)
   have hne : ¬ T.cols = K.map (·.1) := by
    rw [hKf, insert_comps HRT.out.len hqf]
    exact insert_ne HNX.out
   have hKl : K.length ≤ 1000 := by
    rw [hKf, List.length_insertIdx_of_le_length (by rw [rowC_len HRT.out.len]; exact hqf), rowC_len HRT.out.len]
    omega
   have HMV := Hid.mk' (l4Move_any (X := X) (B := B) (P ++ [rB ka 40 [.slice g1 W.gens.length d1, .slice g2 W.free.length d2, .slice (some ⟨tb, t0, none⟩) W.tabs.length d3, .slice g4 W.res.length d4], rB kb 48 [.int .i64 e.1, .int .i64 e.2], rB kv 59 [.int .i64 v.1, .int .i64 v.2.1, .float .f64 v.2.2.1, .float .f64 v.2.2.2], rB kc 40 [.slice none 0 0, .slice none 0 0, .slice none 0 0, .slice none 0 0], rC (.slice so L.length c0) L, rC (.slice s9 K.length c9) K]) g1 g2 _ g4 d1 d2 d3 d4 ts W e i j T s9 c9 K w9 HR7.out HF.out HK.out (by simp) okK hKl HCC.out HSZ.out.2 HLA.out h40 HT.out HTj.out HLT.out hne)
   clear HR9 HR7 okK hne hKl hfd hKf hqf; go_wp2_with fail; refine HMV.out.mono ?_
   clear HMV x0 x1 x2 x3 x4; rintro r w8 ⟨V', W', code, rfl, hR8, hF8, hans⟩
   obtain ⟨q1, m1, q2, m2, q3, m3, q4, m4, ts', rfl⟩ := (hF8.ow hR8.o.right).shape
   have HF8 := Hid.mk' hF8
   have HANS : Hid (¬ x ∈ T.cols ∧ ∃ q : Nat, Fnd T.cols x q ∧ MvA W e i j T ((rowC T j).insertIdx q (x, v)) W' code) := by
    refine ⟨HNX.out, ?_⟩
    obtain ⟨q, h1, h2⟩ := HFQ.out
    exact ⟨q, h1, by rw [← h2]; exact hans⟩
   obtain ⟨z0, z1, z2, z3, z4⟩ := (show Blk w8 kc #[.slice none 0 0, .slice none 0 0, .slice none 0 0, .slice none 0 0] 40 from rB_blk (hR8.o.on (rB kc 40 [.slice none 0 0, .slice none 0 0, .slice none 0 0, .slice none 0 0]) (by simp))).four'
   have h8 : Rs X B w8 (P ++ rB ka 40 [.slice g1 W.gens.length d1, .slice g2 W.free.length d2, .slice (some ⟨tb, t0, none⟩) W.tabs.length d3, .slice g4 W.res.length d4] :: (rB kb 48 [.int .i64 e.1, .int .i64 e.2] :: rB kv 59 [.int .i64 v.1, .int .i64 v.2.1, .float .f64 v.2.2.1, .float .f64 v.2.2.2] :: rB kc 40 [.slice none 0 0, .slice none 0 0, .slice none 0 0, .slice none 0 0] :: rC (.slice so L.length c0) L :: rC (.slice s9 K.length c9) K :: rW ⟨.slice q1 W'.gens.length m1, .slice q2 W'.free.length m2, .slice q3 W'.tabs.length m3, .slice q4 W'.res.length m4, ts'⟩ W')) := by simpa only [List.append_assoc, List.cons_append, List.nil_append] using hR8
   have h9 := Rs.less P _ (Rs.less P _ (Rs.less P _ (Rs.setB _ _ 3 (.slice q4 W'.res.length m4) (Rs.setB _ _ 2 (.slice q3 W'.tabs.length m3) (Rs.setB _ _ 1 (.slice q2 W'.free.length m2) (Rs.setB _ _ 0 (.slice q1 W'.gens.length m1) (Rs.less P _ (Rs.less P _ (Rs.less P _ h8)))))))))
   have H9 := Hid.mk' h9
   clear h8 h9 hR8 hF8 hans; go_wp2_with fail; refine bodyPost_ret (v := .tuple #[.agg #[.slice q1 W'.gens.length m1, .slice q2 W'.free.length m2, .slice q3 W'.tabs.length m3, .slice q4 W'.res.length m4], .int .i64 code]) (by simp [results, Tryz.results55, go_sem, z0, z1, z2, z3]) rfl ⟨⟨.slice q1 W'.gens.length m1, .slice q2 W'.free.length m2, .slice q3 W'.tabs.length m3, .slice q4 W'.res.length m4, ts'⟩, W', code, rfl, H9.out, HF8.out, Or.inr ⟨i, j, T, HT.out, HTj.out, Or.inr HANS.out⟩⟩
 have HQ := Hid.mk' hq
 have hql : q < T.cols.length := (List.getElem?_eq_some_iff.1 hq).1
 obtain ⟨M, hM⟩ := get_some (L := T.cells) (k := q) (by rw [HRT.out.len]; exact hql)
 have hjM : j < M.length := by rw [HLT.out M (List.mem_of_getElem? hM)]; exact hjl
 obtain ⟨p0, hp0⟩ := get_some hjM
 obtain ⟨t, tb', cp', sr, cr, sx, cx, ht, eV, er, ex, hxl, oR, oX, c1, c2, fz⟩ := tab_at HR2.out.o (V := ⟨.slice g1 W.gens.length d1, .slice g2 W.free.length d2, .slice (some ⟨tb, t0, none⟩) W.tabs.length d3, .slice g4 W.res.length d4, ts⟩) (W := W) (fun r hr => by simp [hr]) HF.out HT.out
 simp only [Value.slice.injEq, Option.some.injEq, Addr.mk.injEq, and_true, true_and] at eV
 obtain ⟨⟨rfl, rfl⟩, rfl⟩ := eV
 obtain ⟨tc0, tr, tx, xs⟩ := t
 dsimp only at er ex hxl oR oX c1 c2
 subst er ex
 obtain ⟨u, hu⟩ := get_some (L := xs) (k := q) (by rw [hxl, HRT.out.len]; exact hql)
 have oX' : World.ownsRow w3 B 38 1 (.slice sx T.cells.length cx) T.cells.length xs := by
  have h := oX
  unfold OR.on rS at h
  dsimp only at h
  rw [hxl] at h
  exact h
 obtain ⟨xb, rfl⟩ := own_some oX' (by have := HRT.out.len; omega)
 have hc := World.ownsRow.cellAt oX' q (by have := HRT.out.len; omega)
 rw [hu] at hc
 have oV : (rV u M).on w3 B := HR2.out.o.on _ (List.mem_append_right _ (by have := rTabs_mem ht HT.out (rV u M) (by simp only [rTab, List.mem_cons]; exact Or.inr (Or.inr (Or.inr (mem_zipWith hu hM)))); simp [rW, this]))
 obtain ⟨sv, cv, ev⟩ := oV.shape
 have ev : u = .slice sv M.length cv := ev
 subst ev
 obtain ⟨vb, rfl⟩ := own_some (show World.ownsRow w3 B 59 4 (.slice sv M.length cv) M.length (M.flatMap vcells) from oV) (by omega)
 have okM : okVs M := HF.out.okc T (List.mem_of_getElem? HT.out) M (List.mem_of_getElem? hM)
 obtain ⟨b9, o9, ee, _, _, _, u1, u2, u3, u4⟩ := eVal_cells (rV_els oV okM) hp0
 simp only [Option.some.injEq, Addr.mk.injEq, and_true] at ee
 obtain ⟨rfl, rfl⟩ := ee
 simp only [Nat.zero_add] at u1 u2 u3 u4
 have fv : ∀ o, w3.frozen? ⟨vb, o, none⟩ = false := fun o => World.ownsRow.frozenAt (show World.ownsRow w3 B 59 4 (.slice (some ⟨vb, 0, none⟩) M.length cv) M.length (M.flatMap vcells) from oV) o
 have OVd : OR.on w3.drew B (rV (.slice (some ⟨vb, 0, none⟩) M.length cv) M) := OR.on.same oV (fun _ _ => rfl)
 have h1 := rV_set' hp0 v OVd rfl
 have h2 := (carr_Rs X B).colIn (w := w3.drew) (P := (P ++ [rB ka 40 [.slice g1 W.gens.length d1, .slice g2 W.free.length d2, .slice (some ⟨tb, 0, none⟩) W.tabs.length d3, .slice g4 W.res.length d4], rB kb 48 [.int .i64 e.1, .int .i64 e.2], rB kv 59 [.int .i64 v.1, .int .i64 v.2.1, .float .f64 v.2.2.1, .float .f64 v.2.2.2], rB kc 40 [.slice none 0 0, .slice none 0 0, .slice none 0 0, .slice none 0 0]])) (V := ⟨.slice g1 W.gens.length d1, .slice g2 W.free.length d2, .slice (some ⟨tb, 0, none⟩) W.tabs.length d3, .slice g4 W.res.length d4, ts⟩) (W := W) (t := ⟨tc0, .slice sr T.rows.length cr, .slice (some ⟨xb, 0, none⟩) T.cells.length cx, xs⟩) (T := T) HR2.out.drew ht HT.out hu hM h1.2 h1.1
 have HR3 : Hid (Rs X B ((((w3.drew.setCell ⟨vb, j * 4, none⟩ (.int .i64 v.1)).setCell ⟨vb, j * 4 + 1, none⟩ (.int .i64 v.2.1)).setCell ⟨vb, j * 4 + 2, none⟩ (.float .f64 v.2.2.1)).setCell ⟨vb, j * 4 + 3, none⟩ (.float .f64 v.2.2.2)) ((P ++ [rB ka 40 [.slice g1 W.gens.length d1, .slice g2 W.free.length d2, .slice (some ⟨tb, 0, none⟩) W.tabs.length d3, .slice g4 W.res.length d4], rB kb 48 [.int .i64 e.1, .int .i64 e.2], rB kv 59 [.int .i64 v.1, .int .i64 v.2.1, .float .f64 v.2.2.1, .float .f64 v.2.2.2], rB kc 40 [.slice none 0 0, .slice none 0 0, .slice none 0 0, .slice none 0 0]]) ++ rW ⟨.slice g1 W.gens.length d1, .slice g2 W.free.length d2, .slice (some ⟨tb, 0, none⟩) W.tabs.length d3, .slice g4 W.res.length d4, ts⟩ (setW W i (setT T q (M.set j v))))) := h2
 have HF2 : Hid (OWf ⟨.slice g1 W.gens.length d1, .slice g2 W.free.length d2, .slice (some ⟨tb, 0, none⟩) W.tabs.length d3, .slice g4 W.res.length d4, ts⟩ (setW W i (setT T q (M.set j v)))) := by
  show OWf _ _
  refine ⟨?_, ?_, ?_, HF.out.okr⟩
  ·
   show ts.length = (W.tabs.set i _).length
   rw [List.length_set]; exact HF.out.len
  ·
   intro q' t U ht' hU
   have hU : (W.tabs.set i (setT T q (M.set j v)))[q']? = some U := hU
   by_cases e9 : i = q'
   ·
    subst e9
    rw [List.getElem?_set_self hil] at hU
    cases hU
    show t.xs.length = (T.cells.set q _).length
    rw [List.length_set]
    exact HF.out.lens i t T ht' HT.out
   rw [List.getElem?_set_ne e9] at hU
   exact HF.out.lens q' t U ht' hU
  intro U hU N hN
  rcases List.mem_or_eq_of_mem_set (show U ∈ W.tabs.set i (setT T q (M.set j v)) from hU) with h' | rfl
  ·
   exact HF.out.okc U h' N hN
  rcases List.mem_or_eq_of_mem_set (show N ∈ T.cells.set q (M.set j v) from hN) with h9 | rfl
  ·
   exact HF.out.okc T (List.mem_of_getElem? HT.out) N h9
  intro y hy
  rcases List.mem_or_eq_of_mem_set hy with h8 | rfl
  ·
   exact okM y h8
  exact okv
 have HM := Hid.mk' hM
 obtain ⟨z0, z1, z2, z3, z4⟩ := (show Blk w3 kv #[.int .i64 v.1, .int .i64 v.2.1, .float .f64 v.2.2.1, .float .f64 v.2.2.2] 59 from rB_blk (HR2.out.o.on (rB kv 59 [.int .i64 v.1, .int .i64 v.2.1, .float .f64 v.2.2.1, .float .f64 v.2.2.2]) (by simp))).four'
 have k0 : (0 : Int) ≤ (q : Int) := by omega
 have k1 : (q : Int) < (T.cells.length : Int) := by have := HRT.out.len; omega
 have j0 : (0 : Int) ≤ (j : Int) := by omega
 have j1 : (j : Int) < (M.length : Int) := by omega
 clear hq hM hp0 oX oX' oV OVd h1 h2 ht hxl hu okM oR c1; go_upto_region 6 with fail
 go_cut [] (fun wx => Rs X B wx ((P ++ [rB ka 40 [.slice g1 W.gens.length d1, .slice g2 W.free.length d2, .slice (some ⟨tb, 0, none⟩) W.tabs.length d3, .slice g4 W.res.length d4], rB kb 48 [.int .i64 e.1, .int .i64 e.2], rB kv 59 [.int .i64 v.1, .int .i64 v.2.1, .float .f64 v.2.2.1, .float .f64 v.2.2.2], rB kc 40 [.slice none 0 0, .slice none 0 0, .slice none 0 0, .slice none 0 0]]) ++ rW ⟨.slice g1 W.gens.length d1, .slice g2 W.free.length d2, .slice (some ⟨tb, 0, none⟩) W.tabs.length d3, .slice g4 W.res.length d4, ts⟩ (setW W i (setT T q (M.set j v)))))
 case first =>
  go_region
  all_goals
   go_wp2_with fail; go_meet; exact HR3.out
 have HR4 := Hid.mk' hcut
 clear hcut HR3 x0 x1 x2 x3 x4 z0 z1 z2 z3 z4 c2 fz hc u1 u2 u3 u4 fv; obtain ⟨x0, x1, x2, x3, x4⟩ := (show Blk wc ka #[.slice g1 W.gens.length d1, .slice g2 W.free.length d2, .slice (some ⟨tb, 0, none⟩) W.tabs.length d3, .slice g4 W.res.length d4] 40 from rB_blk (HR4.out.o.on (rB ka 40 [.slice g1 W.gens.length d1, .slice g2 W.free.length d2, .slice (some ⟨tb, 0, none⟩) W.tabs.length d3, .slice g4 W.res.length d4]) (by simp))).four'
 obtain ⟨z0, z1, z2, z3, z4⟩ := (show Blk wc kc #[.slice none 0 0, .slice none 0 0, .slice none 0 0, .slice none 0 0] 40 from rB_blk (HR4.out.o.on (rB kc 40 [.slice none 0 0, .slice none 0 0, .slice none 0 0, .slice none 0 0]) (by simp))).four'
 have h8 : Rs X B wc (P ++ rB ka 40 [.slice g1 W.gens.length d1, .slice g2 W.free.length d2, .slice (some ⟨tb, 0, none⟩) W.tabs.length d3, .slice g4 W.res.length d4] :: (rB kb 48 [.int .i64 e.1, .int .i64 e.2] :: rB kv 59 [.int .i64 v.1, .int .i64 v.2.1, .float .f64 v.2.2.1, .float .f64 v.2.2.2] :: rB kc 40 [.slice none 0 0, .slice none 0 0, .slice none 0 0, .slice none 0 0] :: rW ⟨.slice g1 W.gens.length d1, .slice g2 W.free.length d2, .slice (some ⟨tb, 0, none⟩) W.tabs.length d3, .slice g4 W.res.length d4, ts⟩ (setW W i (setT T q (M.set j v))))) := by simpa only [List.append_assoc, List.cons_append, List.nil_append] using HR4.out
 have H9 := Hid.mk' (Rs.less P _ (Rs.setB _ _ 3 (.slice g4 W.res.length d4) (Rs.setB _ _ 2 (.slice (some ⟨tb, 0, none⟩) W.tabs.length d3) (Rs.setB _ _ 1 (.slice g2 W.free.length d2) (Rs.setB _ _ 0 (.slice g1 W.gens.length d1) (Rs.less P _ (Rs.less P _ (Rs.less P _ h8))))))))
 clear h8 HR4; go_wp2_with fail; refine bodyPost_ret (v := .tuple #[.agg #[.slice g1 W.gens.length d1, .slice g2 W.free.length d2, .slice (some ⟨tb, 0, none⟩) W.tabs.length d3, .slice g4 W.res.length d4], .int .i64 0]) (by simp [results, Tryz.results55, go_sem, z0, z1, z2, z3]) rfl ⟨⟨.slice g1 W.gens.length d1, .slice g2 W.free.length d2, .slice (some ⟨tb, 0, none⟩) W.tabs.length d3, .slice g4 W.res.length d4, ts⟩, _, 0, rfl, H9.out, HF2.out, Or.inr ⟨i, j, T, HT.out, HTj.out, Or.inl ⟨q, M, HQ.out, HM.out, rfl, rfl⟩⟩⟩
end Go.Proofs.YtkihhadcoclnaaaGreat
