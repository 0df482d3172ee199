import Derived.Test.YtbgeobpdojmdaaaGreatSq38
import Derived.Test.YtbgeobpdojmdaaaGreatSq35
namespace Go.Proofs.YtbgeobpdojmdaaaGreat
open Go.RowKit Go.Maps Go.WideMaps
set_option linter.unusedVariables false
set_option linter.unusedSimpArgs false
set_option maxRecDepth 100000
theorem rI_nil (w : World) : (rI (.slice (some ⟨w.heap.size, 0, none⟩) 0 0) []).on (w.alloc (.cells #[] 3)) w.heap.size :=
 World.ownsRow_lit (base := w.heap.size) (e := 3) (size := 1) w #[] 0 (by simp) (by unfold maxLen; omega) (by simp)
theorem rV_nil (w : World) : (rV (.slice (some ⟨w.heap.size, 0, none⟩) 0 0) []).on (w.alloc (.cells #[] 75)) w.heap.size :=
 World.ownsRow_lit (base := w.heap.size) (e := 75) (size := 4) w #[] 0 (by simp) (by unfold maxLen; omega) (by simp)
theorem perm_tab2 {α : Type} (P F T M : List α) (a b e : α) : (P ++ (a :: b :: (M ++ (F ++ (T ++ [e]))))).Perm (P ++ (F ++ (T ++ (a :: e :: b :: M)))) := by
 refine List.Perm.append_left P ?_
 have h1 : (([a, b] ++ M) ++ (F ++ (T ++ [e]))).Perm ((F ++ (T ++ [e])) ++ ([a, b] ++ M)) := List.perm_append_comm
 have h2 : ((F ++ (T ++ [e])) ++ ([a, b] ++ M)).Perm (F ++ (T ++ (a :: e :: b :: M))) := by
  simp only [List.append_assoc, List.cons_append, List.nil_append]
  exact List.Perm.append_left F (List.Perm.append_left T (List.Perm.swap a e (b :: M)))
 have h3 := h1.trans h2
 simpa only [List.append_assoc, List.cons_append, List.nil_append] using h3
theorem owf_new2 {Vg Vf Vt Vt' Vr vc vx : Value} {ts : List TV} {W : Wd} {L : List C5} {xs : List Value} (h : OWf ⟨Vg, Vf, Vt, Vr, ts⟩ W) (hx : xs.length = L.length) : OWf ⟨Vg, Vf, Vt', Vr, ts ++ [⟨vc, .slice none 0 0, vx, xs⟩]⟩ (apW W (newT L)) := by
 have hl : ts.length = W.tabs.length := h.len
 refine ⟨?_, ?_, ?_, h.okr⟩
 ·
  show (ts ++ [_]).length = (W.tabs ++ [_]).length
  simp [hl]
 ·
  intro j t T ht hT
  have ht : (ts ++ [(⟨vc, .slice none 0 0, vx, xs⟩ : TV)])[j]? = some t := ht
  have hT : (W.tabs ++ [newT L])[j]? = some T := hT
  by_cases hj : j < ts.length
  ·
   rw [List.getElem?_append_left hj] at ht
   rw [List.getElem?_append_left (by omega)] at hT
   exact h.lens j t T ht hT
  rw [List.getElem?_append_right (by omega)] at ht hT
  have hj0 : j - ts.length = 0 := by have := (List.getElem?_eq_some_iff.1 ht).1; simp at this; omega
  rw [hj0] at ht
  rw [← hl, hj0] at hT
  simp at ht hT
  subst ht hT
  simp [newT, hx]
 intro T hT M hM
 have hT : T ∈ W.tabs ++ [newT L] := hT
 rcases List.mem_append.1 hT with h1 | h1
 ·
  exact h.okc T h1 M hM
 simp only [List.mem_singleton] at h1
 subst h1
 have hM : M ∈ List.replicate L.length ([] : List V4) := hM
 obtain rfl := (List.mem_replicate.1 hM).2
 intro v hv
 simp at hv
theorem Rs.newTab2 {X w : World} {B : Nat} {P : List OR} {Vg Vf vt Vr vc vx : Value} {ts : List TV} {W : Wd} {L : List C5} {xs : List Value} (hl : ts.length = W.tabs.length)
  (hR : Rs X B w (P ++ (rI vc (L.map (·.1)) :: rS vx xs :: (rVs xs (List.replicate L.length []) ++ ([rI Vg W.gens, rI Vf W.free, rT vt (ts ++ [⟨vc, .slice none 0 0, vx, xs⟩]), rV Vr W.res] ++ rTabs ts W.tabs))))) :
  Rs X B w (P ++ rW ⟨Vg, Vf, vt, Vr, ts ++ [⟨vc, .slice none 0 0, vx, xs⟩]⟩ (apW W (newT L))) := by
 have h1 := Rs.insM (P ++ (rI vc (L.map (·.1)) :: rS vx xs :: (rVs xs (List.replicate L.length []) ++ ([rI Vg W.gens, rI Vf W.free, rT vt (ts ++ [⟨vc, .slice none 0 0, vx, xs⟩]), rV Vr W.res] ++ rTabs ts W.tabs)))) [rE (.slice none 0 0) []] [] (by simpa using hR) (Below.refl _ _) (owns_nils _ _ _ (by
  intro r hr
  simp only [List.mem_singleton] at hr
  subst hr
  exact ⟨rfl, rfl, rfl⟩))
 have h2 := Rs.perm h1 (S := P ++ ([rI Vg W.gens, rI Vf W.free, rT vt (ts ++ [⟨vc, .slice none 0 0, vx, xs⟩]), rV Vr W.res] ++ (rTabs ts W.tabs ++ (rI vc (L.map (·.1)) :: rE (.slice none 0 0) [] :: rS vx xs :: rVs xs (List.replicate L.length []))))) (by
  have := perm_tab2 P [rI Vg W.gens, rI Vf W.free, rT vt (ts ++ [⟨vc, .slice none 0 0, vx, xs⟩]), rV Vr W.res] (rTabs ts W.tabs) (rVs xs (List.replicate L.length [])) (rI vc (L.map (·.1))) (rS vx xs) (rE (.slice none 0 0) [])
  simpa only [List.append_assoc, List.cons_append, List.nil_append, List.append_nil] using this)
 have e1 : rTabs (ts ++ [⟨vc, .slice none 0 0, vx, xs⟩]) (W.tabs ++ [newT L]) = rTabs ts W.tabs ++ (rI vc (L.map (·.1)) :: rE (.slice none 0 0) [] :: rS vx xs :: rVs xs (List.replicate L.length [])) := by
  unfold rTabs
  rw [List.zipWith_append hl, List.flatten_append]
  simp [rTab, newT]
 unfold rW apW
 dsimp only
 rw [e1]
 exact h2
set_option maxHeartbeats 16000000 in
theorem l4Table_any {X : World} {B : Nat} (P : List OR) (g1 g2 g3 g4 : Option Addr) (d1 d2 d3 d4 : Nat) (ts : List TV) (W : Wd) (cb cc : Nat) (L : List C5) (cols : List Int) (hcols : L.map (·.1) = cols) (w : World) (hR : Rs X B w (P ++ rW ⟨.slice g1 W.gens.length d1, .slice g2 W.free.length d2, .slice g3 W.tabs.length d3, .slice g4 W.res.length d4, ts⟩ W)) (hF : OWf ⟨.slice g1 W.gens.length d1, .slice g2 W.free.length d2, .slice g3 W.tabs.length d3, .slice g4 W.res.length d4, ts⟩ W) (hk : kW W) (hC : rI (.slice (some ⟨cb, 0, none⟩) cols.length cc) cols ∈ P) (lL : cols.length ≤ 1000) (h40 : W.tabs.length ≤ 40) :
  Calls Tryz.prog 62 #[.agg #[.slice g1 W.gens.length d1, .slice g2 W.free.length d2, .slice g3 W.tabs.length d3, .slice g4 W.res.length d4], .slice (some ⟨cb, 0, none⟩) cols.length cc] w fun r w' =>
   (r = .returned (.tuple #[.agg #[.slice g1 W.gens.length d1, .slice g2 W.free.length d2, .slice g3 W.tabs.length d3, .slice g4 W.res.length d4], .int .i64 (-1)]) ∧ (∀ t ∈ W.tabs, ¬ t.cols = cols) ∧ W.tabs.length = 40 ∧ Rs X B w' (P ++ rW ⟨.slice g1 W.gens.length d1, .slice g2 W.free.length d2, .slice g3 W.tabs.length d3, .slice g4 W.res.length d4, ts⟩ W)) ∨
   (∃ (i : Nat) (T1 : Tab) (W1 : Wd) (st : Option Addr) (cp1 : Nat) (ts1 : List TV), r = .returned (.tuple #[.agg #[.slice g1 W.gens.length d1, .slice g2 W.free.length d2, .slice st W1.tabs.length cp1, .slice g4 W.res.length d4], .int .i64 i]) ∧ GoA W W1 T1 L i ∧ OWf ⟨.slice g1 W.gens.length d1, .slice g2 W.free.length d2, .slice st W1.tabs.length cp1, .slice g4 W.res.length d4, ts1⟩ W1 ∧ Rs X B w' (P ++ rW ⟨.slice g1 W.gens.length d1, .slice g2 W.free.length d2, .slice st W1.tabs.length cp1, .slice g4 W.res.length d4, ts1⟩ W1)) := by
 have hal := alloc_old
 have haf := alloc_oldf
 have hr0 : Rs X B ((w.alloc (.cells #[.slice g1 W.gens.length d1, .slice g2 W.free.length d2, .slice g3 W.tabs.length d3, .slice g4 W.res.length d4] 40)).alloc (.cells #[.slice none 0 0, .slice none 0 0, .slice none 0 0, .slice none 0 0] 40)) ((P ++ [rB w.heap.size 40 [.slice g1 W.gens.length d1, .slice g2 W.free.length d2, .slice g3 W.tabs.length d3, .slice g4 W.res.length d4], rB (w.heap.size + 1) 40 [.slice none 0 0, .slice none 0 0, .slice none 0 0, .slice none 0 0]]) ++ rW ⟨.slice g1 W.gens.length d1, .slice g2 W.free.length d2, .slice g3 W.tabs.length d3, .slice g4 W.res.length d4, ts⟩ W) := by
  have h1 := Rs.ins P _ hR (bl_alloc (Below.refl _ _) (.cells #[.slice g1 W.gens.length d1, .slice g2 W.free.length d2, .slice g3 W.tabs.length d3, .slice g4 W.res.length d4] 40)) (blk_rB (cs := [.slice g1 W.gens.length d1, .slice g2 W.free.length d2, .slice g3 W.tabs.length d3, .slice g4 W.res.length d4]) (Blk.new w _ _) (Nat.le_refl _))
  have h2 := Rs.ins (P ++ [rB w.heap.size 40 [.slice g1 W.gens.length d1, .slice g2 W.free.length d2, .slice g3 W.tabs.length d3, .slice g4 W.res.length d4]]) (rW ⟨.slice g1 W.gens.length d1, .slice g2 W.free.length d2, .slice g3 W.tabs.length d3, .slice g4 W.res.length d4, ts⟩ W) (by simpa only [List.append_assoc, List.cons_append, List.nil_append] using h1) (bl_alloc (Below.refl _ _) (.cells #[.slice none 0 0, .slice none 0 0, .slice none 0 0, .slice none 0 0] 40)) (blk_rB (cs := [.slice none 0 0, .slice none 0 0, .slice none 0 0, .slice none 0 0]) (Blk.new _ _ _) (Nat.le_refl _))
  simp only [World.size_alloc] at h2
  simpa only [List.append_assoc, List.cons_append, List.nil_append] using h2
 have HR0 := Hid.mk' hr0
 have HF := Hid.mk' hF
 have HC := Hid.mk' hC
 have HCO := Hid.mk' hcols
 have KT := Hid.mk' hk.2.2.1.2
 have hkl : W.tabs.length ≤ 1048576 := hk.2.2.1.1
 go_enter Tryz.func62, Tryz.ntmps62
 go_upto_region 1 with fail
 generalize hX0 : ((w.alloc (.cells #[.slice g1 W.gens.length d1, .slice g2 W.free.length d2, .slice g3 W.tabs.length d3, .slice g4 W.res.length d4] 40)).alloc (.cells #[.slice none 0 0, .slice none 0 0, .slice none 0 0, .slice none 0 0] 40)) = X0 at HR0 ⊢
 generalize hka : w.heap.size = ka at HR0 ⊢
 generalize hkc : ka + 1 = kc at HR0 ⊢
 clear hX0 hka hkc hr0 hR hk hF hC hcols; go_wp2_with fail; go_loopw [6] (fun i' wr => ∃ k : Nat, k ≤ W.tabs.length ∧ i' = .int .i64 k ∧ Hid (Rs X B wr ((P ++ [rB ka 40 [.slice g1 W.gens.length d1, .slice g2 W.free.length d2, .slice g3 W.tabs.length d3, .slice g4 W.res.length d4], rB kc 40 [.slice none 0 0, .slice none 0 0, .slice none 0 0, .slice none 0 0]]) ++ rW ⟨.slice g1 W.gens.length d1, .slice g2 W.free.length d2, .slice g3 W.tabs.length d3, .slice g4 W.res.length d4, ts⟩ W) ∧ ∀ (j : Nat) t, j < k → W.tabs[j]? = some t → sl eqI t.cols cols = false)) (fun i' _ => W.tabs.length - (intOf i').toNat)
 case atStart => exact ⟨0, Nat.zero_le _, rfl, HR0.out, fun j t hj => absurd hj (Nat.not_lt_zero _)⟩
 clear HR0; obtain ⟨k, hk, rfl, hN⟩ := hrel
 obtain ⟨x0, x1, x2, x3, x4⟩ := (show Blk wr ka #[.slice g1 W.gens.length d1, .slice g2 W.free.length d2, .slice g3 W.tabs.length d3, .slice g4 W.res.length d4] 40 from rB_blk (hN.out.1.o.on (rB ka 40 [.slice g1 W.gens.length d1, .slice g2 W.free.length d2, .slice g3 W.tabs.length d3, .slice g4 W.res.length d4]) (by simp))).four'
 by_cases hlt : k < W.tabs.length
 ·
  obtain ⟨t, ha⟩ := get_some hlt
  have hI := inW_of (HF.out.ow hN.out.1.o.right)
  obtain ⟨b, o, rfl, _, hp, s1, e1, s2, e2, s3, e3, t1, t2, t3, f1, f2, f3⟩ := eTab_cells hI.t ha
  have HA : Hid (W.tabs[k]? = some t) := ha
  have hkt := (KT.out t (List.mem_of_getElem? ha)).1
  have oC : (rI (.slice (some ⟨cb, 0, none⟩) cols.length cc) cols).on wr B := hN.out.1.o.on _ (List.mem_append_left _ (List.mem_append_left _ HC.out))
  have k0 : (0 : Int) ≤ (k : Int) := by omega
  have k1 : (k : Int) < (W.tabs.length : Int) := by omega
  clear ha f2 f3 hI; go_wp2_with fail; refine (l4Equal_any s1 (some ⟨cb, 0, none⟩) e1 cc t.cols cols B B _ f1 (rI_els oC) hkt (by omega)).mono ?_
  rintro r w2 ⟨rfl, hb2⟩
  have HR2 := Hid.mk' (hN.out.1.later hb2)
  have HN2 := Hid.mk' hN.out.2
  clear hb2 f1 oC hN x0 x1 x2 x3 x4 t1 t2 t3; cases hs : sl eqI t.cols cols
  ·
   go_wp2_with fail; go_roundw
   case rel => exact ⟨k + 1, by omega, by go_num, HR2.out, fun j u hj hu => by
    by_cases hjk : j = k
    ·
     subst hjk
     rw [HA.out] at hu
     cases hu
     exact hs
    exact HN2.out j u (by omega) hu⟩
   case measure => simp [intOf]; omega
  have HTC : Hid (t.cols = L.map (·.1)) := by
   show _ = _
   rw [sl_eqI, decide_eq_true_eq] at hs
   rw [hs, HCO.out]
  obtain ⟨x0, x1, x2, x3, x4⟩ := (show Blk w2 ka #[.slice g1 W.gens.length d1, .slice g2 W.free.length d2, .slice (some ⟨b, o, none⟩) W.tabs.length d3, .slice g4 W.res.length d4] 40 from rB_blk (HR2.out.o.on (rB ka 40 [.slice g1 W.gens.length d1, .slice g2 W.free.length d2, .slice (some ⟨b, o, none⟩) W.tabs.length d3, .slice g4 W.res.length d4]) (by simp))).four'
  obtain ⟨z0, z1, z2, z3, z4⟩ := (show Blk w2 kc #[.slice none 0 0, .slice none 0 0, .slice none 0 0, .slice none 0 0] 40 from rB_blk (HR2.out.o.on (rB kc 40 [.slice none 0 0, .slice none 0 0, .slice none 0 0, .slice none 0 0]) (by simp))).four'
  have h8 : Rs X B w2 (P ++ rB ka 40 [.slice g1 W.gens.length d1, .slice g2 W.free.length d2, .slice (some ⟨b, o, none⟩) W.tabs.length d3, .slice g4 W.res.length d4] :: (rB kc 40 [.slice none 0 0, .slice none 0 0, .slice none 0 0, .slice none 0 0] :: rW ⟨.slice g1 W.gens.length d1, .slice g2 W.free.length d2, .slice (some ⟨b, o, none⟩) W.tabs.length d3, .slice g4 W.res.length d4, ts⟩ W)) := by simpa only [List.append_assoc, List.cons_append, List.nil_append] using HR2.out
  have H9 := Hid.mk' (Rs.less P _ (Rs.setB _ _ 3 (.slice g4 W.res.length d4) (Rs.setB _ _ 2 (.slice (some ⟨b, o, none⟩) W.tabs.length d3) (Rs.setB _ _ 1 (.slice g2 W.free.length d2) (Rs.setB _ _ 0 (.slice g1 W.gens.length d1) (Rs.less P _ h8))))))
  clear h8 HR2 hs HN2; go_wp2_with fail; refine bodyPost_ret (v := .tuple #[.agg #[.slice g1 W.gens.length d1, .slice g2 W.free.length d2, .slice (some ⟨b, o, none⟩) W.tabs.length d3, .slice g4 W.res.length d4], .int .i64 k]) (by simp [results, Tryz.results62, go_sem, z0, z1, z2, z3]) rfl (Or.inr ⟨k, t, W, _, d3, ts, rfl, ⟨HA.out, HTC.out, Or.inl rfl⟩, HF.out, H9.out⟩)
 have hke : k = W.tabs.length := by omega
 subst hke
 have HNO : Hid (∀ t ∈ W.tabs, ¬ t.cols = cols) := by
  intro t ht
  obtain ⟨j, hj, rfl⟩ := List.getElem_of_mem ht
  have := hN.out.2 j _ hj (List.getElem?_eq_getElem hj)
  rw [sl_eqI, decide_eq_false_iff_not] at this
  exact this
 have HR1 := Hid.mk' hN.out.1
 clear hN; by_cases h4 : W.tabs.length = 40
 ·
  have HH4 := Hid.mk' h4
  have t4 : decide ((W.tabs.length : Int) ≥ 40) = true := by simp; omega
  have t5 : (40 : Int) ≤ (W.tabs.length : Int) := by omega
  obtain ⟨z0, z1, z2, z3, z4⟩ := (show Blk wr kc #[.slice none 0 0, .slice none 0 0, .slice none 0 0, .slice none 0 0] 40 from rB_blk (HR1.out.o.on (rB kc 40 [.slice none 0 0, .slice none 0 0, .slice none 0 0, .slice none 0 0]) (by simp))).four'
  have h8 : Rs X B wr (P ++ rB ka 40 [.slice g1 W.gens.length d1, .slice g2 W.free.length d2, .slice g3 W.tabs.length d3, .slice g4 W.res.length d4] :: (rB kc 40 [.slice none 0 0, .slice none 0 0, .slice none 0 0, .slice none 0 0] :: rW ⟨.slice g1 W.gens.length d1, .slice g2 W.free.length d2, .slice g3 W.tabs.length d3, .slice g4 W.res.length d4, ts⟩ W)) := by simpa only [List.append_assoc, List.cons_append, List.nil_append] using HR1.out
  have H9 := Hid.mk' (Rs.less P _ (Rs.setB _ _ 3 (.slice g4 W.res.length d4) (Rs.setB _ _ 2 (.slice g3 W.tabs.length d3) (Rs.setB _ _ 1 (.slice g2 W.free.length d2) (Rs.setB _ _ 0 (.slice g1 W.gens.length d1) (Rs.less P _ h8))))))
  clear h8 HR1 h4; go_wp2_with fail; refine bodyPost_ret (v := .tuple #[.agg #[.slice g1 W.gens.length d1, .slice g2 W.free.length d2, .slice g3 W.tabs.length d3, .slice g4 W.res.length d4], .int .i64 (-1)]) (by simp [results, Tryz.results62, go_sem, z0, z1, z2, z3]) rfl (Or.inl ⟨rfl, HNO.out, HH4.out, H9.out⟩)
 have HH4 := Hid.mk' h4
 have t4 : decide ((W.tabs.length : Int) ≥ 40) = false := by simp; omega
 have t5 : ¬ (40 : Int) ≤ (W.tabs.length : Int) := by omega
 obtain ⟨iI, hiI, hzI, hsI, hbI⟩ := info_parts Tryz.infoI
 have hb6 : Below wr.heap.size wr (wr.alloc (.cells #[] 3)) := bl_alloc (Below.refl _ _) _
 have HR6 : Hid (Rs X B (wr.alloc (.cells #[] 3)) ((P ++ [rB ka 40 [.slice g1 W.gens.length d1, .slice g2 W.free.length d2, .slice g3 W.tabs.length d3, .slice g4 W.res.length d4], rB kc 40 [.slice none 0 0, .slice none 0 0, .slice none 0 0, .slice none 0 0]]) ++ rI (.slice (some ⟨wr.heap.size, 0, none⟩) 0 0) [] :: rW ⟨.slice g1 W.gens.length d1, .slice g2 W.free.length d2, .slice g3 W.tabs.length d3, .slice g4 W.res.length d4, ts⟩ W)) := Rs.ins (P ++ [rB ka 40 [.slice g1 W.gens.length d1, .slice g2 W.free.length d2, .slice g3 W.tabs.length d3, .slice g4 W.res.length d4], rB kc 40 [.slice none 0 0, .slice none 0 0, .slice none 0 0, .slice none 0 0]]) (rW ⟨.slice g1 W.gens.length d1, .slice g2 W.free.length d2, .slice g3 W.tabs.length d3, .slice g4 W.res.length d4, ts⟩ W) HR1.out hb6 (rI_nil wr)
 have oC : World.ownsRow (wr.alloc (.cells #[] 3)) B 3 1 (.slice (some ⟨cb, 0, none⟩) cols.length cc) cols.length (cols.map (Value.int .i64)) := HR6.out.o.on (rI (.slice (some ⟨cb, 0, none⟩) cols.length cc) cols) (List.mem_append_left _ (List.mem_append_left _ HC.out))
 have HNW : Hid (∀ (j : Nat) (u : Value), (cols.map (Value.int .i64))[j]? = some u → (wr.alloc (.cells #[] 3)).cell? ((⟨cb, 0, none⟩ : Addr).add j) = some u) := by
  intro j u hj
  have hjl := (List.getElem?_eq_some_iff.1 hj).1
  rw [List.length_map] at hjl
  have := World.ownsRow.cellAt oC j (by omega)
  rw [hj] at this
  rw [Addr.add_lit, Nat.zero_add]
  exact this
 have HON1 : Hid (∀ u ∈ cols.map (Value.int .i64), u.oneCell' = true) := by intro u hu; simp only [List.mem_map] at hu; obtain ⟨q, _, rfl⟩ := hu; rfl
 have HLN : Hid ((cols.map (Value.int .i64)).length = cols.length * (rI (.slice (some ⟨wr.heap.size, 0, none⟩) 0 0) []).k) := by show _ = cols.length * 1; rw [List.length_map, Nat.mul_one]
 have HFE : Hid (∀ v : Value, (fun v => rI v cols) v = ⟨(rI (.slice (some ⟨wr.heap.size, 0, none⟩) 0 0) []).T, (rI (.slice (some ⟨wr.heap.size, 0, none⟩) 0 0) []).k, v, cols.length, (rI (.slice (some ⟨wr.heap.size, 0, none⟩) 0 0) []).cs ++ cols.map (Value.int .i64)⟩) := fun v => rfl
 have HM1 : Hid ((rI (.slice (some ⟨wr.heap.size, 0, none⟩) 0 0) []).n + cols.length ≤ maxLen) := by show 0 + cols.length ≤ _; unfold maxLen; omega
 have HM2 : Hid (((rI (.slice (some ⟨wr.heap.size, 0, none⟩) 0 0) []).n + cols.length) * 8 ≤ 140737488355328) := by show (0 + cols.length) * 8 ≤ _; omega
 have HN0 : Hid ((rI (.slice (some ⟨wr.heap.size, 0, none⟩) 0 0) []).n + cols.length = cols.length) := by show 0 + cols.length = _; omega
 clear hb6 oC HR1 h4; go_wp2_with (at_builtin; refine wpList_appR (carr_Rs X B) _ rfl (.tmp 31) (.tmp 32) 25 rfl (P ++ [rB ka 40 [.slice g1 W.gens.length d1, .slice g2 W.free.length d2, .slice g3 W.tabs.length d3, .slice g4 W.res.length d4], rB kc 40 [.slice none 0 0, .slice none 0 0, .slice none 0 0, .slice none 0 0]]) (rW ⟨.slice g1 W.gens.length d1, .slice g2 W.free.length d2, .slice g3 W.tabs.length d3, .slice g4 W.res.length d4, ts⟩ W) (r := rI (.slice (some ⟨wr.heap.size, 0, none⟩) 0 0) []) HR6.out 8 Tryz.underlying25 hiI hzI hsI hbI rfl Nat.zero_lt_one rfl ⟨cb, 0, none⟩ cols.length cc rfl (cols.map (Value.int .i64)) HLN.out HNW.out HON1.out HM1.out HM2.out cols.length HN0.out (fun v => rI v cols) HFE.out ?_)
 intro s1 k1 w6 hR6
 have h7 : Rs X B (w6.alloc (.cells #[.slice s1 cols.length k1, .slice none 0 0, .slice none 0 0] 119)) ((P ++ [rB ka 40 [.slice g1 W.gens.length d1, .slice g2 W.free.length d2, .slice g3 W.tabs.length d3, .slice g4 W.res.length d4], rB kc 40 [.slice none 0 0, .slice none 0 0, .slice none 0 0, .slice none 0 0], rI (.slice s1 cols.length k1) cols, rB w6.heap.size 119 [.slice s1 cols.length k1, .slice none 0 0, .slice none 0 0]]) ++ rW ⟨.slice g1 W.gens.length d1, .slice g2 W.free.length d2, .slice g3 W.tabs.length d3, .slice g4 W.res.length d4, ts⟩ W) := by
  have h := Rs.ins (P ++ [rB ka 40 [.slice g1 W.gens.length d1, .slice g2 W.free.length d2, .slice g3 W.tabs.length d3, .slice g4 W.res.length d4], rB kc 40 [.slice none 0 0, .slice none 0 0, .slice none 0 0, .slice none 0 0], rI (.slice s1 cols.length k1) cols]) (rW ⟨.slice g1 W.gens.length d1, .slice g2 W.free.length d2, .slice g3 W.tabs.length d3, .slice g4 W.res.length d4, ts⟩ W) (by simpa only [List.append_assoc, List.cons_append, List.nil_append] using hR6) (bl_alloc (Below.refl _ _) (.cells #[.slice s1 cols.length k1, .slice none 0 0, .slice none 0 0] 119)) (blk_rB (cs := [.slice s1 cols.length k1, .slice none 0 0, .slice none 0 0]) (Blk.new w6 _ _) (Nat.le_refl _))
  simpa only [List.append_assoc, List.cons_append, List.nil_append] using h
 have HR7 := Hid.mk' h7
 clear h7 hR6 HR6 HNW HON1 HLN HFE HM1 HM2 HN0 x0 x1 x2 x3 x4; go_upto_region 9 with fail
 generalize hX7 : (w6.alloc (.cells #[.slice s1 cols.length k1, .slice none 0 0, .slice none 0 0] 119)) = X7 at HR7 ⊢
 generalize hkt : w6.heap.size = kt at HR7 ⊢
 clear hX7 hkt; have HR8 : Hid (Rs X B X7 ((P ++ [rB ka 40 [.slice g1 W.gens.length d1, .slice g2 W.free.length d2, .slice g3 W.tabs.length d3, .slice g4 W.res.length d4], rB kc 40 [.slice none 0 0, .slice none 0 0, .slice none 0 0, .slice none 0 0], rI (.slice s1 cols.length k1) cols, rB kt 119 [.slice s1 cols.length k1, .slice none 0 0, .slice none 0 0]]) ++ rS (.slice none 0 0) [] :: (rVs [] (List.replicate 0 []) ++ rW ⟨.slice g1 W.gens.length d1, .slice g2 W.free.length d2, .slice g3 W.tabs.length d3, .slice g4 W.res.length d4, ts⟩ W))) := by
  show Rs _ _ _ _
  have h := Rs.insM (P ++ [rB ka 40 [.slice g1 W.gens.length d1, .slice g2 W.free.length d2, .slice g3 W.tabs.length d3, .slice g4 W.res.length d4], rB kc 40 [.slice none 0 0, .slice none 0 0, .slice none 0 0, .slice none 0 0], rI (.slice s1 cols.length k1) cols, rB kt 119 [.slice s1 cols.length k1, .slice none 0 0, .slice none 0 0]]) [rS (.slice none 0 0) []] (rW ⟨.slice g1 W.gens.length d1, .slice g2 W.free.length d2, .slice g3 W.tabs.length d3, .slice g4 W.res.length d4, ts⟩ W) HR7.out (Below.refl _ _) (owns_nils _ _ _ (by
   intro r hr
   simp only [List.mem_singleton] at hr
   subst hr
   exact ⟨rfl, rfl, rfl⟩))
  simpa [rVs] using h
 clear HR7; go_wp2_with fail; go_loopw [8] (fun i' wr => ∃ (m : Nat) (sx : Option Addr) (cx : Nat) (xs : List Value), m ≤ cols.length ∧ i' = .int .i64 m ∧ Hid (xs.length = m ∧ Rs X B wr ((P ++ [rB ka 40 [.slice g1 W.gens.length d1, .slice g2 W.free.length d2, .slice g3 W.tabs.length d3, .slice g4 W.res.length d4], rB kc 40 [.slice none 0 0, .slice none 0 0, .slice none 0 0, .slice none 0 0], rI (.slice s1 cols.length k1) cols, rB kt 119 [.slice s1 cols.length k1, .slice none 0 0, .slice sx m cx]]) ++ rS (.slice sx m cx) xs :: (rVs xs (List.replicate m []) ++ rW ⟨.slice g1 W.gens.length d1, .slice g2 W.free.length d2, .slice g3 W.tabs.length d3, .slice g4 W.res.length d4, ts⟩ W)))) (fun i' _ => cols.length - (intOf i').toNat)
 case atStart => exact ⟨0, none, 0, [], Nat.zero_le _, rfl, rfl, HR8.out⟩
 clear HR8; obtain ⟨m, sx, cx, xs, hm, rfl, hN⟩ := hrel
 by_cases hltm : m < cols.length
 ·
  obtain ⟨y0, y1, y2, y3⟩ := (show Blk wr kt #[.slice s1 cols.length k1, .slice none 0 0, .slice sx m cx] 119 from rB_blk (hN.out.2.o.on (rB kt 119 [.slice s1 cols.length k1, .slice none 0 0, .slice sx m cx]) (by simp))).three'
  obtain ⟨iS, hiS, hzS, hsS, hbS⟩ := info_parts Tryz.infoVS
  have HXL := Hid.mk' hN.out.1
  have h3 : Rs X B ((wr.alloc (.cells #[] 75)).alloc (.cells #[.slice (some ⟨wr.heap.size, 0, none⟩) 0 0] 38)) ((P ++ [rB ka 40 [.slice g1 W.gens.length d1, .slice g2 W.free.length d2, .slice g3 W.tabs.length d3, .slice g4 W.res.length d4], rB kc 40 [.slice none 0 0, .slice none 0 0, .slice none 0 0, .slice none 0 0], rI (.slice s1 cols.length k1) cols, rB kt 119 [.slice s1 cols.length k1, .slice none 0 0, .slice sx m cx]]) ++ rS (.slice sx m cx) xs :: (rVs xs (List.replicate m []) ++ (rV (.slice (some ⟨wr.heap.size, 0, none⟩) 0 0) [] :: rW ⟨.slice g1 W.gens.length d1, .slice g2 W.free.length d2, .slice g3 W.tabs.length d3, .slice g4 W.res.length d4, ts⟩ W))) := by
   have h := Rs.ins ((P ++ [rB ka 40 [.slice g1 W.gens.length d1, .slice g2 W.free.length d2, .slice g3 W.tabs.length d3, .slice g4 W.res.length d4], rB kc 40 [.slice none 0 0, .slice none 0 0, .slice none 0 0, .slice none 0 0], rI (.slice s1 cols.length k1) cols, rB kt 119 [.slice s1 cols.length k1, .slice none 0 0, .slice sx m cx]]) ++ rS (.slice sx m cx) xs :: rVs xs (List.replicate m [])) (rW ⟨.slice g1 W.gens.length d1, .slice g2 W.free.length d2, .slice g3 W.tabs.length d3, .slice g4 W.res.length d4, ts⟩ W) (by simpa only [List.append_assoc, List.cons_append, List.nil_append] using hN.out.2) (bl_alloc (Below.refl _ _) (.cells #[] 75)) (rV_nil wr)
   have h' := h.later (bl_alloc (Below.refl _ _) (.cells #[.slice (some ⟨wr.heap.size, 0, none⟩) 0 0] 38))
   simpa only [List.append_assoc, List.cons_append, List.nil_append] using h'
  have HR3 := Hid.mk' h3
  have HNW : Hid (∀ (j : Nat) (u : Value), [Value.slice (some ⟨wr.heap.size, 0, none⟩) 0 0][j]? = some u → ((wr.alloc (.cells #[] 75)).alloc (.cells #[.slice (some ⟨wr.heap.size, 0, none⟩) 0 0] 38)).cell? ((⟨wr.heap.size + 1, 0, none⟩ : Addr).add j) = some u) := by
   intro j u hj
   have hb := Blk.new' (wr.alloc (.cells #[] 75)) #[.slice (some ⟨wr.heap.size, 0, none⟩) 0 0] 38 (n := wr.heap.size + 1) (by simp)
   match j, hj with
   | 0, hj => simp at hj; subst hj; exact hb.cell 0
  have HON1 : Hid (∀ u ∈ [Value.slice (some ⟨wr.heap.size, 0, none⟩) 0 0], u.oneCell' = true) := by intro u hu; simp at hu; subst hu; rfl
  have HFE : Hid (∀ v : Value, (fun v => rS v (xs ++ [.slice (some ⟨wr.heap.size, 0, none⟩) 0 0])) v = ⟨(rS (.slice sx m cx) xs).T, (rS (.slice sx m cx) xs).k, v, m + 1, (rS (.slice sx m cx) xs).cs ++ [.slice (some ⟨wr.heap.size, 0, none⟩) 0 0]⟩) := by
   intro v
   show rS v (xs ++ [_]) = _
   unfold rS
   rw [List.length_append, HXL.out]
   rfl
  have HM1 : Hid ((rS (.slice sx m cx) xs).n + 1 ≤ maxLen) := by show xs.length + 1 ≤ _; rw [HXL.out]; unfold maxLen; omega
  have HM2 : Hid (((rS (.slice sx m cx) xs).n + 1) * 24 ≤ 140737488355328) := by show (xs.length + 1) * 24 ≤ _; rw [HXL.out]; omega
  have HN1 : Hid ((rS (.slice sx m cx) xs).n + 1 = m + 1) := by show xs.length + 1 = _; rw [HXL.out]
  clear h3 hN; go_wp2_with (at_builtin; refine wpList_appR (carr_Rs X B) _ rfl (.tmp 42) (.tmp 44) 117 rfl (P ++ [rB ka 40 [.slice g1 W.gens.length d1, .slice g2 W.free.length d2, .slice g3 W.tabs.length d3, .slice g4 W.res.length d4], rB kc 40 [.slice none 0 0, .slice none 0 0, .slice none 0 0, .slice none 0 0], rI (.slice s1 cols.length k1) cols, rB kt 119 [.slice s1 cols.length k1, .slice none 0 0, .slice sx m cx]]) (rVs xs (List.replicate m []) ++ (rV (.slice (some ⟨wr.heap.size, 0, none⟩) 0 0) [] :: rW ⟨.slice g1 W.gens.length d1, .slice g2 W.free.length d2, .slice g3 W.tabs.length d3, .slice g4 W.res.length d4, ts⟩ W)) (r := rS (.slice sx m cx) xs) HR3.out 24 Tryz.underlying117 hiS hzS hsS hbS rfl Nat.zero_lt_one rfl ⟨wr.heap.size + 1, 0, none⟩ 1 1 rfl [.slice (some ⟨wr.heap.size, 0, none⟩) 0 0] rfl HNW.out HON1.out HM1.out HM2.out (m + 1) HN1.out (fun v => rS v (xs ++ [.slice (some ⟨wr.heap.size, 0, none⟩) 0 0])) HFE.out ?_)
  intro s' c' w9 hR9
  have h10 : Rs X B (w9.setCell ⟨kt, 2, none⟩ (.slice s' (m + 1) c')) ((P ++ [rB ka 40 [.slice g1 W.gens.length d1, .slice g2 W.free.length d2, .slice g3 W.tabs.length d3, .slice g4 W.res.length d4], rB kc 40 [.slice none 0 0, .slice none 0 0, .slice none 0 0, .slice none 0 0], rI (.slice s1 cols.length k1) cols, rB kt 119 [.slice s1 cols.length k1, .slice none 0 0, .slice s' (m + 1) c']]) ++ rS (.slice s' (m + 1) c') (xs ++ [.slice (some ⟨wr.heap.size, 0, none⟩) 0 0]) :: (rVs (xs ++ [.slice (some ⟨wr.heap.size, 0, none⟩) 0 0]) (List.replicate (m + 1) []) ++ rW ⟨.slice g1 W.gens.length d1, .slice g2 W.free.length d2, .slice g3 W.tabs.length d3, .slice g4 W.res.length d4, ts⟩ W)) := by
   have h := Rs.setB (P ++ [rB ka 40 [.slice g1 W.gens.length d1, .slice g2 W.free.length d2, .slice g3 W.tabs.length d3, .slice g4 W.res.length d4], rB kc 40 [.slice none 0 0, .slice none 0 0, .slice none 0 0, .slice none 0 0], rI (.slice s1 cols.length k1) cols]) _ 2 (.slice s' (m + 1) c') (by simpa only [List.append_assoc, List.cons_append, List.nil_append] using hR9)
   have e1 : rVs (xs ++ [.slice (some ⟨wr.heap.size, 0, none⟩) 0 0]) (List.replicate (m + 1) []) = rVs xs (List.replicate m []) ++ [rV (.slice (some ⟨wr.heap.size, 0, none⟩) 0 0) []] := by
    unfold rVs
    rw [List.replicate_succ', List.zipWith_append (by rw [List.length_replicate]; exact HXL.out)]
    rfl
   rw [e1]
   simpa only [List.append_assoc, List.cons_append, List.nil_append, List.set_cons_zero, List.set_cons_succ] using h
  have H10 := Hid.mk' h10
  have KT9 := (show Blk w9 kt #[.slice s1 cols.length k1, .slice none 0 0, .slice sx m cx] 119 from rB_blk (hR9.o.on (rB kt 119 [.slice s1 cols.length k1, .slice none 0 0, .slice sx m cx]) (by simp)))
  have q2 := KT9.cell 2
  have qf := KT9.frozen
  clear h10 hR9 HR3 HNW HON1 HFE HM1 HM2 HN1 y0 y1 y2 y3 KT9; go_wp2_with fail; go_roundw
  case rel => exact ⟨m + 1, s', c', xs ++ [.slice (some ⟨wr.heap.size, 0, none⟩) 0 0], by omega, by go_num, by rw [List.length_append, HXL.out]; rfl, H10.out⟩
  case measure => simp [intOf]; omega
 have hme : m = cols.length := by omega
 subst hme
 have HXL := Hid.mk' hN.out.1
 have HRm := Hid.mk' hN.out.2
 clear hN; obtain ⟨y0, y1, y2, y3⟩ := (show Blk wr kt #[.slice s1 cols.length k1, .slice none 0 0, .slice sx cols.length cx] 119 from rB_blk (HRm.out.o.on (rB kt 119 [.slice s1 cols.length k1, .slice none 0 0, .slice sx cols.length cx]) (by simp))).three'
 obtain ⟨x0, x1, x2, x3, x4⟩ := (show Blk wr ka #[.slice g1 W.gens.length d1, .slice g2 W.free.length d2, .slice g3 W.tabs.length d3, .slice g4 W.res.length d4] 40 from rB_blk (HRm.out.o.on (rB ka 40 [.slice g1 W.gens.length d1, .slice g2 W.free.length d2, .slice g3 W.tabs.length d3, .slice g4 W.res.length d4]) (by simp))).four'
 obtain ⟨iT, hiT, hzT, hsT, hbT⟩ := info_parts Tryz.infoT
 have HLEN : Hid (ts.length = W.tabs.length) := HF.out.len
 have HR3 : Hid (Rs X B (wr.alloc (.cells #[.slice s1 cols.length k1, .slice none 0 0, .slice sx cols.length cx] 119)) (((P ++ [rB ka 40 [.slice g1 W.gens.length d1, .slice g2 W.free.length d2, .slice g3 W.tabs.length d3, .slice g4 W.res.length d4], rB kc 40 [.slice none 0 0, .slice none 0 0, .slice none 0 0, .slice none 0 0], rI (.slice s1 cols.length k1) cols, rB kt 119 [.slice s1 cols.length k1, .slice none 0 0, .slice sx cols.length cx]]) ++ rS (.slice sx cols.length cx) xs :: (rVs xs (List.replicate cols.length []) ++ [rI (.slice g1 W.gens.length d1) W.gens, rI (.slice g2 W.free.length d2) W.free])) ++ rT (.slice g3 W.tabs.length d3) ts :: (rV (.slice g4 W.res.length d4) W.res :: rTabs ts W.tabs))) := by
  show Rs _ _ _ _
  have h := HRm.out.later (bl_alloc (Below.refl _ _) (.cells #[.slice s1 cols.length k1, .slice none 0 0, .slice sx cols.length cx] 119))
  simp only [rW, List.append_assoc, List.cons_append, List.nil_append] at h ⊢
  exact h
 have HNW : Hid (∀ (j : Nat) (u : Value), [Value.slice s1 cols.length k1, .slice none 0 0, .slice sx cols.length cx][j]? = some u → (wr.alloc (.cells #[.slice s1 cols.length k1, .slice none 0 0, .slice sx cols.length cx] 119)).cell? ((⟨wr.heap.size, 0, none⟩ : Addr).add j) = some u) := by
  intro j u hj
  have hb := Blk.new wr #[.slice s1 cols.length k1, .slice none 0 0, .slice sx cols.length cx] 119
  match j, hj with
  | 0, hj => simp at hj; subst hj; exact hb.cell 0
  | 1, hj => simp at hj; subst hj; exact hb.cell 1
  | 2, hj => simp at hj; subst hj; exact hb.cell 2
 have HON1 : Hid (∀ u ∈ [Value.slice s1 cols.length k1, .slice none 0 0, .slice sx cols.length cx], u.oneCell' = true) := by
  intro u hu
  simp only [List.mem_cons, List.not_mem_nil, or_false] at hu
  rcases hu with rfl | rfl | rfl <;> rfl
 have HM1 : Hid ((rT (.slice g3 W.tabs.length d3) ts).n + 1 ≤ maxLen) := by show ts.length + 1 ≤ _; rw [HLEN.out]; unfold maxLen; omega
 have HM2 : Hid (((rT (.slice g3 W.tabs.length d3) ts).n + 1) * 72 ≤ 140737488355328) := by show (ts.length + 1) * 72 ≤ _; rw [HLEN.out]; omega
 have HN1 : Hid ((rT (.slice g3 W.tabs.length d3) ts).n + 1 = W.tabs.length + 1) := by show ts.length + 1 = _; rw [HLEN.out]
 have HFE : Hid (∀ v : Value, (fun v => rT v (ts ++ [(⟨.slice s1 cols.length k1, .slice none 0 0, .slice sx cols.length cx, xs⟩ : TV)])) v = ⟨(rT (.slice g3 W.tabs.length d3) ts).T, (rT (.slice g3 W.tabs.length d3) ts).k, v, W.tabs.length + 1, (rT (.slice g3 W.tabs.length d3) ts).cs ++ [Value.slice s1 cols.length k1, .slice none 0 0, .slice sx cols.length cx]⟩) := by
  intro v
  show rT v (ts ++ [_]) = _
  unfold rT
  rw [List.length_append, HLEN.out, List.flatMap_append]
  rfl
 have tw : IntKind.i64.wrap (((W.tabs.length + 1 : Nat) : Int) - 1) = (W.tabs.length : Int) := by rw [IntKind.wrap_i64]; omega
 clear HRm; go_wp2_with (at_builtin; refine wpList_appR (carr_Rs X B) _ rfl (.tmp 48) (.tmp 50) 37 rfl ((P ++ [rB ka 40 [.slice g1 W.gens.length d1, .slice g2 W.free.length d2, .slice g3 W.tabs.length d3, .slice g4 W.res.length d4], rB kc 40 [.slice none 0 0, .slice none 0 0, .slice none 0 0, .slice none 0 0], rI (.slice s1 cols.length k1) cols, rB kt 119 [.slice s1 cols.length k1, .slice none 0 0, .slice sx cols.length cx]]) ++ rS (.slice sx cols.length cx) xs :: (rVs xs (List.replicate cols.length []) ++ [rI (.slice g1 W.gens.length d1) W.gens, rI (.slice g2 W.free.length d2) W.free])) (rV (.slice g4 W.res.length d4) W.res :: rTabs ts W.tabs) (r := rT (.slice g3 W.tabs.length d3) ts) HR3.out 72 Tryz.underlying37 hiT hzT hsT hbT rfl (Nat.zero_lt_succ 2) rfl ⟨wr.heap.size, 0, none⟩ 1 1 rfl [Value.slice s1 cols.length k1, .slice none 0 0, .slice sx cols.length cx] rfl HNW.out HON1.out HM1.out HM2.out (W.tabs.length + 1) HN1.out (fun v => rT v (ts ++ [(⟨.slice s1 cols.length k1, .slice none 0 0, .slice sx cols.length cx, xs⟩ : TV)])) HFE.out ?_)
 intro s' c' w9 hR9
 have KA9 := (show Blk w9 ka #[.slice g1 W.gens.length d1, .slice g2 W.free.length d2, .slice g3 W.tabs.length d3, .slice g4 W.res.length d4] 40 from rB_blk (hR9.o.on (rB ka 40 [.slice g1 W.gens.length d1, .slice g2 W.free.length d2, .slice g3 W.tabs.length d3, .slice g4 W.res.length d4]) (by simp)))
 obtain ⟨x0, x1, x2, x3, x4⟩ := KA9.four'
 obtain ⟨z0, z1, z2, z3, z4⟩ := (show Blk w9 kc #[.slice none 0 0, .slice none 0 0, .slice none 0 0, .slice none 0 0] 40 from rB_blk (hR9.o.on (rB kc 40 [.slice none 0 0, .slice none 0 0, .slice none 0 0, .slice none 0 0]) (by simp))).four'
 have hac : ¬ ka = kc := own_ne (P := P) (r := rB ka 40 [.slice g1 W.gens.length d1, .slice g2 W.free.length d2, .slice g3 W.tabs.length d3, .slice g4 W.res.length d4]) (q := rB kc 40 [.slice none 0 0, .slice none 0 0, .slice none 0 0, .slice none 0 0]) (by have h := hR9.o; (try simp only [List.append_assoc, List.cons_append, List.nil_append] at h); exact h) rfl (by simp) rfl
 have hca : ¬ kc = ka := fun h => hac h.symm
 have h8 : Rs X B w9 (P ++ rB ka 40 [.slice g1 W.gens.length d1, .slice g2 W.free.length d2, .slice g3 W.tabs.length d3, .slice g4 W.res.length d4] :: (rB kc 40 [.slice none 0 0, .slice none 0 0, .slice none 0 0, .slice none 0 0] :: rI (.slice s1 cols.length k1) cols :: rB kt 119 [.slice s1 cols.length k1, .slice none 0 0, .slice sx cols.length cx] :: rS (.slice sx cols.length cx) xs :: (rVs xs (List.replicate cols.length []) ++ ([rI (.slice g1 W.gens.length d1) W.gens, rI (.slice g2 W.free.length d2) W.free, rT (.slice s' (W.tabs.length + 1) c') (ts ++ [⟨.slice s1 cols.length k1, .slice none 0 0, .slice sx cols.length cx, xs⟩]), rV (.slice g4 W.res.length d4) W.res] ++ rTabs ts W.tabs)))) := by simpa only [List.append_assoc, List.cons_append, List.nil_append] using hR9
 have h9 := Rs.less P _ (Rs.setB P _ 2 (.slice s' (W.tabs.length + 1) c') h8)
 have h10 := Rs.less P _ (Rs.setB _ _ 3 (.slice g4 W.res.length d4) (Rs.setB _ _ 2 (.slice s' (W.tabs.length + 1) c') (Rs.setB _ _ 1 (.slice g2 W.free.length d2) (Rs.setB _ _ 0 (.slice g1 W.gens.length d1) h9))))
 have h11 := Rs.less (P ++ [rI (.slice s1 cols.length k1) cols]) (rS (.slice sx cols.length cx) xs :: (rVs xs (List.replicate cols.length []) ++ ([rI (.slice g1 W.gens.length d1) W.gens, rI (.slice g2 W.free.length d2) W.free, rT (.slice s' (W.tabs.length + 1) c') (ts ++ [⟨.slice s1 cols.length k1, .slice none 0 0, .slice sx cols.length cx, xs⟩]), rV (.slice g4 W.res.length d4) W.res] ++ rTabs ts W.tabs))) (r := rB kt 119 [.slice s1 cols.length k1, .slice none 0 0, .slice sx cols.length cx]) (by simpa only [List.append_assoc, List.cons_append, List.nil_append] using h10)
 have hLl : L.length = cols.length := by rw [← HCO.out, List.length_map]
 have h12 := Rs.newTab2 (X := X) (B := B) (P := P) (L := L) (xs := xs) HLEN.out (by rw [HCO.out, hLl]; simpa only [List.append_assoc, List.cons_append, List.nil_append] using h11)
 have HAP : Hid ((apW W (newT L)).tabs.length = W.tabs.length + 1) := by show (W.tabs ++ [newT L]).length = _; simp
 have HGA : Hid (GoA W (apW W (newT L)) (newT L) L W.tabs.length) := by
  refine ⟨?_, rfl, Or.inr ⟨rfl, rfl, rfl, by rw [HCO.out]; exact HNO.out, HH4.out⟩⟩
  show (W.tabs ++ [newT L])[W.tabs.length]? = _
  simp
 have H12 : Hid (Rs X B _ (P ++ rW ⟨.slice g1 W.gens.length d1, .slice g2 W.free.length d2, .slice s' (W.tabs.length + 1) c', .slice g4 W.res.length d4, ts ++ [⟨.slice s1 cols.length k1, .slice none 0 0, .slice sx cols.length cx, xs⟩]⟩ (apW W (newT L)))) := h12
 have HFN : Hid (OWf ⟨.slice g1 W.gens.length d1, .slice g2 W.free.length d2, .slice s' (W.tabs.length + 1) c', .slice g4 W.res.length d4, ts ++ [⟨.slice s1 cols.length k1, .slice none 0 0, .slice sx cols.length cx, xs⟩]⟩ (apW W (newT L))) := owf_new2 HF.out (by rw [hLl]; exact HXL.out)
 have xf := KA9.frozen
 clear h8 h9 h10 h11 h12 hR9 HR3 HNW HON1 HM1 HM2 HN1 HFE KA9 y0 y1 y2 y3; go_upto_region 14 with fail
 go_region
 all_goals
  go_wp2_with fail; refine bodyPost_ret (v := .tuple #[.agg #[.slice g1 W.gens.length d1, .slice g2 W.free.length d2, .slice s' (W.tabs.length + 1) c', .slice g4 W.res.length d4], .int .i64 (W.tabs.length : Int)]) (by simp [results, Tryz.results62, go_sem, z0, z1, z2, z3]) rfl (Or.inr ⟨W.tabs.length, newT L, apW W (newT L), s', c', ts ++ [⟨.slice s1 cols.length k1, .slice none 0 0, .slice sx cols.length cx, xs⟩], ?_, HGA.out, ?_, ?_⟩)
  ·
   rw [HAP.out]
  ·
   rw [HAP.out]; exact HFN.out
  rw [HAP.out]; exact H12.out.drew
end Go.Proofs.YtbgeobpdojmdaaaGreat
