import Derived.Test.YtbgeobpdojmdaaaGreatSq40
namespace Go.Proofs.YtbgeobpdojmdaaaGreat
open Go.RowKit Go.Maps Go.WideMaps
set_option linter.unusedVariables false
set_option linter.unusedSimpArgs false
set_option maxRecDepth 100000
theorem perm_sp {α : Type} (P A M S : List α) (x y u v : α) : (P ++ (A ++ (x :: y :: (M ++ (u :: v :: S))))).Perm (P ++ (A ++ (M ++ (u :: v :: x :: y :: S)))) := by
 refine List.Perm.append_left P (List.Perm.append_left A ?_)
 have h := List.perm_append_comm_assoc [x, y] (M ++ [u, v]) S
 simpa only [List.append_assoc, List.cons_append, List.nil_append] using h
def SpA (W : Wd) (L : List C5) (W' : Wd) (e : E2) (code : Int) : Prop :=
 ((¬ (tk W.gens W.free).2.2.2 = 0 ∨ ((∀ t ∈ W.tabs, ¬ t.cols = L.map (·.1)) ∧ W.tabs.length = 40)) ∧ W' = W ∧ e = (0, 0) ∧ code = 3) ∨
 ((tk W.gens W.free).2.2.2 = 0 ∧ ∃ (i : Nat) (T1 : Tab) (W1 : Wd), GoA W W1 T1 L i ∧ W' = setW ⟨(tk W.gens W.free).1, (tk W.gens W.free).2.1, W1.tabs, W1.res⟩ i (addT T1 (tk W.gens W.free).2.2.1 L) ∧ e = (tk W.gens W.free).2.2.1 ∧ code = 0)
set_option maxHeartbeats 16000000 in
theorem l4Spawn_any {X : World} {B : Nat} (P : List OR) (g1 g2 g3 g4 : Option Addr) (d1 d2 d3 d4 : Nat) (ts : List TV) (W : Wd) (sc : Option Addr) (cc : Nat) (L : List C5) (w : World) (hR : Rs X B w (P ++ rW ⟨.slice g1 W.gens.length d1, .slice g2 W.free.length d2, .slice g3 W.tabs.length d3, .slice g4 W.res.length d4, ts⟩ W)) (hF : OWf ⟨.slice g1 W.gens.length d1, .slice g2 W.free.length d2, .slice g3 W.tabs.length d3, .slice g4 W.res.length d4, ts⟩ W) (hk : kW W) (hC : rC (.slice sc L.length cc) L ∈ P) (okL : okCs L) (lL : L.length ≤ 1000) (hcl : ∀ T ∈ W.tabs, T.cells.length = T.cols.length) (hrl : ∀ T ∈ W.tabs, T.rows.length ≤ 100000) (hll : ∀ T ∈ W.tabs, ∀ M ∈ T.cells, M.length ≤ 100000) (h40 : W.tabs.length ≤ 40) (hok : okE W.gens W.free = true) :
  Calls Tryz.prog 27 #[.agg #[.slice g1 W.gens.length d1, .slice g2 W.free.length d2, .slice g3 W.tabs.length d3, .slice g4 W.res.length d4], .slice sc L.length cc] w fun r w' => ∃ (V' : WV) (W' : Wd) (e : E2) (code : Int), r = .returned (.tuple #[.agg #[V'.g, V'.f, V'.t, V'.r], .agg #[.int .i64 e.1, .int .i64 e.2], .int .i64 code]) ∧ Rs X B w' (P ++ rW V' W') ∧ OWf V' W' ∧ SpA W L W' e code := by
 have hal := alloc_old
 have haf := alloc_oldf
 have hr0 : Rs X B (((w.alloc (.cells #[.slice g1 W.gens.length d1, .slice g2 W.free.length d2, .slice g3 W.tabs.length d3, .slice g4 W.res.length d4] 40)).alloc (.cells #[.slice none 0 0, .slice none 0 0, .slice none 0 0, .slice none 0 0] 40)).alloc (.cells #[.int .i64 0, .int .i64 0] 42)) ((P ++ [rB w.heap.size 40 [.slice g1 W.gens.length d1, .slice g2 W.free.length d2, .slice g3 W.tabs.length d3, .slice g4 W.res.length d4], rB (w.heap.size + 1) 40 [.slice none 0 0, .slice none 0 0, .slice none 0 0, .slice none 0 0], rB (w.heap.size + 1 + 1) 42 [.int .i64 0, .int .i64 0]]) ++ rW ⟨.slice g1 W.gens.length d1, .slice g2 W.free.length d2, .slice g3 W.tabs.length d3, .slice g4 W.res.length d4, ts⟩ W) := by
  have h1 := Rs.ins P _ hR (bl_alloc (Below.refl _ _) (.cells #[.slice g1 W.gens.length d1, .slice g2 W.free.length d2, .slice g3 W.tabs.length d3, .slice g4 W.res.length d4] 40)) (blk_rB (cs := [.slice g1 W.gens.length d1, .slice g2 W.free.length d2, .slice g3 W.tabs.length d3, .slice g4 W.res.length d4]) (Blk.new w _ _) (Nat.le_refl _))
  have h2 := Rs.ins (P ++ [rB w.heap.size 40 [.slice g1 W.gens.length d1, .slice g2 W.free.length d2, .slice g3 W.tabs.length d3, .slice g4 W.res.length d4]]) (rW ⟨.slice g1 W.gens.length d1, .slice g2 W.free.length d2, .slice g3 W.tabs.length d3, .slice g4 W.res.length d4, ts⟩ W) (by simpa only [List.append_assoc, List.cons_append, List.nil_append] using h1) (bl_alloc (Below.refl _ _) (.cells #[.slice none 0 0, .slice none 0 0, .slice none 0 0, .slice none 0 0] 40)) (blk_rB (cs := [.slice none 0 0, .slice none 0 0, .slice none 0 0, .slice none 0 0]) (Blk.new _ _ _) (Nat.le_refl _))
  have h3 := Rs.ins (P ++ [rB w.heap.size 40 [.slice g1 W.gens.length d1, .slice g2 W.free.length d2, .slice g3 W.tabs.length d3, .slice g4 W.res.length d4], rB (w.alloc (.cells #[.slice g1 W.gens.length d1, .slice g2 W.free.length d2, .slice g3 W.tabs.length d3, .slice g4 W.res.length d4] 40)).heap.size 40 [.slice none 0 0, .slice none 0 0, .slice none 0 0, .slice none 0 0]]) (rW ⟨.slice g1 W.gens.length d1, .slice g2 W.free.length d2, .slice g3 W.tabs.length d3, .slice g4 W.res.length d4, ts⟩ W) (by simpa only [List.append_assoc, List.cons_append, List.nil_append] using h2) (bl_alloc (Below.refl _ _) (.cells #[.int .i64 0, .int .i64 0] 42)) (blk_rB (cs := [.int .i64 0, .int .i64 0]) (Blk.new _ _ _) (Nat.le_refl _))
  simp only [World.size_alloc] at h3
  simpa only [List.append_assoc, List.cons_append, List.nil_append] using h3
 have HR0 := Hid.mk' hr0
 have HF := Hid.mk' hF
 have HC := Hid.mk' hC
 have HK := Hid.mk' hk
 have HSZ := Hid.mk' (And.intro hcl (And.intro hrl hll))
 have hok' : W.gens.length ≤ 2000 ∧ (∀ f ∈ W.free, 0 ≤ f ∧ f < (W.gens.length : Int)) ∧ W.free.length ≤ 2000 := by
  have h2 := okE_len hok
  simp only [okE, decide_eq_true_eq] at hok
  exact ⟨h2.1, hok.2.2.1, h2.2⟩
 have HOK := Hid.mk' hok'
 go_enter Tryz.func27, Tryz.ntmps27
 go_upto_region 1 with fail
 generalize hX0 : (((w.alloc (.cells #[.slice g1 W.gens.length d1, .slice g2 W.free.length d2, .slice g3 W.tabs.length d3, .slice g4 W.res.length d4] 40)).alloc (.cells #[.slice none 0 0, .slice none 0 0, .slice none 0 0, .slice none 0 0] 40)).alloc (.cells #[.int .i64 0, .int .i64 0] 42)) = X0 at HR0 ⊢
 generalize hka : w.heap.size = ka at HR0 ⊢
 generalize hkc : ka + 1 = kc at HR0 ⊢
 generalize hke : kc + 1 = ke at HR0 ⊢
 clear hX0 hka hkc hke hr0 hR hF hC hcl hrl hll hok hok'; obtain ⟨x0, x1, x2, x3, x4⟩ := (show Blk X0 ka #[.slice g1 W.gens.length d1, .slice g2 W.free.length d2, .slice g3 W.tabs.length d3, .slice g4 W.res.length d4] 40 from rB_blk (HR0.out.o.on (rB ka 40 [.slice g1 W.gens.length d1, .slice g2 W.free.length d2, .slice g3 W.tabs.length d3, .slice g4 W.res.length d4]) (by simp))).four'
 have hI := inW_of (HF.out.ow HR0.out.o.right)
 go_wp2_with fail; refine (l2Copy_new g1 g2 d1 d2 W.gens W.free B X0 hI.g hI.f hk.1 hk.2.1).mono ?_
 rintro r w1 ⟨⟨sa, ca, sb, cb, rfl, hO1⟩, hb1⟩
 have HR1 : Hid (Rs X B w1 ((P ++ [rB ka 40 [.slice g1 W.gens.length d1, .slice g2 W.free.length d2, .slice g3 W.tabs.length d3, .slice g4 W.res.length d4], rB kc 40 [.slice none 0 0, .slice none 0 0, .slice none 0 0, .slice none 0 0], rB ke 42 [.int .i64 0, .int .i64 0]]) ++ rI (.slice sa W.gens.length ca) W.gens :: (rI (.slice sb W.free.length cb) W.free :: rW ⟨.slice g1 W.gens.length d1, .slice g2 W.free.length d2, .slice g3 W.tabs.length d3, .slice g4 W.res.length d4, ts⟩ W))) := Rs.insM (P ++ [rB ka 40 [.slice g1 W.gens.length d1, .slice g2 W.free.length d2, .slice g3 W.tabs.length d3, .slice g4 W.res.length d4], rB kc 40 [.slice none 0 0, .slice none 0 0, .slice none 0 0, .slice none 0 0], rB ke 42 [.int .i64 0, .int .i64 0]]) [rI (.slice sa W.gens.length ca) W.gens, rI (.slice sb W.free.length cb) W.free] (rW ⟨.slice g1 W.gens.length d1, .slice g2 W.free.length d2, .slice g3 W.tabs.length d3, .slice g4 W.res.length d4, ts⟩ W) HR0.out hb1 hO1
 clear hO1 hb1 HR0 x0 x1 x2 x3 x4 hI hk; go_wp2_with fail; refine (l2Take_own (P ++ [rB ka 40 [.slice g1 W.gens.length d1, .slice g2 W.free.length d2, .slice g3 W.tabs.length d3, .slice g4 W.res.length d4], rB kc 40 [.slice none 0 0, .slice none 0 0, .slice none 0 0, .slice none 0 0], rB ke 42 [.int .i64 0, .int .i64 0]]) (rW ⟨.slice g1 W.gens.length d1, .slice g2 W.free.length d2, .slice g3 W.tabs.length d3, .slice g4 W.res.length d4, ts⟩ W) sa ca sb cb W.gens W.free w1 HR1.out HOK.out.2.1 HOK.out.1 HOK.out.2.2).mono ?_
 rintro r w2 ⟨sg', cg', sf', cf', rfl, hR2⟩
 obtain ⟨⟨G', F', e, cd⟩, htk⟩ : ∃ o, Hid (tk W.gens W.free = o) := ⟨_, rfl⟩
 rw [htk.out] at hR2 ⊢
 dsimp only at hR2 ⊢
 have HR2 := Hid.mk' hR2
 clear hR2 HR1; have HR3 : Hid (Rs X B ((w2.alloc (.cells #[.slice sg' G'.length cg', .slice sf' F'.length cf'] 36)).alloc (.cells #[.int .i64 e.1, .int .i64 e.2] 42)) ((P ++ [rB ka 40 [.slice g1 W.gens.length d1, .slice g2 W.free.length d2, .slice g3 W.tabs.length d3, .slice g4 W.res.length d4], rB kc 40 [.slice none 0 0, .slice none 0 0, .slice none 0 0, .slice none 0 0], rB ke 42 [.int .i64 0, .int .i64 0], rI (.slice sg' G'.length cg') G', rI (.slice sf' F'.length cf') F', rB w2.heap.size 36 [.slice sg' G'.length cg', .slice sf' F'.length cf'], rB (w2.heap.size + 1) 42 [.int .i64 e.1, .int .i64 e.2]]) ++ rW ⟨.slice g1 W.gens.length d1, .slice g2 W.free.length d2, .slice g3 W.tabs.length d3, .slice g4 W.res.length d4, ts⟩ W)) := by
  show Rs _ _ _ _
  have h1 := Rs.ins (P ++ [rB ka 40 [.slice g1 W.gens.length d1, .slice g2 W.free.length d2, .slice g3 W.tabs.length d3, .slice g4 W.res.length d4], rB kc 40 [.slice none 0 0, .slice none 0 0, .slice none 0 0, .slice none 0 0], rB ke 42 [.int .i64 0, .int .i64 0], rI (.slice sg' G'.length cg') G', rI (.slice sf' F'.length cf') F']) (rW ⟨.slice g1 W.gens.length d1, .slice g2 W.free.length d2, .slice g3 W.tabs.length d3, .slice g4 W.res.length d4, ts⟩ W) (by simpa only [List.append_assoc, List.cons_append, List.nil_append] using HR2.out) (bl_alloc (Below.refl _ _) (.cells #[.slice sg' G'.length cg', .slice sf' F'.length cf'] 36)) (blk_rB (cs := [.slice sg' G'.length cg', .slice sf' F'.length cf']) (Blk.new w2 _ _) (Nat.le_refl _))
  have h2 := Rs.ins (P ++ [rB ka 40 [.slice g1 W.gens.length d1, .slice g2 W.free.length d2, .slice g3 W.tabs.length d3, .slice g4 W.res.length d4], rB kc 40 [.slice none 0 0, .slice none 0 0, .slice none 0 0, .slice none 0 0], rB ke 42 [.int .i64 0, .int .i64 0], rI (.slice sg' G'.length cg') G', rI (.slice sf' F'.length cf') F', rB w2.heap.size 36 [.slice sg' G'.length cg', .slice sf' F'.length cf']]) (rW ⟨.slice g1 W.gens.length d1, .slice g2 W.free.length d2, .slice g3 W.tabs.length d3, .slice g4 W.res.length d4, ts⟩ W) (by simpa only [List.append_assoc, List.cons_append, List.nil_append] using h1) (bl_alloc (Below.refl _ _) (.cells #[.int .i64 e.1, .int .i64 e.2] 42)) (blk_rB (cs := [.int .i64 e.1, .int .i64 e.2]) (Blk.new _ _ _) (Nat.le_refl _))
  simp only [World.size_alloc] at h2
  simpa only [List.append_assoc, List.cons_append, List.nil_append] using h2
 clear HR2; go_upto_region 2 with fail
 generalize hX3 : ((w2.alloc (.cells #[.slice sg' G'.length cg', .slice sf' F'.length cf'] 36)).alloc (.cells #[.int .i64 e.1, .int .i64 e.2] 42)) = X3 at HR3 ⊢
 generalize hkp : w2.heap.size = kp at HR3 ⊢
 generalize hkq : kp + 1 = kq at HR3 ⊢
 clear hX3 hkp hkq; by_cases hcd : cd = 0
 ·
  subst hcd
  have HR4 : Hid (Rs X B (X3.alloc (.cells #[] 3)) ((P ++ [rB ka 40 [.slice g1 W.gens.length d1, .slice g2 W.free.length d2, .slice g3 W.tabs.length d3, .slice g4 W.res.length d4], rB kc 40 [.slice none 0 0, .slice none 0 0, .slice none 0 0, .slice none 0 0], rB ke 42 [.int .i64 0, .int .i64 0], rI (.slice sg' G'.length cg') G', rI (.slice sf' F'.length cf') F', rB kp 36 [.slice sg' G'.length cg', .slice sf' F'.length cf'], rB kq 42 [.int .i64 e.1, .int .i64 e.2]]) ++ rI (.slice (some ⟨X3.heap.size, 0, none⟩) 0 0) [] :: rW ⟨.slice g1 W.gens.length d1, .slice g2 W.free.length d2, .slice g3 W.tabs.length d3, .slice g4 W.res.length d4, ts⟩ W)) := Rs.ins (P ++ [rB ka 40 [.slice g1 W.gens.length d1, .slice g2 W.free.length d2, .slice g3 W.tabs.length d3, .slice g4 W.res.length d4], rB kc 40 [.slice none 0 0, .slice none 0 0, .slice none 0 0, .slice none 0 0], rB ke 42 [.int .i64 0, .int .i64 0], rI (.slice sg' G'.length cg') G', rI (.slice sf' F'.length cf') F', rB kp 36 [.slice sg' G'.length cg', .slice sf' F'.length cf'], rB kq 42 [.int .i64 e.1, .int .i64 e.2]]) (rW ⟨.slice g1 W.gens.length d1, .slice g2 W.free.length d2, .slice g3 W.tabs.length d3, .slice g4 W.res.length d4, ts⟩ W) HR3.out (bl_alloc (Below.refl _ _) _) (rI_nil X3)
  clear HR3; go_wp2_with fail; go_loopw [10, 11] (fun u i' wr => ∃ (m cb c' : Nat), m ≤ L.length ∧ i' = .int .i64 m ∧ u = .slice (some ⟨cb, 0, none⟩) m c' ∧ Hid (Rs X B wr ((P ++ [rB ka 40 [.slice g1 W.gens.length d1, .slice g2 W.free.length d2, .slice g3 W.tabs.length d3, .slice g4 W.res.length d4], rB kc 40 [.slice none 0 0, .slice none 0 0, .slice none 0 0, .slice none 0 0], rB ke 42 [.int .i64 0, .int .i64 0], rI (.slice sg' G'.length cg') G', rI (.slice sf' F'.length cf') F', rB kp 36 [.slice sg' G'.length cg', .slice sf' F'.length cf'], rB kq 42 [.int .i64 e.1, .int .i64 e.2]]) ++ rI (.slice (some ⟨cb, 0, none⟩) m c') ((L.take m).map (·.1)) :: rW ⟨.slice g1 W.gens.length d1, .slice g2 W.free.length d2, .slice g3 W.tabs.length d3, .slice g4 W.res.length d4, ts⟩ W))) (fun _ i' _ => L.length - (intOf i').toNat)
  case atStart => exact ⟨0, X3.heap.size, 0, Nat.zero_le _, rfl, rfl, HR4.out⟩
  clear HR4; obtain ⟨m, cb, c', hm, rfl, rfl, hN⟩ := hrel
  by_cases hlt : m < L.length
  ·
   obtain ⟨c, ha⟩ := get_some hlt
   obtain ⟨qb, qo, rfl, _, hp, okc, e0, e1, e2, e3, e4⟩ := eCell_cells (rC_els (hN.out.o.on _ (List.mem_append_left _ (List.mem_append_left _ HC.out))) okL) ha
   obtain ⟨iI, hiI, hzI, hsI, hbI⟩ := info_parts Tryz.infoI
   have m0 : (0 : Int) ≤ (m : Int) := by omega
   have m1 : (m : Int) < (L.length : Int) := by omega
   obtain ⟨J, hJ⟩ : ∃ J, Hid ((L.take m).map (·.1) = J) := ⟨_, rfl⟩
   have HJL : Hid (J.length = m) := by show _ = _; rw [← hJ.out, List.length_map, List.length_take]; omega
   have HJ1 : Hid ((L.take (m + 1)).map (·.1) = J ++ [c.1]) := by show _ = _; rw [List.take_add_one, ha, List.map_append, hJ.out]; rfl
   rw [hJ.out] at hN
   have HR3 := Hid.mk' (hN.out.later (bl_alloc (Below.refl _ wr) (.cells #[.int .i64 c.1] 3)))
   have HNW : Hid (∀ (j : Nat) (u : Value), [Value.int .i64 c.1][j]? = some u → (wr.alloc (.cells #[.int .i64 c.1] 3)).cell? ((⟨wr.heap.size, 0, none⟩ : Addr).add j) = some u) := by
    intro j u hj
    have hb := Blk.new wr #[.int .i64 c.1] 3
    match j, hj with
    | 0, hj => simp at hj; subst hj; exact hb.cell 0
   have HON1 : Hid (∀ u ∈ [Value.int .i64 c.1], u.oneCell' = true) := by intro u hu; simp at hu; subst hu; rfl
   have HFE : Hid (∀ v : Value, (fun v => rI v (J ++ [c.1])) v = ⟨(rI (.slice (some ⟨cb, 0, none⟩) m c') J).T, (rI (.slice (some ⟨cb, 0, none⟩) m c') J).k, v, m + 1, (rI (.slice (some ⟨cb, 0, none⟩) m c') J).cs ++ [.int .i64 c.1]⟩) := by
    intro v
    show rI v (J ++ [c.1]) = _
    unfold rI
    rw [List.length_append, List.map_append, HJL.out]
    rfl
   have HM1 : Hid ((rI (.slice (some ⟨cb, 0, none⟩) m c') J).n + 1 ≤ maxLen) := by show J.length + 1 ≤ _; rw [HJL.out]; unfold maxLen; omega
   have HM2 : Hid (((rI (.slice (some ⟨cb, 0, none⟩) m c') J).n + 1) * 8 ≤ 140737488355328) := by show (J.length + 1) * 8 ≤ _; rw [HJL.out]; omega
   have HN1 : Hid ((rI (.slice (some ⟨cb, 0, none⟩) m c') J).n + 1 = m + 1) := by show J.length + 1 = _; rw [HJL.out]
   clear ha hN okc e1 e2 e3 e4; go_wp2_with (at_builtin; refine wpList_appR (carr_Rs X B) _ rfl (.tmp 34) (.tmp 40) 25 rfl (P ++ [rB ka 40 [.slice g1 W.gens.length d1, .slice g2 W.free.length d2, .slice g3 W.tabs.length d3, .slice g4 W.res.length d4], rB kc 40 [.slice none 0 0, .slice none 0 0, .slice none 0 0, .slice none 0 0], rB ke 42 [.int .i64 0, .int .i64 0], rI (.slice sg' G'.length cg') G', rI (.slice sf' F'.length cf') F', rB kp 36 [.slice sg' G'.length cg', .slice sf' F'.length cf'], rB kq 42 [.int .i64 e.1, .int .i64 e.2]]) (rW ⟨.slice g1 W.gens.length d1, .slice g2 W.free.length d2, .slice g3 W.tabs.length d3, .slice g4 W.res.length d4, ts⟩ W) (r := rI (.slice (some ⟨cb, 0, none⟩) m c') J) HR3.out 8 Tryz.underlying25 hiI hzI hsI hbI rfl Nat.zero_lt_one rfl ⟨wr.heap.size, 0, none⟩ 1 1 rfl [.int .i64 c.1] rfl HNW.out HON1.out HM1.out HM2.out (m + 1) HN1.out (fun v => rI v (J ++ [c.1])) HFE.out ?_)
   intro s' k' w9 hR9
   have oJ : World.ownsRow w9 B 3 1 (.slice s' (m + 1) k') (J ++ [c.1]).length ((J ++ [c.1]).map (Value.int .i64)) := hR9.o.on (rI (.slice s' (m + 1) k') (J ++ [c.1])) (by simp)
   rw [show (J ++ [c.1]).length = m + 1 by rw [List.length_append, HJL.out]; rfl] at oJ
   obtain ⟨cb', rfl⟩ := own_some oJ (by omega)
   rw [← HJ1.out] at hR9
   have HR9 := Hid.mk' hR9
   clear hR9 oJ HR3 HNW HON1 HFE HM1 HM2 HN1 e0; go_wp2_with fail; go_roundw
   case rel => exact ⟨m + 1, cb', k', by omega, by go_num, rfl, by show Rs _ _ _ _; simpa only [List.append_assoc, List.cons_append, List.nil_append] using HR9.out⟩
   case measure => simp [intOf]; omega
  have hme : m = L.length := by omega
  subst hme
  obtain ⟨cols, hcols⟩ : ∃ cols, Hid (L.map (·.1) = cols) := ⟨_, rfl⟩
  have hcl1 : Hid (cols.length = L.length) := by show _ = _; rw [← hcols.out, List.length_map]
  have HR2 := Hid.mk' hN.out
  rw [List.take_length, hcols.out, ← hcl1.out] at HR2
  have lC : cols.length ≤ 1000 := by rw [hcl1.out]; exact lL
  have HR3 : Hid (Rs X B wr ((P ++ [rB ka 40 [.slice g1 W.gens.length d1, .slice g2 W.free.length d2, .slice g3 W.tabs.length d3, .slice g4 W.res.length d4], rB kc 40 [.slice none 0 0, .slice none 0 0, .slice none 0 0, .slice none 0 0], rB ke 42 [.int .i64 0, .int .i64 0], rI (.slice sg' G'.length cg') G', rI (.slice sf' F'.length cf') F', rB kp 36 [.slice sg' G'.length cg', .slice sf' F'.length cf'], rB kq 42 [.int .i64 e.1, .int .i64 e.2], rI (.slice (some ⟨cb, 0, none⟩) cols.length c') cols]) ++ rW ⟨.slice g1 W.gens.length d1, .slice g2 W.free.length d2, .slice g3 W.tabs.length d3, .slice g4 W.res.length d4, ts⟩ W)) := by
   show Rs _ _ _ _
   simpa only [List.append_assoc, List.cons_append, List.nil_append] using HR2.out
  obtain ⟨x0, x1, x2, x3, x4⟩ := (show Blk wr ka #[.slice g1 W.gens.length d1, .slice g2 W.free.length d2, .slice g3 W.tabs.length d3, .slice g4 W.res.length d4] 40 from rB_blk (HR3.out.o.on (rB ka 40 [.slice g1 W.gens.length d1, .slice g2 W.free.length d2, .slice g3 W.tabs.length d3, .slice g4 W.res.length d4]) (by simp))).four'
  have HCT := Hid.mk' (l4Table_any (X := X) (B := B) (P ++ [rB ka 40 [.slice g1 W.gens.length d1, .slice g2 W.free.length d2, .slice g3 W.tabs.length d3, .slice g4 W.res.length d4], rB kc 40 [.slice none 0 0, .slice none 0 0, .slice none 0 0, .slice none 0 0], rB ke 42 [.int .i64 0, .int .i64 0], rI (.slice sg' G'.length cg') G', rI (.slice sf' F'.length cf') F', rB kp 36 [.slice sg' G'.length cg', .slice sf' F'.length cf'], rB kq 42 [.int .i64 e.1, .int .i64 e.2], rI (.slice (some ⟨cb, 0, none⟩) cols.length c') cols]) g1 g2 g3 g4 d1 d2 d3 d4 ts W cb c' L cols hcols.out wr HR3.out HF.out HK.out (by simp) lC h40)
  rw [hcl1.out] at HCT
  clear hN HR2 HR3; go_wp2_with fail; refine HCT.out.mono ?_
  clear HCT x0 x1 x2 x3 x4; rintro r w3 (⟨rfl, hno, h4, hR3⟩ | ⟨i, T1, W1, st, cp1, ts1, rfl, hGA, hF1, hR3⟩)
  ·
   have HMV : Hid (SpA W L W (0, 0) 3) := Or.inl ⟨Or.inr ⟨by rw [hcols.out]; exact hno, h4⟩, rfl, rfl, rfl⟩
   have HR7 : Hid (Rs X B (w3.alloc (.cells #[.slice g1 W.gens.length d1, .slice g2 W.free.length d2, .slice g3 W.tabs.length d3, .slice g4 W.res.length d4] 40)) ((P ++ [rB ka 40 [.slice g1 W.gens.length d1, .slice g2 W.free.length d2, .slice g3 W.tabs.length d3, .slice g4 W.res.length d4], rB kc 40 [.slice none 0 0, .slice none 0 0, .slice none 0 0, .slice none 0 0], rB ke 42 [.int .i64 0, .int .i64 0], rI (.slice sg' G'.length cg') G', rI (.slice sf' F'.length cf') F', rB kp 36 [.slice sg' G'.length cg', .slice sf' F'.length cf'], rB kq 42 [.int .i64 e.1, .int .i64 e.2], rI (.slice (some ⟨cb, 0, none⟩) L.length c') cols]) ++ rW ⟨.slice g1 W.gens.length d1, .slice g2 W.free.length d2, .slice g3 W.tabs.length d3, .slice g4 W.res.length d4, ts⟩ W)) := hR3.later (bl_alloc (Below.refl _ _) _)
   clear hR3 hno h4; go_upto_region 10 with fail
   generalize hX7 : w3.alloc (.cells #[.slice g1 W.gens.length d1, .slice g2 W.free.length d2, .slice g3 W.tabs.length d3, .slice g4 W.res.length d4] 40) = X7 at HR7 ⊢
   clear hX7; obtain ⟨x0, x1, x2, x3, x4⟩ := (show Blk X7 ka #[.slice g1 W.gens.length d1, .slice g2 W.free.length d2, .slice g3 W.tabs.length d3, .slice g4 W.res.length d4] 40 from rB_blk (HR7.out.o.on (rB ka 40 [.slice g1 W.gens.length d1, .slice g2 W.free.length d2, .slice g3 W.tabs.length d3, .slice g4 W.res.length d4]) (by simp))).four'
   obtain ⟨z0, z1, z2, z3, z4⟩ := (show Blk X7 kc #[.slice none 0 0, .slice none 0 0, .slice none 0 0, .slice none 0 0] 40 from rB_blk (HR7.out.o.on (rB kc 40 [.slice none 0 0, .slice none 0 0, .slice none 0 0, .slice none 0 0]) (by simp))).four'
   obtain ⟨y0, y1, y2⟩ := (show Blk X7 ke #[.int .i64 0, .int .i64 0] 42 from rB_blk (HR7.out.o.on (rB ke 42 [.int .i64 0, .int .i64 0]) (by simp))).two
   have h8 : Rs X B X7 (P ++ rB ka 40 [.slice g1 W.gens.length d1, .slice g2 W.free.length d2, .slice g3 W.tabs.length d3, .slice g4 W.res.length d4] :: (rB kc 40 [.slice none 0 0, .slice none 0 0, .slice none 0 0, .slice none 0 0] :: rB ke 42 [.int .i64 0, .int .i64 0] :: rI (.slice sg' G'.length cg') G' :: rI (.slice sf' F'.length cf') F' :: rB kp 36 [.slice sg' G'.length cg', .slice sf' F'.length cf'] :: rB kq 42 [.int .i64 e.1, .int .i64 e.2] :: rI (.slice (some ⟨cb, 0, none⟩) L.length c') cols :: rW ⟨.slice g1 W.gens.length d1, .slice g2 W.free.length d2, .slice g3 W.tabs.length d3, .slice g4 W.res.length d4, ts⟩ W)) := by simpa only [List.append_assoc, List.cons_append, List.nil_append] using HR7.out
   have hce : ¬ kc = ke := own_ne (P := P ++ [rB ka 40 [.slice g1 W.gens.length d1, .slice g2 W.free.length d2, .slice g3 W.tabs.length d3, .slice g4 W.res.length d4]]) (r := rB kc 40 [.slice none 0 0, .slice none 0 0, .slice none 0 0, .slice none 0 0]) (q := rB ke 42 [.int .i64 0, .int .i64 0]) (by have h := h8.o; simp only [List.append_assoc, List.cons_append, List.nil_append] at h ⊢; exact h) rfl (by simp) rfl
   have hec : ¬ ke = kc := fun h => hce h.symm
   have h9 := Rs.less P _ (Rs.setB _ _ 1 (.int .i64 0) (Rs.setB _ _ 0 (.int .i64 0) (Rs.less P _ (Rs.setB _ _ 3 (.slice g4 W.res.length d4) (Rs.setB _ _ 2 (.slice g3 W.tabs.length d3) (Rs.setB _ _ 1 (.slice g2 W.free.length d2) (Rs.setB _ _ 0 (.slice g1 W.gens.length d1) (Rs.less P _ h8))))))))
   have H9 := Hid.mk' ((Rs.less P _ (Rs.less P _ (Rs.less P _ (Rs.less P _ (Rs.less P _ h9))))))
   clear h8 h9 HR7; go_wp2_with fail; refine bodyPost_ret (v := .tuple #[.agg #[.slice g1 W.gens.length d1, .slice g2 W.free.length d2, .slice g3 W.tabs.length d3, .slice g4 W.res.length d4], .agg #[.int .i64 0, .int .i64 0], .int .i64 3]) (by simp [results, Tryz.results27, go_sem, z0, z1, z2, z3, y0, y1, hce, hec]) rfl ⟨⟨.slice g1 W.gens.length d1, .slice g2 W.free.length d2, .slice g3 W.tabs.length d3, .slice g4 W.res.length d4, ts⟩, W, (0, 0), 3, rfl, H9.out, HF.out, HMV.out⟩
  have HGA := Hid.mk' hGA
  have HTW := Hid.mk' hGA.tabs
  have hT1 := hGA.1
  have hcases : T1.cells.length = L.length ∧ T1.rows.length ≤ 100000 ∧ (∀ M ∈ T1.cells, M.length ≤ 100000) ∧ W1.tabs.length ≤ 41 := by
   obtain ⟨h1, h2, h3⟩ := hGA
   rcases h3 with rfl | ⟨rfl, rfl, rfl, _, _⟩
   ·
    have hm := List.mem_of_getElem? h1
    refine ⟨by rw [HSZ.out.1 T1 hm, h2, List.length_map], HSZ.out.2.1 T1 hm, HSZ.out.2.2 T1 hm, by omega⟩
   refine ⟨by simp [newT], by simp [newT], fun M hM => ?_, by show (W.tabs ++ [_]).length ≤ _; simp; omega⟩
   have hM : M ∈ List.replicate L.length ([] : List V4) := hM
   obtain rfl := (List.mem_replicate.1 hM).2
   simp
  obtain ⟨hcL, hrL, hML, hwL⟩ := hcases
  have HML := Hid.mk' hML
  have HCL := Hid.mk' hcL
  have hcl41 : T1.cells.length ≤ 1000 := by omega
  have h7 : Rs X B (w3.alloc (.cells #[.slice g1 W.gens.length d1, .slice g2 W.free.length d2, .slice st W1.tabs.length cp1, .slice g4 W.res.length d4] 40)) ((P ++ [rB ka 40 [.slice g1 W.gens.length d1, .slice g2 W.free.length d2, .slice g3 W.tabs.length d3, .slice g4 W.res.length d4], rB kc 40 [.slice none 0 0, .slice none 0 0, .slice none 0 0, .slice none 0 0], rB ke 42 [.int .i64 0, .int .i64 0], rI (.slice sg' G'.length cg') G', rI (.slice sf' F'.length cf') F', rB kp 36 [.slice sg' G'.length cg', .slice sf' F'.length cf'], rB kq 42 [.int .i64 e.1, .int .i64 e.2], rI (.slice (some ⟨cb, 0, none⟩) L.length c') cols, rB w3.heap.size 40 [.slice g1 W.gens.length d1, .slice g2 W.free.length d2, .slice st W1.tabs.length cp1, .slice g4 W.res.length d4]]) ++ rW ⟨.slice g1 W.gens.length d1, .slice g2 W.free.length d2, .slice st W1.tabs.length cp1, .slice g4 W.res.length d4, ts1⟩ W1) := by
   have h := Rs.ins (P ++ [rB ka 40 [.slice g1 W.gens.length d1, .slice g2 W.free.length d2, .slice g3 W.tabs.length d3, .slice g4 W.res.length d4], rB kc 40 [.slice none 0 0, .slice none 0 0, .slice none 0 0, .slice none 0 0], rB ke 42 [.int .i64 0, .int .i64 0], rI (.slice sg' G'.length cg') G', rI (.slice sf' F'.length cf') F', rB kp 36 [.slice sg' G'.length cg', .slice sf' F'.length cf'], rB kq 42 [.int .i64 e.1, .int .i64 e.2], rI (.slice (some ⟨cb, 0, none⟩) L.length c') cols]) _ hR3 (bl_alloc (Below.refl _ _) (.cells #[.slice g1 W.gens.length d1, .slice g2 W.free.length d2, .slice st W1.tabs.length cp1, .slice g4 W.res.length d4] 40)) (blk_rB (cs := [.slice g1 W.gens.length d1, .slice g2 W.free.length d2, .slice st W1.tabs.length cp1, .slice g4 W.res.length d4]) (Blk.new w3 _ _) (Nat.le_refl _))
   simpa only [List.append_assoc, List.cons_append, List.nil_append] using h
  have HR7 := Hid.mk' h7
  have ti0 : ¬ ((i : Int) < 0) := by omega
  clear h7 hR3 hGA hML hcL; go_upto_region 10 with fail
  generalize hX7 : w3.alloc (.cells #[.slice g1 W.gens.length d1, .slice g2 W.free.length d2, .slice st W1.tabs.length cp1, .slice g4 W.res.length d4] 40) = X7 at HR7 ⊢
  generalize hkd : w3.heap.size = kd at HR7 ⊢
  clear hX7 hkd; obtain ⟨W2, hW2⟩ : ∃ W2 : Wd, Hid (W2 = ⟨G', F', W1.tabs, W1.res⟩) := ⟨_, rfl⟩
  have HWT : Hid (W1.tabs = W2.tabs) := by show _ = _; rw [hW2.out]
  have HWR : Hid (W1.res = W2.res) := by show _ = _; rw [hW2.out]
  have HWG : Hid (G' = W2.gens) := by show _ = _; rw [hW2.out]
  have HWF : Hid (F' = W2.free) := by show _ = _; rw [hW2.out]
  have h8 : Rs X B ((X7.setCell ⟨kd, 0, none⟩ (.slice sg' G'.length cg')).setCell ⟨kd, 1, none⟩ (.slice sf' F'.length cf')) (P ++ ([rB ka 40 [.slice g1 W.gens.length d1, .slice g2 W.free.length d2, .slice g3 W.tabs.length d3, .slice g4 W.res.length d4], rB kc 40 [.slice none 0 0, .slice none 0 0, .slice none 0 0, .slice none 0 0], rB ke 42 [.int .i64 0, .int .i64 0]] ++ (rI (.slice sg' G'.length cg') G' :: rI (.slice sf' F'.length cf') F' :: ([rB kp 36 [.slice sg' G'.length cg', .slice sf' F'.length cf'], rB kq 42 [.int .i64 e.1, .int .i64 e.2], rI (.slice (some ⟨cb, 0, none⟩) L.length c') cols, rB kd 40 [.slice sg' G'.length cg', .slice sf' F'.length cf', .slice st W1.tabs.length cp1, .slice g4 W.res.length d4]] ++ (rI (.slice g1 W.gens.length d1) W1.gens :: rI (.slice g2 W.free.length d2) W1.free :: (rT (.slice st W1.tabs.length cp1) ts1 :: rV (.slice g4 W.res.length d4) W1.res :: rTabs ts1 W1.tabs)))))) := by
   have h := Rs.setB (P ++ [rB ka 40 [.slice g1 W.gens.length d1, .slice g2 W.free.length d2, .slice g3 W.tabs.length d3, .slice g4 W.res.length d4], rB kc 40 [.slice none 0 0, .slice none 0 0, .slice none 0 0, .slice none 0 0], rB ke 42 [.int .i64 0, .int .i64 0], rI (.slice sg' G'.length cg') G', rI (.slice sf' F'.length cf') F', rB kp 36 [.slice sg' G'.length cg', .slice sf' F'.length cf'], rB kq 42 [.int .i64 e.1, .int .i64 e.2], rI (.slice (some ⟨cb, 0, none⟩) L.length c') cols]) _ 1 (.slice sf' F'.length cf') (Rs.setB (P ++ [rB ka 40 [.slice g1 W.gens.length d1, .slice g2 W.free.length d2, .slice g3 W.tabs.length d3, .slice g4 W.res.length d4], rB kc 40 [.slice none 0 0, .slice none 0 0, .slice none 0 0, .slice none 0 0], rB ke 42 [.int .i64 0, .int .i64 0], rI (.slice sg' G'.length cg') G', rI (.slice sf' F'.length cf') F', rB kp 36 [.slice sg' G'.length cg', .slice sf' F'.length cf'], rB kq 42 [.int .i64 e.1, .int .i64 e.2], rI (.slice (some ⟨cb, 0, none⟩) L.length c') cols]) _ 0 (.slice sg' G'.length cg') (by simpa only [List.append_assoc, List.cons_append, List.nil_append] using HR7.out))
   simp only [rW, List.append_assoc, List.cons_append, List.nil_append] at h ⊢
   exact h
  have HR8 : Hid (Rs X B ((X7.setCell ⟨kd, 0, none⟩ (.slice sg' G'.length cg')).setCell ⟨kd, 1, none⟩ (.slice sf' F'.length cf')) ((P ++ [rB ka 40 [.slice g1 W.gens.length d1, .slice g2 W.free.length d2, .slice g3 W.tabs.length d3, .slice g4 W.res.length d4], rB kc 40 [.slice none 0 0, .slice none 0 0, .slice none 0 0, .slice none 0 0], rB ke 42 [.int .i64 0, .int .i64 0], rB kp 36 [.slice sg' G'.length cg', .slice sf' F'.length cf'], rB kq 42 [.int .i64 e.1, .int .i64 e.2], rI (.slice (some ⟨cb, 0, none⟩) L.length c') cols, rB kd 40 [.slice sg' G'.length cg', .slice sf' F'.length cf', .slice st W2.tabs.length cp1, .slice g4 W.res.length d4], rI (.slice g1 W.gens.length d1) W1.gens, rI (.slice g2 W.free.length d2) W1.free]) ++ rW ⟨.slice sg' G'.length cg', .slice sf' F'.length cf', .slice st W2.tabs.length cp1, .slice g4 W.res.length d4, ts1⟩ W2)) := by
   show Rs _ _ _ _
   have h := Rs.perm h8 (perm_sp P _ _ _ _ _ _ _)
   rw [HWT.out, HWR.out] at h
   simp only [rW, List.append_assoc, List.cons_append, List.nil_append] at h ⊢
   rw [← HWG.out, ← HWF.out]
   exact h
  have HF1 : Hid (OWf ⟨.slice sg' G'.length cg', .slice sf' F'.length cf', .slice st W2.tabs.length cp1, .slice g4 W.res.length d4, ts1⟩ W2) := by
   show OWf _ _
   rw [hW2.out]
   exact ⟨hF1.len, hF1.lens, hF1.okc, hF1.okr⟩
  obtain ⟨p0, p1, p2⟩ := (show Blk X7 kp #[.slice sg' G'.length cg', .slice sf' F'.length cf'] 36 from rB_blk (HR7.out.o.on (rB kp 36 [.slice sg' G'.length cg', .slice sf' F'.length cf']) (by simp))).two
  obtain ⟨x0, x1, x2, x3, x4⟩ := (show Blk X7 kd #[.slice g1 W.gens.length d1, .slice g2 W.free.length d2, .slice st W1.tabs.length cp1, .slice g4 W.res.length d4] 40 from rB_blk (HR7.out.o.on (rB kd 40 [.slice g1 W.gens.length d1, .slice g2 W.free.length d2, .slice st W1.tabs.length cp1, .slice g4 W.res.length d4]) (by simp))).four'
  rw [HWT.out] at hT1 hwL
  have hi1 : i < W2.tabs.length := (List.getElem?_eq_some_iff.1 hT1).1
  clear h8 HR7 hF1; go_upto_region 13 with fail
  generalize hX8 : (X7.setCell ⟨kd, 0, none⟩ (.slice sg' G'.length cg')).setCell ⟨kd, 1, none⟩ (.slice sf' F'.length cf') = X8 at HR8 ⊢
  clear hX8 x0 x1 x2 x3 x4 p0 p1 p2; obtain ⟨t, tb, cp', sr, cr, sx, cx, ht, eV, er, ex, hxl, oR, oX, c1, c2, fz⟩ := tab_at HR8.out.o (V := ⟨.slice sg' G'.length cg', .slice sf' F'.length cf', .slice st W2.tabs.length cp1, .slice g4 W.res.length d4, ts1⟩) (W := W2) (fun r hr => by simp [hr]) HF1.out hT1
  simp only [Value.slice.injEq, true_and] at eV
  obtain ⟨rfl, rfl⟩ := eV
  obtain ⟨tc0, tr, tx, xs⟩ := t
  dsimp only at er ex hxl oR oX c1 c2
  subst er ex
  have Ht := Hid.mk' ht
  have HT := Hid.mk' hT1
  have HXL := Hid.mk' hxl
  have i0 : (0 : Int) ≤ (i : Int) := by omega
  have i1 : (i : Int) < (W2.tabs.length : Int) := by omega
  obtain ⟨x0, x1, x2, x3, x4⟩ := (show Blk X8 kd #[.slice sg' G'.length cg', .slice sf' F'.length cf', .slice (some ⟨tb, 0, none⟩) W2.tabs.length cp1, .slice g4 W.res.length d4] 40 from rB_blk (HR8.out.o.on (rB kd 40 [.slice sg' G'.length cg', .slice sf' F'.length cf', .slice (some ⟨tb, 0, none⟩) W2.tabs.length cp1, .slice g4 W.res.length d4]) (by simp))).four'
  obtain ⟨u0, u1, u2⟩ := (show Blk X8 kq #[.int .i64 e.1, .int .i64 e.2] 42 from rB_blk (HR8.out.o.on (rB kq 42 [.int .i64 e.1, .int .i64 e.2]) (by simp))).two
  have mT : ∀ r ∈ rTab ⟨tc0, .slice sr T1.rows.length cr, .slice sx T1.cells.length cx, xs⟩ T1, r ∈ (P ++ [rB ka 40 [.slice g1 W.gens.length d1, .slice g2 W.free.length d2, .slice g3 W.tabs.length d3, .slice g4 W.res.length d4], rB kc 40 [.slice none 0 0, .slice none 0 0, .slice none 0 0, .slice none 0 0], rB ke 42 [.int .i64 0, .int .i64 0], rB kp 36 [.slice sg' G'.length cg', .slice sf' F'.length cf'], rB kq 42 [.int .i64 e.1, .int .i64 e.2], rI (.slice (some ⟨cb, 0, none⟩) L.length c') cols, rB kd 40 [.slice sg' G'.length cg', .slice sf' F'.length cf', .slice (some ⟨tb, 0, none⟩) W2.tabs.length cp1, .slice g4 W.res.length d4], rI (.slice g1 W.gens.length d1) W1.gens, rI (.slice g2 W.free.length d2) W1.free]) ++ rW ⟨.slice sg' G'.length cg', .slice sf' F'.length cf', .slice (some ⟨tb, 0, none⟩) W2.tabs.length cp1, .slice g4 W.res.length d4, ts1⟩ W2 := fun r hr => List.mem_append_right _ (by have := rTabs_mem ht hT1 r hr; simp [rW, this])
  have hQ10 := (carr_Rs X B).drew ((carr_Rs X B).later HR8.out (bl_alloc (Below.refl _ X8) (.cells #[.int .i64 e.1, .int .i64 e.2] 42)))
  have OR10 : Hid (OR.on (X8.alloc (.cells #[.int .i64 e.1, .int .i64 e.2] 42)).drew B (rE (.slice sr T1.rows.length cr) T1.rows)) := hQ10.o.on _ (mT _ (by simp [rTab]))
  have HQ10 := Hid.mk' hQ10
  have HB10 : Hid (B ≤ (X8.alloc (.cells #[.int .i64 e.1, .int .i64 e.2] 42)).drew.heap.size) := hQ10.s
  obtain ⟨iE, hiE, hzE, hsE, hbE⟩ := info_parts Tryz.infoE
  have HNW : Hid (∀ (jj : Nat) (u : Value), [Value.int .i64 e.1, .int .i64 e.2][jj]? = some u → (X8.alloc (.cells #[.int .i64 e.1, .int .i64 e.2] 42)).drew.cell? ((⟨X8.heap.size, 0, none⟩ : Addr).add jj) = some u) := by
   intro jj u hj
   have hb := Blk.new X8 #[.int .i64 e.1, .int .i64 e.2] 42
   match jj, hj with
   | 0, hj => simp at hj; subst hj; exact hb.cell 0
   | 1, hj => simp at hj; subst hj; exact hb.cell 1
  have HON1 : Hid (∀ u ∈ [Value.int .i64 e.1, .int .i64 e.2], u.oneCell' = true) := by
   intro u hu
   simp only [List.mem_cons, List.not_mem_nil, or_false] at hu
   rcases hu with rfl | rfl <;> rfl
  have HM1 : Hid ((rE (.slice sr T1.rows.length cr) T1.rows).n + 1 ≤ maxLen) := by show T1.rows.length + 1 ≤ _; unfold maxLen; omega
  have HM2 : Hid (((rE (.slice sr T1.rows.length cr) T1.rows).n + 1) * 16 ≤ 140737488355328) := by show (T1.rows.length + 1) * 16 ≤ _; omega
  have HFE : Hid (∀ v : Value, (fun v => rE v (T1.rows ++ [e])) v = ⟨(rE (.slice sr T1.rows.length cr) T1.rows).T, (rE (.slice sr T1.rows.length cr) T1.rows).k, v, T1.rows.length + 1, (rE (.slice sr T1.rows.length cr) T1.rows).cs ++ [Value.int .i64 e.1, .int .i64 e.2]⟩) := by
   intro v
   show rE v (T1.rows ++ [e]) = _
   unfold rE ecells
   rw [List.length_append, List.flatMap_append]
   rfl
  have HSK : Hid (∀ w6 : World, (rB kd 40 [.slice sg' G'.length cg', .slice sf' F'.length cf', .slice (some ⟨tb, 0, none⟩) W2.tabs.length cp1, .slice g4 W.res.length d4]).on w6 B → (rB kq 42 [.int .i64 e.1, .int .i64 e.2]).on w6 B → w6.cell? ⟨kd, 2, none⟩ = some (.slice (some ⟨tb, 0, none⟩) W2.tabs.length cp1) ∧ w6.cell? ⟨kq, 0, none⟩ = some (.int .i64 e.1) ∧ w6.cell? ⟨kq, 1, none⟩ = some (.int .i64 e.2)) := fun w6 k1 k2 => ⟨(show Blk w6 kd #[.slice sg' G'.length cg', .slice sf' F'.length cf', .slice (some ⟨tb, 0, none⟩) W2.tabs.length cp1, .slice g4 W.res.length d4] 40 from rB_blk k1).cell 2, (show Blk w6 kq #[.int .i64 e.1, .int .i64 e.2] 42 from rB_blk k2).cell 0, (show Blk w6 kq #[.int .i64 e.1, .int .i64 e.2] 42 from rB_blk k2).cell 1⟩
  have HSB9 := Hid.mk' (HSK.out _ (hQ10.o.on _ (by simp)) (hQ10.o.on _ (by simp)))
  clear hQ10 mT hT1 ht hxl oR oX c2; go_cut [] (fun wx => ∃ (sr' : Option Addr) (cr' : Nat), Rs X B wx ((P ++ [rB ka 40 [.slice g1 W.gens.length d1, .slice g2 W.free.length d2, .slice g3 W.tabs.length d3, .slice g4 W.res.length d4], rB kc 40 [.slice none 0 0, .slice none 0 0, .slice none 0 0, .slice none 0 0], rB ke 42 [.int .i64 0, .int .i64 0], rB kp 36 [.slice sg' G'.length cg', .slice sf' F'.length cf'], rB kq 42 [.int .i64 e.1, .int .i64 e.2], rI (.slice (some ⟨cb, 0, none⟩) L.length c') cols, rB kd 40 [.slice sg' G'.length cg', .slice sf' F'.length cf', .slice (some ⟨tb, 0, none⟩) W2.tabs.length cp1, .slice g4 W.res.length d4], rI (.slice g1 W.gens.length d1) W1.gens, rI (.slice g2 W.free.length d2) W1.free]) ++ rW ⟨.slice sg' G'.length cg', .slice sf' F'.length cf', .slice (some ⟨tb, 0, none⟩) W2.tabs.length cp1, .slice g4 W.res.length d4, (ts1.set i ⟨tc0, .slice sr' (T1.rows.length + 1) cr', .slice sx T1.cells.length cx, xs⟩)⟩ (setW W2 i (addN T1 e L 0))))
  case first =>
   refine wp_region_held_drew (S := (fun w' => w'.cell? ⟨kd, 2, none⟩ = some (.slice (some ⟨tb, 0, none⟩) W2.tabs.length cp1) ∧ w'.cell? ⟨kq, 0, none⟩ = some (.int .i64 e.1) ∧ w'.cell? ⟨kq, 1, none⟩ = some (.int .i64 e.2))) (by kernel_rfl) ?_ (fun hHeld => ?_)
   ·
    exact ⟨x2, u0, u1⟩
   refine wpr 0 54 ?_; simp only [zs]; refine wpr 1 55 ?_; simp only [zs]; refine wpr 2 56 ?_; simp only [zs]; refine wpr 3 57 ?_; simp only [zs]; refine wpr 4 58 ?_; simp only [zs]; refine wpr 5 59 ?_; simp only [zs]; refine wpr 6 60 ?_; simp only [zs]; refine wpr 7 61 ?_; simp only [zs]; refine wpr 9 63 ?_; simp only [zs]; refine wpAnyH_ready (rs := [8, 10]) (by kernel_rfl) (by simp) ?_
   refine AllReadyH.cons rfl (fun K hK => ?_) (AllReadyH.cons rfl (fun K hK => ?_) AllReadyH.nil)
   rotate_left 1; go_simp; refine hK.out _ _ ?_ (fun hHeld => ?_)
   ·
    exact HSB9.out
   clear hK K; try simp only [zs]
   refine wpy 8 fun K hK => ?_
   go_simp; refine hK.out _ _ ?_ (fun hHeld => ?_)
   ·
    exact hHeld
   clear hK K; try simp only [zs]
   rotate_left 1; go_simp; refine hK.out _ _ ?_ (fun hHeld => ?_)
   ·
    exact hHeld
   clear hK K; try simp only [zs]
   refine wpy 10 fun K hK => ?_
   go_simp; refine hK.out _ _ ?_ (fun hHeld => ?_)
   ·
    exact HSB9.out
   clear hK K; try simp only [zs]
   all_goals
    refine wpy 11 fun K hK => ?_
    refine step_appO (r := rE (.slice sr T1.rows.length cr) T1.rows) OR10.out HB10.out rfl rfl (.tmp 62) (.tmp 64) 115 16 rfl Tryz.underlying115 hiE hzE hsE hbE rfl (Nat.zero_lt_succ 1) (by simp [Act.eval, Act.put, rE]) ⟨X8.heap.size, 0, none⟩ 1 1 (by simp [Act.eval, Act.put]) [Value.int .i64 e.1, .int .i64 e.2] rfl HNW.out HON1.out HM1.out HM2.out (T1.rows.length + 1) rfl (fun v => rE v (T1.rows ++ [e])) HFE.out ?_
    intro sr' cr' w5 hO5 hg5 hn5
    obtain ⟨fz, c1, hR5⟩ := (carr_Rs X B).rowsT (P := (P ++ [rB ka 40 [.slice g1 W.gens.length d1, .slice g2 W.free.length d2, .slice g3 W.tabs.length d3, .slice g4 W.res.length d4], rB kc 40 [.slice none 0 0, .slice none 0 0, .slice none 0 0, .slice none 0 0], rB ke 42 [.int .i64 0, .int .i64 0], rB kp 36 [.slice sg' G'.length cg', .slice sf' F'.length cf'], rB kq 42 [.int .i64 e.1, .int .i64 e.2], rI (.slice (some ⟨cb, 0, none⟩) L.length c') cols, rB kd 40 [.slice sg' G'.length cg', .slice sf' F'.length cf', .slice (some ⟨tb, 0, none⟩) W2.tabs.length cp1, .slice g4 W.res.length d4], rI (.slice g1 W.gens.length d1) W1.gens, rI (.slice g2 W.free.length d2) W1.free])) (V := ⟨.slice sg' G'.length cg', .slice sf' F'.length cf', .slice (some ⟨tb, 0, none⟩) W2.tabs.length cp1, .slice g4 W.res.length d4, ts1⟩) (W := W2) (i := i) (t := ⟨tc0, .slice sr T1.rows.length cr, .slice sx T1.cells.length cx, xs⟩) (T := T1) (tb := tb) (n := W2.tabs.length) (cap := cp1) HQ10.out Ht.out HT.out rfl HF1.out.len.symm hg5 hO5 hn5
    obtain ⟨o1, _⟩ := (carr_Rs X B).rowsO (P := (P ++ [rB ka 40 [.slice g1 W.gens.length d1, .slice g2 W.free.length d2, .slice g3 W.tabs.length d3, .slice g4 W.res.length d4], rB kc 40 [.slice none 0 0, .slice none 0 0, .slice none 0 0, .slice none 0 0], rB ke 42 [.int .i64 0, .int .i64 0], rB kp 36 [.slice sg' G'.length cg', .slice sf' F'.length cf'], rB kq 42 [.int .i64 e.1, .int .i64 e.2], rI (.slice (some ⟨cb, 0, none⟩) L.length c') cols, rB kd 40 [.slice sg' G'.length cg', .slice sf' F'.length cf', .slice (some ⟨tb, 0, none⟩) W2.tabs.length cp1, .slice g4 W.res.length d4], rI (.slice g1 W.gens.length d1) W1.gens, rI (.slice g2 W.free.length d2) W1.free])) (V := ⟨.slice sg' G'.length cg', .slice sf' F'.length cf', .slice (some ⟨tb, 0, none⟩) W2.tabs.length cp1, .slice g4 W.res.length d4, ts1⟩) (W := W2) (i := i) (t := ⟨tc0, .slice sr T1.rows.length cr, .slice sx T1.cells.length cx, xs⟩) (T := T1) HQ10.out Ht.out HT.out hg5 hO5 hn5
    have hS5 := HSK.out w5 (o1 _ (by simp)) (o1 _ (by simp))
    have hS6 := HSK.out _ (hR5.o.on _ (by simp)) (hR5.o.on _ (by simp))
    refine hK.out _ _ ?_ (fun hHeld => ?_)
    ·
     exact hS5
    clear hK K; try simp only [zs]
    refine wpr 12 66 ?_; simp only [zs]; refine wpr 13 67 ?_; simp only [zs]; refine wpy 14 fun K hK => ?_
    go_simp; refine hK.out _ _ ?_ (fun hHeld => ?_)
    ·
     exact hS6
    clear hK K; try simp only [zs]
    refine wpAnyH_done (by kernel_rfl) ?_ _
    go_wp2_with fail; go_meet; exact ⟨sr', cr', hR5⟩
  obtain ⟨sr', cr', hR5⟩ := hcut
  have HR5 := Hid.mk' hR5
  clear hR5 HQ10 OR10 HB10 HNW HON1 HM1 HM2 HFE hiE hzE hsE hbE x0 x1 x2 x3 x4 c1 fz u0 u1 u2 HSK HSB9; go_wp2_with fail; go_loopw [14] (fun i' wr => ∃ (m : Nat) (ys : List Value), m ≤ L.length ∧ i' = .int .i64 m ∧ Hid (ys.length = T1.cells.length ∧ Rs X B wr ((P ++ [rB ka 40 [.slice g1 W.gens.length d1, .slice g2 W.free.length d2, .slice g3 W.tabs.length d3, .slice g4 W.res.length d4], rB kc 40 [.slice none 0 0, .slice none 0 0, .slice none 0 0, .slice none 0 0], rB ke 42 [.int .i64 0, .int .i64 0], rB kp 36 [.slice sg' G'.length cg', .slice sf' F'.length cf'], rB kq 42 [.int .i64 e.1, .int .i64 e.2], rI (.slice (some ⟨cb, 0, none⟩) L.length c') cols, rB kd 40 [.slice sg' G'.length cg', .slice sf' F'.length cf', .slice (some ⟨tb, 0, none⟩) W2.tabs.length cp1, .slice g4 W.res.length d4], rI (.slice g1 W.gens.length d1) W1.gens, rI (.slice g2 W.free.length d2) W1.free]) ++ rW ⟨.slice sg' G'.length cg', .slice sf' F'.length cf', .slice (some ⟨tb, 0, none⟩) W2.tabs.length cp1, .slice g4 W.res.length d4, (ts1.set i ⟨tc0, .slice sr' (T1.rows.length + 1) cr', .slice sx T1.cells.length cx, ys⟩)⟩ (setW W2 i (addN T1 e L m))))) (fun i' _ => L.length - (intOf i').toNat)
  case atStart => exact ⟨0, xs, Nat.zero_le _, rfl, HXL.out, HR5.out⟩
  clear HR5; obtain ⟨m, ys, hm, rfl, hN⟩ := hrel
  by_cases hlt : m < L.length
  ·
   have Hts : Hid ((ts1.set i ⟨tc0, .slice sr' (T1.rows.length + 1) cr', .slice sx T1.cells.length cx, ys⟩)[i]? = some ⟨tc0, .slice sr' (T1.rows.length + 1) cr', .slice sx T1.cells.length cx, ys⟩) := List.getElem?_set_self (List.getElem?_eq_some_iff.1 Ht.out).1
   have HTs : Hid ((setW W2 i (addN T1 e L m)).tabs[i]? = some (addN T1 e L m)) := List.getElem?_set_self hi1
   obtain ⟨c, ha⟩ := get_some hlt
   obtain ⟨M, hM⟩ := get_some (L := T1.cells) (k := m) (by rw [HCL.out]; exact hlt)
   obtain ⟨v, hv⟩ := get_some (L := ys) (k := m) (by rw [hN.out.1, HCL.out]; exact hlt)
   have mT : ∀ r ∈ rTab ⟨tc0, .slice sr' (T1.rows.length + 1) cr', .slice sx T1.cells.length cx, ys⟩ (addN T1 e L m), r ∈ (P ++ [rB ka 40 [.slice g1 W.gens.length d1, .slice g2 W.free.length d2, .slice g3 W.tabs.length d3, .slice g4 W.res.length d4], rB kc 40 [.slice none 0 0, .slice none 0 0, .slice none 0 0, .slice none 0 0], rB ke 42 [.int .i64 0, .int .i64 0], rB kp 36 [.slice sg' G'.length cg', .slice sf' F'.length cf'], rB kq 42 [.int .i64 e.1, .int .i64 e.2], rI (.slice (some ⟨cb, 0, none⟩) L.length c') cols, rB kd 40 [.slice sg' G'.length cg', .slice sf' F'.length cf', .slice (some ⟨tb, 0, none⟩) W2.tabs.length cp1, .slice g4 W.res.length d4], rI (.slice g1 W.gens.length d1) W1.gens, rI (.slice g2 W.free.length d2) W1.free]) ++ rW ⟨.slice sg' G'.length cg', .slice sf' F'.length cf', .slice (some ⟨tb, 0, none⟩) W2.tabs.length cp1, .slice g4 W.res.length d4, (ts1.set i ⟨tc0, .slice sr' (T1.rows.length + 1) cr', .slice sx T1.cells.length cx, ys⟩)⟩ (setW W2 i (addN T1 e L m)) := fun r hr => List.mem_append_right _ (by have := rTabs_mem Hts.out HTs.out r hr; simp [rW, this])
   obtain ⟨qb, qo, rfl, _, hp, okc, e0, e1, e2, e3, e4⟩ := eCell_cells (rC_els (hN.out.2.o.on _ (List.mem_append_left _ (List.mem_append_left _ HC.out))) okL) ha
   have hMk : M.length ≤ 100000 := HML.out M (List.mem_of_getElem? hM)
   have oX : World.ownsRow wr B 38 1 (.slice sx T1.cells.length cx) T1.cells.length ys := by
    have h := hN.out.2.o.on (rS (.slice sx T1.cells.length cx) ys) (mT _ (by simp [rTab]))
    unfold OR.on rS at h
    dsimp only at h
    rw [hN.out.1] at h
    exact h
   have oV : (rV v M).on wr B := hN.out.2.o.on _ (mT _ (by simp only [rTab, List.mem_cons]; exact Or.inr (Or.inr (Or.inr (mem_zipWith hv (addN_get HCL.out hM))))))
   obtain ⟨xb, rfl⟩ := own_some oX (by have := HCL.out; omega)
   obtain ⟨sv, cv, ev⟩ := oV.shape
   have ev : v = .slice sv M.length cv := ev
   subst ev
   have hc := World.ownsRow.cellAt oX m (by have := HCL.out; omega)
   rw [hv] at hc
   have HLEN : Hid ((ts1.set i ⟨tc0, .slice sr' (T1.rows.length + 1) cr', .slice (some ⟨xb, 0, none⟩) T1.cells.length cx, ys⟩).length = W2.tabs.length) := by show _ = _; rw [List.length_set]; exact HF1.out.len
   have HNL := Hid.mk' hN.out.1
   have HL1 := Hid.mk' hM
   have HV1 := Hid.mk' hv
   have HA1 := Hid.mk' ha
   obtain ⟨_, c2, fz⟩ := cellT (hN.out.2.o.on (rT (.slice (some ⟨tb, 0, none⟩) W2.tabs.length cp1) (ts1.set i ⟨tc0, .slice sr' (T1.rows.length + 1) cr', .slice (some ⟨xb, 0, none⟩) T1.cells.length cx, ys⟩)) (by simp [rW])) HLEN.out Hts.out
   dsimp only at c2
   obtain ⟨x0, x1, x2, x3, x4⟩ := (show Blk wr kd #[.slice sg' G'.length cg', .slice sf' F'.length cf', .slice (some ⟨tb, 0, none⟩) W2.tabs.length cp1, .slice g4 W.res.length d4] 40 from rB_blk (hN.out.2.o.on (rB kd 40 [.slice sg' G'.length cg', .slice sf' F'.length cf', .slice (some ⟨tb, 0, none⟩) W2.tabs.length cp1, .slice g4 W.res.length d4]) (by simp))).four'
   have hY := (carr_Rs X B).drew ((carr_Rs X B).later hN.out.2 (bl_alloc (Below.refl _ wr) (.cells #[.int .i64 c.2.1, .int .i64 c.2.2.1, .float .f64 c.2.2.2.1, .float .f64 c.2.2.2.2] 75)))
   have HY := Hid.mk' hY
   have OVY : Hid (OR.on (wr.alloc (.cells #[.int .i64 c.2.1, .int .i64 c.2.2.1, .float .f64 c.2.2.2.1, .float .f64 c.2.2.2.2] 75)).drew B (rV (.slice sv M.length cv) M)) := hY.o.on _ (mT _ (by simp only [rTab, List.mem_cons]; exact Or.inr (Or.inr (Or.inr (mem_zipWith hv (addN_get HCL.out hM))))))
   have HBY : Hid (B ≤ (wr.alloc (.cells #[.int .i64 c.2.1, .int .i64 c.2.2.1, .float .f64 c.2.2.2.1, .float .f64 c.2.2.2.2] 75)).drew.heap.size) := hY.s
   obtain ⟨iV, hiV, hzV, hsV, hbV⟩ := info_parts Tryz.infoV
   have HNW : Hid (∀ (jj : Nat) (u : Value), [Value.int .i64 c.2.1, .int .i64 c.2.2.1, .float .f64 c.2.2.2.1, .float .f64 c.2.2.2.2][jj]? = some u → (wr.alloc (.cells #[.int .i64 c.2.1, .int .i64 c.2.2.1, .float .f64 c.2.2.2.1, .float .f64 c.2.2.2.2] 75)).drew.cell? ((⟨wr.heap.size, 0, none⟩ : Addr).add jj) = some u) := by
    intro jj u hj
    have hb := Blk.new wr #[.int .i64 c.2.1, .int .i64 c.2.2.1, .float .f64 c.2.2.2.1, .float .f64 c.2.2.2.2] 75
    match jj, hj with
    | 0, hj => simp at hj; subst hj; exact hb.cell 0
    | 1, hj => simp at hj; subst hj; exact hb.cell 1
    | 2, hj => simp at hj; subst hj; exact hb.cell 2
    | 3, hj => simp at hj; subst hj; exact hb.cell 3
   have HON1 : Hid (∀ u ∈ [Value.int .i64 c.2.1, .int .i64 c.2.2.1, .float .f64 c.2.2.2.1, .float .f64 c.2.2.2.2], u.oneCell' = true) := by
    intro u hu
    simp only [List.mem_cons, List.not_mem_nil, or_false] at hu
    rcases hu with rfl | rfl | rfl | rfl <;> rfl
   have HM1 : Hid ((rV (.slice sv M.length cv) M).n + 1 ≤ maxLen) := by show M.length + 1 ≤ _; unfold maxLen; omega
   have HM2 : Hid (((rV (.slice sv M.length cv) M).n + 1) * 32 ≤ 140737488355328) := by show (M.length + 1) * 32 ≤ _; omega
   have HFE : Hid (∀ u : Value, (fun u => rV u (M ++ [c.2])) u = ⟨(rV (.slice sv M.length cv) M).T, (rV (.slice sv M.length cv) M).k, u, M.length + 1, (rV (.slice sv M.length cv) M).cs ++ [Value.int .i64 c.2.1, .int .i64 c.2.2.1, .float .f64 c.2.2.2.1, .float .f64 c.2.2.2.2]⟩) := by
    intro u
    show rV u (M ++ [c.2]) = _
    unfold rV
    rw [List.length_append, List.flatMap_append]
    rfl
   have HS13 : Hid (∀ (w6 : World) (ts6 : List TV) (t6 : TV), ts6[i]? = some t6 → ts6.length = W2.tabs.length → t6.x = .slice (some ⟨xb, 0, none⟩) T1.cells.length cx → (rB kd 40 [.slice sg' G'.length cg', .slice sf' F'.length cf', .slice (some ⟨tb, 0, none⟩) W2.tabs.length cp1, .slice g4 W.res.length d4]).on w6 B → (rT (.slice (some ⟨tb, 0, none⟩) W2.tabs.length cp1) ts6).on w6 B → (rC (.slice (some ⟨qb, qo, none⟩) L.length cc) L).on w6 B → w6.cell? ⟨kd, 2, none⟩ = some (.slice (some ⟨tb, 0, none⟩) W2.tabs.length cp1) ∧ w6.cell? ⟨tb, i * 3 + 2, none⟩ = some (.slice (some ⟨xb, 0, none⟩) T1.cells.length cx) ∧ w6.cell? ⟨qb, qo + m * 5 + 1, none⟩ = some (.int .i64 c.2.1) ∧ w6.cell? ⟨qb, qo + m * 5 + 2, none⟩ = some (.int .i64 c.2.2.1) ∧ w6.cell? ⟨qb, qo + m * 5 + 3, none⟩ = some (.float .f64 c.2.2.2.1) ∧ w6.cell? ⟨qb, qo + m * 5 + 4, none⟩ = some (.float .f64 c.2.2.2.2)) := by
    intro w6 ts6 t6 k1 k2 k3 k4 k5 k6
    obtain ⟨_, c2, _⟩ := cellT k5 k2 k1
    rw [k3] at c2
    obtain ⟨b9, o9, ee, _, _, _, _, f1, f2, f3, f4⟩ := eCell_cells (rC_els k6 okL) HA1.out
    simp only [Option.some.injEq, Addr.mk.injEq, and_true] at ee
    obtain ⟨rfl, rfl⟩ := ee
    exact ⟨(show Blk w6 kd #[.slice sg' G'.length cg', .slice sf' F'.length cf', .slice (some ⟨tb, 0, none⟩) W2.tabs.length cp1, .slice g4 W.res.length d4] 40 from rB_blk k4).cell 2, c2, f1, f2, f3, f4⟩
   have m0 : (0 : Int) ≤ (m : Int) := by omega
   have m1 : (m : Int) < (T1.cells.length : Int) := by have := HCL.out; omega
   have m2 : (m : Int) < (L.length : Int) := by omega
   have hbA := bl_drew (bl_alloc (Below.refl wr.heap.size wr) (.cells #[.int .i64 c.2.1, .int .i64 c.2.2.1, .float .f64 c.2.2.2.1, .float .f64 c.2.2.2.2] 75))
   have HSB13 := Hid.mk' (And.intro (kcell hbA x2) (And.intro (kcell hbA c2) (And.intro (kcell hbA e1) (And.intro (kcell hbA e2) (And.intro (kcell hbA e3) (kcell hbA e4))))))
   clear hbA oX oV mT hM hv ha hN hY okc e0; go_upto_region 17 with fail
   refine wp_region_held_drew (S := (fun w' => w'.cell? ⟨kd, 2, none⟩ = some (.slice (some ⟨tb, 0, none⟩) W2.tabs.length cp1) ∧ w'.cell? ⟨tb, i * 3 + 2, none⟩ = some (.slice (some ⟨xb, 0, none⟩) T1.cells.length cx) ∧ w'.cell? ⟨qb, qo + m * 5 + 1, none⟩ = some (.int .i64 c.2.1) ∧ w'.cell? ⟨qb, qo + m * 5 + 2, none⟩ = some (.int .i64 c.2.2.1) ∧ w'.cell? ⟨qb, qo + m * 5 + 3, none⟩ = some (.float .f64 c.2.2.2.1) ∧ w'.cell? ⟨qb, qo + m * 5 + 4, none⟩ = some (.float .f64 c.2.2.2.2))) (by kernel_rfl) ?_ (fun hHeld => ?_)
   ·
    exact ⟨x2, c2, e1, e2, e3, e4⟩
   refine wpr 0 74 ?_; simp only [zs]; refine wpr 1 75 ?_; simp only [zs]; refine wpr 2 76 ?_; simp only [zs]; refine wpr 3 77 ?_; simp only [zs]; refine wpr 4 78 ?_; simp only [zs]; refine wpr 5 79 ?_; simp only [zs]; refine wpr 6 80 ?_; simp only [zs]; refine wpr 7 81 ?_; simp only [zs]; refine wpr 8 82 ?_; simp only [zs]; refine wpr 9 83 ?_; simp only [zs]; refine wpr 10 84 ?_; simp only [zs]; refine wpr 11 85 ?_
   simp only [zs]; refine wpr 12 86 ?_; simp only [zs]; refine wpr 13 87 ?_; simp only [zs]; refine wpr 14 88 ?_; simp only [zs]; refine wpr 16 90 ?_; simp only [zs]; refine wpr 17 91 ?_; simp only [zs]; refine wpr 18 92 ?_; simp only [zs]; refine wpr 19 93 ?_; simp only [zs]; refine wpr 20 94 ?_; simp only [zs]; refine wpAnyH_ready (rs := [15, 21]) (by kernel_rfl) (by simp) ?_
   refine AllReadyH.cons rfl (fun K hK => ?_) (AllReadyH.cons rfl (fun K hK => ?_) AllReadyH.nil)
   rotate_left 1; go_simp; refine hK.out _ _ ?_ (fun hHeld => ?_)
   ·
    exact HSB13.out
   clear hK K; try simp only [zs]
   refine wpy 15 fun K hK => ?_
   go_simp; refine hK.out _ _ ?_ (fun hHeld => ?_)
   ·
    exact hHeld
   clear hK K; try simp only [zs]
   rotate_left 1; go_simp; refine hK.out _ _ ?_ (fun hHeld => ?_)
   ·
    exact hHeld
   clear hK K; try simp only [zs]
   refine wpy 21 fun K hK => ?_
   go_simp; refine hK.out _ _ ?_ (fun hHeld => ?_)
   ·
    exact HSB13.out
   clear hK K; try simp only [zs]
   all_goals
    refine wpy 22 fun K hK => ?_
    refine step_appO (r := rV (.slice sv M.length cv) M) OVY.out HBY.out rfl rfl (.tmp 89) (.tmp 95) 38 32 rfl Tryz.underlying38 hiV hzV hsV hbV rfl (Nat.zero_lt_succ 3) (by simp [Act.eval, Act.put, rV]) ⟨wr.heap.size, 0, none⟩ 1 1 (by simp [Act.eval, Act.put]) [Value.int .i64 c.2.1, .int .i64 c.2.2.1, .float .f64 c.2.2.2.1, .float .f64 c.2.2.2.2] rfl HNW.out HON1.out HM1.out HM2.out (M.length + 1) rfl (fun u => rV u (M ++ [c.2])) HFE.out ?_
    intro s9 c9 w5 hO5 hg5 hn5
    obtain ⟨fx, hx5, hP5, hR5⟩ := (carr_Rs X B).colT (P := (P ++ [rB ka 40 [.slice g1 W.gens.length d1, .slice g2 W.free.length d2, .slice g3 W.tabs.length d3, .slice g4 W.res.length d4], rB kc 40 [.slice none 0 0, .slice none 0 0, .slice none 0 0, .slice none 0 0], rB ke 42 [.int .i64 0, .int .i64 0], rB kp 36 [.slice sg' G'.length cg', .slice sf' F'.length cf'], rB kq 42 [.int .i64 e.1, .int .i64 e.2], rI (.slice (some ⟨cb, 0, none⟩) L.length c') cols, rB kd 40 [.slice sg' G'.length cg', .slice sf' F'.length cf', .slice (some ⟨tb, 0, none⟩) W2.tabs.length cp1, .slice g4 W.res.length d4], rI (.slice g1 W.gens.length d1) W1.gens, rI (.slice g2 W.free.length d2) W1.free])) (V := ⟨.slice sg' G'.length cg', .slice sf' F'.length cf', .slice (some ⟨tb, 0, none⟩) W2.tabs.length cp1, .slice g4 W.res.length d4, (ts1.set i ⟨tc0, .slice sr' (T1.rows.length + 1) cr', .slice (some ⟨xb, 0, none⟩) T1.cells.length cx, ys⟩)⟩) (W := setW W2 i (addN T1 e L m)) (i := i) (m := m) (t := ⟨tc0, .slice sr' (T1.rows.length + 1) cr', .slice (some ⟨xb, 0, none⟩) T1.cells.length cx, ys⟩) (T := addN T1 e L m) (xb := xb) (n := T1.cells.length) (cap := cx) HY.out Hts.out HTs.out rfl HNL.out.symm HV1.out (addN_get HCL.out HL1.out) hg5 hO5 hn5
    have hS5 := HS13.out w5 (ts1.set i ⟨tc0, .slice sr' (T1.rows.length + 1) cr', .slice (some ⟨xb, 0, none⟩) T1.cells.length cx, ys⟩) _ Hts.out HLEN.out rfl (hP5 (rB kd 40 [.slice sg' G'.length cg', .slice sf' F'.length cf', .slice (some ⟨tb, 0, none⟩) W2.tabs.length cp1, .slice g4 W.res.length d4]) (by simp)) (hP5 _ (by simp)) (hP5 _ (List.mem_append_left _ (List.mem_append_left _ HC.out)))
    have hS6 := HS13.out _ ((ts1.set i ⟨tc0, .slice sr' (T1.rows.length + 1) cr', .slice (some ⟨xb, 0, none⟩) T1.cells.length cx, ys⟩).set i ⟨tc0, .slice sr' (T1.rows.length + 1) cr', .slice (some ⟨xb, 0, none⟩) T1.cells.length cx, (ys.set m (.slice s9 (M.length + 1) c9))⟩) _ (List.getElem?_set_self (List.getElem?_eq_some_iff.1 Hts.out).1) (by rw [List.length_set]; exact HLEN.out) rfl (hR5.o.on (rB kd 40 [.slice sg' G'.length cg', .slice sf' F'.length cf', .slice (some ⟨tb, 0, none⟩) W2.tabs.length cp1, .slice g4 W.res.length d4]) (by simp)) (hR5.o.on _ (by simp [rW, setTV])) (hR5.o.on _ (List.mem_append_left _ (List.mem_append_left _ HC.out)))
    refine hK.out _ _ ?_ (fun hHeld => ?_)
    ·
     exact hS5
    clear hK K; try simp only [zs]
    refine wpr 23 97 ?_; simp only [zs]; refine wpy 24 fun K hK => ?_
    go_simp; refine hK.out _ _ ?_ (fun hHeld => ?_)
    ·
     exact hS6
    clear hK K; try simp only [zs]
    refine wpAnyH_done (by kernel_rfl) ?_ _
    have hR6 : Rs X B (w5.setCell ⟨xb, m, none⟩ (.slice s9 (M.length + 1) c9)) ((P ++ [rB ka 40 [.slice g1 W.gens.length d1, .slice g2 W.free.length d2, .slice g3 W.tabs.length d3, .slice g4 W.res.length d4], rB kc 40 [.slice none 0 0, .slice none 0 0, .slice none 0 0, .slice none 0 0], rB ke 42 [.int .i64 0, .int .i64 0], rB kp 36 [.slice sg' G'.length cg', .slice sf' F'.length cf'], rB kq 42 [.int .i64 e.1, .int .i64 e.2], rI (.slice (some ⟨cb, 0, none⟩) L.length c') cols, rB kd 40 [.slice sg' G'.length cg', .slice sf' F'.length cf', .slice (some ⟨tb, 0, none⟩) W2.tabs.length cp1, .slice g4 W.res.length d4], rI (.slice g1 W.gens.length d1) W1.gens, rI (.slice g2 W.free.length d2) W1.free]) ++ rW ⟨.slice sg' G'.length cg', .slice sf' F'.length cf', .slice (some ⟨tb, 0, none⟩) W2.tabs.length cp1, .slice g4 W.res.length d4, (ts1.set i ⟨tc0, .slice sr' (T1.rows.length + 1) cr', .slice (some ⟨xb, 0, none⟩) T1.cells.length cx, (ys.set m (.slice s9 (M.length + 1) c9))⟩)⟩ (setW W2 i (addN T1 e L (m + 1)))) := by
     have e1 := addN_set (e := e) HCL.out HL1.out HA1.out
     have h := hR5
     rw [setW_setW] at h
     simp only [setTV, List.set_set] at h
     rw [e1] at h
     exact h
    have HR9 := Hid.mk' hR6
    clear hR5 hR6 hP5 hO5 hg5 hn5 HY OVY HBY HNW HON1 HM1 HM2 HFE hiV hzV hsV hbV; go_wp2_with fail; go_roundw
    case rel => exact ⟨m + 1, ys.set m (.slice s9 (M.length + 1) c9), by omega, by go_num, by rw [List.length_set]; exact HNL.out, HR9.out⟩
    case measure => simp [intOf]; omega
  have hme : m = L.length := by omega
  subst hme
  have HFa : Hid (OWf ⟨.slice sg' G'.length cg', .slice sf' F'.length cf', .slice (some ⟨tb, 0, none⟩) W2.tabs.length cp1, .slice g4 W.res.length d4, (ts1.set i ⟨tc0, .slice sr' (T1.rows.length + 1) cr', .slice sx T1.cells.length cx, ys⟩)⟩ (setW W2 i (addN T1 e L L.length))) := owf_set2 (t' := ⟨tc0, .slice sr' (T1.rows.length + 1) cr', .slice sx T1.cells.length cx, ys⟩) HF1.out HT.out (by rw [addN_len HCL.out]; exact hN.out.1) (okc_addN (fun M hM => HF1.out.okc T1 (List.mem_of_getElem? HT.out) M hM) okL)
  have HRa := Hid.mk' hN.out.2
  rw [addN_all HCL.out] at HRa HFa
  obtain ⟨x0, x1, x2, x3, x4⟩ := (show Blk wr kd #[.slice sg' G'.length cg', .slice sf' F'.length cf', .slice (some ⟨tb, 0, none⟩) W2.tabs.length cp1, .slice g4 W.res.length d4] 40 from rB_blk (HRa.out.o.on (rB kd 40 [.slice sg' G'.length cg', .slice sf' F'.length cf', .slice (some ⟨tb, 0, none⟩) W2.tabs.length cp1, .slice g4 W.res.length d4]) (by simp))).four'
  obtain ⟨u0, u1, u2⟩ := (show Blk wr kq #[.int .i64 e.1, .int .i64 e.2] 42 from rB_blk (HRa.out.o.on (rB kq 42 [.int .i64 e.1, .int .i64 e.2]) (by simp))).two
  obtain ⟨z0, z1, z2, z3, z4⟩ := (show Blk wr kc #[.slice none 0 0, .slice none 0 0, .slice none 0 0, .slice none 0 0] 40 from rB_blk (HRa.out.o.on (rB kc 40 [.slice none 0 0, .slice none 0 0, .slice none 0 0, .slice none 0 0]) (by simp))).four'
  obtain ⟨y0, y1, y2⟩ := (show Blk wr ke #[.int .i64 0, .int .i64 0] 42 from rB_blk (HRa.out.o.on (rB ke 42 [.int .i64 0, .int .i64 0]) (by simp))).two
  have h8 : Rs X B wr (P ++  rB ka 40 [.slice g1 W.gens.length d1, .slice g2 W.free.length d2, .slice g3 W.tabs.length d3, .slice g4 W.res.length d4] :: (rB kc 40 [.slice none 0 0, .slice none 0 0, .slice none 0 0, .slice none 0 0] :: rB ke 42 [.int .i64 0, .int .i64 0] :: rB kp 36 [.slice sg' G'.length cg', .slice sf' F'.length cf'] :: rB kq 42 [.int .i64 e.1, .int .i64 e.2] :: rI (.slice (some ⟨cb, 0, none⟩) L.length c') cols :: rB kd 40 [.slice sg' G'.length cg', .slice sf' F'.length cf', .slice (some ⟨tb, 0, none⟩) W2.tabs.length cp1, .slice g4 W.res.length d4] :: rI (.slice g1 W.gens.length d1) W1.gens :: rI (.slice g2 W.free.length d2) W1.free :: rW ⟨.slice sg' G'.length cg', .slice sf' F'.length cf', .slice (some ⟨tb, 0, none⟩) W2.tabs.length cp1, .slice g4 W.res.length d4, (ts1.set i ⟨tc0, .slice sr' (T1.rows.length + 1) cr', .slice sx T1.cells.length cx, ys⟩)⟩ (setW W2 i (addT T1 e L)))) := by simpa only [List.append_assoc, List.cons_append, List.nil_append] using HRa.out
  have hce : ¬ kc = ke := own_ne (P := P ++ [rB ka 40 [.slice g1 W.gens.length d1, .slice g2 W.free.length d2, .slice g3 W.tabs.length d3, .slice g4 W.res.length d4]]) (r := rB kc 40 [.slice none 0 0, .slice none 0 0, .slice none 0 0, .slice none 0 0]) (q := rB ke 42 [.int .i64 0, .int .i64 0]) (by have h := h8.o; simp only [List.append_assoc, List.cons_append, List.nil_append] at h ⊢; exact h) rfl (by simp) rfl
  have hec : ¬ ke = kc := fun h => hce h.symm
  have hcd : ¬ kc = kd := own_ne (P := P ++ [rB ka 40 [.slice g1 W.gens.length d1, .slice g2 W.free.length d2, .slice g3 W.tabs.length d3, .slice g4 W.res.length d4]]) (r := rB kc 40 [.slice none 0 0, .slice none 0 0, .slice none 0 0, .slice none 0 0]) (q := rB kd 40 [.slice sg' G'.length cg', .slice sf' F'.length cf', .slice (some ⟨tb, 0, none⟩) W2.tabs.length cp1, .slice g4 W.res.length d4]) (by have h := h8.o; simp only [List.append_assoc, List.cons_append, List.nil_append] at h ⊢; exact h) rfl (by simp) rfl
  have hcq : ¬ kc = kq := own_ne (P := P ++ [rB ka 40 [.slice g1 W.gens.length d1, .slice g2 W.free.length d2, .slice g3 W.tabs.length d3, .slice g4 W.res.length d4]]) (r := rB kc 40 [.slice none 0 0, .slice none 0 0, .slice none 0 0, .slice none 0 0]) (q := rB kq 42 [.int .i64 e.1, .int .i64 e.2]) (by have h := h8.o; simp only [List.append_assoc, List.cons_append, List.nil_append] at h ⊢; exact h) rfl (by simp) rfl
  have hed : ¬ ke = kd := own_ne (P := P ++ [rB ka 40 [.slice g1 W.gens.length d1, .slice g2 W.free.length d2, .slice g3 W.tabs.length d3, .slice g4 W.res.length d4], rB kc 40 [.slice none 0 0, .slice none 0 0, .slice none 0 0, .slice none 0 0]]) (r := rB ke 42 [.int .i64 0, .int .i64 0]) (q := rB kd 40 [.slice sg' G'.length cg', .slice sf' F'.length cf', .slice (some ⟨tb, 0, none⟩) W2.tabs.length cp1, .slice g4 W.res.length d4]) (by have h := h8.o; simp only [List.append_assoc, List.cons_append, List.nil_append] at h ⊢; exact h) rfl (by simp) rfl
  have heq : ¬ ke = kq := own_ne (P := P ++ [rB ka 40 [.slice g1 W.gens.length d1, .slice g2 W.free.length d2, .slice g3 W.tabs.length d3, .slice g4 W.res.length d4], rB kc 40 [.slice none 0 0, .slice none 0 0, .slice none 0 0, .slice none 0 0]]) (r := rB ke 42 [.int .i64 0, .int .i64 0]) (q := rB kq 42 [.int .i64 e.1, .int .i64 e.2]) (by have h := h8.o; simp only [List.append_assoc, List.cons_append, List.nil_append] at h ⊢; exact h) rfl (by simp) rfl
  have h9 := Rs.less P _ (Rs.setB _ _ 1 (.int .i64 e.2) (Rs.setB _ _ 0 (.int .i64 e.1) (Rs.less P _ (Rs.setB _ _ 3 (.slice g4 W.res.length d4) (Rs.setB _ _ 2 (.slice (some ⟨tb, 0, none⟩) W2.tabs.length cp1) (Rs.setB _ _ 1 (.slice sf' F'.length cf') (Rs.setB _ _ 0 (.slice sg' G'.length cg') (Rs.less P _ h8))))))))
  have H9 := Hid.mk' (Rs.less P _ (Rs.less P _ (Rs.less P _ (Rs.less P _ (Rs.less P _ (Rs.less P _ h9))))))
  have HMV : Hid (SpA W L (setW W2 i (addT T1 e L)) e 0) := Or.inr ⟨by rw [htk.out], i, T1, W1, HGA.out, by rw [htk.out, hW2.out], by rw [htk.out], rfl⟩
  clear hN HRa h8 h9; go_wp2_with fail; go_region
  all_goals
   go_wp2_with fail; refine bodyPost_ret (v := .tuple #[.agg #[.slice sg' G'.length cg', .slice sf' F'.length cf', .slice (some ⟨tb, 0, none⟩) W2.tabs.length cp1, .slice g4 W.res.length d4], .agg #[.int .i64 e.1, .int .i64 e.2], .int .i64 0]) (by simp [results, Tryz.results27, go_sem, z0, z1, z2, z3, y0, y1, hce, hec]) rfl ⟨⟨.slice sg' G'.length cg', .slice sf' F'.length cf', .slice (some ⟨tb, 0, none⟩) W2.tabs.length cp1, .slice g4 W.res.length d4, (ts1.set i ⟨tc0, .slice sr' (T1.rows.length + 1) cr', .slice sx T1.cells.length cx, ys⟩)⟩, (setW W2 i (addT T1 e L)), e, 0, rfl, H9.out.drew, HFa.out, HMV.out⟩
 have tcd : (cd != 0) = true := by simp [hcd]
 have HMV : Hid (SpA W L W (0, 0) 3) := Or.inl ⟨Or.inl (by rw [htk.out]; exact hcd), rfl, rfl, rfl⟩
 clear hcd; obtain ⟨x0, x1, x2, x3, x4⟩ := (show Blk X3 ka #[.slice g1 W.gens.length d1, .slice g2 W.free.length d2, .slice g3 W.tabs.length d3, .slice g4 W.res.length d4] 40 from rB_blk (HR3.out.o.on (rB ka 40 [.slice g1 W.gens.length d1, .slice g2 W.free.length d2, .slice g3 W.tabs.length d3, .slice g4 W.res.length d4]) (by simp))).four'
 obtain ⟨z0, z1, z2, z3, z4⟩ := (show Blk X3 kc #[.slice none 0 0, .slice none 0 0, .slice none 0 0, .slice none 0 0] 40 from rB_blk (HR3.out.o.on (rB kc 40 [.slice none 0 0, .slice none 0 0, .slice none 0 0, .slice none 0 0]) (by simp))).four'
 obtain ⟨y0, y1, y2⟩ := (show Blk X3 ke #[.int .i64 0, .int .i64 0] 42 from rB_blk (HR3.out.o.on (rB ke 42 [.int .i64 0, .int .i64 0]) (by simp))).two
 have h8 : Rs X B X3 (P ++ rB ka 40 [.slice g1 W.gens.length d1, .slice g2 W.free.length d2, .slice g3 W.tabs.length d3, .slice g4 W.res.length d4] :: (rB kc 40 [.slice none 0 0, .slice none 0 0, .slice none 0 0, .slice none 0 0] :: rB ke 42 [.int .i64 0, .int .i64 0] :: rI (.slice sg' G'.length cg') G' :: rI (.slice sf' F'.length cf') F' :: rB kp 36 [.slice sg' G'.length cg', .slice sf' F'.length cf'] :: rB kq 42 [.int .i64 e.1, .int .i64 e.2] :: rW ⟨.slice g1 W.gens.length d1, .slice g2 W.free.length d2, .slice g3 W.tabs.length d3, .slice g4 W.res.length d4, ts⟩ W)) := by simpa only [List.append_assoc, List.cons_append, List.nil_append] using HR3.out
 have hce : ¬ kc = ke := own_ne (P := P ++ [rB ka 40 [.slice g1 W.gens.length d1, .slice g2 W.free.length d2, .slice g3 W.tabs.length d3, .slice g4 W.res.length d4]]) (r := rB kc 40 [.slice none 0 0, .slice none 0 0, .slice none 0 0, .slice none 0 0]) (q := rB ke 42 [.int .i64 0, .int .i64 0]) (by have h := h8.o; simp only [List.append_assoc, List.cons_append, List.nil_append] at h ⊢; exact h) rfl (by simp) rfl
 have hec : ¬ ke = kc := fun h => hce h.symm
 have h9 := Rs.less P _ (Rs.setB _ _ 1 (.int .i64 0) (Rs.setB _ _ 0 (.int .i64 0) (Rs.less P _ (Rs.setB _ _ 3 (.slice g4 W.res.length d4) (Rs.setB _ _ 2 (.slice g3 W.tabs.length d3) (Rs.setB _ _ 1 (.slice g2 W.free.length d2) (Rs.setB _ _ 0 (.slice g1 W.gens.length d1) (Rs.less P _ h8))))))))
 have H9 := Hid.mk' ((Rs.less P _ (Rs.less P _ (Rs.less P _ (Rs.less P _ h9)))))
 clear h8 h9 HR3; go_wp2_with fail; refine bodyPost_ret (v := .tuple #[.agg #[.slice g1 W.gens.length d1, .slice g2 W.free.length d2, .slice g3 W.tabs.length d3, .slice g4 W.res.length d4], .agg #[.int .i64 0, .int .i64 0], .int .i64 3]) (by simp [results, Tryz.results27, go_sem, z0, z1, z2, z3, y0, y1, hce, hec]) rfl ⟨⟨.slice g1 W.gens.length d1, .slice g2 W.free.length d2, .slice g3 W.tabs.length d3, .slice g4 W.res.length d4, ts⟩, W, (0, 0), 3, rfl, H9.out, HF.out, HMV.out⟩
end Go.Proofs.YtbgeobpdojmdaaaGreat
