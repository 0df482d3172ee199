import Derived.Test.YtbgeobpdojmdaaaGreatSq46
namespace Go.Proofs.YtbgeobpdojmdaaaGreat
set_option linter.unusedVariables false
set_option linter.unusedSimpArgs false
section
open Go.RowKit Go.Maps Go.WideMaps
set_option maxRecDepth 100000
def SpP (X : World) (B b n : Nat) (f : E2 → Option E2) (P : List OR) (bb : Nat) (g1 g2 : Option Addr) (d1 d2 : Nat) (Vr : Value) (a3 : Option Addr) (cp : Nat) (ts : List TV) (W : Wd) (L : List C5) (G' F' : List Int) (e : E2) (cd : Int) (r : Ending) (w' : World) : Prop :=
   (¬ cd = 0 ∧ r = .returned (.tuple #[.agg #[.int .i64 0, .int .i64 0], .int .i64 3]) ∧ Rm X B b n f w' (P ++ rB bb 88 [.slice g1 W.gens.length d1, .slice g2 W.free.length d2, .slice a3 W.tabs.length cp, Vr, .map (some b)] :: rW ⟨.slice g1 W.gens.length d1, .slice g2 W.free.length d2, .slice a3 W.tabs.length cp, Vr, ts⟩ W)) ∨
   (cd = 0 ∧ ∃ K : List C5, K.Perm L ∧ K.Pairwise (fun a b => a.1 ≤ b.1) ∧ (
    (r = .returned (.tuple #[.agg #[.int .i64 0, .int .i64 0], .int .i64 3]) ∧ (∀ t ∈ W.tabs, ¬ t.cols = K.map (·.1)) ∧ W.tabs.length = 40 ∧ Rm X B b n f w' (P ++ rB bb 88 [.slice g1 W.gens.length d1, .slice g2 W.free.length d2, .slice a3 W.tabs.length cp, Vr, .map (some b)] :: rW ⟨.slice g1 W.gens.length d1, .slice g2 W.free.length d2, .slice a3 W.tabs.length cp, Vr, ts⟩ W)) ∨
    (∃ (i : Nat) (T1 : Tab) (W1 : Wd) (s1 : Option Addr) (k1 : Nat) (s2 : Option Addr) (k2 : Nat) (st : Option Addr) (cp1 : Nat) (ts1 : List TV), r = .returned (.tuple #[.agg #[.int .i64 e.1, .int .i64 e.2], .int .i64 0]) ∧ GoA W W1 T1 K i ∧
     OWf ⟨.slice s1 G'.length k1, .slice s2 F'.length k2, .slice st W1.tabs.length cp1, Vr, ts1⟩ (setW ⟨G', F', W1.tabs, W1.res⟩ i (addT T1 e K)) ∧
     Rm X B b (n + 1) (fun x => if x = e then some ((i : Int), (T1.rows.length : Int)) else f x) w' (P ++ rB bb 88 [.slice s1 G'.length k1, .slice s2 F'.length k2, .slice st W1.tabs.length cp1, Vr, .map (some b)] :: rW ⟨.slice s1 G'.length k1, .slice s2 F'.length k2, .slice st W1.tabs.length cp1, Vr, ts1⟩ (setW ⟨G', F', W1.tabs, W1.res⟩ i (addT T1 e K))))))
set_option maxHeartbeats 8000000 in
theorem spawn_any {X : World} {B b n : Nat} {f : E2 → Option E2} (P : List OR) (bb : Nat) (g1 g2 : Option Addr) (d1 d2 : Nat) (Vr : Value) (a3 : Option Addr) (cp : Nat) (ts : List TV) (W : Wd) (sc : Option Addr) (cc : Nat) (L : List C5) (Bc : Nat) (w : World) (hR : Rm X B b n f w (P ++ rB bb 88 [.slice g1 W.gens.length d1, .slice g2 W.free.length d2, .slice a3 W.tabs.length cp, Vr, .map (some b)] :: rW ⟨.slice g1 W.gens.length d1, .slice g2 W.free.length d2, .slice a3 W.tabs.length cp, Vr, ts⟩ W)) (hF : OWf ⟨.slice g1 W.gens.length d1, .slice g2 W.free.length d2, .slice a3 W.tabs.length cp, Vr, ts⟩ W) (hk : kW W)
  (hL : Els 5 cCell w Bc sc L) (okL : okCs L) (lL : L.length ≤ 12) (hcl : ∀ T ∈ W.tabs, T.cells.length = T.cols.length) (hrl : ∀ T ∈ W.tabs, T.rows.length ≤ 100000) (hll : ∀ T ∈ W.tabs, ∀ M ∈ T.cells, M.length ≤ 100000) (h40 : W.tabs.length ≤ 40) (hok : okE W.gens W.free = true) (hn : n ≤ 2000000000000) (G' F' : List Int) (e : E2) (cd : Int) (htk : takeB W.gens W.free = (G', F', e, cd)) (be : bE e) :
  Calls Tryz.prog 35 #[.pointer (some ⟨bb, 0, none⟩), .slice sc L.length cc] w fun r w' =>
   SpP X B b n f P bb g1 g2 d1 d2 Vr a3 cp ts W L G' F' e cd r w' := by
 have hal := alloc_old
 have haf := alloc_oldf
 have hR0 : Rm X B b n f (w.alloc (.cells #[.int .i64 0, .int .i64 0] 42)) (P ++ rB w.heap.size 42 [.int .i64 0, .int .i64 0] :: (rB bb 88 [.slice g1 W.gens.length d1, .slice g2 W.free.length d2, .slice a3 W.tabs.length cp, Vr, .map (some b)] :: rW ⟨.slice g1 W.gens.length d1, .slice g2 W.free.length d2, .slice a3 W.tabs.length cp, Vr, ts⟩ W)) :=
  Rm.ins P _ hR (bl_alloc (Below.refl _ _) _) (blk_rB (Blk.new w _ _) (Nat.le_refl _))
 have hL0 := hL.later cCell_keeps (bl_alloc (Below.refl _ w) (.cells #[.int .i64 0, .int .i64 0] 42))
 go_enter Tryz.func35, Tryz.ntmps35
 go_upto_region 1 with fail
 generalize hX0 : w.alloc (.cells #[.int .i64 0, .int .i64 0] 42) = X0 at hR0 hL0 ⊢
 generalize hka : w.heap.size = ka at hR0 ⊢
 clear hX0 hka hR hL; have HF := Hid.mk' hF
 have HR0 := Hid.mk' hR0
 have HL0 := Hid.mk' hL0
 have HTK := Hid.mk' htk
 have HSZ := Hid.mk' (And.intro hcl (And.intro hrl hll))
 have HOK := Hid.mk' hok
 have HOL := Hid.mk' okL
 have HK := Hid.mk' hk
 have HBE := Hid.mk' be
 have KB0 := (show Blk X0 bb #[.slice g1 W.gens.length d1, .slice g2 W.free.length d2, .slice a3 W.tabs.length cp, Vr, .map (some b)] 88 from rB_blk (hR0.rs.o.on (rB bb 88 [.slice g1 W.gens.length d1, .slice g2 W.free.length d2, .slice a3 W.tabs.length cp, Vr, .map (some b)]) (by simp)))
 have c0 := KB0.cell 0
 have c1 := KB0.cell 1
 have o1 : (rI (.slice g1 W.gens.length d1) W.gens).on X0 B := hR0.rs.o.on _ (by simp [rW])
 have o2 : (rI (.slice g2 W.free.length d2) W.free).on X0 B := hR0.rs.o.on _ (by simp [rW])
 have htv := genTake_any g1 g2 d1 d2 W.gens W.free X0 (rI_els o1).ints (rI_els o2).ints hk.1 hk.2.1 (own_nil o1) (own_nil o2)
 rw [htk] at htv
 have HTV := Hid.mk' htv
 clear hR0 hF hL0 htk hcl hrl hll hok okL hk o1 o2 htv be KB0; go_wp2_with fail; refine HTV.out.mono ?_
 rintro r w1 ⟨s1, k1, s2, k2, hr1, va, vb, hap, hb1⟩
 dsimp only at hr1 va vb hap
 subst hr1
 have hO : Owns w1 X0.heap.size [rI (.slice s1 G'.length k1) G', rI (.slice s2 F'.length k2) F'] := (Owns.one (r := rI (.slice s1 G'.length k1) G') va).join (Owns.one (r := rI (.slice s2 F'.length k2) F') vb) (fun g h1 h2 => by
  obtain ⟨q, hq, e1⟩ := mem_blks.1 h1
  obtain ⟨q', hq', e2⟩ := mem_blks.1 h2
  simp only [List.mem_singleton] at hq hq'
  subst hq hq'
  exact hap g e1 e2)
 have h1 := Rm.insM (P ++ [rB ka 42 [.int .i64 0, .int .i64 0]]) [rI (.slice s1 G'.length k1) G', rI (.slice s2 F'.length k2) F'] (rB bb 88 [.slice g1 W.gens.length d1, .slice g2 W.free.length d2, .slice a3 W.tabs.length cp, Vr, .map (some b)] :: rW ⟨.slice g1 W.gens.length d1, .slice g2 W.free.length d2, .slice a3 W.tabs.length cp, Vr, ts⟩ W) (by simpa only [List.append_assoc, List.cons_append, List.nil_append] using HR0.out) hb1 hO
 have h2 := Rm.ins (P ++ [rB ka 42 [.int .i64 0, .int .i64 0], rI (.slice s1 G'.length k1) G', rI (.slice s2 F'.length k2) F']) (rB bb 88 [.slice g1 W.gens.length d1, .slice g2 W.free.length d2, .slice a3 W.tabs.length cp, Vr, .map (some b)] :: rW ⟨.slice g1 W.gens.length d1, .slice g2 W.free.length d2, .slice a3 W.tabs.length cp, Vr, ts⟩ W) (by simpa only [List.append_assoc, List.cons_append, List.nil_append] using h1) (bl_alloc (Below.refl _ _) (.cells #[.slice s1 G'.length k1, .slice s2 F'.length k2] 36)) (blk_rB (cs := [.slice s1 G'.length k1, .slice s2 F'.length k2]) (Blk.new w1 _ _) (Nat.le_refl _))
 have h3 := Rm.ins (P ++ [rB ka 42 [.int .i64 0, .int .i64 0], rI (.slice s1 G'.length k1) G', rI (.slice s2 F'.length k2) F', rB w1.heap.size 36 [.slice s1 G'.length k1, .slice s2 F'.length k2]]) (rB bb 88 [.slice g1 W.gens.length d1, .slice g2 W.free.length d2, .slice a3 W.tabs.length cp, Vr, .map (some b)] :: rW ⟨.slice g1 W.gens.length d1, .slice g2 W.free.length d2, .slice a3 W.tabs.length cp, Vr, ts⟩ W) (by simpa only [List.append_assoc, List.cons_append, List.nil_append] using h2) (bl_alloc (Below.refl _ _) (.cells #[.int .i64 e.1, .int .i64 e.2] 42)) (blk_rB (cs := [.int .i64 e.1, .int .i64 e.2]) (Blk.new _ _ _) (Nat.le_refl _))
 simp only [World.size_alloc] at h3
 have HR3 : Hid (Rm X B b n f ((w1.alloc (.cells #[.slice s1 G'.length k1, .slice s2 F'.length k2] 36)).alloc (.cells #[.int .i64 e.1, .int .i64 e.2] 42)) ((P ++ [rB ka 42 [.int .i64 0, .int .i64 0], rI (.slice s1 G'.length k1) G', rI (.slice s2 F'.length k2) F', rB w1.heap.size 36 [.slice s1 G'.length k1, .slice s2 F'.length k2], rB (w1.heap.size + 1) 42 [.int .i64 e.1, .int .i64 e.2]]) ++ rB bb 88 [.slice g1 W.gens.length d1, .slice g2 W.free.length d2, .slice a3 W.tabs.length cp, Vr, .map (some b)] :: rW ⟨.slice g1 W.gens.length d1, .slice g2 W.free.length d2, .slice a3 W.tabs.length cp, Vr, ts⟩ W)) := by
  show Rm _ _ _ _ _ _ _
  simpa only [List.append_assoc, List.cons_append, List.nil_append] using h3
 have HL3 := Hid.mk' (HL0.out.later cCell_keeps (bl_alloc (bl_alloc hb1 (.cells #[.slice s1 G'.length k1, .slice s2 F'.length k2] 36)) (.cells #[.int .i64 e.1, .int .i64 e.2] 42)))
 clear h1 h2 h3 hO va vb hap hb1 HR0 HL0 HTV c0 c1; go_upto_region 2 with fail
 generalize hX3 : ((w1.alloc (.cells #[.slice s1 G'.length k1, .slice s2 F'.length k2] 36)).alloc (.cells #[.int .i64 e.1, .int .i64 e.2] 42)) = X3 at HR3 HL3 ⊢
 generalize hkp : w1.heap.size = kp at HR3 ⊢
 generalize hkq : kp + 1 = kq at HR3 ⊢
 clear hX3 hkp hkq; by_cases hcd : cd = 0
 ·
  subst hcd
  go_wp2_with fail; refine (copiedC_any sc cc L Bc X3 HL3.out (by omega)).mono ?_
  rintro r w2 ⟨rfl, hC2, hb2⟩
  go_wp2_with fail; refine (sortC_any X3.heap.size L X3.heap.size w2 hC2 lL).mono ?_
  rintro r w4 ⟨rfl, K, hKp, hKs, hK4, hb4⟩
  have HKP := Hid.mk' (And.intro hKp hKs)
  have HKL : Hid (K.length = L.length) := hKp.length_eq
  have HOKK : Hid (okCs K) := fun a ha => HOL.out a (hKp.mem_iff.1 ha)
  have HR4 : Hid (Rm X B b n f w4 ((P ++ [rB ka 42 [.int .i64 0, .int .i64 0], rI (.slice s1 G'.length k1) G', rI (.slice s2 F'.length k2) F', rB kp 36 [.slice s1 G'.length k1, .slice s2 F'.length k2], rB kq 42 [.int .i64 e.1, .int .i64 e.2], rC (.slice (some ⟨X3.heap.size, 0, none⟩) L.length L.length) K]) ++ rB bb 88 [.slice g1 W.gens.length d1, .slice g2 W.free.length d2, .slice a3 W.tabs.length cp, Vr, .map (some b)] :: rW ⟨.slice g1 W.gens.length d1, .slice g2 W.free.length d2, .slice a3 W.tabs.length cp, Vr, ts⟩ W)) := by
   show Rm _ _ _ _ _ _ _
   have h := Rm.ins (P ++ [rB ka 42 [.int .i64 0, .int .i64 0], rI (.slice s1 G'.length k1) G', rI (.slice s2 F'.length k2) F', rB kp 36 [.slice s1 G'.length k1, .slice s2 F'.length k2], rB kq 42 [.int .i64 e.1, .int .i64 e.2]]) (rB bb 88 [.slice g1 W.gens.length d1, .slice g2 W.free.length d2, .slice a3 W.tabs.length cp, Vr, .map (some b)] :: rW ⟨.slice g1 W.gens.length d1, .slice g2 W.free.length d2, .slice a3 W.tabs.length cp, Vr, ts⟩ W) HR3.out (hb2.trans hb4) hK4
   simpa only [List.append_assoc, List.cons_append, List.nil_append] using h
  clear HR3 HL3 hC2 hb2 hKp hKs hK4 hb4; generalize hkc : X3.heap.size = kc at HR4 ⊢
  clear hkc; obtain ⟨u0, u1, u2⟩ := (show Blk w4 kq #[.int .i64 e.1, .int .i64 e.2] 42 from rB_blk (HR4.out.rs.o.on (rB kq 42 [.int .i64 e.1, .int .i64 e.2]) (by simp))).two
  have HGO := Hid.mk' (goTo_any (P ++ [rB ka 42 [.int .i64 0, .int .i64 0], rI (.slice s1 G'.length k1) G', rI (.slice s2 F'.length k2) F', rB kp 36 [.slice s1 G'.length k1, .slice s2 F'.length k2], rB kq 42 [.int .i64 e.1, .int .i64 e.2], rC (.slice (some ⟨kc, 0, none⟩) L.length L.length) K]) bb _ _ Vr a3 cp ts W e (some ⟨kc, 0, none⟩) L.length K w4 HR4.out HF.out HK.out (by rw [HKL.out]; simp) HOKK.out (by rw [HKL.out]; omega) HSZ.out.1 HSZ.out.2.1 HSZ.out.2.2 h40 HBE.out (by omega))
  rw [HKL.out] at HGO
  clear HR4; go_wp2_with fail; refine HGO.out.mono ?_
  clear HGO u0 u1 u2; rintro r w5 (⟨rfl, hno, h4, hR5⟩ | ⟨i, T1, W1, st, cp1, ts1, rfl, hGA, hF5, hR5⟩)
  ·
   have HNO := Hid.mk' (And.intro hno h4)
   have HR5 := Hid.mk' hR5
   clear hR5 hno h4; obtain ⟨y0, y1, y2⟩ := (show Blk w5 ka #[.int .i64 0, .int .i64 0] 42 from rB_blk (HR5.out.rs.o.on (rB ka 42 [.int .i64 0, .int .i64 0]) (by simp))).two
   have h6 : Rm X B b n f w5 (P ++ rB ka 42 [.int .i64 0, .int .i64 0] :: (rI (.slice s1 G'.length k1) G' :: rI (.slice s2 F'.length k2) F' :: rB kp 36 [.slice s1 G'.length k1, .slice s2 F'.length k2] :: rB kq 42 [.int .i64 e.1, .int .i64 e.2] :: rC (.slice (some ⟨kc, 0, none⟩) L.length L.length) K :: (rB bb 88 [.slice g1 W.gens.length d1, .slice g2 W.free.length d2, .slice a3 W.tabs.length cp, Vr, .map (some b)] :: rW ⟨.slice g1 W.gens.length d1, .slice g2 W.free.length d2, .slice a3 W.tabs.length cp, Vr, ts⟩ W))) := by simpa only [List.append_assoc, List.cons_append, List.nil_append] using HR5.out
   have h7 := (carr_Rm X B b n f).setB _ _ 1 (.int .i64 0) ((carr_Rm X B b n f).setB _ _ 0 (.int .i64 0) h6)
   have H7 := Hid.mk' (Rm.less P _ (Rm.less P _ (Rm.less P _ (Rm.less P _ (Rm.less P _ (Rm.less P _ h7))))))
   clear h6 h7 HR5; go_wp2_with fail; refine bodyPost_ret (v := .tuple #[.agg #[.int .i64 0, .int .i64 0], .int .i64 3]) (by simp [results, Tryz.results35, go_sem, y0, y1]) rfl (Or.inr ⟨rfl, K, HKP.out.1, HKP.out.2, Or.inl ⟨rfl, HNO.out.1, HNO.out.2, H7.out⟩⟩)
  have HGA := Hid.mk' hGA
  have HTB := Hid.mk' hGA.tabs
  have HF5 := Hid.mk' hF5
  have HR5 := Hid.mk' hR5
  clear hR5 hGA hF5; obtain ⟨p0, p1, p2⟩ := (show Blk w5 kp #[.slice s1 G'.length k1, .slice s2 F'.length k2] 36 from rB_blk (HR5.out.rs.o.on (rB kp 36 [.slice s1 G'.length k1, .slice s2 F'.length k2]) (by simp))).two
  have KB5 := (show Blk w5 bb #[.slice g1 W.gens.length d1, .slice g2 W.free.length d2, .slice st W1.tabs.length cp1, Vr, .map (some b)] 88 from rB_blk (HR5.out.rs.o.on (rB bb 88 [.slice g1 W.gens.length d1, .slice g2 W.free.length d2, .slice st W1.tabs.length cp1, Vr, .map (some b)]) (by simp)))
  have c0 := KB5.cell 0
  have c1 := KB5.cell 1
  have fb := KB5.frozen
  have h6 := (carr_Rm X B b (n + 1) (fun x => if x = e then some ((i : Int), (T1.rows.length : Int)) else f x)).setB _ _ 1 (.slice s2 F'.length k2) ((carr_Rm X B b (n + 1) (fun x => if x = e then some ((i : Int), (T1.rows.length : Int)) else f x)).setB _ _ 0 (.slice s1 G'.length k1) HR5.out)
  have HR6 : Hid (Rm X B b (n + 1) (fun x => if x = e then some ((i : Int), (T1.rows.length : Int)) else f x) ((w5.setCell ⟨bb, 0, none⟩ (.slice s1 G'.length k1)).setCell ⟨bb, 1, none⟩ (.slice s2 F'.length k2)) ((P ++ [rB ka 42 [.int .i64 0, .int .i64 0], rI (.slice s1 G'.length k1) G', rI (.slice s2 F'.length k2) F', rB kp 36 [.slice s1 G'.length k1, .slice s2 F'.length k2], rB kq 42 [.int .i64 e.1, .int .i64 e.2], rC (.slice (some ⟨kc, 0, none⟩) L.length L.length) K]) ++ rB bb 88 [.slice s1 G'.length k1, .slice s2 F'.length k2, .slice st W1.tabs.length cp1, Vr, .map (some b)] :: rW ⟨.slice g1 W.gens.length d1, .slice g2 W.free.length d2, .slice st W1.tabs.length cp1, Vr, ts1⟩ (setW W1 i (addT T1 e K)))) := h6
  clear h6 HR5 KB5; go_upto_region 9 with fail
  generalize hX6 : (w5.setCell ⟨bb, 0, none⟩ (.slice s1 G'.length k1)).setCell ⟨bb, 1, none⟩ (.slice s2 F'.length k2) = X6 at HR6 ⊢
  clear hX6 p0 p1 p2 c0 c1 fb; obtain ⟨y0, y1, y2⟩ := (show Blk X6 ka #[.int .i64 0, .int .i64 0] 42 from rB_blk (HR6.out.rs.o.on (rB ka 42 [.int .i64 0, .int .i64 0]) (by simp))).two
  obtain ⟨u0, u1, u2⟩ := (show Blk X6 kq #[.int .i64 e.1, .int .i64 e.2] 42 from rB_blk (HR6.out.rs.o.on (rB kq 42 [.int .i64 e.1, .int .i64 e.2]) (by simp))).two
  have h6 : Rm X B b (n + 1) (fun x => if x = e then some ((i : Int), (T1.rows.length : Int)) else f x) X6 (P ++ rB ka 42 [.int .i64 0, .int .i64 0] :: (rI (.slice s1 G'.length k1) G' :: rI (.slice s2 F'.length k2) F' :: rB kp 36 [.slice s1 G'.length k1, .slice s2 F'.length k2] :: rB kq 42 [.int .i64 e.1, .int .i64 e.2] :: rC (.slice (some ⟨kc, 0, none⟩) L.length L.length) K :: rB bb 88 [.slice s1 G'.length k1, .slice s2 F'.length k2, .slice st W1.tabs.length cp1, Vr, .map (some b)] :: (rI (.slice g1 W.gens.length d1) W1.gens :: rI (.slice g2 W.free.length d2) W1.free :: (rT (.slice st W1.tabs.length cp1) ts1 :: rV Vr W1.res :: rTabs ts1 (W1.tabs.set i (addT T1 e K)))))) := by
   have h := HR6.out
   simp only [rW, setW, List.append_assoc, List.cons_append, List.nil_append] at h ⊢
   exact h
  have h7 := Rm.less P _ ((carr_Rm X B b (n + 1) (fun x => if x = e then some ((i : Int), (T1.rows.length : Int)) else f x)).setB _ _ 1 (.int .i64 e.2) ((carr_Rm X B b (n + 1) (fun x => if x = e then some ((i : Int), (T1.rows.length : Int)) else f x)).setB _ _ 0 (.int .i64 e.1) h6))
  have h8 := Rm.less (P ++ [rI (.slice s1 G'.length k1) G', rI (.slice s2 F'.length k2) F']) _ (r := rC (.slice (some ⟨kc, 0, none⟩) L.length L.length) K) (by
   have h := Rm.less (P ++ [rI (.slice s1 G'.length k1) G', rI (.slice s2 F'.length k2) F']) _ (r := rB kq 42 [.int .i64 e.1, .int .i64 e.2]) (by
    have h := Rm.less (P ++ [rI (.slice s1 G'.length k1) G', rI (.slice s2 F'.length k2) F']) _ (r := rB kp 36 [.slice s1 G'.length k1, .slice s2 F'.length k2]) (by simpa only [List.append_assoc, List.cons_append, List.nil_append] using h7)
    exact h)
   exact h)
  have h9 := Rm.less (P ++ [rI (.slice s1 G'.length k1) G', rI (.slice s2 F'.length k2) F', rB bb 88 [.slice s1 G'.length k1, .slice s2 F'.length k2, .slice st W1.tabs.length cp1, Vr, .map (some b)]]) (rT (.slice st W1.tabs.length cp1) ts1 :: rV Vr W1.res :: rTabs ts1 (W1.tabs.set i (addT T1 e K))) (r := rI (.slice g2 W.free.length d2) W1.free) (Rm.less (P ++ [rI (.slice s1 G'.length k1) G', rI (.slice s2 F'.length k2) F', rB bb 88 [.slice s1 G'.length k1, .slice s2 F'.length k2, .slice st W1.tabs.length cp1, Vr, .map (some b)]]) _ (r := rI (.slice g1 W.gens.length d1) W1.gens) (by simpa only [List.append_assoc, List.cons_append, List.nil_append] using h8))
  have h10 : Rm X B b (n + 1) (fun x => if x = e then some ((i : Int), (T1.rows.length : Int)) else f x) _ (P ++ rB bb 88 [.slice s1 G'.length k1, .slice s2 F'.length k2, .slice st W1.tabs.length cp1, Vr, .map (some b)] :: (rI (.slice s1 G'.length k1) G' :: rI (.slice s2 F'.length k2) F' :: (rT (.slice st W1.tabs.length cp1) ts1 :: rV Vr W1.res :: rTabs ts1 (W1.tabs.set i (addT T1 e K))))) := Rm.perm h9 (by
   simp only [List.append_assoc, List.cons_append, List.nil_append]
   exact List.Perm.append_left P (List.perm_middle (l₁ := [rI (.slice s1 G'.length k1) G', rI (.slice s2 F'.length k2) F']) (l₂ := rT (.slice st W1.tabs.length cp1) ts1 :: rV Vr W1.res :: rTabs ts1 (W1.tabs.set i (addT T1 e K)))))
  have H10 := Hid.mk' h10
  clear h6 h7 h8 h9 h10 HR6; go_wp2_with fail; refine bodyPost_ret (v := .tuple #[.agg #[.int .i64 e.1, .int .i64 e.2], .int .i64 0]) (by simp [results, Tryz.results35, go_sem, y0, y1]) rfl (Or.inr ⟨rfl, K, HKP.out.1, HKP.out.2, Or.inr ⟨i, T1, W1, s1, k1, s2, k2, st, cp1, ts1, rfl, HGA.out, ⟨HF5.out.len, HF5.out.lens, HF5.out.okc, HF5.out.okr⟩, ?_⟩⟩)
  have h := H10.out
  simp only [rW, setW]
  exact h
 have HR4 := HR3
 obtain ⟨y0, y1, y2⟩ := (show Blk X3 ka #[.int .i64 0, .int .i64 0] 42 from rB_blk (HR4.out.rs.o.on (rB ka 42 [.int .i64 0, .int .i64 0]) (by simp))).two
 have h6 : Rm X B b n f X3 (P ++ rB ka 42 [.int .i64 0, .int .i64 0] :: (rI (.slice s1 G'.length k1) G' :: rI (.slice s2 F'.length k2) F' :: rB kp 36 [.slice s1 G'.length k1, .slice s2 F'.length k2] :: rB kq 42 [.int .i64 e.1, .int .i64 e.2] :: (rB bb 88 [.slice g1 W.gens.length d1, .slice g2 W.free.length d2, .slice a3 W.tabs.length cp, Vr, .map (some b)] :: rW ⟨.slice g1 W.gens.length d1, .slice g2 W.free.length d2, .slice a3 W.tabs.length cp, Vr, ts⟩ W))) := by simpa only [List.append_assoc, List.cons_append, List.nil_append] using HR4.out
 have h7 := (carr_Rm X B b n f).setB _ _ 1 (.int .i64 0) ((carr_Rm X B b n f).setB _ _ 0 (.int .i64 0) h6)
 have H7 := Hid.mk' (Rm.less P _ (Rm.less P _ (Rm.less P _ (Rm.less P _ (Rm.less P _ h7)))))
 clear h6 h7 HR4 HR3; go_wp2_with fail; refine bodyPost_ret (v := .tuple #[.agg #[.int .i64 0, .int .i64 0], .int .i64 3]) (by simp [results, Tryz.results35, go_sem, y0, y1]) rfl (Or.inl ⟨hcd, rfl, H7.out⟩)
end
section
open Go.RowKit Go.Maps Go.WideMaps
set_option maxRecDepth 100000
theorem takeB_tk {G F : List Int} (h : okE G F = true) : takeB G F = tk G F := by
 unfold takeB tk
 rw [if_pos h, take_eq]
 by_cases hF : 0 < F.length
 ·
  rw [if_pos hF, if_pos hF, last_eq hF]
 rw [if_neg hF, if_neg hF]
theorem tk_bE {G F : List Int} (h : okE G F = true) : bE (tk G F).2.2.1 := by
 have hl := okE_len h
 simp only [okE, decide_eq_true_eq] at h
 obtain ⟨h1, h2, h3, h4⟩ := h
 unfold tk
 by_cases hF : 0 < F.length
 ·
  rw [if_pos hF]
  have hm : F[F.length - 1]? = some F[F.length - 1] := List.getElem?_eq_getElem (by omega)
  have h5 := h3 _ (List.getElem_mem (show F.length - 1 < F.length by omega))
  have h6 : ∀ q : Nat, 0 ≤ (G[q]?).getD 0 ∧ (G[q]?).getD 0 ≤ 1000000 := by
   intro q
   cases hq : G[q]? with
   | none => simp
   | some g => exact h2 g (List.mem_of_getElem? hq)
  have h7 := h6 ((F[F.length - 1]?).getD 0).toNat
  rw [hm] at h7 ⊢
  simp only [Option.getD_some] at h7 ⊢
  refine ⟨⟨?_, ?_⟩, ?_, ?_⟩ <;> dsimp only <;> omega
 rw [if_neg hF]
 split
 ·
  refine ⟨⟨?_, ?_⟩, ?_, ?_⟩ <;> dsimp only <;> omega
 refine ⟨⟨?_, ?_⟩, ?_, ?_⟩ <;> dsimp only <;> omega
theorem asc_one : ∀ K M : List C5, K.Perm M → K.Pairwise (fun a b => a.1 ≤ b.1) → M.Pairwise (fun a b => a.1 ≤ b.1) → (K.map (·.1)).Nodup → K = M
 | [], M, hp, _, _, _ => by rw [hp.symm.eq_nil]
 | a :: K, [], hp, _, _, _ => by have := hp.length_eq; simp at this
 | a :: K, b :: M, hp, h1, h2, hd => by
  have hab : a = b := by
   by_cases hne : a = b
   ·
    exact hne
   exfalso
   have ha : a ∈ b :: M := hp.mem_iff.1 (by simp)
   have hb : b ∈ a :: K := hp.mem_iff.2 (by simp)
   rcases List.mem_cons.1 ha with h | ha
   ·
    exact hne h
   rcases List.mem_cons.1 hb with h | hb
   ·
    exact hne h.symm
   have e1 := (List.pairwise_cons.1 h1).1 b hb
   have e2 := (List.pairwise_cons.1 h2).1 a ha
   simp only [List.map_cons, List.nodup_cons] at hd
   exact hd.1 (List.mem_map.2 ⟨b, hb, by omega⟩)
  subst hab
  simp only [List.map_cons, List.nodup_cons] at hd
  rw [asc_one K M (List.Perm.cons_inv hp) (List.pairwise_cons.1 h1).2 (List.pairwise_cons.1 h2).2 hd.2]
theorem sort_is {A : List (ByteArray × Int)} {L K : List C5} (h : sortB A L = true) (hp : K.Perm L) (hs : K.Pairwise (fun a b => a.1 ≤ b.1)) : K = outL L A.length ∧ L.length ≤ A.length := by
 have hn := ((sortB_iff A L).1 h).2
 have hpo := outL_perm L A.length
 simp only [sortB, Bool.and_eq_true, decide_eq_true_eq, List.all_eq_true, List.mem_range] at h
 obtain ⟨_, h2, h3⟩ := h
 have h4 : ∀ a ∈ L, (decide (0 ≤ a.1) && decide (a.1 < (A.length : Int))) = true := by
  rw [← List.length_filter_eq_length_iff]
  rw [← hpo.length_eq]
  exact h3
 have hpl : (outL L A.length).Perm L := by
  have e : L.filter (fun a => decide (0 ≤ a.1) && decide (a.1 < (A.length : Int))) = L := List.filter_eq_self.2 h4
  rw [e] at hpo
  exact hpo
 refine ⟨asc_one K (outL L A.length) (hp.trans hpl.symm) hs (outL_sorted L A.length) ?_, ?_⟩
 ·
  rw [(hp.map (·.1)).nodup_iff]
  exact hn
 have := outL_len_nodup L hn A.length
 omega
theorem sort_len {A : List (ByteArray × Int)} {L : List C5} (h : sortB A L = true) : L.length ≤ A.length := by
 have hn := ((sortB_iff A L).1 h).2
 simp only [sortB, Bool.and_eq_true, decide_eq_true_eq, List.all_eq_true, List.mem_range] at h
 obtain ⟨_, h2, h3⟩ := h
 have := outL_len_nodup L hn A.length
 omega
end
end Go.Proofs.YtbgeobpdojmdaaaGreat
