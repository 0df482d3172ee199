import Derived.Test.YtkihhadcoclnaaaGreatSp34
namespace Go.Proofs.YtkihhadcoclnaaaGreat
open Go.RowKit Go.Maps Go.WideMaps
set_option linter.unusedVariables false
set_option linter.unusedSimpArgs false
set_option maxRecDepth 100000
theorem Carr.rowsIn {B : Nat} {Q : World → List OR → Prop} (c : Carr B Q) {w w1 : World} {P : List OR} {V : WV} {W : Wd} {i : Nat} {t : TV} {T : Tab} {R' : List E2} (hR : Q w (P ++ rW V W)) (ht : V.ts[i]? = some t) (hT : W.tabs[i]? = some T)
  (hg : w.grownBy w1 t.r.ownBlock) (hr : (rE t.r R').on w1 B) : Q w1 (P ++ rW V (setW W i ⟨T.cols, R', T.cells⟩)) := by
 rw [rW_split ht hT] at hR
 have h1 := c.turn ((P ++ [rI V.g W.gens, rI V.f W.free, rT V.t V.ts, rV V.r W.res] ++ rTabs (V.ts.take i) (W.tabs.take i)) ++ [rI t.c T.cols]) (rS t.x t.xs :: rVs t.xs T.cells ++ rTabs (V.ts.drop (i + 1)) (W.tabs.drop (i + 1))) (r := rE t.r T.rows) (r' := rE t.r R') (by simpa [rTab] using hR) hg hr (fun g hg => Or.inl hg)
 rw [rW_setW ht hT]
 simpa [rTab] using h1
theorem Carr.colIn {B : Nat} {Q : World → List OR → Prop} (c : Carr B Q) {w w1 : World} {P : List OR} {V : WV} {W : Wd} {i m : Nat} {t : TV} {T : Tab} {v : Value} {L L' : List V4} (hR : Q w (P ++ rW V W)) (ht : V.ts[i]? = some t) (hT : W.tabs[i]? = some T) (hx : t.xs[m]? = some v) (hL : T.cells[m]? = some L)
  (hg : w.grownBy w1 v.ownBlock) (hr : (rV v L').on w1 B) : Q w1 (P ++ rW V (setW W i ⟨T.cols, T.rows, T.cells.set m L'⟩)) := by
 rw [rW_split ht hT] at hR
 have lx := (List.getElem?_eq_some_iff.1 hx).1
 have lL := (List.getElem?_eq_some_iff.1 hL).1
 have e0 := rVs_split hx hL
 have h1 := c.turn ((P ++ [rI V.g W.gens, rI V.f W.free, rT V.t V.ts, rV V.r W.res] ++ rTabs (V.ts.take i) (W.tabs.take i)) ++ [rI t.c T.cols, rE t.r T.rows, rS t.x t.xs] ++ rVs (t.xs.take m) (T.cells.take m)) (rVs (t.xs.drop (m + 1)) (T.cells.drop (m + 1)) ++ rTabs (V.ts.drop (i + 1)) (W.tabs.drop (i + 1))) (r := rV v L) (r' := rV v L') (by rw [rTab, e0] at hR; simpa using hR) hg hr (fun g hg => Or.inl hg)
 rw [rW_setW ht hT]
 unfold rTab
 dsimp only
 rw [rVs_set hx hL]
 simpa using h1
theorem rE_set {w : World} {B g n c : Nat} {L : List E2} {j : Nat} {p : E2} (hp : L[j]? = some p) (v : E2) (h : (rE (.slice (some ⟨g, 0, none⟩) n c) L).on w B) (hn : n = L.length) :
  (rE (.slice (some ⟨g, 0, none⟩) n c) (L.set j v)).on ((w.setCell ⟨g, j * 2, none⟩ (.int .i64 v.1)).setCell ⟨g, j * 2 + 1, none⟩ (.int .i64 v.2)) B ∧ w.grownBy ((w.setCell ⟨g, j * 2, none⟩ (.int .i64 v.1)).setCell ⟨g, j * 2 + 1, none⟩ (.int .i64 v.2)) (some g) := by
 refine ⟨?_, grow_set (grow_set (grown_refl _ _) _ _) _ _⟩
 subst hn
 have h0 : World.ownsRow w B 48 2 (.slice (some ⟨g, 0, none⟩) L.length c) L.length (L.flatMap fun p : E2 => [.int .i64 p.1, .int .i64 p.2]) := h
 have h1 := (World.ownsRow.stored h0 (j * 2 + 0) (.int .i64 v.1)).1
 rw [flat_put (k := 2) (f := fun p : E2 => [Value.int .i64 p.1, Value.int .i64 p.2]) (fun _ => rfl) L j p (v.1, p.2) 0 (.int .i64 v.1) hp (by omega) rfl] at h1
 have h2 := (World.ownsRow.stored h1 (j * 2 + 1) (.int .i64 v.2)).1
 have hj := (List.getElem?_eq_some_iff.1 hp).1
 rw [flat_put (k := 2) (f := fun p : E2 => [Value.int .i64 p.1, Value.int .i64 p.2]) (fun _ => rfl) (L.set j (v.1, p.2)) j (v.1, p.2) v 1 (.int .i64 v.2) (by rw [List.getElem?_set_self hj]) (by omega) rfl, List.set_set] at h2
 show World.ownsRow _ B 48 2 (.slice (some ⟨g, 0, none⟩) L.length c) (L.set j v).length ((L.set j v).flatMap fun p : E2 => [.int .i64 p.1, .int .i64 p.2])
 rw [List.length_set]
 exact h2
theorem rV_set' {w : World} {B g n c : Nat} {L : List V4} {j : Nat} {p : V4} (hp : L[j]? = some p) (v : V4) (h : (rV (.slice (some ⟨g, 0, none⟩) n c) L).on w B) (hn : n = L.length) :
  (rV (.slice (some ⟨g, 0, none⟩) n c) (L.set j v)).on ((((w.setCell ⟨g, j * 4, none⟩ (.int .i64 v.1)).setCell ⟨g, j * 4 + 1, none⟩ (.int .i64 v.2.1)).setCell ⟨g, j * 4 + 2, none⟩ (.float .f64 v.2.2.1)).setCell ⟨g, j * 4 + 3, none⟩ (.float .f64 v.2.2.2)) B ∧
  w.grownBy ((((w.setCell ⟨g, j * 4, none⟩ (.int .i64 v.1)).setCell ⟨g, j * 4 + 1, none⟩ (.int .i64 v.2.1)).setCell ⟨g, j * 4 + 2, none⟩ (.float .f64 v.2.2.1)).setCell ⟨g, j * 4 + 3, none⟩ (.float .f64 v.2.2.2)) (some g) := by
 subst hn
 exact rV_set hp v h
theorem rE_take {w : World} {B n c m : Nat} {s : Option Addr} {L : List E2} (h : (rE (.slice s n c) L).on w B) (hn : n = L.length) (hm : m ≤ n) : (rE (.slice s m c) (L.take m)).on w B := by
 subst hn
 have h0 : World.ownsRow w B 48 2 (.slice s L.length c) L.length (L.flatMap fun p : E2 => [.int .i64 p.1, .int .i64 p.2]) := h
 have h1 := ownsRow_take h0 m hm
 rw [← flat_take (k := 2) (fun _ => rfl)] at h1
 show World.ownsRow w B 48 2 (.slice s m c) (L.take m).length ((L.take m).flatMap fun p : E2 => [.int .i64 p.1, .int .i64 p.2])
 rw [List.length_take, Nat.min_eq_left hm]
 exact h1
theorem rV_take {w : World} {B n c m : Nat} {s : Option Addr} {L : List V4} (h : (rV (.slice s n c) L).on w B) (hn : n = L.length) (hm : m ≤ n) : (rV (.slice s m c) (L.take m)).on w B := by
 subst hn
 have h0 : World.ownsRow w B 59 4 (.slice s L.length c) L.length (L.flatMap vcells) := h
 have h1 := ownsRow_take h0 m hm
 rw [← flat_take (k := 4) (fun _ => rfl)] at h1
 show World.ownsRow w B 59 4 (.slice s m c) (L.take m).length ((L.take m).flatMap vcells)
 rw [List.length_take, Nat.min_eq_left hm]
 exact h1
theorem own_cap {w : World} {B n c : Nat} {T : TypeId} {K : Nat} {s : Option Addr} {xs : List Value} (h : w.ownsRow B T K (.slice s n c) n xs) : n ≤ c := by
 rcases h.2 with ⟨h1, h2⟩ | ⟨g, cap, cur, h1, hb, hg, hc, _⟩
 ·
  omega
 simp only [Value.slice.injEq] at h1
 obtain ⟨_, _, rfl⟩ := h1
 exact hc
theorem setW_setW (W : Wd) (i : Nat) (A C : Tab) : setW (setW W i A) i C = setW W i C := by simp [setW, List.set_set]
theorem wo_eq {α : Type} {L : List α} {i : Nat} {x : α} (h : L[L.length - 1]? = some x) : wo L i = (L.set i x).take (L.length - 1) := by
 unfold wo
 rw [h]
set_option maxHeartbeats 8000000 in
theorem l4Leave_any {X : World} {B : Nat} (P : List OR) (g1 g2 g4 : Option Addr) (d1 d2 d4 : Nat) (tb cp : Nat) (ts : List TV) (W : Wd) (i j : Nat) (T : Tab) (w : World) (hR : Rs X B w (P ++ rW ⟨.slice g1 W.gens.length d1, .slice g2 W.free.length d2, .slice (some ⟨tb, 0, none⟩) W.tabs.length cp, .slice g4 W.res.length d4, ts⟩ W)) (hF : OWf ⟨.slice g1 W.gens.length d1, .slice g2 W.free.length d2, .slice (some ⟨tb, 0, none⟩) W.tabs.length cp, .slice g4 W.res.length d4, ts⟩ W) (hT : W.tabs[i]? = some T) (hj : j < T.rows.length) (hk : kW W) (hl : ∀ L ∈ T.cells, L.length = T.rows.length) :
  Calls Tryz.prog 117 #[.agg #[.slice g1 W.gens.length d1, .slice g2 W.free.length d2, .slice (some ⟨tb, 0, none⟩) W.tabs.length cp, .slice g4 W.res.length d4], .int .i64 i, .int .i64 j] w fun e w' => ∃ ts', e = .returned (.agg #[.slice g1 W.gens.length d1, .slice g2 W.free.length d2, .slice (some ⟨tb, 0, none⟩) W.tabs.length cp, .slice g4 W.res.length d4]) ∧ Rs X B w' (P ++ rW ⟨.slice g1 W.gens.length d1, .slice g2 W.free.length d2, .slice (some ⟨tb, 0, none⟩) W.tabs.length cp, .slice g4 W.res.length d4, ts'⟩ (setW W i (gone T j))) ∧ OWf ⟨.slice g1 W.gens.length d1, .slice g2 W.free.length d2, .slice (some ⟨tb, 0, none⟩) W.tabs.length cp, .slice g4 W.res.length d4, ts'⟩ (setW W i (gone T j)) := by
 have hal := alloc_old
 have haf := alloc_oldf
 have hi : i < W.tabs.length := (List.getElem?_eq_some_iff.1 hT).1
 have hkt := hk.2.2.1.2 T (List.mem_of_getElem? hT)
 have hil : W.tabs.length ≤ 1048576 := hk.2.2.1.1
 have hrl : T.rows.length ≤ 1048576 := hkt.2.1
 have hcl : T.cells.length ≤ 1048576 := hkt.2.2.1
 have HLS := Hid.mk' hl
 have HF := Hid.mk' hF
 have HT := Hid.mk' hT
 have hr0 : Rs X B ((w.alloc (.cells #[.slice g1 W.gens.length d1, .slice g2 W.free.length d2, .slice (some ⟨tb, 0, none⟩) W.tabs.length cp, .slice g4 W.res.length d4] 40)).alloc (.cells #[.slice none 0 0, .slice none 0 0, .slice none 0 0, .slice none 0 0] 40)) (P ++ [rB w.heap.size 40 [.slice g1 W.gens.length d1, .slice g2 W.free.length d2, .slice (some ⟨tb, 0, none⟩) W.tabs.length cp, .slice g4 W.res.length d4], rB (w.heap.size + 1) 40 [.slice none 0 0, .slice none 0 0, .slice none 0 0, .slice none 0 0]] ++ rW ⟨.slice g1 W.gens.length d1, .slice g2 W.free.length d2, .slice (some ⟨tb, 0, none⟩) W.tabs.length cp, .slice g4 W.res.length d4, ts⟩ W) := by
  have h1 := Rs.ins P _ hR (bl_alloc (Below.refl _ _) (.cells #[.slice g1 W.gens.length d1, .slice g2 W.free.length d2, .slice (some ⟨tb, 0, none⟩) W.tabs.length cp, .slice g4 W.res.length d4] 40)) (blk_rB (cs := [.slice g1 W.gens.length d1, .slice g2 W.free.length d2, .slice (some ⟨tb, 0, none⟩) W.tabs.length cp, .slice g4 W.res.length d4]) (Blk.new w _ _) (Nat.le_refl _))
  have h2 := Rs.ins (P ++ [rB w.heap.size 40 [.slice g1 W.gens.length d1, .slice g2 W.free.length d2, .slice (some ⟨tb, 0, none⟩) W.tabs.length cp, .slice g4 W.res.length d4]]) (rW ⟨.slice g1 W.gens.length d1, .slice g2 W.free.length d2, .slice (some ⟨tb, 0, none⟩) W.tabs.length cp, .slice g4 W.res.length d4, ts⟩ W) (by simpa using h1) (bl_alloc (Below.refl _ _) (.cells #[.slice none 0 0, .slice none 0 0, .slice none 0 0, .slice none 0 0] 40)) (blk_rB (cs := [.slice none 0 0, .slice none 0 0, .slice none 0 0, .slice none 0 0]) (Blk.new _ _ _) (Nat.le_refl _))
  simpa using h2
 have HR0 := Hid.mk' hr0
 clear hr0; have tw : IntKind.i64.wrap ((T.rows.length : Int) - 1) = ((T.rows.length - 1 : Nat) : Int) := by rw [IntKind.wrap_i64]; omega
 go_enter Tryz.func117, Tryz.ntmps117
 go_upto_region 1 with fail
 generalize hX0 : ((w.alloc (.cells #[.slice g1 W.gens.length d1, .slice g2 W.free.length d2, .slice (some ⟨tb, 0, none⟩) W.tabs.length cp, .slice g4 W.res.length d4] 40)).alloc (.cells #[.slice none 0 0, .slice none 0 0, .slice none 0 0, .slice none 0 0] 40)) = X0 at HR0 ⊢
 generalize hk3 : w.heap.size = k3 at HR0 ⊢
 generalize hk6 : k3 + 1 = k6 at HR0 ⊢
 clear hX0 hk3 hk6 hR hkt hk hl hF hT; obtain ⟨t, tb', cp', sr, cr, sx, cx, ht, eV, er, ex, hxl, oR, oX, c1, c2, fz⟩ := tab_at HR0.out.o (V := ⟨.slice g1 W.gens.length d1, .slice g2 W.free.length d2, .slice (some ⟨tb, 0, none⟩) W.tabs.length cp, .slice g4 W.res.length d4, ts⟩) (W := W) (fun r hr => by simp [hr]) HF.out HT.out
 simp only [Value.slice.injEq, Option.some.injEq, Addr.mk.injEq, and_true, true_and] at eV
 obtain ⟨rfl, rfl⟩ := eV
 obtain ⟨tc0, tr, tx, xs⟩ := t
 dsimp only at er ex hxl oR oX c1 c2
 subst er ex
 obtain ⟨rb, rfl⟩ := own_some (show World.ownsRow X0 B 48 2 (.slice sr T.rows.length cr) T.rows.length (ecells T.rows) from oR) (by omega)
 have Ht := Hid.mk' ht
 have HXL := Hid.mk' hxl
 have ORr := Hid.mk' oR
 clear ht hxl oX oR; obtain ⟨x0, x1, x2, x3, x4⟩ := (show Blk X0 k3 #[.slice g1 W.gens.length d1, .slice g2 W.free.length d2, .slice (some ⟨tb, 0, none⟩) W.tabs.length cp, .slice g4 W.res.length d4] 40 from rB_blk (HR0.out.o.on (rB k3 40 [.slice g1 W.gens.length d1, .slice g2 W.free.length d2, .slice (some ⟨tb, 0, none⟩) W.tabs.length cp, .slice g4 W.res.length d4]) (by simp))).four'
 have i0 : (0 : Int) ≤ (i : Int) := by omega
 have i1 : (i : Int) < (W.tabs.length : Int) := by omega
 have j0 : (0 : Int) ≤ (j : Int) := by omega
 have j1 : (j : Int) < (T.rows.length : Int) := by omega
 have l0 : (0 : Int) ≤ ((T.rows.length - 1 : Nat) : Int) := by omega
 have l1 : ((T.rows.length - 1 : Nat) : Int) < (T.rows.length : Int) := by omega
 obtain ⟨e', he'⟩ := get_some (L := T.rows) (k := T.rows.length - 1) (by omega)
 obtain ⟨eb, eo, ee, _, _, u1, u2⟩ := eEnt_cells (rE_els ORr.out) he'
 simp only [Option.some.injEq, Addr.mk.injEq, and_true] at ee
 obtain ⟨rfl, rfl⟩ := ee
 simp only [Nat.zero_add] at u1 u2
 obtain ⟨pj, hpj⟩ := get_some hj
 obtain ⟨fb', fo, fe, _, _, v1, v2⟩ := eEnt_cells (rE_els ORr.out) hpj
 simp only [Option.some.injEq, Addr.mk.injEq, and_true] at fe
 obtain ⟨rfl, rfl⟩ := fe
 simp only [Nat.zero_add] at v1 v2
 have fr : ∀ o, X0.frozen? ⟨rb, o, none⟩ = false := fun o => World.ownsRow.frozenAt (show World.ownsRow X0 B 48 2 (.slice (some ⟨rb, 0, none⟩) T.rows.length cr) T.rows.length (ecells T.rows) from ORr.out) o
 have HE := Hid.mk' he'
 have HP := Hid.mk' hpj
 clear he' hpj; go_upto_region 2 with fail
 clear tw; go_cut [] (fun wx => Rs X B wx (P ++ [rB k3 40 [.slice g1 W.gens.length d1, .slice g2 W.free.length d2, .slice (some ⟨tb, 0, none⟩) W.tabs.length cp, .slice g4 W.res.length d4], rB k6 40 [.slice none 0 0, .slice none 0 0, .slice none 0 0, .slice none 0 0]] ++ rW ⟨.slice g1 W.gens.length d1, .slice g2 W.free.length d2, .slice (some ⟨tb, 0, none⟩) W.tabs.length cp, .slice g4 W.res.length d4, ts⟩ (setW W i ⟨T.cols, T.rows.set j e', T.cells⟩)))
 case first =>
  go_region
  all_goals
   go_wp2_with fail; go_meet; have h1 := rE_set (w := X0.drew) HP.out e' (OR.on.same ORr.out (fun _ _ => rfl)) rfl
   exact (carr_Rs X B).rowsIn (w := X0.drew) (t := ⟨tc0, .slice (some ⟨rb, 0, none⟩) T.rows.length cr, .slice sx T.cells.length cx, xs⟩) ((carr_Rs X B).drew HR0.out) Ht.out HT.out h1.2 h1.1
 have HR2 := Hid.mk' hcut
 have HRD := Hid.mk' ((carr_Rs X B).drew hcut)
 have HTs : Hid ((setW W i ⟨T.cols, T.rows.set j e', T.cells⟩).tabs[i]? = some ⟨T.cols, T.rows.set j e', T.cells⟩) := List.getElem?_set_self hi
 clear hcut x0 x1 x2 x3 x4 c1 c2 fz u1 u2 v1 v2 fr; obtain ⟨x0, x1, x2, x3, x4⟩ := (show Blk wc k3 #[.slice g1 W.gens.length d1, .slice g2 W.free.length d2, .slice (some ⟨tb, 0, none⟩) W.tabs.length cp, .slice g4 W.res.length d4] 40 from rB_blk (HR2.out.o.on (rB k3 40 [.slice g1 W.gens.length d1, .slice g2 W.free.length d2, .slice (some ⟨tb, 0, none⟩) W.tabs.length cp, .slice g4 W.res.length d4]) (by simp))).four'
 have mT : ∀ r ∈ rTab ⟨tc0, .slice (some ⟨rb, 0, none⟩) T.rows.length cr, .slice sx T.cells.length cx, xs⟩ ⟨T.cols, T.rows.set j e', T.cells⟩, r ∈ P ++ [rB k3 40 [.slice g1 W.gens.length d1, .slice g2 W.free.length d2, .slice (some ⟨tb, 0, none⟩) W.tabs.length cp, .slice g4 W.res.length d4], rB k6 40 [.slice none 0 0, .slice none 0 0, .slice none 0 0, .slice none 0 0]] ++ rW ⟨.slice g1 W.gens.length d1, .slice g2 W.free.length d2, .slice (some ⟨tb, 0, none⟩) W.tabs.length cp, .slice g4 W.res.length d4, ts⟩ (setW W i ⟨T.cols, T.rows.set j e', T.cells⟩) := fun r hr => List.mem_append_right _ (by have := rTabs_mem Ht.out HTs.out r hr; simp [rW, this])
 obtain ⟨c1, c2, fz⟩ := cellT (HR2.out.o.on (rT (.slice (some ⟨tb, 0, none⟩) W.tabs.length cp) ts) (by simp [rW])) HF.out.len Ht.out
 dsimp only at c1 c2
 have oR : (rE (.slice (some ⟨rb, 0, none⟩) T.rows.length cr) (T.rows.set j e')).on wc.drew B := OR.on.same (HR2.out.o.on _ (mT _ (by simp [rTab]))) (fun _ _ => rfl)
 have hcr : T.rows.length ≤ cr := by
  have h : World.ownsRow wc.drew B 48 2 (.slice (some ⟨rb, 0, none⟩) T.rows.length cr) (T.rows.set j e').length (ecells (T.rows.set j e')) := oR
  rw [List.length_set] at h
  exact own_cap h
 have hrt := rE_take (m := T.rows.length - 1) oR List.length_set.symm (by omega)
 rw [← wo_eq HE.out] at hrt
 obtain ⟨_, _, hR3⟩ := (carr_Rs X B).rowsT (w := wc.drew) (w1 := wc.drew) (t := ⟨tc0, .slice (some ⟨rb, 0, none⟩) T.rows.length cr, .slice sx T.cells.length cx, xs⟩) (tb := tb) (n := W.tabs.length) (cap := cp) HRD.out Ht.out HTs.out rfl HF.out.len.symm (grown_refl _ _) hrt (fun g hg => Or.inl hg)
 rw [setW_setW] at hR3
 have HR3 : Hid (Rs X B (wc.setCell ⟨tb, i * 3 + 1, none⟩ (.slice (some ⟨rb, 0, none⟩) (T.rows.length - 1) cr)).drew (P ++ [rB k3 40 [.slice g1 W.gens.length d1, .slice g2 W.free.length d2, .slice (some ⟨tb, 0, none⟩) W.tabs.length cp, .slice g4 W.res.length d4], rB k6 40 [.slice none 0 0, .slice none 0 0, .slice none 0 0, .slice none 0 0]] ++ rW ⟨.slice g1 W.gens.length d1, .slice g2 W.free.length d2, .slice (some ⟨tb, 0, none⟩) W.tabs.length cp, .slice g4 W.res.length d4, (ts.set i ⟨tc0, .slice (some ⟨rb, 0, none⟩) (T.rows.length - 1) cr, .slice sx T.cells.length cx, xs⟩)⟩ (setW W i (goneN T j 0)))) := hR3
 have hsE : ∀ W, (Go.sizeOf (Tryz.prog.elem 130)).run Tryz.prog W = .ok 2 W := fun W => by kernel_rfl
 have s3 := slice_upto 130 2 (by kernel_rfl) hsE rb T.rows.length cr (T.rows.length - 1) (by omega)
 have lc : ((T.rows.length - 1 : Nat) : Int) ≤ (cr : Int) := by omega
 clear hsE oR hrt hR3 mT HRD HR2; go_wp2_with fail; go_region
 go_wp2_with fail; generalize hX3 : (wc.setCell ⟨tb, i * 3 + 1, none⟩ (.slice (some ⟨rb, 0, none⟩) (T.rows.length - 1) cr)).drew = X3 at HR3 ⊢
 clear hX3 x0 x1 x2 x3 x4 c1 c2 fz s3; go_loopw [8] (fun i' wr => ∃ (m : Nat) (ys : List Value), m ≤ T.cells.length ∧ i' = .int .i64 m ∧ Hid (ys.length = T.cells.length ∧ Rs X B wr (P ++ [rB k3 40 [.slice g1 W.gens.length d1, .slice g2 W.free.length d2, .slice (some ⟨tb, 0, none⟩) W.tabs.length cp, .slice g4 W.res.length d4], rB k6 40 [.slice none 0 0, .slice none 0 0, .slice none 0 0, .slice none 0 0]] ++ rW ⟨.slice g1 W.gens.length d1, .slice g2 W.free.length d2, .slice (some ⟨tb, 0, none⟩) W.tabs.length cp, .slice g4 W.res.length d4, (ts.set i ⟨tc0, .slice (some ⟨rb, 0, none⟩) (T.rows.length - 1) cr, .slice sx T.cells.length cx, ys⟩)⟩ (setW W i (goneN T j m))))) (fun i' _ => T.cells.length - (intOf i').toNat)
 case atStart => exact ⟨0, xs, Nat.zero_le _, rfl, HXL.out, HR3.out⟩
 clear HR3; obtain ⟨m, ys, hm, rfl, hN⟩ := hrel
 have Hts : Hid ((ts.set i ⟨tc0, .slice (some ⟨rb, 0, none⟩) (T.rows.length - 1) cr, .slice sx T.cells.length cx, ys⟩)[i]? = some ⟨tc0, .slice (some ⟨rb, 0, none⟩) (T.rows.length - 1) cr, .slice sx T.cells.length cx, ys⟩) := List.getElem?_set_self (List.getElem?_eq_some_iff.1 Ht.out).1
 have HTs : Hid ((setW W i (goneN T j m)).tabs[i]? = some (goneN T j m)) := List.getElem?_set_self hi
 have HLEN : Hid ((ts.set i ⟨tc0, .slice (some ⟨rb, 0, none⟩) (T.rows.length - 1) cr, .slice sx T.cells.length cx, ys⟩).length = W.tabs.length) := by show _ = _; rw [List.length_set]; exact HF.out.len
 have mT : ∀ r ∈ rTab ⟨tc0, .slice (some ⟨rb, 0, none⟩) (T.rows.length - 1) cr, .slice sx T.cells.length cx, ys⟩ (goneN T j m), r ∈ P ++ [rB k3 40 [.slice g1 W.gens.length d1, .slice g2 W.free.length d2, .slice (some ⟨tb, 0, none⟩) W.tabs.length cp, .slice g4 W.res.length d4], rB k6 40 [.slice none 0 0, .slice none 0 0, .slice none 0 0, .slice none 0 0]] ++ rW ⟨.slice g1 W.gens.length d1, .slice g2 W.free.length d2, .slice (some ⟨tb, 0, none⟩) W.tabs.length cp, .slice g4 W.res.length d4, (ts.set i ⟨tc0, .slice (some ⟨rb, 0, none⟩) (T.rows.length - 1) cr, .slice sx T.cells.length cx, ys⟩)⟩ (setW W i (goneN T j m)) := fun r hr => List.mem_append_right _ (by have := rTabs_mem Hts.out HTs.out r hr; simp [rW, this])
 obtain ⟨c1, c2, fz⟩ := cellT (hN.out.2.o.on (rT (.slice (some ⟨tb, 0, none⟩) W.tabs.length cp) (ts.set i ⟨tc0, .slice (some ⟨rb, 0, none⟩) (T.rows.length - 1) cr, .slice sx T.cells.length cx, ys⟩)) (by simp [rW])) HLEN.out Hts.out
 dsimp only at c1 c2
 obtain ⟨x0, x1, x2, x3, x4⟩ := (show Blk wr k3 #[.slice g1 W.gens.length d1, .slice g2 W.free.length d2, .slice (some ⟨tb, 0, none⟩) W.tabs.length cp, .slice g4 W.res.length d4] 40 from rB_blk (hN.out.2.o.on (rB k3 40 [.slice g1 W.gens.length d1, .slice g2 W.free.length d2, .slice (some ⟨tb, 0, none⟩) W.tabs.length cp, .slice g4 W.res.length d4]) (by simp))).four'
 by_cases hlt : m < T.cells.length
 ·
  obtain ⟨L, hL⟩ := get_some hlt
  obtain ⟨v, hv⟩ := get_some (L := ys) (k := m) (by rw [hN.out.1]; exact hlt)
  have oX : World.ownsRow wr B 38 1 (.slice sx T.cells.length cx) T.cells.length ys := by
   have h := hN.out.2.o.on (rS (.slice sx T.cells.length cx) ys) (mT _ (by simp [rTab]))
   unfold OR.on rS at h
   dsimp only at h
   rw [hN.out.1] at h
   exact h
  have oV : (rV v L).on wr B := hN.out.2.o.on _ (mT _ (by simp only [rTab, List.mem_cons]; exact Or.inr (Or.inr (Or.inr (mem_zipWith hv (goneN_get hL))))))
  obtain ⟨xb, rfl⟩ := own_some oX (by omega)
  have hc := World.ownsRow.cellAt oX m (by omega)
  rw [hv] at hc
  have hLl := Hid.mk' (HLS.out L (List.mem_of_getElem? hL))
  obtain ⟨sv, cv, ev⟩ := oV.shape
  have ev : v = .slice sv L.length cv := ev
  subst ev
  have hjL : j < L.length := by rw [hLl.out]; exact hj
  have hll : T.rows.length - 1 < L.length := by rw [hLl.out]; omega
  have hLk : L.length ≤ 1048576 := by rw [hLl.out]; exact hrl
  obtain ⟨vb, rfl⟩ := own_some (show World.ownsRow wr B 59 4 (.slice sv L.length cv) L.length (L.flatMap vcells) from oV) (by omega)
  have hcv := own_cap (show World.ownsRow wr B 59 4 (.slice (some ⟨vb, 0, none⟩) L.length cv) L.length (L.flatMap vcells) from oV)
  have okL : okVs L := HF.out.okc T (List.mem_of_getElem? HT.out) L (List.mem_of_getElem? hL)
  obtain ⟨z, hz⟩ := get_some hll
  obtain ⟨p, hp⟩ := get_some hjL
  obtain ⟨eb, eo, ee, _, _, _, u1, u2, u3, u4⟩ := eVal_cells (rV_els oV okL) hz
  simp only [Option.some.injEq, Addr.mk.injEq, and_true] at ee
  obtain ⟨rfl, rfl⟩ := ee
  obtain ⟨fb', fo, fe, _, _, _, v1, v2, v3, v4⟩ := eVal_cells (rV_els oV okL) hp
  simp only [Option.some.injEq, Addr.mk.injEq, and_true] at fe
  obtain ⟨rfl, rfl⟩ := fe
  simp only [Nat.zero_add] at u1 u2 u3 u4 v1 v2 v3 v4
  have fv : ∀ o, wr.frozen? ⟨vb, o, none⟩ = false := fun o => World.ownsRow.frozenAt (show World.ownsRow wr B 59 4 (.slice (some ⟨vb, 0, none⟩) L.length cv) L.length (L.flatMap vcells) from oV) o
  have m0 : (0 : Int) ≤ (m : Int) := by omega
  have m1 : (m : Int) < (T.cells.length : Int) := by omega
  have jl : (j : Int) < (L.length : Int) := by omega
  have ll : ((T.rows.length - 1 : Nat) : Int) < (L.length : Int) := by omega
  have HND := Hid.mk' ((carr_Rs X B).drew hN.out.2)
  have HNL := Hid.mk' hN.out.1
  have HL1 := Hid.mk' hL
  have HV1 := Hid.mk' hv
  have OVd : Hid (OR.on wr.drew B (rV (.slice (some ⟨vb, 0, none⟩) L.length cv) L)) := OR.on.same oV (fun _ _ => rfl)
  have HZ := Hid.mk' hz
  have HP1 := Hid.mk' hp
  clear oX oV mT hL hv hN hz hp; go_upto_region 7 with fail
  go_cut [] from 47 to 99 (fun wx => Rs X B wx (P ++ [rB k3 40 [.slice g1 W.gens.length d1, .slice g2 W.free.length d2, .slice (some ⟨tb, 0, none⟩) W.tabs.length cp, .slice g4 W.res.length d4], rB k6 40 [.slice none 0 0, .slice none 0 0, .slice none 0 0, .slice none 0 0]] ++ rW ⟨.slice g1 W.gens.length d1, .slice g2 W.free.length d2, .slice (some ⟨tb, 0, none⟩) W.tabs.length cp, .slice g4 W.res.length d4, (ts.set i ⟨tc0, .slice (some ⟨rb, 0, none⟩) (T.rows.length - 1) cr, .slice (some ⟨xb, 0, none⟩) T.cells.length cx, ys⟩)⟩ (setW W i ⟨T.cols, wo T.rows j, (goneN T j m).cells.set m (L.set j z)⟩)))
  case first =>
   go_region
   all_goals
    go_wp2_with fail; go_meet; have h1 := rV_set' HP1.out z OVd.out rfl
    have h2 := (carr_Rs X B).colIn (w := wr.drew) (t := ⟨tc0, .slice (some ⟨rb, 0, none⟩) (T.rows.length - 1) cr, .slice (some ⟨xb, 0, none⟩) T.cells.length cx, ys⟩) (T := goneN T j m) HND.out Hts.out HTs.out HV1.out (goneN_get HL1.out) h1.2 h1.1
    rw [setW_setW] at h2
    exact h2
  have HC := Hid.mk' hcut
  have HCD := Hid.mk' ((carr_Rs X B).drew hcut)
  have HTc : Hid ((setW W i ⟨T.cols, wo T.rows j, (goneN T j m).cells.set m (L.set j z)⟩).tabs[i]? = some ⟨T.cols, wo T.rows j, (goneN T j m).cells.set m (L.set j z)⟩) := List.getElem?_set_self hi
  have hLc : ((goneN T j m).cells.set m (L.set j z))[m]? = some (L.set j z) := List.getElem?_set_self (by rw [goneN_len]; exact hlt)
  clear hcut c1 c2 fz x0 x1 x2 x3 x4 hc u1 u2 u3 u4 v1 v2 v3 v4 fv; have mT : ∀ r ∈ rTab ⟨tc0, .slice (some ⟨rb, 0, none⟩) (T.rows.length - 1) cr, .slice (some ⟨xb, 0, none⟩) T.cells.length cx, ys⟩ ⟨T.cols, wo T.rows j, (goneN T j m).cells.set m (L.set j z)⟩, r ∈ P ++ [rB k3 40 [.slice g1 W.gens.length d1, .slice g2 W.free.length d2, .slice (some ⟨tb, 0, none⟩) W.tabs.length cp, .slice g4 W.res.length d4], rB k6 40 [.slice none 0 0, .slice none 0 0, .slice none 0 0, .slice none 0 0]] ++ rW ⟨.slice g1 W.gens.length d1, .slice g2 W.free.length d2, .slice (some ⟨tb, 0, none⟩) W.tabs.length cp, .slice g4 W.res.length d4, (ts.set i ⟨tc0, .slice (some ⟨rb, 0, none⟩) (T.rows.length - 1) cr, .slice (some ⟨xb, 0, none⟩) T.cells.length cx, ys⟩)⟩ (setW W i ⟨T.cols, wo T.rows j, (goneN T j m).cells.set m (L.set j z)⟩) := fun r hr => List.mem_append_right _ (by have := rTabs_mem Hts.out HTc.out r hr; simp [rW, this])
  obtain ⟨c1, c2, fz⟩ := cellT (HC.out.o.on (rT (.slice (some ⟨tb, 0, none⟩) W.tabs.length cp) (ts.set i ⟨tc0, .slice (some ⟨rb, 0, none⟩) (T.rows.length - 1) cr, .slice (some ⟨xb, 0, none⟩) T.cells.length cx, ys⟩)) (by simp [rW])) HLEN.out Hts.out
  dsimp only at c1 c2
  obtain ⟨x0, x1, x2, x3, x4⟩ := (show Blk wc k3 #[.slice g1 W.gens.length d1, .slice g2 W.free.length d2, .slice (some ⟨tb, 0, none⟩) W.tabs.length cp, .slice g4 W.res.length d4] 40 from rB_blk (HC.out.o.on (rB k3 40 [.slice g1 W.gens.length d1, .slice g2 W.free.length d2, .slice (some ⟨tb, 0, none⟩) W.tabs.length cp, .slice g4 W.res.length d4]) (by simp))).four'
  have oX : World.ownsRow wc B 38 1 (.slice (some ⟨xb, 0, none⟩) T.cells.length cx) T.cells.length ys := by
   have h := HC.out.o.on (rS (.slice (some ⟨xb, 0, none⟩) T.cells.length cx) ys) (mT _ (by simp [rTab]))
   unfold OR.on rS at h
   dsimp only at h
   rw [HNL.out] at h
   exact h
  have hc := World.ownsRow.cellAt oX m (by omega)
  rw [HV1.out] at hc
  have fx : ∀ o, wc.frozen? ⟨xb, o, none⟩ = false := fun o => World.ownsRow.frozenAt oX o
  have oV : (rV (.slice (some ⟨vb, 0, none⟩) L.length cv) (L.set j z)).on wc.drew B := OR.on.same (HC.out.o.on _ (mT _ (by simp only [rTab, List.mem_cons]; exact Or.inr (Or.inr (Or.inr (mem_zipWith HV1.out hLc)))))) (fun _ _ => rfl)
  have hvt := rV_take (m := T.rows.length - 1) oV List.length_set.symm (by omega)
  have ewo : (L.set j z).take (T.rows.length - 1) = wo L j := by
   have h9 := HZ.out
   rw [← hLl.out] at h9 ⊢
   exact (wo_eq h9).symm
  rw [ewo] at hvt
  obtain ⟨_, _, _, hR5⟩ := (carr_Rs X B).colT (w := wc.drew) (w1 := wc.drew) (t := ⟨tc0, .slice (some ⟨rb, 0, none⟩) (T.rows.length - 1) cr, .slice (some ⟨xb, 0, none⟩) T.cells.length cx, ys⟩) (xb := xb) (n := T.cells.length) (cap := cx) HCD.out Hts.out HTc.out rfl HNL.out.symm HV1.out hLc (grown_refl _ _) hvt (fun g hg => Or.inl hg)
  have e1 := goneN_set (j := j) HL1.out
  rw [setW_setW] at hR5
  simp only [setTV, List.set_set] at hR5
  rw [e1] at hR5
  have HR5 : Hid (Rs X B (wc.setCell ⟨xb, m, none⟩ (.slice (some ⟨vb, 0, none⟩) (T.rows.length - 1) cv)).drew (P ++ [rB k3 40 [.slice g1 W.gens.length d1, .slice g2 W.free.length d2, .slice (some ⟨tb, 0, none⟩) W.tabs.length cp, .slice g4 W.res.length d4], rB k6 40 [.slice none 0 0, .slice none 0 0, .slice none 0 0, .slice none 0 0]] ++ rW ⟨.slice g1 W.gens.length d1, .slice g2 W.free.length d2, .slice (some ⟨tb, 0, none⟩) W.tabs.length cp, .slice g4 W.res.length d4, (ts.set i ⟨tc0, .slice (some ⟨rb, 0, none⟩) (T.rows.length - 1) cr, .slice (some ⟨xb, 0, none⟩) T.cells.length cx, (ys.set m (.slice (some ⟨vb, 0, none⟩) (T.rows.length - 1) cv))⟩)⟩ (setW W i (goneN T j (m + 1))))) := hR5
  have hsV : ∀ W, (Go.sizeOf (Tryz.prog.elem 38)).run Tryz.prog W = .ok 4 W := fun W => by kernel_rfl
  have s4 := slice_upto 38 4 (by kernel_rfl) hsV vb L.length cv (T.rows.length - 1) (by omega)
  have lcv : ((T.rows.length - 1 : Nat) : Int) ≤ (cv : Int) := by omega
  clear hsV oX oV hvt ewo hR5 e1 mT hLc HCD HC; go_wp2_with fail; go_region
  go_wp2_with fail; go_roundw
  case rel => exact ⟨m + 1, ys.set m (.slice (some ⟨vb, 0, none⟩) (T.rows.length - 1) cv), by omega, by go_num, by rw [List.length_set]; exact HNL.out, HR5.out⟩
  case measure => simp [intOf]; omega
 have hm' : m = T.cells.length := by omega
 subst hm'
 have HF3 : Hid (OWf ⟨.slice g1 W.gens.length d1, .slice g2 W.free.length d2, .slice (some ⟨tb, 0, none⟩) W.tabs.length cp, .slice g4 W.res.length d4, (ts.set i ⟨tc0, .slice (some ⟨rb, 0, none⟩) (T.rows.length - 1) cr, .slice sx T.cells.length cx, ys⟩)⟩ (setW W i (goneN T j T.cells.length))) := owf_set2 HF.out HT.out (by rw [goneN_len]; exact hN.out.1) (okc_goneN (fun L hL => HF.out.okc T (List.mem_of_getElem? HT.out) L hL))
 have HN3 := Hid.mk' hN.out.2
 rw [goneN_all] at HN3 HF3
 obtain ⟨z0, z1, z2, z3, z4⟩ := (show Blk wr k6 #[.slice none 0 0, .slice none 0 0, .slice none 0 0, .slice none 0 0] 40 from rB_blk (hN.out.2.o.on (rB k6 40 [.slice none 0 0, .slice none 0 0, .slice none 0 0, .slice none 0 0]) (by simp))).four'
 clear hN mT; have hb0 : Rs X B wr ((P ++ [rB k3 40 [.slice g1 W.gens.length d1, .slice g2 W.free.length d2, .slice (some ⟨tb, 0, none⟩) W.tabs.length cp, .slice g4 W.res.length d4]]) ++ rB k6 40 [.slice none 0 0, .slice none 0 0, .slice none 0 0, .slice none 0 0] :: rW ⟨.slice g1 W.gens.length d1, .slice g2 W.free.length d2, .slice (some ⟨tb, 0, none⟩) W.tabs.length cp, .slice g4 W.res.length d4, (ts.set i ⟨tc0, .slice (some ⟨rb, 0, none⟩) (T.rows.length - 1) cr, .slice sx T.cells.length cx, ys⟩)⟩ (setW W i (gone T j))) := by simpa using HN3.out
 have hb4 := Rs.setB _ _ 3 (.slice g4 W.res.length d4) (Rs.setB _ _ 2 (.slice (some ⟨tb, 0, none⟩) W.tabs.length cp) (Rs.setB _ _ 1 (.slice g2 W.free.length d2) (Rs.setB _ _ 0 (.slice g1 W.gens.length d1) hb0)))
 have hb5 := Rs.less _ _ hb4
 have HR9 := Hid.mk' (Rs.less P (rW ⟨.slice g1 W.gens.length d1, .slice g2 W.free.length d2, .slice (some ⟨tb, 0, none⟩) W.tabs.length cp, .slice g4 W.res.length d4, (ts.set i ⟨tc0, .slice (some ⟨rb, 0, none⟩) (T.rows.length - 1) cr, .slice sx T.cells.length cx, ys⟩)⟩ (setW W i (gone T j))) (r := rB k3 40 [.slice g1 W.gens.length d1, .slice g2 W.free.length d2, .slice (some ⟨tb, 0, none⟩) W.tabs.length cp, .slice g4 W.res.length d4]) (by simpa using hb5))
 clear hb0 hb4 hb5 HN3; go_wp2_with fail; refine bodyPost_ret (v := .agg #[.slice g1 W.gens.length d1, .slice g2 W.free.length d2, .slice (some ⟨tb, 0, none⟩) W.tabs.length cp, .slice g4 W.res.length d4]) (by simp [results, Tryz.results117, go_sem, z0, z1, z2, z3]) rfl ⟨_, rfl, HR9.out, HF3.out⟩
end Go.Proofs.YtkihhadcoclnaaaGreat
