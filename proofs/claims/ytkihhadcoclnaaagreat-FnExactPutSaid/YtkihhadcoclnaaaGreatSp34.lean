import Derived.Test.YtkihhadcoclnaaaGreatSp33
namespace Go.Proofs.YtkihhadcoclnaaaGreat
open Go.RowKit Go.Maps Go.WideMaps
set_option linter.unusedVariables false
set_option linter.unusedSimpArgs false
set_option maxRecDepth 100000
def gone (T : Tab) (j : Nat) : Tab := ⟨T.cols, wo T.rows j, T.cells.map fun L => wo L j⟩
def goneN (T : Tab) (j m : Nat) : Tab := ⟨T.cols, wo T.rows j, (T.cells.map fun L => wo L j).take m ++ T.cells.drop m⟩
theorem goneN_all (T : Tab) (j : Nat) : goneN T j T.cells.length = gone T j := by
 unfold goneN gone
 rw [List.take_of_length_le (by simp), List.drop_eq_nil_of_le (Nat.le_refl _), List.append_nil]
theorem goneN_get {T : Tab} {j m : Nat} {L : List V4} (h : T.cells[m]? = some L) : (goneN T j m).cells[m]? = some L := by
 unfold goneN
 dsimp only
 rw [take_drop_get (by simp) (List.getElem?_eq_some_iff.1 h).1, h]
theorem goneN_set {T : Tab} {j m : Nat} {L : List V4} (h : T.cells[m]? = some L) : (goneN T j m).cells.set m (wo L j) = (goneN T j (m + 1)).cells := by
 unfold goneN
 dsimp only
 rw [take_drop_set (by simp) (by rw [List.getElem?_map, h]; rfl)]
theorem goneN_len (T : Tab) (j m : Nat) : (goneN T j m).cells.length = T.cells.length := by
 unfold goneN
 simp
 omega
def goneF (T : Tab) (i j : Nat) (f : E2 → Option E2) : E2 → Option E2 := fun x => if j < T.rows.length - 1 ∧ T.rows[T.rows.length - 1]? = some x then some ((i : Int), (j : Int)) else f x
theorem own_len (s : Option Addr) (n c : Nat) : (Value.slice s n c).ownBlock = (Value.slice s 0 0).ownBlock := by cases s <;> rfl
theorem okVs_wo {L : List V4} {j : Nat} (h : okVs L) : okVs (wo L j) := by
 intro x hx
 unfold wo at hx
 cases hl : L[L.length - 1]? with
 | none => rw [hl] at hx; exact h x hx
 | some y =>
  rw [hl] at hx
  rcases List.mem_or_eq_of_mem_set (List.mem_of_mem_take hx) with h' | rfl
  ·
   exact h x h'
  exact h _ (List.mem_of_getElem? hl)
theorem okc_goneN {T : Tab} {j m : Nat} (h : ∀ L ∈ T.cells, okVs L) : ∀ L ∈ (goneN T j m).cells, okVs L := by
 intro L hL
 unfold goneN at hL
 dsimp only at hL
 rcases List.mem_append.1 hL with h' | h'
 ·
  have := List.mem_of_mem_take h'
  simp only [List.mem_map] at this
  obtain ⟨M, hM, rfl⟩ := this
  exact okVs_wo (h M hM)
 exact h L (List.mem_of_mem_drop h')
theorem tab_at {w : World} {B : Nat} {R : List OR} {V : WV} {W : Wd} {i : Nat} {T : Tab} (ho : Owns w B R) (hm : ∀ r ∈ rW V W, r ∈ R) (hF : OWf V W) (hT : W.tabs[i]? = some T) :
  ∃ t tb cp sr cr sx cx, V.ts[i]? = some t ∧ V.t = .slice (some ⟨tb, 0, none⟩) W.tabs.length cp ∧ t.r = .slice sr T.rows.length cr ∧ t.x = .slice sx T.cells.length cx ∧ t.xs.length = T.cells.length ∧ (rE t.r T.rows).on w B ∧ (rS t.x t.xs).on w B ∧
   w.cell? ⟨tb, i * 3 + 1, none⟩ = some t.r ∧ w.cell? ⟨tb, i * 3 + 2, none⟩ = some t.x ∧ (∀ o, w.frozen? ⟨tb, o, none⟩ = false) := by
 have hi : i < W.tabs.length := (List.getElem?_eq_some_iff.1 hT).1
 obtain ⟨t, ht⟩ := get_some (L := V.ts) (k := i) (by rw [hF.len]; exact hi)
 have mT : ∀ r ∈ rTab t T, r ∈ R := fun r hr => hm r (by have := rTabs_mem ht hT r hr; simp [rW, this])
 have oT := ho.on (rT V.t V.ts) (hm _ (by simp [rW]))
 obtain ⟨s, cp, e⟩ := oT.shape
 have e : V.t = .slice s V.ts.length cp := e
 have oT : World.ownsRow w B 134 3 V.t V.ts.length (V.ts.flatMap tc) := oT
 rw [e] at oT
 obtain ⟨tb, rfl⟩ := own_some oT (by rw [hF.len]; omega)
 have hc := rT_cells oT (by rw [hF.len]; exact hi) ht
 have oR := ho.on (rE t.r T.rows) (mT _ (by simp [rTab]))
 have oX := ho.on (rS t.x t.xs) (mT _ (by simp [rTab]))
 obtain ⟨sr, cr, er⟩ := oR.shape
 obtain ⟨sx, cx, ex⟩ := oX.shape
 have hl := hF.lens i t T ht hT
 refine ⟨t, tb, cp, sr, cr, sx, cx, ht, by rw [e, hF.len], er, ?_, hl, oR, oX, hc.2.1, hc.2.2, fun o => World.ownsRow.frozenAt oT o⟩
 rw [← hl]; exact ex
set_option maxHeartbeats 8000000 in
theorem leave_any {X : World} {B b n : Nat} {f : E2 → Option E2} (P : List OR) (bb : Nat) (Vg Vf Vr : Value) (tb cp : Nat) (ts : List TV) (W : Wd) (i j : Nat) (T : Tab) (w : World) (hR : Rm X B b n f w (P ++ rB bb 90 [Vg, Vf, .slice (some ⟨tb, 0, none⟩) W.tabs.length cp, Vr, .map (some b)] :: rW ⟨Vg, Vf, .slice (some ⟨tb, 0, none⟩) W.tabs.length cp, Vr, ts⟩ W)) (hF : OWf ⟨Vg, Vf, .slice (some ⟨tb, 0, none⟩) W.tabs.length cp, Vr, ts⟩ W) (hT : W.tabs[i]? = some T) (hj : j < T.rows.length) (hk : kW W) (hl : ∀ L ∈ T.cells, L.length = T.rows.length) (hb : ∀ x ∈ T.rows, bE x) (hn : n ≤ 2000000000000) :
  Calls Tryz.prog 132 #[.pointer (some ⟨bb, 0, none⟩), .agg #[.int .i64 i, .int .i64 j]] w fun e w' => e = .returned (.tuple #[]) ∧ ∃ ts' n', Rm X B b n' (goneF T i j f) w' (P ++ rB bb 90 [Vg, Vf, .slice (some ⟨tb, 0, none⟩) W.tabs.length cp, Vr, .map (some b)] :: rW ⟨Vg, Vf, .slice (some ⟨tb, 0, none⟩) W.tabs.length cp, Vr, ts'⟩ (setW W i (gone T j))) ∧ OWf ⟨Vg, Vf, .slice (some ⟨tb, 0, none⟩) W.tabs.length cp, Vr, ts'⟩ (setW W i (gone T j)) ∧ n' ≤ n + 1 := by
 have hal := alloc_old
 have haf := alloc_oldf
 have hi : i < W.tabs.length := (List.getElem?_eq_some_iff.1 hT).1
 have hkt := hk.2.2.1.2 T (List.mem_of_getElem? hT)
 have hil : W.tabs.length ≤ 1048576 := hk.2.2.1.1
 have hrl : T.rows.length ≤ 1048576 := hkt.2.1
 have hcl : T.cells.length ≤ 1048576 := hkt.2.2.1
 have HLS := Hid.mk' hl
 have HBE := Hid.mk' hb
 have hR0 : Rm X B b n f (w.alloc (.cells #[.int .i64 i, .int .i64 j] 150)) (P ++ rB w.heap.size 150 [.int .i64 i, .int .i64 j] :: (rB bb 90 [Vg, Vf, .slice (some ⟨tb, 0, none⟩) W.tabs.length cp, Vr, .map (some b)] :: rW ⟨Vg, Vf, .slice (some ⟨tb, 0, none⟩) W.tabs.length cp, Vr, ts⟩ W)) :=
  Rm.ins P _ hR (bl_alloc (Below.refl _ _) _) (blk_rB (Blk.new w _ _) (Nat.le_refl _))
 go_enter Tryz.func132, Tryz.ntmps132
 go_wp2_with fail; generalize hX0 : w.alloc (.cells #[.int .i64 i, .int .i64 j] 150) = X0 at hR0 ⊢
 generalize hkf : w.heap.size = kf at hR0 ⊢
 clear hX0 hkf hR hkt hk hl hb; have HF := Hid.mk' hF
 have HR0 := Hid.mk' hR0
 obtain ⟨f0, f1, f2⟩ := (show Blk X0 kf #[.int .i64 i, .int .i64 j] 150 from rB_blk (hR0.rs.o.on (rB kf 150 [.int .i64 i, .int .i64 j]) (by simp))).two
 have b2 : X0.cell? ⟨bb, 2, none⟩ = some (.slice (some ⟨tb, 0, none⟩) W.tabs.length cp) := (rB_blk (hR0.rs.o.on (rB bb 90 [Vg, Vf, .slice (some ⟨tb, 0, none⟩) W.tabs.length cp, Vr, .map (some b)]) (by simp))).cell 2
 have i0 : (0 : Int) ≤ (i : Int) := by omega
 have i1 : (i : Int) < (W.tabs.length : Int) := by omega
 clear hR0 hF; go_quiet (fail)
 have HR1 : Hid (Rm X B b n f (X0.drewN nq) (P ++ rB kf 150 [.int .i64 i, .int .i64 j] :: (rB bb 90 [Vg, Vf, .slice (some ⟨tb, 0, none⟩) W.tabs.length cp, Vr, .map (some b)] :: rW ⟨Vg, Vf, .slice (some ⟨tb, 0, none⟩) W.tabs.length cp, Vr, ts⟩ W))) := (carr_Rm X B b n f).later HR0.out (bl_drewN (Below.refl _ _) _)
 generalize hX1 : X0.drewN nq = X1 at HR1 ⊢
 clear hX1 HR0 f0 f1 f2 b2; obtain ⟨f0, f1, f2⟩ := (show Blk X1 kf #[.int .i64 i, .int .i64 j] 150 from rB_blk (HR1.out.rs.o.on (rB kf 150 [.int .i64 i, .int .i64 j]) (by simp))).two
 obtain ⟨t, tb', cp', sr, cr, sx, cx, ht, eV, er, ex, hxl, oR, oX, c1, c2, fz⟩ := tab_at HR1.out.rs.o (V := ⟨Vg, Vf, .slice (some ⟨tb, 0, none⟩) W.tabs.length cp, Vr, ts⟩) (W := W) (fun r hr => by simp [hr]) HF.out hT
 simp only [Value.slice.injEq, Option.some.injEq, Addr.mk.injEq, and_true, true_and] at eV
 obtain ⟨rfl, rfl⟩ := eV
 obtain ⟨tc0, tr, tx, xs⟩ := t
 dsimp only at er ex hxl oR oX c1 c2
 subst er ex
 have HT := Hid.mk' hT
 have Ht := Hid.mk' ht
 have HXL := Hid.mk' hxl
 have OR1 : Hid (OR.on X1.drew B (rE (.slice sr T.rows.length cr) T.rows)) := OR.on.same oR (fun _ _ => rfl)
 have HR1D := Hid.mk' ((carr_Rm X B b n f).drew HR1.out)
 clear oR oX ht hT hxl; go_upto_region 2 with fail
 go_cut [] (fun wx => Rm X B b n f wx (P ++ [rB kf 150 [.int .i64 i, .int .i64 j], rB bb 90 [Vg, Vf, .slice (some ⟨tb, 0, none⟩) W.tabs.length cp, Vr, .map (some b)]] ++ rW ⟨Vg, Vf, .slice (some ⟨tb, 0, none⟩) W.tabs.length cp, Vr, (ts.set i ⟨tc0, .slice sr (T.rows.length - 1) cr, .slice sx T.cells.length cx, xs⟩)⟩ (setW W i (goneN T j 0))))
 case first =>
  go_region_with (first
   | (go_at_call 152; refine (withoutE_any sr cr T.rows j B X1.drew OR1.out hj hrl).mono ?_; rintro e w2 ⟨he2, oR2, hg2, hs2⟩; have he2 : e = .returned (.slice sr (T.rows.length - 1) cr) := he2; subst he2; obtain ⟨fz, c1, hR2⟩ := (carr_Rm X B b n f).rowsT (P := P ++ [rB kf 150 [.int .i64 i, .int .i64 j], rB bb 90 [Vg, Vf, .slice (some ⟨tb, 0, none⟩) W.tabs.length cp, Vr, .map (some b)]]) (V := ⟨Vg, Vf, .slice (some ⟨tb, 0, none⟩) W.tabs.length cp, Vr, ts⟩) (W := W) (i := i) (t := ⟨tc0, .slice sr T.rows.length cr, .slice sx T.cells.length cx, xs⟩) (T := T) (tb := tb) (n := W.tabs.length) (cap := cp) (by simpa using HR1D.out) Ht.out HT.out rfl HF.out.len.symm hg2 oR2 (fun g hg => Or.inl (by rw [own_len]; rw [own_len] at hg; exact hg))))
  all_goals
   go_wp2_with fail; go_meet; exact hR2
 have HR2 : Hid (Rm X B b n f wc (P ++ [rB kf 150 [.int .i64 i, .int .i64 j], rB bb 90 [Vg, Vf, .slice (some ⟨tb, 0, none⟩) W.tabs.length cp, Vr, .map (some b)]] ++ rW ⟨Vg, Vf, .slice (some ⟨tb, 0, none⟩) W.tabs.length cp, Vr, (ts.set i ⟨tc0, .slice sr (T.rows.length - 1) cr, .slice sx T.cells.length cx, xs⟩)⟩ (setW W i (goneN T j 0)))) := hcut
 have HF2 : Hid (OWf ⟨Vg, Vf, .slice (some ⟨tb, 0, none⟩) W.tabs.length cp, Vr, (ts.set i ⟨tc0, .slice sr (T.rows.length - 1) cr, .slice sx T.cells.length cx, xs⟩)⟩ (setW W i (goneN T j 0))) := owf_set2 HF.out HT.out HXL.out (by
  intro L hL
  exact HF.out.okc T (List.mem_of_getElem? HT.out) L hL)
 clear hcut f0 f1 f2 c1 c2 fz HR1 HR1D OR1; have Hts : Hid ((ts.set i ⟨tc0, .slice sr (T.rows.length - 1) cr, .slice sx T.cells.length cx, xs⟩)[i]? = some ⟨tc0, .slice sr (T.rows.length - 1) cr, .slice sx T.cells.length cx, xs⟩) := List.getElem?_set_self (List.getElem?_eq_some_iff.1 Ht.out).1
 have HTs : Hid ((setW W i (goneN T j 0)).tabs[i]? = some (goneN T j 0)) := List.getElem?_set_self hi
 have ho := HR2.out.rs.o
 have oT := ho.on (rT (.slice (some ⟨tb, 0, none⟩) W.tabs.length cp) (ts.set i ⟨tc0, .slice sr (T.rows.length - 1) cr, .slice sx T.cells.length cx, xs⟩)) (by simp [rW])
 have hlen : (ts.set i ⟨tc0, .slice sr (T.rows.length - 1) cr, .slice sx T.cells.length cx, xs⟩).length = W.tabs.length := by rw [List.length_set]; exact HF.out.len
 have oT : World.ownsRow wc B 134 3 (.slice (some ⟨tb, 0, none⟩) W.tabs.length cp) W.tabs.length ((ts.set i ⟨tc0, .slice sr (T.rows.length - 1) cr, .slice sx T.cells.length cx, xs⟩).flatMap tc) := by
  have h := oT
  unfold OR.on rT at h
  dsimp only at h
  rw [hlen] at h
  exact h
 have c2 := (rT_cells oT hi Hts.out).2.2
 dsimp only at c2
 clear ho oT hlen; go_wp2_with fail; go_loopw [30] (fun i' wr => ∃ (m : Nat) (ys : List Value), m ≤ T.cells.length ∧ i' = .int .i64 m ∧ Hid (ys.length = T.cells.length ∧ Rm X B b n f wr (P ++ [rB kf 150 [.int .i64 i, .int .i64 j], rB bb 90 [Vg, Vf, .slice (some ⟨tb, 0, none⟩) W.tabs.length cp, Vr, .map (some b)]] ++ rW ⟨Vg, Vf, .slice (some ⟨tb, 0, none⟩) W.tabs.length cp, Vr, (ts.set i ⟨tc0, .slice sr (T.rows.length - 1) cr, .slice sx T.cells.length cx, ys⟩)⟩ (setW W i (goneN T j m))))) (fun i' _ => T.cells.length - (intOf i').toNat)
 case atStart => exact ⟨0, xs, Nat.zero_le _, rfl, HXL.out, HR2.out⟩
 clear HR2 HF2 c2 Hts HTs; obtain ⟨m, ys, hm, rfl, hN⟩ := hrel
 have Hts : Hid ((ts.set i ⟨tc0, .slice sr (T.rows.length - 1) cr, .slice sx T.cells.length cx, ys⟩)[i]? = some ⟨tc0, .slice sr (T.rows.length - 1) cr, .slice sx T.cells.length cx, ys⟩) := List.getElem?_set_self (List.getElem?_eq_some_iff.1 Ht.out).1
 have HTs : Hid ((setW W i (goneN T j m)).tabs[i]? = some (goneN T j m)) := List.getElem?_set_self hi
 have HF3 : Hid (OWf ⟨Vg, Vf, .slice (some ⟨tb, 0, none⟩) W.tabs.length cp, Vr, (ts.set i ⟨tc0, .slice sr (T.rows.length - 1) cr, .slice sx T.cells.length cx, ys⟩)⟩ (setW W i (goneN T j m))) := owf_set2 HF.out HT.out (by rw [goneN_len]; exact hN.out.1) (okc_goneN (fun L hL => HF.out.okc T (List.mem_of_getElem? HT.out) L hL))
 have hlen : (ts.set i ⟨tc0, .slice sr (T.rows.length - 1) cr, .slice sx T.cells.length cx, ys⟩).length = W.tabs.length := by rw [List.length_set]; exact HF.out.len
 have oT : World.ownsRow wr B 134 3 (.slice (some ⟨tb, 0, none⟩) W.tabs.length cp) W.tabs.length ((ts.set i ⟨tc0, .slice sr (T.rows.length - 1) cr, .slice sx T.cells.length cx, ys⟩).flatMap tc) := by
  have h := hN.out.2.rs.o.on (rT (.slice (some ⟨tb, 0, none⟩) W.tabs.length cp) (ts.set i ⟨tc0, .slice sr (T.rows.length - 1) cr, .slice sx T.cells.length cx, ys⟩)) (by simp [rW])
  unfold OR.on rT at h
  dsimp only at h
  rw [hlen] at h
  exact h
 have mT : ∀ r ∈ rTab ⟨tc0, .slice sr (T.rows.length - 1) cr, .slice sx T.cells.length cx, ys⟩ (goneN T j m), r ∈ P ++ [rB kf 150 [.int .i64 i, .int .i64 j], rB bb 90 [Vg, Vf, .slice (some ⟨tb, 0, none⟩) W.tabs.length cp, Vr, .map (some b)]] ++ rW ⟨Vg, Vf, .slice (some ⟨tb, 0, none⟩) W.tabs.length cp, Vr, (ts.set i ⟨tc0, .slice sr (T.rows.length - 1) cr, .slice sx T.cells.length cx, ys⟩)⟩ (setW W i (goneN T j m)) := fun r hr => List.mem_append_right _ (by have := rTabs_mem Hts.out HTs.out r hr; simp [rW, this])
 have c1 := (rT_cells oT hi Hts.out).2.1
 have c2 := (rT_cells oT hi Hts.out).2.2
 dsimp only at c1 c2
 obtain ⟨f0, f1, f2⟩ := (show Blk wr kf #[.int .i64 i, .int .i64 j] 150 from rB_blk (hN.out.2.rs.o.on (rB kf 150 [.int .i64 i, .int .i64 j]) (by simp))).two
 by_cases hlt : m < T.cells.length
 ·
  obtain ⟨L, hL⟩ := get_some hlt
  obtain ⟨v, hv⟩ := get_some (L := ys) (k := m) (by rw [hN.out.1]; exact hlt)
  have oX : World.ownsRow wr B 38 1 (.slice sx T.cells.length cx) T.cells.length ys := by
   have h := hN.out.2.rs.o.on (rS (.slice sx T.cells.length cx) ys) (mT _ (by simp [rTab]))
   unfold OR.on rS at h
   dsimp only at h
   rw [hN.out.1] at h
   exact h
  have oV : (rV v L).on wr B := hN.out.2.rs.o.on _ (mT _ (by simp only [rTab, List.mem_cons]; exact Or.inr (Or.inr (Or.inr (mem_zipWith hv (goneN_get hL))))))
  obtain ⟨xb, rfl⟩ := own_some oX (by omega)
  have hc := World.ownsRow.cellAt oX m (by omega)
  rw [hv] at hc
  obtain ⟨sv, cv, ev⟩ := oV.shape
  have ev : v = .slice sv L.length cv := ev
  subst ev
  have hjL : j < L.length := by rw [HLS.out L (List.mem_of_getElem? hL)]; exact hj
  have hLk : L.length ≤ 1048576 := by rw [HLS.out L (List.mem_of_getElem? hL)]; exact hrl
  have m0 : (0 : Int) ≤ (m : Int) := by omega
  have m1 : (m : Int) < (T.cells.length : Int) := by omega
  have OV1 : Hid (OR.on wr.drew B (rV (.slice sv L.length cv) L)) := OR.on.same oV (fun _ _ => rfl)
  have HND := Hid.mk' ((carr_Rm X B b n f).drew hN.out.2)
  have HNL := Hid.mk' hN.out.1
  have HL1 := Hid.mk' hL
  have HV1 := Hid.mk' hv
  have HLEN := Hid.mk' hlen
  clear oX oV oT mT hL hv hN hlen; go_upto_region 6 with fail
  go_region_with (first
   | (go_at_call 153; refine (withoutV_any sv cv L j B wr.drew OV1.out hjL hLk).mono ?_; rintro e w2 ⟨he2, oR2, hg2, hs2⟩; have he2 : e = .returned (.slice sv (L.length - 1) cv) := he2; subst he2; obtain ⟨fz, c3, hon, hR2⟩ := (carr_Rm X B b n f).colT (P := P ++ [rB kf 150 [.int .i64 i, .int .i64 j], rB bb 90 [Vg, Vf, .slice (some ⟨tb, 0, none⟩) W.tabs.length cp, Vr, .map (some b)]]) (V := ⟨Vg, Vf, .slice (some ⟨tb, 0, none⟩) W.tabs.length cp, Vr, (ts.set i ⟨tc0, .slice sr (T.rows.length - 1) cr, .slice (some ⟨xb, 0, none⟩) T.cells.length cx, ys⟩)⟩) (W := setW W i (goneN T j m)) (i := i) (m := m) (t := ⟨tc0, .slice sr (T.rows.length - 1) cr, .slice (some ⟨xb, 0, none⟩) T.cells.length cx, ys⟩) (T := goneN T j m) (xb := xb) (n := T.cells.length) (cap := cx) HND.out Hts.out HTs.out rfl HNL.out.symm HV1.out (goneN_get HL1.out) hg2 oR2 (fun g hg => Or.inl (by rw [own_len]; rw [own_len] at hg; exact hg)); obtain ⟨_, c2, _⟩ := cellT (hon (rT (.slice (some ⟨tb, 0, none⟩) W.tabs.length cp) (ts.set i ⟨tc0, .slice sr (T.rows.length - 1) cr, .slice (some ⟨xb, 0, none⟩) T.cells.length cx, ys⟩)) (by simp)) HLEN.out Hts.out; dsimp only at c2; have f1 : w2.cell? ⟨kf, 1, none⟩ = some (.int .i64 j) := (rB_blk (hon (rB kf 150 [.int .i64 i, .int .i64 j]) (by simp))).cell 1))
  all_goals
   have e1 := goneN_set (j := j) HL1.out
   have hR3 := hR2
   simp only [setTV, setW, List.set_set] at hR3
   rw [e1] at hR3
   have HR3 : Hid (Rm X B b n f (w2.setCell ⟨xb, m, none⟩ (.slice sv (L.length - 1) cv)) (P ++ [rB kf 150 [.int .i64 i, .int .i64 j], rB bb 90 [Vg, Vf, .slice (some ⟨tb, 0, none⟩) W.tabs.length cp, Vr, .map (some b)]] ++ rW ⟨Vg, Vf, .slice (some ⟨tb, 0, none⟩) W.tabs.length cp, Vr, (ts.set i ⟨tc0, .slice sr (T.rows.length - 1) cr, .slice (some ⟨xb, 0, none⟩) T.cells.length cx, (ys.set m (.slice sv (L.length - 1) cv))⟩)⟩ (setW W i (goneN T j (m + 1))))) := hR3
   clear hR3 hR2 e1 hon c1 c2 f0 f1 f2; go_wp2_with fail; go_roundw
   case rel => exact ⟨m + 1, ys.set m (.slice sv (L.length - 1) cv), by omega, by go_num, by rw [List.length_set]; exact HNL.out, HR3.out⟩
   case measure => simp [intOf]; omega
 have hm' : m = T.cells.length := by omega
 subst hm'
 have oR : (rE (.slice sr (T.rows.length - 1) cr) (wo T.rows j)).on wr B := hN.out.2.rs.o.on (rE (.slice sr (T.rows.length - 1) cr) (wo T.rows j)) (mT _ (by simp [rTab, goneN]))
 have HN3 : Hid (Rm X B b n f wr (P ++ [rB kf 150 [.int .i64 i, .int .i64 j], rB bb 90 [Vg, Vf, .slice (some ⟨tb, 0, none⟩) W.tabs.length cp, Vr, .map (some b)]] ++ rW ⟨Vg, Vf, .slice (some ⟨tb, 0, none⟩) W.tabs.length cp, Vr, (ts.set i ⟨tc0, .slice sr (T.rows.length - 1) cr, .slice sx T.cells.length cx, ys⟩)⟩ (setW W i (goneN T j T.cells.length)))) := hN.out.2
 have HNL := Hid.mk' hN.out.1
 rw [goneN_all] at HN3 HF3
 have HTS := Hid.mk' Hts
 by_cases hlast : j < T.rows.length - 1
 ·
  have t8 : (j : Int) < ((T.rows.length - 1 : Nat) : Int) := by omega
  obtain ⟨e', he'⟩ := get_some (L := T.rows) (k := T.rows.length - 1) (by omega)
  have be' := HBE.out e' (List.mem_of_getElem? he')
  have HE : Hid ((wo T.rows j)[j]? = some e') := by
   show _ = _
   rw [wo_get hj hlast, if_pos rfl, he']
  have oR' : (rE (.slice sr (wo T.rows j).length cr) (wo T.rows j)).on wr B := by rw [wo_length hj]; exact oR
  obtain ⟨rb, ro, rfl, _, hp, g1, g2⟩ := eEnt_cells (rE_els oR') HE.out
  have HGF : Hid ((fun x => if x = e' then some ((i : Int), (j : Int)) else f x) = goneF T i j f) := by
   show _ = _
   funext x
   unfold goneF
   rw [he']
   by_cases hx : x = e'
   ·
    rw [if_pos hx, if_pos ⟨hlast, by rw [hx]⟩]
   rw [if_neg hx, if_neg (fun h => hx (Option.some.inj h.2).symm)]
  clear oR oR' oT mT hN HE he' c2 f2 hlen Hts HTS HTs HLS HBE; go_wp2_with fail; go_quiet (fail)
  have hbq : Below wr.heap.size wr (wr.drewN nq) := bl_drewN (Below.refl _ _) _
  have HN4 := Hid.mk' ((carr_Rm X B b n f).drew ((carr_Rm X B b n f).later HN3.out hbq))
  have c1 := kcell hbq c1
  have f0 := kcell hbq f0
  have f1 := kcell hbq f1
  have g1 := kcell hbq g1
  have g2 := kcell hbq g2
  have b4 : (wr.drewN nq).cell? ⟨bb, 4, none⟩ = some (.map (some b)) := (rB_blk (HN4.out.rs.o.on (rB bb 90 [Vg, Vf, .slice (some ⟨tb, 0, none⟩) W.tabs.length cp, Vr, .map (some b)]) (by simp))).cell 4
  generalize hX3 : wr.drewN nq = X3 at HN4 c1 f0 f1 g1 g2 b4 ⊢
  clear hX3 hbq HN3; obtain ⟨D, q1, q2⟩ := HN4.out.sm
  obtain ⟨w5, hrun, r1, r2⟩ := World.ownsMap.update (t := 88) q1 ekeyed Tryz.underlying88 (by unfold maxLen; omega) (key := .agg #[.int .i64 e'.1, .int .i64 e'.2]) (val := .agg #[.int .i64 i, .int .i64 j]) (keyOfE e' be') (d := .held (stv ((i : Int), (j : Int)))) (ps := []) rfl
  have HR5 : Hid (Rm X B b (n + 1) (goneF T i j f) w5 (P ++ [rB kf 150 [.int .i64 i, .int .i64 j], rB bb 90 [Vg, Vf, .slice (some ⟨tb, 0, none⟩) W.tabs.length cp, Vr, .map (some b)]] ++ rW ⟨Vg, Vf, .slice (some ⟨tb, 0, none⟩) W.tabs.length cp, Vr, (ts.set i ⟨tc0, .slice (some ⟨rb, ro, none⟩) (T.rows.length - 1) cr, .slice sx T.cells.length cx, ys⟩)⟩ (setW W i (gone T j)))) := Rm.write HN4.out r2 ⟨_, r1, by rw [← HGF.out]; exact q2.put be' _⟩
  clear q1 q2 r1 r2 HN4 HGF; go_wp2_with fail; go_region
  go_wp2_with fail; go_end0
  exact ⟨rfl, _, n + 1, Rm.less P _ (by simpa using HR5.out), HF3.out, Nat.le_refl _⟩
 have t8 : ¬ (j : Int) < ((T.rows.length - 1 : Nat) : Int) := by omega
 have HGF : Hid (goneF T i j f = f) := by
  show _ = _
  funext x
  unfold goneF
  rw [if_neg (fun h => hlast h.1)]
 clear oR oT mT hN c2 f2 hlen Hts HTS HTs HLS HBE; go_wp2_with fail; go_quiet (fail)
 go_wp2_with fail; go_end0
 exact ⟨rfl, _, n, Rm.less P _ (by rw [HGF.out]; simpa using (carr_Rm X B b n f).later HN3.out (bl_drewN (Below.refl _ _) _)), HF3.out, Nat.le_succ _⟩
end Go.Proofs.YtkihhadcoclnaaaGreat
