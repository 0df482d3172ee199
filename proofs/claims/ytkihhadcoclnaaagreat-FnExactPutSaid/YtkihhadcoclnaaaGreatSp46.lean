import Derived.Test.YtkihhadcoclnaaaGreatSp39
import Derived.Test.YtkihhadcoclnaaaGreatSp45
namespace Go.Proofs.YtkihhadcoclnaaaGreat
open Go.RowKit Go.Maps Go.WideMaps
set_option linter.unusedVariables false
set_option linter.unusedSimpArgs false
set_option maxRecDepth 100000
theorem MvR.less5 {X : World} {B b n : Nat} {f : E2 → Option E2} {P : List OR} {a c d x y : OR} {bb : Nat} {Vg Vf Vr : Value} {g3 : Option Addr} {cp : Nat} {ts : List TV} {W : Wd} {e : E2} {fi fj : Nat} {T : Tab} {L : List C5} {r : Ending} {w' : World} (h : MvR X B b n f (P ++ [a, c, d, x, y]) bb Vg Vf Vr g3 cp ts W e fi fj T L r w') : MvR X B b n f P bb Vg Vf Vr g3 cp ts W e fi fj T L r w' := by
 have less5 : ∀ {m : Nat} {k : E2 → Option E2} {S : List OR}, Rm X B b m k w' ((P ++ [a, c, d, x, y]) ++ S) → Rm X B b m k w' (P ++ S) := by
  intro m k S h
  have h1 : Rm X B b m k w' (P ++ a :: c :: d :: x :: y :: S) := by simpa only [List.append_assoc, List.cons_append, List.nil_append] using h
  exact Rm.less P _ (Rm.less P _ (Rm.less P _ (Rm.less P _ (Rm.less P _ h1))))
 rcases h with ⟨h1, h2, h3, h4⟩ | ⟨i, T1, W1, st, cp1, ts1, n', h1, h2, h3, h4, h5⟩
 ·
  exact Or.inl ⟨h1, h2, h3, less5 h4⟩
 exact Or.inr ⟨i, T1, W1, st, cp1, ts1, n', h1, h2, h3, less5 h4, h5⟩
theorem insert_comps {T : Tab} {j q : Nat} {x : Int} {v : V4} (h : T.cells.length = T.cols.length) (hq : q ≤ T.cols.length) : ((rowC T j).insertIdx q (x, v)).map (·.1) = T.cols.take q ++ x :: T.cols.drop q := by
 rw [ins_eq _ _ _ (by rw [rowC_len h]; exact hq), List.map_append, List.map_cons, List.map_take, List.map_drop, rowC_comps h]
theorem insert_ne {L : List Int} {q : Nat} {x : Int} (hx : ¬ x ∈ L) : ¬ L = L.take q ++ x :: L.drop q := by
 intro h
 exact hx (by rw [h]; simp)
theorem okCs_insert {L : List C5} {q : Nat} {c : C5} (h : okCs L) (hc : okV c.2) (hq : q ≤ L.length) : okCs (L.insertIdx q c) := by
 intro d hd
 rw [ins_eq c L q hq] at hd
 rcases List.mem_append.1 hd with h1 | h1
 ·
  exact h d (List.mem_of_mem_take h1)
 rcases List.mem_cons.1 h1 with rfl | h2
 ·
  exact hc
 exact h d (List.mem_of_mem_drop h2)
set_option maxHeartbeats 16000000 in
theorem put_any {X : World} {B b n : Nat} {f : E2 → Option E2} (P : List OR) (bb : Nat) (Vg Vf Vr : Value) (g3 : Option Addr) (cp : Nat) (ts : List TV) (W : Wd) (e : E2) (x : Int) (v : V4) (w : World) (hR : Rm X B b n f w (P ++ rB bb 90 [Vg, Vf, .slice g3 W.tabs.length cp, Vr, .map (some b)] :: rW ⟨Vg, Vf, .slice g3 W.tabs.length cp, Vr, ts⟩ W)) (hF : OWf ⟨Vg, Vf, .slice g3 W.tabs.length cp, Vr, ts⟩ W) (hk : kW W)
  (hS : Std (listB W.gens W.free) W.tabs (rowsOf W.tabs) f) (hlv : ∀ x, x ∈ listB W.gens W.free → x ∈ rowsOf W.tabs) (hrt : ∀ t ∈ W.tabs, RTab t) (bR : ∀ t ∈ W.tabs, ∀ x ∈ t.rows, bE x) (be : bE e) (hn : n ≤ 1100000000000)
  (hcl : ∀ T ∈ W.tabs, T.cols.length ≤ 900) (hrl : ∀ T ∈ W.tabs, T.rows.length ≤ 100000) (h40 : W.tabs.length ≤ 40) (okv : okV v) :
  Calls Tryz.prog 57 #[.pointer (some ⟨bb, 0, none⟩), .agg #[.int .i64 e.1, .int .i64 e.2], .agg #[.int .i64 x, .int .i64 v.1, .int .i64 v.2.1, .float .f64 v.2.2.1, .float .f64 v.2.2.2]] w fun r w' =>
   (r = .returned (.int .i64 2) ∧ ¬ e ∈ rowsOf W.tabs ∧ Rm X B b n f w' (P ++ rB bb 90 [Vg, Vf, .slice g3 W.tabs.length cp, Vr, .map (some b)] :: rW ⟨Vg, Vf, .slice g3 W.tabs.length cp, Vr, ts⟩ W)) ∨
   (∃ (i j : Nat) (T : Tab), W.tabs[i]? = some T ∧ T.rows[j]? = some e ∧ ((∃ (q : Nat) (M : List V4), r = .returned (.int .i64 0) ∧ T.cols[q]? = some x ∧ T.cells[q]? = some M ∧ OWf ⟨Vg, Vf, .slice g3 W.tabs.length cp, Vr, ts⟩ (setW W i (setT T q (M.set j v))) ∧ Rm X B b n f w' (P ++ rB bb 90 [Vg, Vf, .slice g3 W.tabs.length cp, Vr, .map (some b)] :: rW ⟨Vg, Vf, .slice g3 W.tabs.length cp, Vr, ts⟩ (setW W i (setT T q (M.set j v))))) ∨
    (¬ x ∈ T.cols ∧ ∃ q : Nat, Fnd T.cols x q ∧ MvR X B b n f P bb Vg Vf Vr g3 cp ts W e i j T ((rowC T j).insertIdx q (x, v)) r w'))) := by
 have hal := alloc_old
 have haf := alloc_oldf
 have hR0 : Rm X B b n f ((w.alloc (.cells #[.int .i64 e.1, .int .i64 e.2] 48)).alloc (.cells #[.int .i64 x, .int .i64 v.1, .int .i64 v.2.1, .float .f64 v.2.2.1, .float .f64 v.2.2.2] 103)) ((P ++ [rB w.heap.size 48 [.int .i64 e.1, .int .i64 e.2]]) ++ rB (w.heap.size + 1) 103 [.int .i64 x, .int .i64 v.1, .int .i64 v.2.1, .float .f64 v.2.2.1, .float .f64 v.2.2.2] :: (rB bb 90 [Vg, Vf, .slice g3 W.tabs.length cp, Vr, .map (some b)] :: rW ⟨Vg, Vf, .slice g3 W.tabs.length cp, Vr, ts⟩ W)) := by
  have h1 := Rm.ins P _ hR (bl_alloc (Below.refl _ _) (.cells #[.int .i64 e.1, .int .i64 e.2] 48)) (blk_rB (cs := [.int .i64 e.1, .int .i64 e.2]) (Blk.new w _ _) (Nat.le_refl _))
  have h2 := Rm.ins (P ++ [rB w.heap.size 48 [.int .i64 e.1, .int .i64 e.2]]) _ (by simpa only [List.append_assoc, List.cons_append, List.nil_append] using h1) (bl_alloc (Below.refl _ _) (.cells #[.int .i64 x, .int .i64 v.1, .int .i64 v.2.1, .float .f64 v.2.2.1, .float .f64 v.2.2.2] 103)) (blk_rB (cs := [.int .i64 x, .int .i64 v.1, .int .i64 v.2.1, .float .f64 v.2.2.1, .float .f64 v.2.2.2]) (Blk.new _ _ _) (Nat.le_refl _))
  simp only [World.size_alloc] at h2
  exact h2
 go_enter Tryz.func57, Tryz.ntmps57
 go_wp2_with fail; generalize hX0 : (w.alloc (.cells #[.int .i64 e.1, .int .i64 e.2] 48)).alloc (.cells #[.int .i64 x, .int .i64 v.1, .int .i64 v.2.1, .float .f64 v.2.2.1, .float .f64 v.2.2.2] 103) = X0 at hR0 ⊢
 generalize hke : w.heap.size = ke at hR0 ⊢
 generalize hkx : ke + 1 = kx at hR0 ⊢
 clear hX0 hke hkx hR; have HF := Hid.mk' hF
 have HR0 := Hid.mk' hR0
 obtain ⟨f0, f1, f2⟩ := (show Blk X0 ke #[.int .i64 e.1, .int .i64 e.2] 48 from rB_blk (hR0.rs.o.on (rB ke 48 [.int .i64 e.1, .int .i64 e.2]) (by simp))).two
 have b4 : X0.cell? ⟨bb, 4, none⟩ = some (.map (some b)) := (rB_blk (hR0.rs.o.on (rB bb 90 [Vg, Vf, .slice g3 W.tabs.length cp, Vr, .map (some b)]) (by simp))).cell 4
 clear hR0 hF; have HS := Hid.mk' hS
 have HLV := Hid.mk' hlv
 by_cases hf : f e = none
 ·
  have hlk1 : (Instr.lookup 88 (.map (some b)) (.agg #[.int .i64 e.1, .int .i64 e.2]) true).run Tryz.prog X0.drew = .ok (.tuple #[.agg #[.int .i64 0, .int .i64 0], .bool false]) X0.drew := by
   have := ((carr_Rm X B b n f).drew HR0.out).sm.look be
   rw [hf] at this
   simpa [stv] using this
  have hlk2 : ∀ ob, (Instr.lookup 88 (.map (some b)) (.agg #[.int .i64 e.1, .int .i64 e.2]) true).run Tryz.prog (X0.alloc ob).drew = .ok (.tuple #[.agg #[.int .i64 0, .int .i64 0], .bool false]) (X0.alloc ob).drew := by
   intro ob
   have := (show SM (X0.alloc ob).drew b n f from HR0.out.sm.later (bl_drew (bl_alloc (Below.refl _ _) ob))).look be
   rw [hf] at this
   simpa [stv] using this
  have HE : Hid (¬ e ∈ rowsOf W.tabs) := fun hm => by
   obtain ⟨s, hs, _⟩ := HS.out.taken e hm
   rw [hf] at hs
   cases hs
  have HR1 := Hid.mk' ((carr_Rm X B b n f).drew ((carr_Rm X B b n f).later HR0.out (bl_alloc (Below.refl _ X0) (.cells #[.int .i64 0, .int .i64 0] 150))))
  clear hf hS hlv; go_region
  all_goals
   go_wp2_with fail; go_ret; exact Or.inl ⟨rfl, HE.out, Rm.less2 P _ (r := rB ke 48 [.int .i64 e.1, .int .i64 e.2]) (q := rB kx 103 [.int .i64 x, .int .i64 v.1, .int .i64 v.2.1, .float .f64 v.2.2.1, .float .f64 v.2.2.2]) (by simpa only [List.append_assoc, List.cons_append, List.nil_append] using HR1.out)⟩
 obtain ⟨i, j, T, hfe, hT, hTj⟩ : ∃ (i j : Nat) (T : Tab), f e = some ((i : Int), (j : Int)) ∧ W.tabs[i]? = some T ∧ T.rows[j]? = some e := by
  have hin : e ∈ listB W.gens W.free := by
   by_cases h : e ∈ listB W.gens W.free
   ·
    exact h
   exact absurd (HS.out.out e h) hf
  obtain ⟨s, hs, i, j, T, rfl, h1, h2⟩ := HS.out.taken e (HLV.out e hin)
  exact ⟨i, j, T, hs, h1, h2⟩
 have hlk1 : (Instr.lookup 88 (.map (some b)) (.agg #[.int .i64 e.1, .int .i64 e.2]) true).run Tryz.prog X0.drew = .ok (.tuple #[.agg #[.int .i64 i, .int .i64 j], .bool true]) X0.drew := by
  have := ((carr_Rm X B b n f).drew HR0.out).sm.look be
  rw [hfe] at this
  simpa [stv] using this
 have hlk2 : ∀ ob, (Instr.lookup 88 (.map (some b)) (.agg #[.int .i64 e.1, .int .i64 e.2]) true).run Tryz.prog (X0.alloc ob).drew = .ok (.tuple #[.agg #[.int .i64 i, .int .i64 j], .bool true]) (X0.alloc ob).drew := by
  intro ob
  have := (show SM (X0.alloc ob).drew b n f from HR0.out.sm.later (bl_drew (bl_alloc (Below.refl _ _) ob))).look be
  rw [hfe] at this
  simpa [stv] using this
 have hm := List.mem_of_getElem? hT
 have hi : i < W.tabs.length := (List.getElem?_eq_some_iff.1 hT).1
 have hjl : j < T.rows.length := (List.getElem?_eq_some_iff.1 hTj).1
 have hlT : ∀ L ∈ T.cells, L.length = T.rows.length := by
  intro L hL
  obtain ⟨q, hq, rfl⟩ := List.getElem_of_mem hL
  exact (hrt T hm).each q _ (List.getElem?_eq_getElem hq)
 have HR1 : Hid (Rm X B b n f (X0.alloc (.cells #[.int .i64 i, .int .i64 j] 150)).drew ((P ++ [rB ke 48 [.int .i64 e.1, .int .i64 e.2], rB kx 103 [.int .i64 x, .int .i64 v.1, .int .i64 v.2.1, .float .f64 v.2.2.1, .float .f64 v.2.2.2], rB X0.heap.size 150 [.int .i64 i, .int .i64 j]]) ++ rB bb 90 [Vg, Vf, .slice g3 W.tabs.length cp, Vr, .map (some b)] :: rW ⟨Vg, Vf, .slice g3 W.tabs.length cp, Vr, ts⟩ W)) := by
  show Rm _ _ _ _ _ _ _
  have h := (carr_Rm X B b n f).drew ((carr_Rm X B b n f).ins (P ++ [rB ke 48 [.int .i64 e.1, .int .i64 e.2], rB kx 103 [.int .i64 x, .int .i64 v.1, .int .i64 v.2.1, .float .f64 v.2.2.1, .float .f64 v.2.2.2]]) (rB bb 90 [Vg, Vf, .slice g3 W.tabs.length cp, Vr, .map (some b)] :: rW ⟨Vg, Vf, .slice g3 W.tabs.length cp, Vr, ts⟩ W) (by simpa only [List.append_assoc, List.cons_append, List.nil_append] using HR0.out) (bl_alloc (Below.refl _ X0) (.cells #[.int .i64 i, .int .i64 j] 150)) (blk_rB (cs := [.int .i64 i, .int .i64 j]) (Blk.new X0 _ _) (Nat.le_refl _)))
  simpa only [List.append_assoc, List.cons_append, List.nil_append] using h
 have HT := Hid.mk' hT
 have HTj := Hid.mk' hTj
 have HLT := Hid.mk' hlT
 have HBT := Hid.mk' (bR T hm)
 have HRT := Hid.mk' (hrt T hm)
 have HCL := Hid.mk' hcl
 have HRL := Hid.mk' hrl
 have HRA := Hid.mk' hrt
 have hct := hcl T hm
 clear hf hfe hS hlv hT hTj hlT hrt bR HS HLV HR0 hcl hrl hm; go_region
 go_wp2_with fail; generalize hX1 : (X0.alloc (.cells #[.int .i64 i, .int .i64 j] 150)).drew = X1 at HR1 ⊢
 generalize hks : X0.heap.size = ks at HR1 ⊢
 clear hX1 hks hlk1 hlk2 f0 f1 f2 b4; obtain ⟨q1, r1, q2, r2, q3, r3, q4, r4, f1, f2, f3, f4, hIn⟩ := (HF.out.ow (HR1.out.rs.o.right.tail)).inW
 simp only [Value.slice.injEq] at f3
 obtain ⟨rfl, -, rfl⟩ := f3
 have hIt := Hid.mk' hIn.t
 clear hIn f1 f2 f4; obtain ⟨tb, t0, rfl, _, _, s1, d1, s2, d2, s3, d3, e1, _, _, E1, _, _⟩ := eTab_cells hIt.out HT.out
 have b2 : X1.cell? ⟨bb, 2, none⟩ = some (.slice (some ⟨tb, t0, none⟩) W.tabs.length cp) := (rB_blk (HR1.out.rs.o.on (rB bb 90 [Vg, Vf, .slice (some ⟨tb, t0, none⟩) W.tabs.length cp, Vr, .map (some b)]) (by simp))).cell 2
 obtain ⟨f0, f1, f2⟩ := (show Blk X1 ks #[.int .i64 i, .int .i64 j] 150 from rB_blk (HR1.out.rs.o.on (rB ks 150 [.int .i64 i, .int .i64 j]) (by simp))).two
 have x5 := (show Blk X1 kx #[.int .i64 x, .int .i64 v.1, .int .i64 v.2.1, .float .f64 v.2.2.1, .float .f64 v.2.2.2] 103 from rB_blk (HR1.out.rs.o.on (rB kx 103 [.int .i64 x, .int .i64 v.1, .int .i64 v.2.1, .float .f64 v.2.2.1, .float .f64 v.2.2.2]) (by simp))).cell 0
 have i0 : (0 : Int) ≤ (i : Int) := by omega
 have i1 : (i : Int) < (W.tabs.length : Int) := by omega
 have HE1 := Hid.mk' (E1.later cInt_keeps (bl_drew (Below.refl _ X1)))
 have HUP : Hid (∀ (p q : Nat) a b, p ≤ q → T.cols[p]? = some a → T.cols[q]? = some b → a ≤ b) := by
  intro p q a b hpq ha hb
  by_cases h : p = q
  ·
   subst h
   rw [ha] at hb
   cases hb
   exact Int.le_refl _
  exact Int.le_of_lt (HRT.out.up p q a b (by omega) ha hb)
 have HR1D := Hid.mk' ((carr_Rm X B b n f).drew HR1.out)
 clear E1 hIt; go_cut [9, 10] (fun p q wx => ∃ k : Nat, p = .int .i64 k ∧ q = .bool (decide (T.cols[k]? = some x)) ∧ Hid (Fnd T.cols x k) ∧ Hid (Rm X B b n f wx ((P ++ [rB ke 48 [.int .i64 e.1, .int .i64 e.2], rB kx 103 [.int .i64 x, .int .i64 v.1, .int .i64 v.2.1, .float .f64 v.2.2.1, .float .f64 v.2.2.2], rB ks 150 [.int .i64 i, .int .i64 j]]) ++ rB bb 90 [Vg, Vf, .slice (some ⟨tb, t0, none⟩) W.tabs.length cp, Vr, .map (some b)] :: rW ⟨Vg, Vf, .slice (some ⟨tb, t0, none⟩) W.tabs.length cp, Vr, ts⟩ W)))
 case first =>
  go_region_with (first
   | (go_at_call 85; refine (binSearch_any s1 d1 T.cols x _ _ HE1.out (by omega) HUP.out).mono ?_; rintro r w5 ⟨⟨k, hr5, hq5⟩, hw5⟩; subst hr5; subst hw5))
  all_goals
   go_wp2_with fail; go_meet; exact ⟨k, rfl, rfl, hq5, HR1D.out⟩
 obtain ⟨k, rfl, rfl, HFD, HRC⟩ := hcut
 clear HR1 HR1D HE1 b2 f0 f1 f2 e1 HUP; by_cases hfd : T.cols[k]? = some x
 ·
  have tf : decide (T.cols[k]? = some x) = true := by simp [hfd]
  rw [tf]
  have hkl : k < T.cols.length := (List.getElem?_eq_some_iff.1 hfd).1
  have HXK := Hid.mk' hfd
  obtain ⟨M, hM⟩ := get_some (L := T.cells) (k := k) (by rw [HRT.out.len]; exact hkl)
  have hjM : j < M.length := by rw [HLT.out M (List.mem_of_getElem? hM)]; exact hjl
  obtain ⟨p0, hp0⟩ := get_some hjM
  obtain ⟨t, tb', cp', sr, cr, sx, cx, ht, eV, er, ex, hxl, oR, oX, c1, c2, fz⟩ := tab_at HRC.out.rs.o (V := ⟨Vg, Vf, .slice (some ⟨tb, t0, none⟩) W.tabs.length cp, Vr, ts⟩) (W := W) (fun r hr => by simp [hr]) HF.out HT.out
  simp only [Value.slice.injEq, Option.some.injEq, Addr.mk.injEq, and_true, true_and] at eV
  obtain ⟨⟨rfl, rfl⟩, rfl⟩ := eV
  obtain ⟨tc0, tr, tx, xs⟩ := t
  dsimp only at er ex hxl oR oX c1 c2
  subst er ex
  obtain ⟨u, hu⟩ := get_some (L := xs) (k := k) (by rw [hxl, HRT.out.len]; exact hkl)
  have oX' : World.ownsRow wc B 38 1 (.slice sx T.cells.length cx) T.cells.length xs := by
   have h := oX
   unfold OR.on rS at h
   dsimp only at h
   rw [hxl] at h
   exact h
  obtain ⟨xb, rfl⟩ := own_some oX' (by have := HRT.out.len; omega)
  have hc := World.ownsRow.cellAt oX' k (by have := HRT.out.len; omega)
  rw [hu] at hc
  have oV : (rV u M).on wc B := HRC.out.rs.o.on _ (List.mem_append_right _ (by have := rTabs_mem ht HT.out (rV u M) (by simp only [rTab, List.mem_cons]; exact Or.inr (Or.inr (Or.inr (mem_zipWith hu hM)))); simp [rW, this]))
  obtain ⟨sv, cv, ev⟩ := oV.shape
  have ev : u = .slice sv M.length cv := ev
  subst ev
  obtain ⟨vb, rfl⟩ := own_some (show World.ownsRow wc B 59 4 (.slice sv M.length cv) M.length (M.flatMap vcells) from oV) (by omega)
  have okM : okVs M := HF.out.okc T (List.mem_of_getElem? HT.out) M (List.mem_of_getElem? hM)
  obtain ⟨b9, o9, ee, _, _, _, u1, u2, u3, u4⟩ := eVal_cells (rV_els oV okM) hp0
  simp only [Option.some.injEq, Addr.mk.injEq, and_true] at ee
  obtain ⟨rfl, rfl⟩ := ee
  simp only [Nat.zero_add] at u1 u2 u3 u4
  have fv : ∀ o, wc.frozen? ⟨vb, o, none⟩ = false := fun o => World.ownsRow.frozenAt (show World.ownsRow wc B 59 4 (.slice (some ⟨vb, 0, none⟩) M.length cv) M.length (M.flatMap vcells) from oV) o
  have OVd : OR.on wc.drew B (rV (.slice (some ⟨vb, 0, none⟩) M.length cv) M) := OR.on.same oV (fun _ _ => rfl)
  have h1 := rV_set' hp0 v OVd rfl
  have h2 := (carr_Rm X B b n f).colIn (w := wc.drew) (P := ((P ++ [rB ke 48 [.int .i64 e.1, .int .i64 e.2], rB kx 103 [.int .i64 x, .int .i64 v.1, .int .i64 v.2.1, .float .f64 v.2.2.1, .float .f64 v.2.2.2], rB ks 150 [.int .i64 i, .int .i64 j]]) ++ [rB bb 90 [Vg, Vf, .slice (some ⟨tb, 0, none⟩) W.tabs.length cp, Vr, .map (some b)]])) (V := ⟨Vg, Vf, .slice (some ⟨tb, 0, none⟩) W.tabs.length cp, Vr, ts⟩) (W := W) (t := ⟨tc0, .slice sr T.rows.length cr, .slice (some ⟨xb, 0, none⟩) T.cells.length cx, xs⟩) (T := T) (by simpa only [List.append_assoc, List.cons_append, List.nil_append] using (carr_Rm X B b n f).drew HRC.out) ht HT.out hu hM h1.2 h1.1
  have H2 : Hid (Rm X B b n f ((((wc.drew.setCell ⟨vb, j * 4, none⟩ (.int .i64 v.1)).setCell ⟨vb, j * 4 + 1, none⟩ (.int .i64 v.2.1)).setCell ⟨vb, j * 4 + 2, none⟩ (.float .f64 v.2.2.1)).setCell ⟨vb, j * 4 + 3, none⟩ (.float .f64 v.2.2.2)) (P ++ rB bb 90 [Vg, Vf, .slice (some ⟨tb, 0, none⟩) W.tabs.length cp, Vr, .map (some b)] :: rW ⟨Vg, Vf, .slice (some ⟨tb, 0, none⟩) W.tabs.length cp, Vr, ts⟩ (setW W i (setT T k (M.set j v))))) := by
   show Rm _ _ _ _ _ _ _
   have h3 : Rm X B b n f ((((wc.drew.setCell ⟨vb, j * 4, none⟩ (.int .i64 v.1)).setCell ⟨vb, j * 4 + 1, none⟩ (.int .i64 v.2.1)).setCell ⟨vb, j * 4 + 2, none⟩ (.float .f64 v.2.2.1)).setCell ⟨vb, j * 4 + 3, none⟩ (.float .f64 v.2.2.2)) (P ++ rB ke 48 [.int .i64 e.1, .int .i64 e.2] :: rB kx 103 [.int .i64 x, .int .i64 v.1, .int .i64 v.2.1, .float .f64 v.2.2.1, .float .f64 v.2.2.2] :: rB ks 150 [.int .i64 i, .int .i64 j] :: rB bb 90 [Vg, Vf, .slice (some ⟨tb, 0, none⟩) W.tabs.length cp, Vr, .map (some b)] :: rW ⟨Vg, Vf, .slice (some ⟨tb, 0, none⟩) W.tabs.length cp, Vr, ts⟩ (setW W i (setT T k (M.set j v)))) := by
    have h := h2
    simp only [List.append_assoc, List.cons_append, List.nil_append] at h
    exact h
   exact Rm.less P _ (Rm.less P _ (Rm.less P _ h3))
  have HF2 : Hid (OWf ⟨Vg, Vf, .slice (some ⟨tb, 0, none⟩) W.tabs.length cp, Vr, ts⟩ (setW W i (setT T k (M.set j v)))) := by
   show OWf _ _
   refine ⟨?_, ?_, ?_, HF.out.okr⟩
   ·
    show ts.length = (W.tabs.set i _).length
    rw [List.length_set]; exact HF.out.len
   ·
    intro q t U ht' hU
    have hU : (W.tabs.set i (setT T k (M.set j v)))[q]? = some U := hU
    by_cases e9 : i = q
    ·
     subst e9
     rw [List.getElem?_set_self hi] at hU
     cases hU
     show t.xs.length = (T.cells.set k _).length
     rw [List.length_set]
     exact HF.out.lens i t T ht' HT.out
    rw [List.getElem?_set_ne e9] at hU
    exact HF.out.lens q t U ht' hU
   intro U hU N hN
   rcases List.mem_or_eq_of_mem_set (show U ∈ W.tabs.set i (setT T k (M.set j v)) from hU) with h' | rfl
   ·
    exact HF.out.okc U h' N hN
   rcases List.mem_or_eq_of_mem_set (show N ∈ T.cells.set k (M.set j v) from hN) with h9 | rfl
   ·
    exact HF.out.okc T (List.mem_of_getElem? HT.out) N h9
   intro y hy
   rcases List.mem_or_eq_of_mem_set hy with h8 | rfl
   ·
    exact okM y h8
   exact okv
  have HM := Hid.mk' hM
  have b2 : wc.cell? ⟨bb, 2, none⟩ = some (.slice (some ⟨tb, 0, none⟩) W.tabs.length cp) := (rB_blk (HRC.out.rs.o.on (rB bb 90 [Vg, Vf, .slice (some ⟨tb, 0, none⟩) W.tabs.length cp, Vr, .map (some b)]) (by simp))).cell 2
  obtain ⟨f0, f1, f2⟩ := (show Blk wc ks #[.int .i64 i, .int .i64 j] 150 from rB_blk (HRC.out.rs.o.on (rB ks 150 [.int .i64 i, .int .i64 j]) (by simp))).two
  have hBx := (show Blk wc kx #[.int .i64 x, .int .i64 v.1, .int .i64 v.2.1, .float .f64 v.2.2.1, .float .f64 v.2.2.2] 103 from rB_blk (HRC.out.rs.o.on (rB kx 103 [.int .i64 x, .int .i64 v.1, .int .i64 v.2.1, .float .f64 v.2.2.1, .float .f64 v.2.2.2]) (by simp)))
  have y1 := hBx.cell 1
  have y2 := hBx.cell 2
  have y3 := hBx.cell 3
  have y4 := hBx.cell 4
  have k0 : (0 : Int) ≤ (k : Int) := by omega
  have k1 : (k : Int) < (T.cells.length : Int) := by have := HRT.out.len; omega
  have j0 : (0 : Int) ≤ (j : Int) := by omega
  have j1 : (j : Int) < (M.length : Int) := by omega
  clear hfd tf hM hp0 oX oX' oV OVd h1 h2 ht hxl hu okM HRC oR c1 hBx; go_wp2_with fail; go_region
  all_goals
   go_wp2_with fail; go_ret; exact Or.inr ⟨i, j, T, HT.out, HTj.out, Or.inl ⟨k, M, rfl, HXK.out, HM.out, HF2.out, H2.out⟩⟩
 have tf : decide (T.cols[k]? = some x) = false := by simp [hfd]
 rw [tf]
 have HNX : Hid (¬ x ∈ T.cols) := by
  intro hx
  obtain ⟨m, hm⟩ := List.mem_iff_getElem?.1 hx
  have hml := (List.getElem?_eq_some_iff.1 hm).1
  rcases Nat.lt_trichotomy m k with h | h | h
  ·
   exact absurd (HFD.out.2.1 m x h hm) (Int.lt_irrefl _)
  ·
   subst h; exact hfd hm
  obtain ⟨a, ha⟩ := get_some (L := T.cols) (k := k) (by omega)
  have h1 := HFD.out.2.2 k a (Nat.le_refl _) ha
  have h2 := HRT.out.up k m a x h ha hm
  omega
 have hkl : k ≤ T.cols.length := HFD.out.1
 have hrc : (rowC T j).length = T.cols.length := rowC_len HRT.out.len
 have hle : ((rowC T j).insertIdx k (x, v)).length = (rowC T j).length + 1 := List.length_insertIdx_of_le_length (by omega) _
 have HOK : Hid (okCs ((rowC T j).insertIdx k (x, v))) := okCs_insert (okCs_rowC (fun M hM => HF.out.okc T (List.mem_of_getElem? HT.out) M hM) (fun M hM => by rw [HLT.out M hM]; exact hjl)) okv (by omega)
 have HNE : Hid (¬ T.cols = ((rowC T j).insertIdx k (x, v)).map (·.1)) := by
  intro h
  rw [insert_comps HRT.out.len hkl] at h
  exact insert_ne HNX.out h
 have HCC : Hid (∀ T ∈ W.tabs, T.cells.length = T.cols.length) := fun t ht => (HRA.out t ht).len
 have HLL : Hid (∀ T ∈ W.tabs, ∀ M ∈ T.cells, M.length ≤ 100000) := by
  intro t ht M hM
  obtain ⟨q, hq, rfl⟩ := List.getElem_of_mem hM
  rw [(HRA.out t ht).each q _ (List.getElem?_eq_getElem hq)]
  exact HRL.out t ht
 have lL : ((rowC T j).insertIdx k (x, v)).length ≤ 1000 := by omega
 have HKT : Hid (kTab T) := hk.2.2.1.2 T (List.mem_of_getElem? HT.out)
 have HRD := Hid.mk' ((carr_Rm X B b n f).drew HRC.out)
 have HSB : Hid (∀ w6 : World, (∀ r ∈ [rB ks 150 [.int .i64 i, .int .i64 j], rB ke 48 [.int .i64 e.1, .int .i64 e.2], rB kx 103 [.int .i64 x, .int .i64 v.1, .int .i64 v.2.1, .float .f64 v.2.2.1, .float .f64 v.2.2.2]], r.on w6 B) → w6.cell? ⟨ks, 0, none⟩ = some (.int .i64 i) ∧ w6.cell? ⟨ks, 1, none⟩ = some (.int .i64 j) ∧ w6.cell? ⟨ke, 0, none⟩ = some (.int .i64 e.1) ∧ w6.cell? ⟨ke, 1, none⟩ = some (.int .i64 e.2) ∧ w6.cell? ⟨kx, 0, none⟩ = some (.int .i64 x) ∧ w6.cell? ⟨kx, 1, none⟩ = some (.int .i64 v.1) ∧ w6.cell? ⟨kx, 2, none⟩ = some (.int .i64 v.2.1) ∧ w6.cell? ⟨kx, 3, none⟩ = some (.float .f64 v.2.2.1) ∧ w6.cell? ⟨kx, 4, none⟩ = some (.float .f64 v.2.2.2)) := by
  intro w6 h
  have q1 := (show Blk w6 ks #[.int .i64 i, .int .i64 j] 150 from rB_blk (h _ (by simp)))
  have q2 := (show Blk w6 ke #[.int .i64 e.1, .int .i64 e.2] 48 from rB_blk (h (rB ke 48 [.int .i64 e.1, .int .i64 e.2]) (by simp)))
  have q3 := (show Blk w6 kx #[.int .i64 x, .int .i64 v.1, .int .i64 v.2.1, .float .f64 v.2.2.1, .float .f64 v.2.2.2] 103 from rB_blk (h (rB kx 103 [.int .i64 x, .int .i64 v.1, .int .i64 v.2.1, .float .f64 v.2.2.1, .float .f64 v.2.2.2]) (by simp)))
  exact ⟨q1.cell 0, q1.cell 1, q2.cell 0, q2.cell 1, q3.cell 0, q3.cell 1, q3.cell 2, q3.cell 3, q3.cell 4⟩
 have HSS : Hid (∀ (w6 : World) (R : List OR), Rm X B b n f w6 R → (∀ r ∈ [rB ks 150 [.int .i64 i, .int .i64 j], rB ke 48 [.int .i64 e.1, .int .i64 e.2], rB kx 103 [.int .i64 x, .int .i64 v.1, .int .i64 v.2.1, .float .f64 v.2.2.1, .float .f64 v.2.2.2]], r ∈ R) → w6.cell? ⟨ks, 0, none⟩ = some (.int .i64 i) ∧ w6.cell? ⟨ks, 1, none⟩ = some (.int .i64 j) ∧ w6.cell? ⟨ke, 0, none⟩ = some (.int .i64 e.1) ∧ w6.cell? ⟨ke, 1, none⟩ = some (.int .i64 e.2) ∧ w6.cell? ⟨kx, 0, none⟩ = some (.int .i64 x) ∧ w6.cell? ⟨kx, 1, none⟩ = some (.int .i64 v.1) ∧ w6.cell? ⟨kx, 2, none⟩ = some (.int .i64 v.2.1) ∧ w6.cell? ⟨kx, 3, none⟩ = some (.float .f64 v.2.2.1) ∧ w6.cell? ⟨kx, 4, none⟩ = some (.float .f64 v.2.2.2)) := fun w6 R h hm => HSB.out w6 (fun r hr => h.rs.o.on r (hm r hr))
 have HCO : Hid (∀ (w6 : World) (Px : List OR), Rm X B b n f w6 (Px ++ rB bb 90 [Vg, Vf, .slice (some ⟨tb, t0, none⟩) W.tabs.length cp, Vr, .map (some b)] :: rW ⟨Vg, Vf, .slice (some ⟨tb, t0, none⟩) W.tabs.length cp, Vr, ts⟩ W) → Calls Tryz.prog 88 #[.pointer (some ⟨bb, 0, none⟩), .agg #[.int .i64 i, .int .i64 j]] w6 fun r w' => ∃ g : Nat, r = .returned (.slice (some ⟨g, 0, none⟩) (rowC T j).length (rowC T j).length) ∧ (rC (.slice (some ⟨g, 0, none⟩) (rowC T j).length (rowC T j).length) (rowC T j)).on w' w6.heap.size ∧ Below w6.heap.size w6 w') := by
  intro w6 Px h
  have hb2 : w6.cell? ⟨bb, 2, none⟩ = some (.slice (some ⟨tb, t0, none⟩) W.tabs.length cp) := (rB_blk (h.rs.o.on (rB bb 90 [Vg, Vf, .slice (some ⟨tb, t0, none⟩) W.tabs.length cp, Vr, .map (some b)]) (by simp))).cell 2
  obtain ⟨q1, r1, q2, r2, q3, r3, q4, r4, f1, f2, f3, f4, hIn⟩ := (HF.out.ow (h.rs.o.right.tail)).inW
  simp only [Value.slice.injEq] at f3
  obtain ⟨rfl, -, rfl⟩ := f3
  exact cellsOf_any bb (some ⟨tb, t0, none⟩) cp W i j T _ w6 hb2 hIn.t HT.out HRT.out.len HLT.out hjl HKT.out (by omega) (rowC T j) rfl
 have HIN : Hid (∀ (g vb : Nat) (w6 : World), (rC (.slice (some ⟨g, 0, none⟩) (rowC T j).length (rowC T j).length) (rowC T j)).on w6 B → B ≤ w6.heap.size → Blk w6 vb #[.int .i64 x, .int .i64 v.1, .int .i64 v.2.1, .float .f64 v.2.2.1, .float .f64 v.2.2.2] 103 → Calls Tryz.prog 101 #[.slice (some ⟨g, 0, none⟩) (rowC T j).length (rowC T j).length, .int .i64 (k : Int), .slice (some ⟨vb, 0, none⟩) 1 1] w6 fun r w' => ∃ (s' : Option Addr) (c' : Nat), r = .returned (.slice s' ((rowC T j).insertIdx k (x, v)).length c') ∧ (rC (.slice s' ((rowC T j).insertIdx k (x, v)).length c') ((rowC T j).insertIdx k (x, v))).on w' B ∧ w6.grownBy w' (some g) ∧ ∀ q, (Value.slice s' ((rowC T j).insertIdx k (x, v)).length c').ownBlock = some q → q = g ∨ w6.heap.size ≤ q) := by
  intro g vb w6 h1 h2 h3
  rw [hle]
  refine insertC_any g (rowC T j) k (x, v) vb B w6 h1 h2 (fun q u hq => ?_) (by omega) (by omega)
  match q, hq with
  | 0, hq => simp [ccells] at hq; subst hq; exact h3.cell 0
  | 1, hq => simp [ccells] at hq; subst hq; exact h3.cell 1
  | 2, hq => simp [ccells] at hq; subst hq; exact h3.cell 2
  | 3, hq => simp [ccells] at hq; subst hq; exact h3.cell 3
  | 4, hq => simp [ccells] at hq; subst hq; exact h3.cell 4
 have HK := Hid.mk' hk
 clear hfd tf HRC hk hle hrc; go_wp2_with fail; refine wp_region_held_drew (S := (fun w' => w'.cell? ⟨ks, 0, none⟩ = some (.int .i64 i) ∧ w'.cell? ⟨ks, 1, none⟩ = some (.int .i64 j) ∧ w'.cell? ⟨ke, 0, none⟩ = some (.int .i64 e.1) ∧ w'.cell? ⟨ke, 1, none⟩ = some (.int .i64 e.2) ∧ w'.cell? ⟨kx, 0, none⟩ = some (.int .i64 x) ∧ w'.cell? ⟨kx, 1, none⟩ = some (.int .i64 v.1) ∧ w'.cell? ⟨kx, 2, none⟩ = some (.int .i64 v.2.1) ∧ w'.cell? ⟨kx, 3, none⟩ = some (.float .f64 v.2.2.1) ∧ w'.cell? ⟨kx, 4, none⟩ = some (.float .f64 v.2.2.2))) (by kernel_rfl) ?_ (fun hHeld => ?_)
 ·
  exact HSS.out _ _ HRD.out (by intro r hr; simp only [List.mem_cons, List.not_mem_nil, or_false] at hr; rcases hr with rfl | rfl | rfl <;> simp)
 refine wpr 0 57 ?_; simp only [zs]; refine wpr 1 58 ?_; simp only [zs]; refine wpr 2 59 ?_; simp only [zs]; refine wpr 3 60 ?_; simp only [zs]; refine wpr 4 61 ?_; simp only [zs]; refine wpr 6 63 ?_; simp only [zs]; refine wpr 7 64 ?_; simp only [zs]; refine wpAnyH_ready (rs := [5, 8]) (by kernel_rfl) (by simp) ?_
 refine AllReadyH.cons rfl (fun K hK => ?_) (AllReadyH.cons rfl (fun K hK => ?_) AllReadyH.nil)
 rotate_left 1; go_simp; have HRZ : Hid (Rm X B b n f (wc.alloc (.cells #[.int .i64 x, .int .i64 v.1, .int .i64 v.2.1, .float .f64 v.2.2.1, .float .f64 v.2.2.2] 103)).drew ((P ++ [rB ke 48 [.int .i64 e.1, .int .i64 e.2], rB kx 103 [.int .i64 x, .int .i64 v.1, .int .i64 v.2.1, .float .f64 v.2.2.1, .float .f64 v.2.2.2], rB ks 150 [.int .i64 i, .int .i64 j], rB wc.heap.size 103 [.int .i64 x, .int .i64 v.1, .int .i64 v.2.1, .float .f64 v.2.2.1, .float .f64 v.2.2.2]]) ++ rB bb 90 [Vg, Vf, .slice (some ⟨tb, t0, none⟩) W.tabs.length cp, Vr, .map (some b)] :: rW ⟨Vg, Vf, .slice (some ⟨tb, t0, none⟩) W.tabs.length cp, Vr, ts⟩ W)) := by
  show Rm _ _ _ _ _ _ _
  have h := (carr_Rm X B b n f).ins (P ++ [rB ke 48 [.int .i64 e.1, .int .i64 e.2], rB kx 103 [.int .i64 x, .int .i64 v.1, .int .i64 v.2.1, .float .f64 v.2.2.1, .float .f64 v.2.2.2], rB ks 150 [.int .i64 i, .int .i64 j]]) _ HRD.out (bl_alloc (Below.refl _ _) (.cells #[.int .i64 x, .int .i64 v.1, .int .i64 v.2.1, .float .f64 v.2.2.1, .float .f64 v.2.2.2] 103)) (blk_rB (cs := [.int .i64 x, .int .i64 v.1, .int .i64 v.2.1, .float .f64 v.2.2.1, .float .f64 v.2.2.2]) (Blk.new _ _ _) (Nat.le_refl _))
  simp only [List.append_assoc, List.cons_append, List.nil_append] at h ⊢
  exact h
 refine hK.out _ _ ?_ (fun hHeld => ?_)
 ·
  exact HSS.out _ _ HRZ.out (by intro r hr; simp only [List.mem_cons, List.not_mem_nil, or_false] at hr; rcases hr with rfl | rfl | rfl <;> simp)
 clear hK K; try simp only [zs]
 generalize hZ : (wc.alloc (.cells #[.int .i64 x, .int .i64 v.1, .int .i64 v.2.1, .float .f64 v.2.2.1, .float .f64 v.2.2.2] 103)).drew = wz at HRZ ⊢
 generalize hvb : wc.heap.size = vb at HRZ ⊢
 clear hZ hvb; refine wpy 5 fun K hK => ?_
 go_simp; refine (HCO.out _ _ HRZ.out).mono ?_
 rintro r w6 ⟨g, hr6, hO6, hb6⟩
 subst hr6
 have HR6 := Hid.mk' ((carr_Rm X B b n f).ins (P ++ [rB ke 48 [.int .i64 e.1, .int .i64 e.2], rB kx 103 [.int .i64 x, .int .i64 v.1, .int .i64 v.2.1, .float .f64 v.2.2.1, .float .f64 v.2.2.2], rB ks 150 [.int .i64 i, .int .i64 j], rB vb 103 [.int .i64 x, .int .i64 v.1, .int .i64 v.2.1, .float .f64 v.2.2.1, .float .f64 v.2.2.2]]) _ HRZ.out hb6 hO6)
 refine hK.out _ _ ?_ (fun hHeld => ?_)
 ·
  exact HSS.out _ _ HR6.out (by intro r hr; simp only [List.mem_cons, List.not_mem_nil, or_false] at hr; rcases hr with rfl | rfl | rfl <;> simp)
 clear hK K; try simp only [zs]
 clear HRZ hO6 hb6; rotate_left 1; go_simp; refine (HCO.out _ _ HRD.out).mono ?_
 rintro r w5 ⟨g, hr5, hO5, hb5⟩
 subst hr5
 have HRZ := Hid.mk' ((carr_Rm X B b n f).ins (P ++ [rB ke 48 [.int .i64 e.1, .int .i64 e.2], rB kx 103 [.int .i64 x, .int .i64 v.1, .int .i64 v.2.1, .float .f64 v.2.2.1, .float .f64 v.2.2.2], rB ks 150 [.int .i64 i, .int .i64 j]]) _ HRD.out hb5 hO5)
 refine hK.out _ _ ?_ (fun hHeld => ?_)
 ·
  exact HSS.out _ _ HRZ.out (by intro r hr; simp only [List.mem_cons, List.not_mem_nil, or_false] at hr; rcases hr with rfl | rfl | rfl <;> simp)
 clear hK K; try simp only [zs]
 refine wpy 8 fun K hK => ?_
 go_simp; have HR6 : Hid (Rm X B b n f (w5.alloc (.cells #[.int .i64 x, .int .i64 v.1, .int .i64 v.2.1, .float .f64 v.2.2.1, .float .f64 v.2.2.2] 103)) ((P ++ [rB ke 48 [.int .i64 e.1, .int .i64 e.2], rB kx 103 [.int .i64 x, .int .i64 v.1, .int .i64 v.2.1, .float .f64 v.2.2.1, .float .f64 v.2.2.2], rB ks 150 [.int .i64 i, .int .i64 j], rB w5.heap.size 103 [.int .i64 x, .int .i64 v.1, .int .i64 v.2.1, .float .f64 v.2.2.1, .float .f64 v.2.2.2]]) ++ rC (.slice (some ⟨g, 0, none⟩) (rowC T j).length (rowC T j).length) (rowC T j) :: (rB bb 90 [Vg, Vf, .slice (some ⟨tb, t0, none⟩) W.tabs.length cp, Vr, .map (some b)] :: rW ⟨Vg, Vf, .slice (some ⟨tb, t0, none⟩) W.tabs.length cp, Vr, ts⟩ W))) := by
  show Rm _ _ _ _ _ _ _
  have h := (carr_Rm X B b n f).ins (P ++ [rB ke 48 [.int .i64 e.1, .int .i64 e.2], rB kx 103 [.int .i64 x, .int .i64 v.1, .int .i64 v.2.1, .float .f64 v.2.2.1, .float .f64 v.2.2.2], rB ks 150 [.int .i64 i, .int .i64 j]]) _ HRZ.out (bl_alloc (Below.refl _ _) (.cells #[.int .i64 x, .int .i64 v.1, .int .i64 v.2.1, .float .f64 v.2.2.1, .float .f64 v.2.2.2] 103)) (blk_rB (cs := [.int .i64 x, .int .i64 v.1, .int .i64 v.2.1, .float .f64 v.2.2.1, .float .f64 v.2.2.2]) (Blk.new _ _ _) (Nat.le_refl _))
  simpa only [List.append_assoc, List.cons_append, List.nil_append] using h
 refine hK.out _ _ ?_ (fun hHeld => ?_)
 ·
  exact HSS.out _ _ HR6.out (by intro r hr; simp only [List.mem_cons, List.not_mem_nil, or_false] at hr; rcases hr with rfl | rfl | rfl <;> simp)
 clear hK K; try simp only [zs]
 generalize hZ : w5.alloc (.cells #[.int .i64 x, .int .i64 v.1, .int .i64 v.2.1, .float .f64 v.2.2.1, .float .f64 v.2.2.2] 103) = w6 at HR6 ⊢
 generalize hvb : w5.heap.size = vb at HR6 ⊢
 clear hZ hvb hO5 hb5 HRZ
 all_goals
  refine wpy 9 fun K hK => ?_
  go_simp; have hBv := (show Blk w6 vb #[.int .i64 x, .int .i64 v.1, .int .i64 v.2.1, .float .f64 v.2.2.1, .float .f64 v.2.2.2] 103 from rB_blk (HR6.out.rs.o.on (rB vb 103 [.int .i64 x, .int .i64 v.1, .int .i64 v.2.1, .float .f64 v.2.2.1, .float .f64 v.2.2.2]) (by simp)))
  refine (HIN.out g vb w6 (HR6.out.rs.o.on (rC (.slice (some ⟨g, 0, none⟩) (rowC T j).length (rowC T j).length) (rowC T j)) (by simp)) HR6.out.rs.s hBv).mono ?_
  rintro r w7 ⟨s', c', hr7, hO7, hg7, hn7⟩
  subst hr7
  have HR7 := Hid.mk' ((carr_Rm X B b n f).turn (P ++ [rB ke 48 [.int .i64 e.1, .int .i64 e.2], rB kx 103 [.int .i64 x, .int .i64 v.1, .int .i64 v.2.1, .float .f64 v.2.2.1, .float .f64 v.2.2.2], rB ks 150 [.int .i64 i, .int .i64 j], rB vb 103 [.int .i64 x, .int .i64 v.1, .int .i64 v.2.1, .float .f64 v.2.2.1, .float .f64 v.2.2.2]]) _ (r := rC (.slice (some ⟨g, 0, none⟩) (rowC T j).length (rowC T j).length) (rowC T j)) (r' := rC (.slice s' ((rowC T j).insertIdx k (x, v)).length c') ((rowC T j).insertIdx k (x, v))) HR6.out hg7 hO7 (fun q hq => (hn7 q hq).elim (fun h => Or.inl (by rw [h]; rfl)) Or.inr))
  refine hK.out _ _ ?_ (fun hHeld => ?_)
  ·
   exact HSS.out _ _ HR7.out (by intro r hr; simp only [List.mem_cons, List.not_mem_nil, or_false] at hr; rcases hr with rfl | rfl | rfl <;> simp)
  clear hK K; try simp only [zs]
  clear hO7 hg7 hn7 hBv HR6; refine wpy 10 fun K hK => ?_
  go_simp; refine (move_any (P ++ [rB ke 48 [.int .i64 e.1, .int .i64 e.2], rB kx 103 [.int .i64 x, .int .i64 v.1, .int .i64 v.2.1, .float .f64 v.2.2.1, .float .f64 v.2.2.2], rB ks 150 [.int .i64 i, .int .i64 j], rB vb 103 [.int .i64 x, .int .i64 v.1, .int .i64 v.2.1, .float .f64 v.2.2.1, .float .f64 v.2.2.2], rC (.slice s' ((rowC T j).insertIdx k (x, v)).length c') ((rowC T j).insertIdx k (x, v))]) bb Vg Vf Vr (some ⟨tb, t0, none⟩) cp ts W e i j T s' c' ((rowC T j).insertIdx k (x, v)) w7 (by simpa only [List.append_assoc, List.cons_append, List.nil_append] using HR7.out) HF.out HK.out (by simp) HOK.out lL HCC.out HRL.out HLL.out h40 be (by omega) HT.out hjl HLT.out HBT.out HNE.out).mono ?_
  intro r w8 hmv
  have hmz : ∃ z : Int, r = .returned (.int .i64 z) ∧ MvR X B b n f P bb Vg Vf Vr (some ⟨tb, t0, none⟩) cp ts W e i j T ((rowC T j).insertIdx k (x, v)) (.returned (.int .i64 z)) w8 := by
   have h := MvR.less5 (show MvR X B b n f (P ++ [rB ke 48 [.int .i64 e.1, .int .i64 e.2], rB kx 103 [.int .i64 x, .int .i64 v.1, .int .i64 v.2.1, .float .f64 v.2.2.1, .float .f64 v.2.2.2], rB ks 150 [.int .i64 i, .int .i64 j], rB vb 103 [.int .i64 x, .int .i64 v.1, .int .i64 v.2.1, .float .f64 v.2.2.1, .float .f64 v.2.2.2], rC (.slice s' ((rowC T j).insertIdx k (x, v)).length c') ((rowC T j).insertIdx k (x, v))]) bb Vg Vf Vr (some ⟨tb, t0, none⟩) cp ts W e i j T ((rowC T j).insertIdx k (x, v)) r w8 from hmv)
   rcases hmv with ⟨he, _⟩ | ⟨_, _, _, _, _, _, _, he, _⟩
   ·
    exact ⟨3, he, by rw [← he]; exact h⟩
   exact ⟨0, he, by rw [← he]; exact h⟩
  have hbx : w8.cell? ⟨ks, 0, none⟩ = some (.int .i64 i) ∧ w8.cell? ⟨ks, 1, none⟩ = some (.int .i64 j) ∧ w8.cell? ⟨ke, 0, none⟩ = some (.int .i64 e.1) ∧ w8.cell? ⟨ke, 1, none⟩ = some (.int .i64 e.2) ∧ w8.cell? ⟨kx, 0, none⟩ = some (.int .i64 x) ∧ w8.cell? ⟨kx, 1, none⟩ = some (.int .i64 v.1) ∧ w8.cell? ⟨kx, 2, none⟩ = some (.int .i64 v.2.1) ∧ w8.cell? ⟨kx, 3, none⟩ = some (.float .f64 v.2.2.1) ∧ w8.cell? ⟨kx, 4, none⟩ = some (.float .f64 v.2.2.2) := by
   rcases hmv with ⟨_, _, _, hq⟩ | ⟨_, _, _, _, _, _, _, _, _, _, hq, _⟩
   ·
    exact HSB.out _ (fun r hr => hq.rs.o.on r (List.mem_append_left _ (List.mem_append_right _ ((show ∀ r ∈ [rB ks 150 [.int .i64 i, .int .i64 j], rB ke 48 [.int .i64 e.1, .int .i64 e.2], rB kx 103 [.int .i64 x, .int .i64 v.1, .int .i64 v.2.1, .float .f64 v.2.2.1, .float .f64 v.2.2.2]], r ∈ [rB ke 48 [.int .i64 e.1, .int .i64 e.2], rB kx 103 [.int .i64 x, .int .i64 v.1, .int .i64 v.2.1, .float .f64 v.2.2.1, .float .f64 v.2.2.2], rB ks 150 [.int .i64 i, .int .i64 j], rB vb 103 [.int .i64 x, .int .i64 v.1, .int .i64 v.2.1, .float .f64 v.2.2.1, .float .f64 v.2.2.2], rC (.slice s' ((rowC T j).insertIdx k (x, v)).length c') ((rowC T j).insertIdx k (x, v))] from (by intro r hr; simp only [List.mem_cons, List.not_mem_nil, or_false] at hr; rcases hr with rfl | rfl | rfl <;> simp)) r hr))))
   exact HSB.out _ (fun r hr => hq.rs.o.on r (List.mem_append_left _ (List.mem_append_right _ ((show ∀ r ∈ [rB ks 150 [.int .i64 i, .int .i64 j], rB ke 48 [.int .i64 e.1, .int .i64 e.2], rB kx 103 [.int .i64 x, .int .i64 v.1, .int .i64 v.2.1, .float .f64 v.2.2.1, .float .f64 v.2.2.2]], r ∈ [rB ke 48 [.int .i64 e.1, .int .i64 e.2], rB kx 103 [.int .i64 x, .int .i64 v.1, .int .i64 v.2.1, .float .f64 v.2.2.1, .float .f64 v.2.2.2], rB ks 150 [.int .i64 i, .int .i64 j], rB vb 103 [.int .i64 x, .int .i64 v.1, .int .i64 v.2.1, .float .f64 v.2.2.1, .float .f64 v.2.2.2], rC (.slice s' ((rowC T j).insertIdx k (x, v)).length c') ((rowC T j).insertIdx k (x, v))] from (by intro r hr; simp only [List.mem_cons, List.not_mem_nil, or_false] at hr; rcases hr with rfl | rfl | rfl <;> simp)) r hr))))
  clear hmv; obtain ⟨z, hr8, hm8⟩ := hmz
  have HMV := Hid.mk' hm8
  clear hm8; subst hr8
  refine hK.out _ _ ?_ (fun hHeld => ?_)
  ·
   exact hbx
  clear hK K; try simp only [zs]
  refine wpr 11 6 ?_; simp only [zs]; refine wpAnyH_done (by kernel_rfl) ?_ _
  go_wp2_with fail; go_ret; exact Or.inr ⟨i, j, T, HT.out, HTj.out, Or.inr ⟨HNX.out, k, HFD.out, HMV.out⟩⟩
end Go.Proofs.YtkihhadcoclnaaaGreat
