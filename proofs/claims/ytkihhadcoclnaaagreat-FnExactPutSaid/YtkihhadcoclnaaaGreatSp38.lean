import Derived.Test.YtkihhadcoclnaaaGreatSp37
import Derived.ArgAppend
import Derived.Lib.SliceRun
namespace Go.Proofs.YtkihhadcoclnaaaGreat
set_option linter.unusedVariables false
set_option linter.unusedSimpArgs false
section
open Go.RowKit Go.Maps Go.WideMaps
set_option maxRecDepth 100000
theorem Rm.less2 {X W : World} {B b n : Nat} {f : E2 → Option E2} (P S : List OR) {r q : OR} (h : Rm X B b n f W ((P ++ [r, q]) ++ S)) : Rm X B b n f W (P ++ S) := by
 have h1 := Rm.less (P ++ [r]) S (r := q) (by simpa only [List.append_assoc, List.cons_append, List.nil_append] using h)
 exact Rm.less P S (r := r) (by simpa only [List.append_assoc, List.cons_append, List.nil_append] using h1)
theorem GoA.tabs {W W1 : Wd} {T1 : Tab} {L : List C5} {i : Nat} (h : GoA W W1 T1 L i) : W1.gens = W.gens ∧ W1.free = W.free ∧ W1.res = W.res ∧ W.tabs.length ≤ W1.tabs.length ∧ W1.tabs.length ≤ W.tabs.length + 1 ∧ (∀ t ∈ W1.tabs, t ∈ W.tabs ∨ t = newT L) ∧ ∀ (j : Nat) (t : Tab), W.tabs[j]? = some t → W1.tabs[j]? = some t := by
 obtain ⟨h1, h2, rfl | ⟨rfl, h3, h4, h5, h6⟩⟩ := h
 ·
  exact ⟨rfl, rfl, rfl, Nat.le_refl _, Nat.le_succ _, fun t ht => Or.inl ht, fun j t ht => ht⟩
 refine ⟨rfl, rfl, rfl, ?_, ?_, fun t ht => ?_, fun j t ht => ?_⟩
 ·
  show _ ≤ (W.tabs ++ [newT L]).length
  simp
 ·
  show (W.tabs ++ [newT L]).length ≤ _
  simp
 ·
  rcases List.mem_append.1 (show t ∈ W.tabs ++ [newT L] from ht) with h | h
  ·
   exact Or.inl h
  exact Or.inr (by simpa using h)
 show (W.tabs ++ [newT L])[j]? = some t
 rw [List.getElem?_append_left (List.getElem?_eq_some_iff.1 ht).1]
 exact ht
theorem GoA.size {W W1 : Wd} {T1 : Tab} {L : List C5} {i : Nat} {e : E2} (h : GoA W W1 T1 L i) (hk : kW W) (lL : L.length ≤ 1000) (hrl : ∀ T ∈ W.tabs, T.rows.length ≤ 100000) (hll : ∀ T ∈ W.tabs, ∀ M ∈ T.cells, M.length ≤ 100000) (h40 : W.tabs.length ≤ 40) : kW (setW W1 i (addT T1 e L)) := by
 obtain ⟨a1, a2, a3, a4, a5, a6, a7⟩ := h.tabs
 have hm := List.mem_of_getElem? h.1
 have hnew : kTab (newT L) := by
  refine ⟨?_, ?_, ?_, ?_⟩
  ·
   show (L.map (·.1)).length ≤ _
   rw [List.length_map]; omega
  ·
   show ([] : List E2).length ≤ _
   simp
  ·
   show (List.replicate L.length ([] : List V4)).length ≤ _
   rw [List.length_replicate]; omega
  intro M hM
  have hM : M ∈ List.replicate L.length ([] : List V4) := hM
  obtain rfl := (List.mem_replicate.1 hM).2
  simp
 have hrT : T1.rows.length ≤ 100000 := by
  rcases a6 T1 hm with h | rfl
  ·
   exact hrl T1 h
  simp [newT]
 have hMT : ∀ M ∈ T1.cells, M.length ≤ 100000 := by
  rcases a6 T1 hm with h | rfl
  ·
   exact hll T1 h
  intro M hM
  have hM : M ∈ List.replicate L.length ([] : List V4) := hM
  obtain rfl := (List.mem_replicate.1 hM).2
  simp
 refine ⟨?_, ?_, ⟨?_, fun t ht => ?_⟩, ?_⟩
 ·
  show W1.gens.length ≤ _
  rw [a1]; exact hk.1
 ·
  show W1.free.length ≤ _
  rw [a2]; exact hk.2.1
 ·
  show (W1.tabs.set i _).length ≤ _
  rw [List.length_set]; omega
 ·
  rcases List.mem_or_eq_of_mem_set (show t ∈ W1.tabs.set i (addT T1 e L) from ht) with h1 | rfl
  ·
   rcases a6 t h1 with h2 | rfl
   ·
    exact hk.2.2.1.2 t h2
   exact hnew
  refine ⟨?_, ?_, ?_, ?_⟩
  ·
   show T1.cols.length ≤ _
   rw [h.2.1, List.length_map]; omega
  ·
   show (T1.rows ++ [e]).length ≤ _
   simp; omega
  ·
   show (List.zipWith (fun M c => M ++ [c.2]) T1.cells L).length ≤ _
   rw [List.length_zipWith]; omega
  intro M hM
  have hM : M ∈ List.zipWith (fun M c => M ++ [c.2]) T1.cells L := hM
  obtain ⟨k, hk'⟩ := List.mem_iff_getElem?.1 hM
  rw [List.getElem?_zipWith] at hk'
  cases h2 : T1.cells[k]? with
  | none => rw [h2] at hk'; simp at hk'
  | some M0 =>
   cases h3 : L[k]? with
   | none => rw [h2, h3] at hk'; simp at hk'
   | some c =>
    rw [h2, h3] at hk'
    simp at hk'
    subst hk'
    have := hMT M0 (List.mem_of_getElem? h2)
    simp; omega
 show W1.res.length ≤ _
 rw [a3]; exact hk.2.2.2
theorem GoA.other {W W1 : Wd} {T1 T : Tab} {L : List C5} {i fi : Nat} {e : E2} (h : GoA W W1 T1 L i) (hT : W.tabs[fi]? = some T) (hne : ¬ T.cols = L.map (·.1)) : (setW W1 i (addT T1 e L)).tabs[fi]? = some T := by
 have h1 := h.tabs.2.2.2.2.2.2 fi T hT
 have h2 : i ≠ fi := by
  rintro rfl
  rw [h.1] at h1
  cases h1
  exact hne h.2.1
 show (W1.tabs.set i _)[fi]? = _
 rw [List.getElem?_set_ne h2]
 exact h1
set_option maxHeartbeats 8000000 in
theorem move_any {X : World} {B b n : Nat} {f : E2 → Option E2} (P : List OR) (bb : Nat) (Vg Vf Vr : Value) (g3 : Option Addr) (cp : Nat) (ts : List TV) (W : Wd) (e : E2) (fi fj : Nat) (T : Tab) (sc : Option Addr) (cc : Nat) (L : List C5) (w : World) (hR : Rm X B b n f w (P ++ rB bb 90 [Vg, Vf, .slice g3 W.tabs.length cp, Vr, .map (some b)] :: rW ⟨Vg, Vf, .slice g3 W.tabs.length cp, Vr, ts⟩ W)) (hF : OWf ⟨Vg, Vf, .slice g3 W.tabs.length cp, Vr, ts⟩ W) (hk : kW W) (hC : rC (.slice sc L.length cc) L ∈ P) (okL : okCs L) (lL : L.length ≤ 1000) (hcl : ∀ T ∈ W.tabs, T.cells.length = T.cols.length) (hrl : ∀ T ∈ W.tabs, T.rows.length ≤ 100000) (hll : ∀ T ∈ W.tabs, ∀ M ∈ T.cells, M.length ≤ 100000) (h40 : W.tabs.length ≤ 40) (be : bE e) (hn : n ≤ 1500000000000)
  (hT : W.tabs[fi]? = some T) (hj : fj < T.rows.length) (hl : ∀ M ∈ T.cells, M.length = T.rows.length) (hb : ∀ x ∈ T.rows, bE x) (hne : ¬ T.cols = L.map (·.1)) :
  Calls Tryz.prog 86 #[.pointer (some ⟨bb, 0, none⟩), .agg #[.int .i64 e.1, .int .i64 e.2], .agg #[.int .i64 fi, .int .i64 fj], .slice sc L.length cc] w fun r w' =>
   (r = .returned (.int .i64 3) ∧ (∀ t ∈ W.tabs, ¬ t.cols = L.map (·.1)) ∧ W.tabs.length = 40 ∧ Rm X B b n f w' (P ++ rB bb 90 [Vg, Vf, .slice g3 W.tabs.length cp, Vr, .map (some b)] :: rW ⟨Vg, Vf, .slice g3 W.tabs.length cp, Vr, ts⟩ W)) ∨
   (∃ (i : Nat) (T1 : Tab) (W1 : Wd) (st : Option Addr) (cp1 : Nat) (ts1 : List TV) (n' : Nat), r = .returned (.int .i64 0) ∧ GoA W W1 T1 L i ∧ OWf ⟨Vg, Vf, .slice st W1.tabs.length cp1, Vr, ts1⟩ (setW (setW W1 i (addT T1 e L)) fi (gone T fj)) ∧ Rm X B b n' (goneF T fi fj (fun x => if x = e then some ((i : Int), (T1.rows.length : Int)) else f x)) w' (P ++ rB bb 90 [Vg, Vf, .slice st W1.tabs.length cp1, Vr, .map (some b)] :: rW ⟨Vg, Vf, .slice st W1.tabs.length cp1, Vr, ts1⟩ (setW (setW W1 i (addT T1 e L)) fi (gone T fj))) ∧ n' ≤ n + 2) := by
 have hal := alloc_old
 have haf := alloc_oldf
 have hR0 : Rm X B b n f ((w.alloc (.cells #[.int .i64 e.1, .int .i64 e.2] 48)).alloc (.cells #[.int .i64 fi, .int .i64 fj] 150)) ((P ++ [rB w.heap.size 48 [.int .i64 e.1, .int .i64 e.2]]) ++ rB (w.alloc (.cells #[.int .i64 e.1, .int .i64 e.2] 48)).heap.size 150 [.int .i64 fi, .int .i64 fj] :: (rB bb 90 [Vg, Vf, .slice g3 W.tabs.length cp, Vr, .map (some b)] :: rW ⟨Vg, Vf, .slice g3 W.tabs.length cp, Vr, ts⟩ W)) := by
  have h1 := Rm.ins P _ hR (bl_alloc (Below.refl _ _) (.cells #[.int .i64 e.1, .int .i64 e.2] 48)) (blk_rB (Blk.new w #[.int .i64 e.1, .int .i64 e.2] 48) (Nat.le_refl _))
  exact Rm.ins (P ++ [rB w.heap.size 48 [.int .i64 e.1, .int .i64 e.2]]) _ (by simpa only [List.append_assoc, List.cons_append, List.nil_append] using h1) (bl_alloc (Below.refl _ _) _) (blk_rB (Blk.new _ #[.int .i64 fi, .int .i64 fj] 150) (Nat.le_refl _))
 rw [show (w.alloc (.cells #[.int .i64 e.1, .int .i64 e.2] 48)).heap.size = w.heap.size + 1 from Array.size_push _] at hR0
 go_enter Tryz.func86, Tryz.ntmps86
 go_wp2_with fail; generalize hX0 : (w.alloc (.cells #[.int .i64 e.1, .int .i64 e.2] 48)).alloc (.cells #[.int .i64 fi, .int .i64 fj] 150) = X0 at hR0 ⊢
 generalize hke : w.heap.size = ke at hR0 ⊢
 generalize hkf : ke + 1 = kf at hR0 ⊢
 clear hX0 hke hkf hR; have HR0 : Hid (Rm X B b n f X0 ((P ++ [rB ke 48 [.int .i64 e.1, .int .i64 e.2], rB kf 150 [.int .i64 fi, .int .i64 fj]]) ++ rB bb 90 [Vg, Vf, .slice g3 W.tabs.length cp, Vr, .map (some b)] :: rW ⟨Vg, Vf, .slice g3 W.tabs.length cp, Vr, ts⟩ W)) := by
  show Rm _ _ _ _ _ _ _
  simpa only [List.append_assoc, List.cons_append, List.nil_append] using hR0
 have HF := Hid.mk' hF
 have HC := Hid.mk' hC
 have HCL := Hid.mk' hcl
 have HRL := Hid.mk' hrl
 have HLL := Hid.mk' hll
 have HL := Hid.mk' hl
 have HB := Hid.mk' hb
 have HK := Hid.mk' hk
 have HT := Hid.mk' hT
 have HNE := Hid.mk' hne
 have HOK := Hid.mk' okL
 clear hR0 hF hC hcl hrl hll hl hb hk hT hne okL; refine (goTo_any (P ++ [rB ke 48 [.int .i64 e.1, .int .i64 e.2], rB kf 150 [.int .i64 fi, .int .i64 fj]]) bb Vg Vf Vr g3 cp ts W e sc cc L X0 HR0.out HF.out HK.out (List.mem_append_left _ HC.out) HOK.out lL HCL.out HRL.out HLL.out h40 be (by omega)).mono ?_
 rintro r w1 (⟨rfl, hno, h40', hR1⟩ | ⟨i, T1, W1, st, cp1, ts1, rfl, hGA, hF1, hR1⟩)
 ·
  have HR1 := Hid.mk' hR1
  have HNO := Hid.mk' hno
  clear hR1 hno HR0; go_wp2_with fail; go_ret; refine Or.inl ⟨rfl, HNO.out, h40', Rm.less2 P _ HR1.out⟩
 have hlen2 : (setW W1 i (addT T1 e L)).tabs.length = W1.tabs.length := List.length_set
 obtain ⟨f0, f1, f2⟩ := (show Blk w1 kf #[.int .i64 fi, .int .i64 fj] 150 from rB_blk (hR1.rs.o.on (rB kf 150 [.int .i64 fi, .int .i64 fj]) (by simp))).two
 obtain ⟨tb, rfl⟩ : ∃ tb, st = some ⟨tb, 0, none⟩ := by
  have h := hR1.rs.o.on (rT (.slice st W1.tabs.length cp1) ts1) (by simp [rW])
  have hl : ts1.length = _ := hF1.len
  rw [hlen2] at hl
  unfold OR.on rT at h
  dsimp only at h
  rw [hl] at h
  exact own_some h (by have := (List.getElem?_eq_some_iff.1 hGA.1).1; omega)
 have HLEN := Hid.mk' hlen2
 have HGA := Hid.mk' hGA
 have HR1 := Hid.mk' hR1
 have HF1 := Hid.mk' hF1
 clear hR1 hF1 hGA hlen2 HR0; have HT2 := Hid.mk' (HGA.out.other (e := e) HT.out HNE.out)
 have HK2 := Hid.mk' (HGA.out.size (e := e) HK.out lL HRL.out HLL.out h40)
 go_wp2_with fail; refine (leave_any (P ++ [rB ke 48 [.int .i64 e.1, .int .i64 e.2], rB kf 150 [.int .i64 fi, .int .i64 fj]]) bb Vg Vf Vr tb cp1 ts1 (setW W1 i (addT T1 e L)) fi fj T w1 (by rw [HLEN.out]; exact HR1.out) (by rw [HLEN.out]; exact HF1.out) HT2.out hj HK2.out HL.out HB.out (by omega)).mono ?_
 rintro r w2 ⟨rfl, ts2, n2, hR2, hF2, hn2⟩
 rw [HLEN.out] at hR2 hF2
 have HR2 := Hid.mk' hR2
 have HF2 := Hid.mk' hF2
 clear hR2 hF2 HR1 HF1 f0 f1 f2; go_wp2_with fail; go_ret; refine Or.inr ⟨i, T1, W1, some ⟨tb, 0, none⟩, cp1, ts2, n2, rfl, HGA.out, HF2.out, Rm.less2 P _ HR2.out, by omega⟩
end
section
open Go.RowKit Go.Maps Go.WideMaps
set_option maxRecDepth 100000
theorem Tryz.infoCe : (Tryz.prog.info? 103).map (fun i => (i.zero, i.size, i.bytes)) = some (some (.agg #[.int .i64 0, .int .i64 0, .int .i64 0, .float .f64 0, .float .f64 0]), 5, 40) := by kernel_rfl
def rowC (T : Tab) (j : Nat) : List C5 := List.zipWith (fun c M => (c, (M[j]?).getD (0, 0, 0, 0))) T.cols T.cells
theorem rowC_len {T : Tab} {j : Nat} (h : T.cells.length = T.cols.length) : (rowC T j).length = T.cols.length := by
 unfold rowC
 rw [List.length_zipWith, h, Nat.min_self]
theorem rowC_get {T : Tab} {j m : Nat} {c : Int} {M : List V4} {v : V4} (hc : T.cols[m]? = some c) (hM : T.cells[m]? = some M) (hv : M[j]? = some v) : (rowC T j)[m]? = some (c, v) := by
 unfold rowC
 rw [List.getElem?_zipWith, hc, hM]
 simp [hv]
theorem rowC_comps {T : Tab} {j : Nat} (h : T.cells.length = T.cols.length) : (rowC T j).map (·.1) = T.cols := by
 unfold rowC
 apply List.ext_getElem?
 intro m
 rw [List.getElem?_map, List.getElem?_zipWith]
 by_cases hm : m < T.cols.length
 ·
  obtain ⟨c, hc⟩ := get_some hm
  obtain ⟨M, hM⟩ := get_some (L := T.cells) (k := m) (by omega)
  rw [hc, hM]
  rfl
 rw [List.getElem?_eq_none (by omega)]
 rfl
theorem okCs_rowC {T : Tab} {j : Nat} (h : ∀ M ∈ T.cells, okVs M) (hl : ∀ M ∈ T.cells, j < M.length) : okCs (rowC T j) := by
 intro c hc
 obtain ⟨m, hm⟩ := List.mem_iff_getElem?.1 hc
 unfold rowC at hm
 rw [List.getElem?_zipWith] at hm
 cases h1 : T.cols[m]? with
 | none => rw [h1] at hm; simp at hm
 | some a =>
  cases h2 : T.cells[m]? with
  | none => rw [h1, h2] at hm; simp at hm
  | some M =>
   rw [h1, h2] at hm
   have hM := List.mem_of_getElem? h2
   obtain ⟨v, hv⟩ := get_some (hl M hM)
   simp [hv] at hm
   subst hm
   exact h M hM v (List.mem_of_getElem? hv)
theorem put5c {w : World} {B g n k : Nat} {T : TypeId} {A C : List Value} {x0 x1 x2 x3 x4 u0 u1 u2 u3 u4 : Value} (hA : A.length = k * 5) (h : w.ownsRow B T 5 (.slice (some ⟨g, 0, none⟩) n n) n (A ++ ([x0, x1, x2, x3, x4] ++ C))) : (((((w.setCell ⟨g, k * 5, none⟩ u0).setCell ⟨g, k * 5 + 1, none⟩ u1).setCell ⟨g, k * 5 + 2, none⟩ u2).setCell ⟨g, k * 5 + 3, none⟩ u3).setCell ⟨g, k * 5 + 4, none⟩ u4).ownsRow B T 5 (.slice (some ⟨g, 0, none⟩) n n) n (A ++ ([u0, u1, u2, u3, u4] ++ C)) := by
 have h1 := (World.ownsRow.stored h (A.length + 0) u0).1
 rw [set_mid _ _ _ _ _ (by simp)] at h1
 have h2 := (World.ownsRow.stored h1 (A.length + 1) u1).1
 rw [set_mid _ _ _ _ _ (by simp)] at h2
 have h3 := (World.ownsRow.stored h2 (A.length + 2) u2).1
 rw [set_mid _ _ _ _ _ (by simp)] at h3
 have h4 := (World.ownsRow.stored h3 (A.length + 3) u3).1
 rw [set_mid _ _ _ _ _ (by simp)] at h4
 have h5 := (World.ownsRow.stored h4 (A.length + 4) u4).1
 rw [set_mid _ _ _ _ _ (by simp), hA] at h5
 exact h5
theorem Mk.own5 {z : List Value} {T : TypeId} {w : World} {B g : Nat} {L : List C5} (h : Mk 5 cCell z T w B g L L.length) : w.ownsRow B T 5 (.slice (some ⟨g, 0, none⟩) L.length L.length) L.length (L.flatMap ccells) := by
 obtain ⟨h1, h2, U, h3, h4, h5, h6⟩ := h
 rw [Nat.sub_self, List.replicate_zero, List.append_nil] at h6
 have e : U = L.map ccells := by
  apply List.ext_getElem?
  intro m
  rw [List.getElem?_map]
  by_cases hm : m < L.length
  ·
   obtain ⟨a, ha⟩ := get_some hm
   obtain ⟨c, hc⟩ := get_some (L := U) (k := m) (by omega)
   rw [ha, hc, (h5 m c a hc ha).1]
   rfl
  rw [List.getElem?_eq_none (by omega), List.getElem?_eq_none (by omega)]
  rfl
 rw [e] at h6
 exact h6
set_option maxHeartbeats 8000000 in
theorem cellsOf_any (bb : Nat) (g3 : Option Addr) (cp : Nat) (W : Wd) (fi fj : Nat) (T : Tab) (B : Nat) (w : World) (hb2 : w.cell? ⟨bb, 2, none⟩ = some (.slice g3 W.tabs.length cp)) (hW : Els 3 cTab w B g3 W.tabs) (hT : W.tabs[fi]? = some T) (hc : T.cells.length = T.cols.length) (hl : ∀ M ∈ T.cells, M.length = T.rows.length) (hj : fj < T.rows.length) (hk : kTab T) (hkw : W.tabs.length ≤ 1048576) (L : List C5) (hL : L = rowC T fj) :
  Calls Tryz.prog 88 #[.pointer (some ⟨bb, 0, none⟩), .agg #[.int .i64 fi, .int .i64 fj]] w fun r w' => ∃ g : Nat, r = .returned (.slice (some ⟨g, 0, none⟩) L.length L.length) ∧ (rC (.slice (some ⟨g, 0, none⟩) L.length L.length) L).on w' w.heap.size ∧ Below w.heap.size w w' := by
 have hal := alloc_old
 have haf := alloc_oldf
 have hLl : L.length = T.cols.length := by rw [hL]; exact rowC_len hc
 have hlc : L.length ≤ 1048576 := by rw [hLl]; exact hk.1
 have hlr : T.rows.length ≤ 1048576 := hk.2.1
 have HL := Hid.mk' hL
 have HLS := Hid.mk' hl
 have hbz := bl_alloc (Below.refl w.heap.size w) (.cells #[.int .i64 fi, .int .i64 fj] 150)
 have hW0 := hW.later cTab_keeps hbz
 have b2 := kcell hbz hb2
 have HK0 := Hid.mk' (Blk.new w #[.int .i64 fi, .int .i64 fj] 150)
 obtain ⟨f0, f1, f2⟩ := HK0.out.two
 have i0 : (0 : Int) ≤ (fi : Int) := by omega
 have i1 : (fi : Int) < (W.tabs.length : Int) := by have := (List.getElem?_eq_some_iff.1 hT).1; omega
 go_enter Tryz.func88, Tryz.ntmps88
 go_wp2_with fail; generalize hX0 : w.alloc (.cells #[.int .i64 fi, .int .i64 fj] 150) = X0 at hbz hW0 b2 f0 f1 f2 HK0 ⊢
 obtain ⟨tb, t0, rfl, hBt, hp, s1, d1, s2, d2, s3, d3, e1, e2, e3, E1, E2, E3⟩ := eTab_cells hW0 hT
 rw [← hLl] at e1
 rw [hc, ← hLl] at e3
 have HE1 := Hid.mk' E1
 have HE3 := Hid.mk' E3
 have HBZ := Hid.mk' hbz
 have HX := Hid.mk' hX0
 have HC := Hid.mk' hc
 have HLL := Hid.mk' hLl
 clear hX0 hbz hW0 hW hb2 hT hL hl hk hc E1 E2 E3 hLl; go_region
 all_goals
  have bY := bl_drew (bl_alloc (Below.refl _ X0) (.cells #[.slice s1 L.length d1, .slice s2 T.rows.length d2, .slice s3 L.length d3] 134))
  have HKT : Hid (Blk (X0.alloc (.cells #[.slice s1 L.length d1, .slice s2 T.rows.length d2, .slice s3 L.length d3] 134)).drew X0.heap.size #[.slice s1 L.length d1, .slice s2 T.rows.length d2, .slice s3 L.length d3] 134) := (Blk.new X0 #[.slice s1 L.length d1, .slice s2 T.rows.length d2, .slice s3 L.length d3] 134).later (bl_drew (Below.refl _ _))
  have HK1 := Hid.mk' (HK0.out.later bY)
  have HBY := Hid.mk' (bl_trans HBZ.out bY)
  have HEY := Hid.mk' (HE1.out.later cInt_keeps bY)
  have HVY := Hid.mk' (HE3.out.later cVals_keeps bY)
  generalize hY : (X0.alloc (.cells #[.slice s1 L.length d1, .slice s2 T.rows.length d2, .slice s3 L.length d3] 134)).drew = Y at HKT HK1 HBY HEY HVY ⊢
  generalize hkx : X0.heap.size = kx at HKT ⊢
  obtain ⟨t1, t2, t3, t4⟩ := HKT.out.three'
  have HSY : Hid (w.heap.size ≤ Y.heap.size) := HBY.out.size
  obtain ⟨i9, hi, hz0, hz1, hz2⟩ := info_parts Tryz.infoCe
  clear hY hkx bY HE1 HE3 HBZ HX HK0 e1 e2 e3 b2 f0 f1 f2; go_wp2_with (at_make; refine wpList_make_full _ rfl _ _ 66 rfl w.heap.size 103 i9 (.agg #[.int .i64 0, .int .i64 0, .int .i64 0, .float .f64 0, .float .f64 0]) 5 Tryz.underlying66 hi hz0 hz1 .i64 .i64 _ _ L.length rfl rfl rfl rfl (by rw [hz2]; omega) (by unfold maxLen; omega) HSY.out ?_)
  intro w1 hown hgrow
  have hrow : Hid (Mk 5 cCell [.int .i64 0, .int .i64 0, .int .i64 0, .float .f64 0, .float .f64 0] 103 w1 w.heap.size Y.heap.size L 0) := Mk.start (z := #[.int .i64 0, .int .i64 0, .int .i64 0, .float .f64 0, .float .f64 0]) rfl hown
  have hbel : Hid (Below Y.heap.size Y w1) := (Below.refl _ Y).grown hgrow (Nat.le_refl _) (fun k h => by cases h)
  obtain ⟨t1, t2, t3, t4⟩ := (HKT.out.later hbel.out).three'
  clear hown hgrow hi hz0 hz1 hz2; go_wp2_with fail; go_loopw [25] (fun i wr => ∃ m : Nat, m ≤ L.length ∧ i = .int .i64 m ∧ Hid (Mk 5 cCell [.int .i64 0, .int .i64 0, .int .i64 0, .float .f64 0, .float .f64 0] 103 wr w.heap.size Y.heap.size L m) ∧ Hid (Below Y.heap.size Y wr)) (fun i _ => L.length - (intOf i).toNat)
  case atStart => exact ⟨0, Nat.zero_le _, rfl, hrow, hbel⟩
  clear hrow hbel t1 t2 t3 t4; obtain ⟨m, hm, rfl, hrow, hbel⟩ := hrel
  by_cases hlt : m < L.length
  ·
   obtain ⟨c, hcm⟩ := get_some (L := T.cols) (k := m) (by rw [← HLL.out]; exact hlt)
   obtain ⟨M, hMm⟩ := get_some (L := T.cells) (k := m) (by rw [HC.out, ← HLL.out]; exact hlt)
   have hfj : fj < M.length := by rw [HLS.out M (List.mem_of_getElem? hMm)]; exact hj
   obtain ⟨v, hvm⟩ := get_some hfj
   obtain ⟨cb, co, rfl, _, _, x0⟩ := eInt_cells (HEY.out.later cInt_keeps hbel.out) hcm
   obtain ⟨qb, qo, rfl, _, _, sv, cv, x1, EV⟩ := eVals_cells (HVY.out.later cVals_keeps hbel.out) hMm
   obtain ⟨vb, vo, rfl, _, _, okv, v0, v1, v2, v3⟩ := eVal_cells EV hvm
   have HLG : Hid (L[m]? = some (c, v)) := by show _ = _; rw [HL.out]; exact rowC_get hcm hMm hvm
   have HO := Hid.mk' okv
   have m0 : (0 : Int) ≤ (m : Int) := by omega
   have m1 : (m : Int) < (L.length : Int) := by omega
   have j0 : (0 : Int) ≤ (fj : Int) := by omega
   have j1 : (fj : Int) < (M.length : Int) := by omega
   obtain ⟨t1, t2, t3, t4⟩ := (HKT.out.later hbel.out).three'
   obtain ⟨f0, f1, f2⟩ := (HK1.out.later hbel.out).two
   obtain ⟨_, hg, fz, cz⟩ := hrow.out.at hlt
   have g0 := cz 0 _ rfl
   have g1 := cz 1 _ rfl
   have g2 := cz 2 _ rfl
   have g3 := cz 3 _ rfl
   have g4 := cz 4 _ rfl
   rw [Nat.add_zero] at g0
   have hputH : Hid (Mk 5 cCell [.int .i64 0, .int .i64 0, .int .i64 0, .float .f64 0, .float .f64 0] 103 (((((wr.setCell ⟨Y.heap.size, m * 5, none⟩ (.int .i64 c)).setCell ⟨Y.heap.size, m * 5 + 1, none⟩ (.int .i64 v.1)).setCell ⟨Y.heap.size, m * 5 + 2, none⟩ (.int .i64 v.2.1)).setCell ⟨Y.heap.size, m * 5 + 3, none⟩ (.float .f64 v.2.2.1)).setCell ⟨Y.heap.size, m * 5 + 4, none⟩ (.float .f64 v.2.2.2)).drew w.heap.size Y.heap.size L (m + 1)) :=
    Mk.later cCell_keeps (hrow.out.push cCell_keeps HLG.out (c := ccells (c, v)) rfl ⟨rfl, HO.out⟩ (by repeat (first | with_reducible exact Kept.refl _ _ | with_reducible refine Kept.trans ?_ (Kept.set _ (by simp) _))) (fun A C hA h => put5c hA h)) (bl_drew (Below.refl _ _))
   have L2 : Hid (Below Y.heap.size Y (((((wr.setCell ⟨Y.heap.size, m * 5, none⟩ (.int .i64 c)).setCell ⟨Y.heap.size, m * 5 + 1, none⟩ (.int .i64 v.1)).setCell ⟨Y.heap.size, m * 5 + 2, none⟩ (.int .i64 v.2.1)).setCell ⟨Y.heap.size, m * 5 + 3, none⟩ (.float .f64 v.2.2.1)).setCell ⟨Y.heap.size, m * 5 + 4, none⟩ (.float .f64 v.2.2.2)).drew) := bl_drew (((((hbel.out.setCell (Nat.le_refl _) _).setCell (Nat.le_refl _) _).setCell (Nat.le_refl _) _).setCell (Nat.le_refl _) _).setCell (Nat.le_refl _) _)
   clear hrow hcm hMm hvm EV okv cz hbel; go_upto_region 6 with fail
   go_region
   all_goals
    go_wp2_with fail; go_roundw
    case rel => exact ⟨m + 1, by omega, by go_num, hputH, L2⟩
    case measure => simp [intOf]; omega
  have hm' : m = L.length := by omega
  subst hm'
  go_wp2_with fail; go_ret; exact ⟨_, rfl, hrow.out.own5, bl_trans HBY.out hbel.out⟩
end
section
open Go.RowKit Go.Maps Go.WideMaps
set_option maxRecDepth 100000
section
variable {ops : Array Oper} {o : Oper} {a : Act} {w : World} {K : Act → World → Prop} {Qx : Exit → Act → World → Prop} {E : Prop}
end
theorem fm_take (L : List C5) : ∀ i : Nat, (L.take i).flatMap ccells = (L.flatMap ccells).take (i * 5) := by
 induction L with
 | nil => intro i; simp
 | cons a r ih =>
  intro i
  cases i with
  | zero => simp
  | succ k =>
   rw [List.take_succ_cons, List.flatMap_cons, List.flatMap_cons, ih k, Nat.succ_mul, List.take_append]
   have h5 : (ccells a).length = 5 := rfl
   have t1 : (ccells a).take (k * 5 + 5) = ccells a := List.take_of_length_le (by rw [h5]; omega)
   rw [t1, h5, Nat.add_sub_cancel]
theorem fm_drop (L : List C5) : ∀ i : Nat, (L.drop i).flatMap ccells = (L.flatMap ccells).drop (i * 5) := by
 induction L with
 | nil => intro i; simp
 | cons a r ih =>
  intro i
  cases i with
  | zero => simp
  | succ k =>
   rw [List.drop_succ_cons, List.flatMap_cons, ih k, Nat.succ_mul, List.drop_append]
   have h5 : (ccells a).length = 5 := rfl
   have t1 : (ccells a).drop (k * 5 + 5) = [] := List.drop_eq_nil_of_le (by rw [h5]; omega)
   rw [t1, h5, Nat.add_sub_cancel, List.nil_append]
theorem fm_len (L : List C5) : (L.flatMap ccells).length = L.length * 5 := by
 induction L with
 | nil => rfl
 | cons a r ih => rw [List.flatMap_cons, List.length_append, ih, List.length_cons, Nat.succ_mul, Nat.add_comm]; rfl
theorem ccells_one (L : List C5) : ∀ u ∈ L.flatMap ccells, u.oneCell' = true := by
 intro u hu
 obtain ⟨c, _, hc⟩ := List.mem_flatMap.1 hu
 simp only [ccells, List.mem_cons, List.not_mem_nil, or_false] at hc
 rcases hc with rfl | rfl | rfl | rfl | rfl <;> rfl
end
section
open Go.RowKit Go.Maps Go.WideMaps
set_option maxRecDepth 100000
def MvR (X : World) (B b n : Nat) (f : E2 → Option E2) (P : List OR) (bb : Nat) (Vg Vf Vr : Value) (g3 : Option Addr) (cp : Nat) (ts : List TV) (W : Wd) (e : E2) (fi fj : Nat) (T : Tab) (L : List C5) (r : Ending) (w' : World) : Prop :=
   (r = .returned (.int .i64 3) ∧ (∀ t ∈ W.tabs, ¬ t.cols = L.map (·.1)) ∧ W.tabs.length = 40 ∧ Rm X B b n f w' (P ++ rB bb 90 [Vg, Vf, .slice g3 W.tabs.length cp, Vr, .map (some b)] :: rW ⟨Vg, Vf, .slice g3 W.tabs.length cp, Vr, ts⟩ W)) ∨
   (∃ (i : Nat) (T1 : Tab) (W1 : Wd) (st : Option Addr) (cp1 : Nat) (ts1 : List TV) (n' : Nat), r = .returned (.int .i64 0) ∧ GoA W W1 T1 L i ∧ OWf ⟨Vg, Vf, .slice st W1.tabs.length cp1, Vr, ts1⟩ (setW (setW W1 i (addT T1 e L)) fi (gone T fj)) ∧ Rm X B b n' (goneF T fi fj (fun x => if x = e then some ((i : Int), (T1.rows.length : Int)) else f x)) w' (P ++ rB bb 90 [Vg, Vf, .slice st W1.tabs.length cp1, Vr, .map (some b)] :: rW ⟨Vg, Vf, .slice st W1.tabs.length cp1, Vr, ts1⟩ (setW (setW W1 i (addT T1 e L)) fi (gone T fj))) ∧ n' ≤ n + 2)
end
end Go.Proofs.YtkihhadcoclnaaaGreat
