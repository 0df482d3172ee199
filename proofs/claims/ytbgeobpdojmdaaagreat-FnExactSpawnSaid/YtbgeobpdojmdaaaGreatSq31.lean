import Derived.Test.YtbgeobpdojmdaaaGreatSq30
import Derived.Test.YtbgeobpdojmdaaaGreatSq24
import Derived.Test.YtbgeobpdojmdaaaGreatSq26
namespace Go.Proofs.YtbgeobpdojmdaaaGreat
set_option linter.unusedVariables false
set_option linter.unusedSimpArgs false
section
open Go.RowKit Go.Maps Go.WideMaps
set_option maxRecDepth 100000
theorem getD_at {α : Type} {L : List α} {j : Nat} {d : α} (h : j < L.length) : L[j]? = some (L.getD j d) := by simp [List.getD, h]
theorem risA_iff {L : List Int} {n j : Nat} (hj : j < L.length) : risA L n j = true ↔ (0 ≤ L.getD j 0 ∧ L.getD j 0 < (n : Int)) ∧ (j = 0 ∨ L.getD (j - 1) 0 < L.getD j 0) := by
 unfold risA
 rw [getD_at (d := 0) hj]
 simp only [Option.elim]
 rw [getD_at (L := L) (j := j - 1) (d := 0) (by omega)]
 simp only [Option.elim, Bool.and_eq_true, Bool.not_eq_true', decide_eq_true_eq, Bool.and_eq_false_iff, decide_eq_false_iff_not]
 omega
theorem cmpB_iff {A : List (ByteArray × Int)} {c : Int} : cmpB A c = true ↔ 0 ≤ c ∧ c < (A.length : Int) := by simp [cmpB]
theorem colB_iff {A : List (ByteArray × Int)} {t : Tab} {j : Nat} : colB A t j = true ↔ cmpB A (t.cols.getD j 0) = true ∧ (j = 0 ∨ t.cols.getD (j - 1) 0 < t.cols.getD j 0) ∧ (t.cells.getD j []).length = t.rows.length ∧ ∀ v ∈ t.cells.getD j [], vofB (dAt A (t.cols.getD j 0).toNat).2 v = true := by
 simp only [colB, Bool.and_eq_true, Bool.or_eq_true, decide_eq_true_eq, List.all_eq_true]
 constructor
 ·
  rintro ⟨⟨⟨h1, h2⟩, h3⟩, h4⟩; exact ⟨h1, h2, h3, h4⟩
 rintro ⟨h1, h2, h3, h4⟩; exact ⟨⟨⟨h1, h2⟩, h3⟩, h4⟩
theorem scolA_iff {A : List (ByteArray × Int)} {t : Tab} {j : Nat} : scolA A t j = true ↔ (t.cells.getD j []).length = t.rows.length ∧ ∀ v ∈ t.cells.getD j [], cmpB A (t.cols.getD j 0) = true ∧ vofB (dAt A (t.cols.getD j 0).toNat).2 v = true := by
 simp only [scolA, fitB, Bool.and_eq_true, decide_eq_true_eq, List.all_eq_true]
theorem rise_ge {L : List Int} (h : ∀ j, j < L.length → 0 ≤ L.getD j 0 ∧ (j = 0 ∨ L.getD (j - 1) 0 < L.getD j 0)) : ∀ j : Nat, j < L.length → (j : Int) ≤ L.getD j 0
 | 0, hj => by have := (h 0 hj).1; omega
 | j + 1, hj => by
  have h1 := rise_ge h j (by omega)
  rcases (h (j + 1) hj).2 with h2 | h2
  ·
   omega
  have e : j + 1 - 1 = j := by omega
  rw [e] at h2
  omega
theorem stab_tab {A : List (ByteArray × Int)} (t : Tab) (hA : A.length ≤ 12) : stabB A t = (tabB A t && decide (t.rows.length ≤ 2000)) := by
 rw [Bool.eq_iff_iff]
 simp only [stabB, tabB, risB, Bool.and_eq_true, decide_eq_true_eq, List.all_eq_true, List.mem_range]
 constructor
 ·
  rintro ⟨⟨⟨⟨h1, h2⟩, h3⟩, h4⟩, h5⟩
  refine ⟨⟨h3, fun j hj => ?_⟩, h4⟩
  have r := (risA_iff hj).1 (h2 j hj)
  have s := scolA_iff.1 (h5 j (by omega))
  exact colB_iff.2 ⟨cmpB_iff.2 r.1, r.2, s.1, fun v hv => (s.2 v hv).2⟩
 rintro ⟨⟨h3, h5⟩, h4⟩
 have hr : ∀ j, j < t.cols.length → 0 ≤ t.cols.getD j 0 ∧ (j = 0 ∨ t.cols.getD (j - 1) 0 < t.cols.getD j 0) := fun j hj => ⟨(cmpB_iff.1 (colB_iff.1 (h5 j hj)).1).1, (colB_iff.1 (h5 j hj)).2.1⟩
 have hl : t.cols.length ≤ 12 := by
  by_cases e : t.cols.length = 0
  ·
   omega
  have h6 := rise_ge hr (t.cols.length - 1) (by omega)
  have h7 := (cmpB_iff.1 (colB_iff.1 (h5 (t.cols.length - 1) (by omega))).1).2
  omega
 refine ⟨⟨⟨⟨hl, fun j hj => ?_⟩, h3⟩, h4⟩, fun j hj => ?_⟩
 ·
  exact (risA_iff hj).2 ⟨cmpB_iff.1 (colB_iff.1 (h5 j hj)).1, (colB_iff.1 (h5 j hj)).2.1⟩
 have c := colB_iff.1 (h5 j (by omega))
 exact scolA_iff.2 ⟨c.2.2.1, fun v hv => ⟨c.1, c.2.2.2 v hv⟩⟩
theorem rows_le {T : List Tab} {j : Nat} {t : Tab} (h : T[j]? = some t) : t.rows.length ≤ (rowsOf T).length := by
 rw [rows_pre h]
 simp
 omega
theorem spec_stand (A B C : List (ByteArray × Int)) (W : Wd) : specB A B C W = standB A B C W := by
 cases h1 : okR A B C
 ·
  simp [specB, standB, h1]
 have hA := okR_l12 h1
 cases h2 : onceB (listB W.gens W.free) W.tabs
 ·
  simp [specB, standB, h2]
 have e : (List.range W.tabs.length).all (stbA A W.tabs) = tabsB A W.tabs := by
  rw [Bool.eq_iff_iff]
  simp only [tabsB, List.all_eq_true, List.mem_range]
  have key : ∀ j, j < W.tabs.length → stbA A W.tabs j = tabA A W.tabs j := by
   intro j hj
   have ht := List.getElem?_eq_getElem hj
   rw [stbA_eq ht, tabA_eq ht, stab_tab _ hA]
   have hr := rows_le ht
   simp only [onceB, decide_eq_true_eq] at h2
   have hl := listB_len (G := W.gens) (F := W.free)
   have : decide ((W.tabs[j]).rows.length ≤ 2000) = true := by rw [decide_eq_true_eq]; omega
   rw [this, Bool.and_true]
  constructor
  ·
   intro h j hj; rw [← key j hj]; exact h j hj
  intro h j hj; rw [key j hj]; exact h j hj
 unfold specB standB
 rw [e, h1, h2]
 cases okE W.gens W.free <;> cases resB B W.res <;> cases decide (W.tabs.length ≤ 40) <;> cases tabsB A W.tabs <;> rfl
set_option maxHeartbeats 2000000 in
theorem szReg_top (s1 s2 s3 : Option Addr) (c1 c2 c3 : Nat) (A B C : List (ByteArray × Int)) (w : World) (hA : Decls w s1 A) (hB : Decls w s2 B) (hC : Decls w s3 C) (nA : Nms A) (nB : Nms B) (nC : Nms C) (mA : A.length ≤ maxLen) (mB : B.length ≤ maxLen) (mC : C.length ≤ maxLen) :
  Calls Tryz.prog 4 #[.agg #[.slice s1 A.length c1, .slice s2 B.length c2, .slice s3 C.length c3], .int .i64 1048576] w fun e w' => (∃ r : Int, e = .returned (.int .i64 r) ∧ (r = -1 ∨ (0 ≤ r ∧ r ≤ 1048576 ∧ A.length ≤ 1048576 ∧ B.length ≤ 1048576 ∧ C.length ≤ 1048576))) ∧ Below w.heap.size w w' := by
 have hal := alloc_old
 have haf := alloc_oldf
 have k0 := Blk.new w #[.slice s1 A.length c1, .slice s2 B.length c2, .slice s3 C.length c3] 24
 go_enter Tryz.func4, Tryz.ntmps4
 go_wp2_with fail; refine (szDeclS_any s1 c1 A 1048576 _ (hA.later blq) nA mA (by omega) (by omega)).mono ?_
 rintro e w1 ⟨⟨r, rfl, hr⟩, hb1⟩
 have L1 : Below w.heap.size w w1 := blq
 have K1 := k0.later hb1
 clear k0 hb1; obtain ⟨x0, x1, x2, x3⟩ := K1.three
 rcases hr with rfl | ⟨r0, r1, lA⟩
 ·
  go_wp2_with fail; go_ret; exact ⟨⟨_, rfl, Or.inl rfl⟩, L1⟩
 have t2 : decide (r < 0) = false := by simp; omega
 go_wp2_with fail; refine (szDeclS_any s2 c2 B r _ (hB.later L1) nB mB r0 r1).mono ?_
 rintro e w2 ⟨⟨q, rfl, hq⟩, hb2⟩
 have L2 := bl_trans L1 hb2
 have K2 := K1.later hb2
 clear K1 hb2 x0 x1 x2 x3; obtain ⟨x0, x1, x2, x3⟩ := K2.three
 rcases hq with rfl | ⟨q0, q1, lB⟩
 ·
  go_wp2_with fail; go_ret; exact ⟨⟨_, rfl, Or.inl rfl⟩, L2⟩
 have t3 : decide (q < 0) = false := by simp; omega
 go_wp2_with fail; refine (szDeclS_any s3 c3 C q _ (hC.later L2) nC mC q0 (by omega)).mono ?_
 rintro e w3 ⟨⟨p, rfl, hp⟩, hb3⟩
 have L3 := bl_trans L2 hb3
 clear hb3 x0 x1 x2 x3; rcases hp with rfl | ⟨p0, p1, lC⟩
 ·
  go_wp2_with fail; go_ret; exact ⟨⟨_, rfl, Or.inl rfl⟩, L3⟩
 have t4 : decide (p < 0) = false := by simp; omega
 go_wp2_with fail; go_ret; exact ⟨⟨_, rfl, Or.inr ⟨p0, by omega, lA, lB, lC⟩⟩, L3⟩
end
section
open Go.RowKit
def Wh (T : List Tab) (v : E2) (r s : Int) : Prop :=
 (r = -1 ∧ s = -1 ∧ ∀ (j : Nat) t, T[j]? = some t → ∀ i : Nat, ¬ t.rows[i]? = some v) ∨
 ∃ (j k : Nat) (t : Tab), r = j ∧ s = k ∧ T[j]? = some t ∧ t.rows[k]? = some v ∧ (∀ i : Nat, i < k → ¬ t.rows[i]? = some v) ∧ ∀ (l : Nat) u, l < j → T[l]? = some u → ∀ i : Nat, ¬ u.rows[i]? = some v
theorem Wh.same {T : List Tab} {v : E2} {r s r' s' : Int} (h : Wh T v r s) (g : Wh T v r' s') : r = r' ∧ s = s' := by
 rcases h with ⟨rfl, rfl, h⟩ | ⟨j, k, t, rfl, rfl, h1, h2, h3, h4⟩
 ·
  rcases g with ⟨rfl, rfl, _⟩ | ⟨j', k', t', rfl, rfl, g1, g2, g3, g4⟩
  ·
   exact ⟨rfl, rfl⟩
  exact absurd g2 (h j' t' g1 k')
 rcases g with ⟨rfl, rfl, g⟩ | ⟨j', k', t', rfl, rfl, g1, g2, g3, g4⟩
 ·
  exact absurd h2 (g j t h1 k)
 have ej : j = j' := by
  rcases Nat.lt_trichotomy j j' with h | h | h
  ·
   exact absurd h2 (g4 j t h h1 k)
  ·
   exact h
  exact absurd g2 (h4 j' t' h g1 k')
 subst ej
 rw [h1] at g1
 cases g1
 have ek : k = k' := by
  rcases Nat.lt_trichotomy k k' with h | h | h
  ·
   exact absurd h2 (g3 k h)
  ·
   exact h
  exact absurd g2 (h3 k' h)
 subst ek
 exact ⟨rfl, rfl⟩
end
section
open Go.RowKit Go.Maps Go.WideMaps
set_option maxRecDepth 100000
theorem once_first {T : List Tab} {i j : Nat} {t : Tab} {x : E2} (hn : (rowsOf T).Nodup) (h : T[i]? = some t) (hx : t.rows[j]? = some x) : ¬ x ∈ rowsOf (T.take i) ++ t.rows.take j := by
 obtain ⟨S, hS⟩ := rows_pre2 h hx
 intro hm
 rw [hS, List.nodup_append] at hn
 exact hn.2.2 x hm x (by simp) rfl
theorem rows_in {T : List Tab} {i j k : Nat} {t : Tab} {x : E2} (h : T[i]? = some t) (hx : t.rows[j]? = some x) (hk : i < k) : x ∈ rowsOf (T.take k) := by
 simp only [rowsOf, List.mem_flatMap]
 exact ⟨t, List.mem_of_getElem? (by rw [List.getElem?_take, if_pos hk]; exact h), List.mem_of_getElem? hx⟩
theorem rows_unique {T : List Tab} {i j i' j' : Nat} {t t' : Tab} {x : E2} (hn : (rowsOf T).Nodup) (h : T[i]? = some t) (hx : t.rows[j]? = some x) (h' : T[i']? = some t') (hx' : t'.rows[j']? = some x) : i = i' ∧ j = j' := by
 have f1 := once_first hn h hx
 have f2 := once_first hn h' hx'
 have ei : i = i' := by
  rcases Nat.lt_trichotomy i i' with g | g | g
  ·
   exact absurd (List.mem_append_left _ (rows_in h hx g)) f2
  ·
   exact g
  exact absurd (List.mem_append_left _ (rows_in h' hx' g)) f1
 subst ei
 rw [h] at h'
 cases h'
 refine ⟨rfl, ?_⟩
 have tk : ∀ {a b : Nat}, a < b → t.rows[a]? = some x → x ∈ t.rows.take b := fun hab ha => List.mem_of_getElem? (by rw [List.getElem?_take, if_pos hab]; exact ha)
 rcases Nat.lt_trichotomy j j' with g | g | g
 ·
  exact absurd (List.mem_append_right _ (tk g hx)) f2
 ·
  exact g
 exact absurd (List.mem_append_right _ (tk g hx')) f1
structure RTab (t : Tab) : Prop where
 up : ∀ (p q : Nat) x y, p < q → t.cols[p]? = some x → t.cols[q]? = some y → x < y
 len : t.cells.length = t.cols.length
 each : ∀ (q : Nat) L, t.cells[q]? = some L → L.length = t.rows.length
theorem rtab_of {A : List (ByteArray × Int)} {t : Tab} (h : tabB A t = true) : RTab t := by
 simp only [tabB, Bool.and_eq_true, decide_eq_true_eq, List.all_eq_true, List.mem_range] at h
 obtain ⟨h1, h2⟩ := h
 refine ⟨?_, h1, fun q L hL => ?_⟩
 ·
  intro p q x y hpq hp hq
  have key : ∀ d : Nat, ∀ q y, p + d + 1 = q → t.cols[q]? = some y → x < y := by
   intro d
   induction d with
   | zero =>
    intro q y e hq
    have c := (colB_iff.1 (h2 q (List.getElem?_eq_some_iff.1 hq).1)).2.1
    rcases c with c | c
    ·
     omega
    rw [show q - 1 = p by omega, getD_of hp, getD_of hq] at c; exact c
   | succ d ih =>
    intro q y e hq
    have hql := (List.getElem?_eq_some_iff.1 hq).1
    obtain ⟨z, hz⟩ := get_some (L := t.cols) (k := q - 1) (by omega)
    have c := (colB_iff.1 (h2 q hql)).2.1
    have := ih (q - 1) z (by omega) hz
    rcases c with c | c
    ·
     omega
    rw [getD_of hz, getD_of hq] at c; omega
  exact key (q - p - 1) q y (by omega) hq
 have hq : q < t.cols.length := by rw [← h1]; exact (List.getElem?_eq_some_iff.1 hL).1
 have c := (colB_iff.1 (h2 q hq)).2.2.1
 rw [getD_of hL] at c
 exact c
theorem stand_tabs {A B C : List (ByteArray × Int)} {W : Wd} (h : standB A B C W = true) : (∀ t ∈ W.tabs, RTab t) ∧ onceB (listB W.gens W.free) W.tabs = true := by
 simp only [standB, Bool.and_eq_true, tabsB, List.all_eq_true, List.mem_range] at h
 refine ⟨fun t ht => ?_, h.2⟩
 obtain ⟨j, hj, rfl⟩ := List.getElem_of_mem ht
 have := h.1.2 j hj
 rw [tabA_eq (List.getElem?_eq_getElem hj), Bool.and_eq_true] at this
 exact rtab_of this.1
def setT (t : Tab) (q : Nat) (L : List V4) : Tab := ⟨t.cols, t.rows, t.cells.set q L⟩
def setW (W : Wd) (i : Nat) (t : Tab) : Wd := ⟨W.gens, W.free, W.tabs.set i t, W.res⟩
def SetR (A B C : List (ByteArray × Int)) (W : Wd) (e : E2) (comp : Int) (v : V4) (W' : Wd) (code : Int) : Prop :=
 ((standB A B C W && fitB A comp v) = false ∧ W' = W ∧ code = 1) ∨
 ((standB A B C W && fitB A comp v) = true ∧ ((¬ e ∈ rowsOf W.tabs ∧ W' = W ∧ code = 2) ∨
 (∃ (i j : Nat) (t : Tab), W.tabs[i]? = some t ∧ t.rows[j]? = some e ∧ (¬ comp ∈ t.cols) ∧ W' = W ∧ code = 4) ∨
 (∃ (i j q : Nat) (t : Tab) (L : List V4), W.tabs[i]? = some t ∧ t.rows[j]? = some e ∧ t.cols[q]? = some comp ∧ t.cells[q]? = some L ∧ W' = setW W i (setT t q (L.set j v)) ∧ code = 0)))
theorem mem_rows {T : List Tab} {i j : Nat} {t : Tab} {x : E2} (h : T[i]? = some t) (hx : t.rows[j]? = some x) : x ∈ rowsOf T := by
 simp only [rowsOf, List.mem_flatMap]
 exact ⟨t, List.mem_of_getElem? h, List.mem_of_getElem? hx⟩
theorem cols_unique {t : Tab} (h : RTab t) {p q : Nat} {x : Int} (hp : t.cols[p]? = some x) (hq : t.cols[q]? = some x) : p = q := by
 rcases Nat.lt_trichotomy p q with h1 | h1 | h1
 ·
  have := h.up p q x x h1 hp hq; omega
 ·
  exact h1
 have := h.up q p x x h1 hq hp; omega
theorem SetR.same {A B C : List (ByteArray × Int)} {W : Wd} {e : E2} {comp : Int} {v : V4} {W1 W2 : Wd} {c1 c2 : Int} (h1 : SetR A B C W e comp v W1 c1) (h2 : SetR A B C W e comp v W2 c2) : W1 = W2 ∧ c1 = c2 := by
 rcases h1 with ⟨hf, rfl, rfl⟩ | ⟨ht, h1⟩
 ·
  rcases h2 with ⟨_, rfl, rfl⟩ | ⟨ht, _⟩
  ·
   exact ⟨rfl, rfl⟩
  rw [hf] at ht; cases ht
 have hst : standB A B C W = true := by simp only [Bool.and_eq_true] at ht; exact ht.1
 obtain ⟨hrt, hon⟩ := stand_tabs hst
 simp only [onceB, decide_eq_true_eq] at hon
 rcases h2 with ⟨hf, _⟩ | ⟨_, h2⟩
 ·
  rw [hf] at ht; cases ht
 rcases h1 with ⟨hn, rfl, rfl⟩ | ⟨i, j, t, h11, h12, h13, rfl, rfl⟩ | ⟨i, j, q, t, L, h11, h12, h13, h14, rfl, rfl⟩
 ·
  rcases h2 with ⟨_, rfl, rfl⟩ | ⟨i', j', t', h21, h22, _⟩ | ⟨i', j', q', t', L', h21, h22, _⟩
  ·
   exact ⟨rfl, rfl⟩
  ·
   exact absurd (mem_rows h21 h22) hn
  exact absurd (mem_rows h21 h22) hn
 ·
  rcases h2 with ⟨hn, _⟩ | ⟨i', j', t', h21, h22, _, rfl, rfl⟩ | ⟨i', j', q', t', L', h21, h22, h23, _⟩
  ·
   exact absurd (mem_rows h11 h12) hn
  ·
   exact ⟨rfl, rfl⟩
  obtain ⟨rfl, rfl⟩ := rows_unique hon.1 h11 h12 h21 h22
  rw [h11] at h21
  cases h21
  exact absurd (List.mem_of_getElem? h23) h13
 rcases h2 with ⟨hn, _⟩ | ⟨i', j', t', h21, h22, h23, _⟩ | ⟨i', j', q', t', L', h21, h22, h23, h24, rfl, rfl⟩
 ·
  exact absurd (mem_rows h11 h12) hn
 ·
  obtain ⟨rfl, rfl⟩ := rows_unique hon.1 h11 h12 h21 h22
  rw [h11] at h21
  cases h21
  exact absurd (List.mem_of_getElem? h13) h23
 obtain ⟨rfl, rfl⟩ := rows_unique hon.1 h11 h12 h21 h22
 rw [h11] at h21
 cases h21
 have := cols_unique (hrt t (List.mem_of_getElem? h11)) h13 h23
 subst this
 rw [h14] at h24
 cases h24
 exact ⟨rfl, rfl⟩
theorem kW_set {W : Wd} (hk : kW W) {i q j : Nat} {t : Tab} {L : List V4} {v : V4} (h1 : W.tabs[i]? = some t) (h2 : t.cells[q]? = some L) : kW (setW W i (setT t q (L.set j v))) := by
 obtain ⟨a, b, ⟨c, d⟩, e⟩ := hk
 have ht := d t (List.mem_of_getElem? h1)
 refine ⟨a, b, ⟨by show (W.tabs.set _ _).length ≤ _; rw [List.length_set]; exact c, fun T hT => ?_⟩, e⟩
 have hT : T ∈ W.tabs.set i (setT t q (L.set j v)) := hT
 rcases List.mem_or_eq_of_mem_set hT with h | rfl
 ·
  exact d T h
 refine ⟨ht.1, ht.2.1, by show (t.cells.set _ _).length ≤ _; rw [List.length_set]; exact ht.2.2.1, fun l hl => ?_⟩
 have hl : l ∈ t.cells.set q (L.set j v) := hl
 rcases List.mem_or_eq_of_mem_set hl with h | rfl
 ·
  exact ht.2.2.2 l h
 rw [List.length_set]; exact ht.2.2.2 L (List.mem_of_getElem? h2)
theorem SetR.kW {A B C : List (ByteArray × Int)} {W : Wd} {e : E2} {comp : Int} {v : V4} {W1 : Wd} {c1 : Int} (h : SetR A B C W e comp v W1 c1) (hk : kW W) : kW W1 := by
 rcases h with ⟨_, rfl, _⟩ | ⟨_, ⟨_, rfl, _⟩ | ⟨_, _, _, _, _, _, rfl, _⟩ | ⟨i, j, q, t, L, h1, _, _, h4, rfl, _⟩⟩
 ·
  exact hk
 ·
  exact hk
 ·
  exact hk
 exact kW_set hk h1 h4
theorem rW_split {V : WV} {W : Wd} {i : Nat} {t : TV} {T : Tab} (h1 : V.ts[i]? = some t) (h2 : W.tabs[i]? = some T) (P : List OR) : P ++ rW V W = (P ++ [rI V.g W.gens, rI V.f W.free, rT V.t V.ts, rV V.r W.res] ++ rTabs (V.ts.take i) (W.tabs.take i)) ++ (rTab t T ++ rTabs (V.ts.drop (i + 1)) (W.tabs.drop (i + 1))) := by
 unfold rW
 rw [rTabs_split h1 h2]
 simp
theorem OWf.setW {V : WV} {W : Wd} (h : OWf V W) {i q : Nat} {T : Tab} {L' : List V4} (h2 : W.tabs[i]? = some T) (ok : okVs L') : OWf V (setW W i (setT T q L')) := by
 refine ⟨?_, ?_, ?_, h.okr⟩
 ·
  show V.ts.length = (W.tabs.set _ _).length
  rw [List.length_set]; exact h.len
 ·
  intro j t U ht hU
  have hU : (W.tabs.set i (setT T q L'))[j]? = some U := hU
  by_cases e : j = i
  ·
   subst e
   rw [List.getElem?_set_self ((List.getElem?_eq_some_iff.1 h2).1)] at hU
   cases hU
   show _ = (T.cells.set _ _).length
   rw [List.length_set]; exact h.lens j t T ht h2
  rw [List.getElem?_set_ne (fun e' => e e'.symm)] at hU
  exact h.lens j t U ht hU
 intro U hU M hM
 have hU : U ∈ W.tabs.set i (setT T q L') := hU
 rcases List.mem_or_eq_of_mem_set hU with h' | rfl
 ·
  exact h.okc U h' M hM
 have hM : M ∈ T.cells.set q L' := hM
 rcases List.mem_or_eq_of_mem_set hM with h' | rfl
 ·
  exact h.okc T (List.mem_of_getElem? h2) M h'
 exact ok
end
section
open Go.RowKit
def wo {α : Type} (L : List α) (i : Nat) : List α := match L[L.length - 1]? with
 | some x => (L.set i x).take (L.length - 1)
 | none => L
end
section
open Go.RowKit
set_option maxRecDepth 100000
theorem slice_upto (T : TypeId) (k : Nat) (ht : Tryz.prog.underlying T = some (.slice (Tryz.prog.elem T))) (hsz : ∀ W, (Go.sizeOf (Tryz.prog.elem T)).run Tryz.prog W = .ok k W) (g n c r : Nat) (hr : r ≤ c) :
  ∀ W, (Instr.slice T (.slice (some ⟨g, 0, none⟩) n c) none (some (.int .i64 (r : Int))) none).run Tryz.prog W = .ok (.slice (some ⟨g, 0, none⟩) r c) W := by
 intro W
 rw [run_slice_h (P := Tryz.prog) W T (some ⟨g, 0, none⟩) n c ht .i64 (r : Int) (by omega) (by omega), hsz]
 unfold sliced
 simp [Result.andThen, Addr.add]
end
end Go.Proofs.YtbgeobpdojmdaaaGreat
