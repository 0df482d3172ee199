import Derived.Test.YtbgeobpdojmdaaaGreatSq34
import Derived.ArgAppend
import Derived.Lib.SliceRun
namespace Go.Proofs.YtbgeobpdojmdaaaGreat
set_option linter.unusedVariables false
set_option linter.unusedSimpArgs false
section
open Go.RowKit Go.Maps Go.WideMaps
set_option maxRecDepth 100000
theorem GoA.tabs {W W1 : Wd} {T1 : Tab} {L : List C5} {i : Nat} (h : GoA W W1 T1 L i) : W1.gens = W.gens ∧ W1.free = W.free ∧ W1.res = W.res ∧ W.tabs.length ≤ W1.tabs.length ∧ W1.tabs.length ≤ W.tabs.length + 1 ∧ (∀ t ∈ W1.tabs, t ∈ W.tabs ∨ t = newT L) ∧ ∀ (j : Nat) (t : Tab), W.tabs[j]? = some t → W1.tabs[j]? = some t := by
 obtain ⟨h1, h2, rfl | ⟨rfl, h3, h4, h5, h6⟩⟩ := h
 ·
  exact ⟨rfl, rfl, rfl, Nat.le_refl _, Nat.le_succ _, fun t ht => Or.inl ht, fun j t ht => ht⟩
 refine ⟨rfl, rfl, rfl, ?_, ?_, fun t ht => ?_, fun j t ht => ?_⟩
 ·
  show _ ≤ (W.tabs ++ [newT L]).length
  simp
 ·
  show (W.tabs ++ [newT L]).length ≤ _
  simp
 ·
  rcases List.mem_append.1 (show t ∈ W.tabs ++ [newT L] from ht) with h | h
  ·
   exact Or.inl h
  exact Or.inr (by simpa using h)
 show (W.tabs ++ [newT L])[j]? = some t
 rw [List.getElem?_append_left (List.getElem?_eq_some_iff.1 ht).1]
 exact ht
theorem GoA.size {W W1 : Wd} {T1 : Tab} {L : List C5} {i : Nat} {e : E2} (h : GoA W W1 T1 L i) (hk : kW W) (lL : L.length ≤ 1000) (hrl : ∀ T ∈ W.tabs, T.rows.length ≤ 100000) (hll : ∀ T ∈ W.tabs, ∀ M ∈ T.cells, M.length ≤ 100000) (h40 : W.tabs.length ≤ 40) : kW (setW W1 i (addT T1 e L)) := by
 obtain ⟨a1, a2, a3, a4, a5, a6, a7⟩ := h.tabs
 have hm := List.mem_of_getElem? h.1
 have hnew : kTab (newT L) := by
  refine ⟨?_, ?_, ?_, ?_⟩
  ·
   show (L.map (·.1)).length ≤ _
   rw [List.length_map]; omega
  ·
   show ([] : List E2).length ≤ _
   simp
  ·
   show (List.replicate L.length ([] : List V4)).length ≤ _
   rw [List.length_replicate]; omega
  intro M hM
  have hM : M ∈ List.replicate L.length ([] : List V4) := hM
  obtain rfl := (List.mem_replicate.1 hM).2
  simp
 have hrT : T1.rows.length ≤ 100000 := by
  rcases a6 T1 hm with h | rfl
  ·
   exact hrl T1 h
  simp [newT]
 have hMT : ∀ M ∈ T1.cells, M.length ≤ 100000 := by
  rcases a6 T1 hm with h | rfl
  ·
   exact hll T1 h
  intro M hM
  have hM : M ∈ List.replicate L.length ([] : List V4) := hM
  obtain rfl := (List.mem_replicate.1 hM).2
  simp
 refine ⟨?_, ?_, ⟨?_, fun t ht => ?_⟩, ?_⟩
 ·
  show W1.gens.length ≤ _
  rw [a1]; exact hk.1
 ·
  show W1.free.length ≤ _
  rw [a2]; exact hk.2.1
 ·
  show (W1.tabs.set i _).length ≤ _
  rw [List.length_set]; omega
 ·
  rcases List.mem_or_eq_of_mem_set (show t ∈ W1.tabs.set i (addT T1 e L) from ht) with h1 | rfl
  ·
   rcases a6 t h1 with h2 | rfl
   ·
    exact hk.2.2.1.2 t h2
   exact hnew
  refine ⟨?_, ?_, ?_, ?_⟩
  ·
   show T1.cols.length ≤ _
   rw [h.2.1, List.length_map]; omega
  ·
   show (T1.rows ++ [e]).length ≤ _
   simp; omega
  ·
   show (List.zipWith (fun M c => M ++ [c.2]) T1.cells L).length ≤ _
   rw [List.length_zipWith]; omega
  intro M hM
  have hM : M ∈ List.zipWith (fun M c => M ++ [c.2]) T1.cells L := hM
  obtain ⟨k, hk'⟩ := List.mem_iff_getElem?.1 hM
  rw [List.getElem?_zipWith] at hk'
  cases h2 : T1.cells[k]? with
  | none => rw [h2] at hk'; simp at hk'
  | some M0 =>
   cases h3 : L[k]? with
   | none => rw [h2, h3] at hk'; simp at hk'
   | some c =>
    rw [h2, h3] at hk'
    simp at hk'
    subst hk'
    have := hMT M0 (List.mem_of_getElem? h2)
    simp; omega
 show W1.res.length ≤ _
 rw [a3]; exact hk.2.2.2
theorem GoA.other {W W1 : Wd} {T1 T : Tab} {L : List C5} {i fi : Nat} {e : E2} (h : GoA W W1 T1 L i) (hT : W.tabs[fi]? = some T) (hne : ¬ T.cols = L.map (·.1)) : (setW W1 i (addT T1 e L)).tabs[fi]? = some T := by
 have h1 := h.tabs.2.2.2.2.2.2 fi T hT
 have h2 : i ≠ fi := by
  rintro rfl
  rw [h.1] at h1
  cases h1
  exact hne h.2.1
 show (W1.tabs.set i _)[fi]? = _
 rw [List.getElem?_set_ne h2]
 exact h1
end
section
open Go.RowKit Go.Maps Go.WideMaps
set_option maxRecDepth 100000
def rowC (T : Tab) (j : Nat) : List C5 := List.zipWith (fun c M => (c, (M[j]?).getD (0, 0, 0, 0))) T.cols T.cells
theorem rowC_len {T : Tab} {j : Nat} (h : T.cells.length = T.cols.length) : (rowC T j).length = T.cols.length := by
 unfold rowC
 rw [List.length_zipWith, h, Nat.min_self]
end
section
open Go.RowKit Go.Maps Go.WideMaps
set_option maxRecDepth 100000
section
variable {ops : Array Oper} {o : Oper} {a : Act} {w : World} {K : Act → World → Prop} {Qx : Exit → Act → World → Prop} {E : Prop}
end
theorem ccells_one (L : List C5) : ∀ u ∈ L.flatMap ccells, u.oneCell' = true := by
 intro u hu
 obtain ⟨c, _, hc⟩ := List.mem_flatMap.1 hu
 simp only [ccells, List.mem_cons, List.not_mem_nil, or_false] at hc
 rcases hc with rfl | rfl | rfl | rfl | rfl <;> rfl
end
section
open Go.RowKit Go.Maps Go.WideMaps
set_option maxRecDepth 100000
theorem stand_40 {A B C : List (ByteArray × Int)} {W : Wd} (h : standB A B C W = true) : W.tabs.length ≤ 40 := by
 simp only [standB, Bool.and_eq_true, decide_eq_true_eq] at h
 exact h.1.1.2
theorem stand_cols {A B C : List (ByteArray × Int)} {W : Wd} (h : standB A B C W = true) {i j : Nat} {t u : Tab} (hi : W.tabs[i]? = some t) (hj : W.tabs[j]? = some u) (e : t.cols = u.cols) : i = j := by
 simp only [standB, Bool.and_eq_true, tabsB, List.all_eq_true, List.mem_range] at h
 have key : ∀ {i j : Nat} {t u : Tab}, W.tabs[i]? = some t → W.tabs[j]? = some u → t.cols = u.cols → ¬ i < j := by
  intro i j t u hi hj e hlt
  have := h.1.2 j (List.getElem?_eq_some_iff.1 hj).1
  rw [tabA_eq hj, Bool.and_eq_true, Bool.not_eq_true'] at this
  have h2 : hasC (W.tabs.take j) u.cols = true := hasC_yes hlt hi (by rw [sl_eqI, decide_eq_true_eq]; exact e)
  rw [this.2] at h2
  cases h2
 have h1 := key hi hj e
 have h2 := key hj hi e.symm
 omega
theorem up_ge {L : List Int} (h0 : ∀ x ∈ L, 0 ≤ x) (hu : ∀ (p q : Nat) x y, p < q → L[p]? = some x → L[q]? = some y → x < y) : ∀ (q : Nat) y, L[q]? = some y → (q : Int) ≤ y
 | 0, y, h => by have := h0 y (List.mem_of_getElem? h); omega
 | q + 1, y, h => by
  obtain ⟨x, hx⟩ := get_some (L := L) (k := q) (by have := (List.getElem?_eq_some_iff.1 h).1; omega)
  have h1 := up_ge h0 hu q x hx
  have h2 := hu q (q + 1) x y (by omega) hx h
  omega
theorem stand_sizes {A B C : List (ByteArray × Int)} {W : Wd} (h : standB A B C W = true) : (∀ T ∈ W.tabs, T.cols.length ≤ 12) ∧ ∀ T ∈ W.tabs, T.rows.length ≤ 2000 := by
 obtain ⟨hrt, hon⟩ := stand_tabs h
 simp only [onceB, decide_eq_true_eq] at hon
 constructor
 ·
  intro T hT
  simp only [standB, Bool.and_eq_true, tabsB, List.all_eq_true, List.mem_range] at h
  obtain ⟨j, hj, rfl⟩ := List.getElem_of_mem hT
  have h1 := h.1.2 j hj
  rw [tabA_eq (List.getElem?_eq_getElem hj), Bool.and_eq_true] at h1
  have hr := rtab_of h1.1
  have hA := okR_l12 h.1.1.1.1.1
  have hc : ∀ x ∈ (W.tabs[j]).cols, 0 ≤ x ∧ x < 12 := by
   intro x hx
   obtain ⟨q, hq, rfl⟩ := List.getElem_of_mem hx
   have h2 := h1.1
   simp only [tabB, Bool.and_eq_true, decide_eq_true_eq, List.all_eq_true, List.mem_range] at h2
   have h3 := (colB_iff.1 (h2.2 q hq)).1
   rw [getD_of (List.getElem?_eq_getElem hq)] at h3
   simp only [cmpB, Bool.and_eq_true, decide_eq_true_eq] at h3
   omega
  by_cases hl : (W.tabs[j]).cols.length ≤ 12
  ·
   exact hl
  obtain ⟨y, hy⟩ := get_some (L := (W.tabs[j]).cols) (k := 12) (by omega)
  have h4 := up_ge (fun x hx => (hc x hx).1) hr.up 12 y hy
  have h5 := hc y (List.mem_of_getElem? hy)
  omega
 intro T hT
 have h1 : T.rows.length ≤ (rowsOf W.tabs).length := by
  obtain ⟨j, hj, rfl⟩ := List.getElem_of_mem hT
  have e : W.tabs = W.tabs.take j ++ (W.tabs[j] :: W.tabs.drop (j + 1)) := by rw [← List.drop_eq_getElem_cons hj, List.take_append_drop]
  have e2 : rowsOf W.tabs = rowsOf (W.tabs.take j) ++ (W.tabs[j].rows ++ rowsOf (W.tabs.drop (j + 1))) := by
   unfold rowsOf
   conv => lhs; rw [e]
   rw [List.flatMap_append, List.flatMap_cons]
  rw [e2, List.length_append, List.length_append]
  omega
 rw [hon.2.2] at h1
 have := listB_len (G := W.gens) (F := W.free)
 omega
theorem rtab_each {T : Tab} (h : RTab T) : ∀ M ∈ T.cells, M.length = T.rows.length := by
 intro L hL
 obtain ⟨q, hq, rfl⟩ := List.getElem_of_mem hL
 exact h.each q _ (List.getElem?_eq_getElem hq)
def MvA (W : Wd) (e : E2) (fi fj : Nat) (T : Tab) (L : List C5) (W' : Wd) (code : Int) : Prop :=
 (code = 3 ∧ W' = W ∧ (∀ t ∈ W.tabs, ¬ t.cols = L.map (·.1)) ∧ W.tabs.length = 40) ∨
 ∃ (i : Nat) (T1 : Tab) (W1 : Wd), GoA W W1 T1 L i ∧ W' = setW (setW W1 i (addT T1 e L)) fi (gone T fj) ∧ code = 0
theorem GoA.same {A B C : List (ByteArray × Int)} {W W1 W2 : Wd} {T1 T2 : Tab} {L : List C5} {i j : Nat} (hst : standB A B C W = true) (h1 : GoA W W1 T1 L i) (h2 : GoA W W2 T2 L j) : W1 = W2 ∧ T1 = T2 ∧ i = j := by
 obtain ⟨a1, a2, rfl | ⟨rfl, a3, a4, a5, a6⟩⟩ := h1
 ·
  obtain ⟨b1, b2, rfl | ⟨rfl, b3, b4, b5, b6⟩⟩ := h2
  ·
   have e := stand_cols hst a1 b1 (by rw [a2, b2])
   subst e
   rw [a1] at b1
   cases b1
   exact ⟨rfl, rfl, rfl⟩
  exact absurd a2 (b5 _ (List.mem_of_getElem? a1))
 obtain ⟨b1, b2, rfl | ⟨rfl, b3, b4, b5, b6⟩⟩ := h2
 ·
  exact absurd b2 (a5 _ (List.mem_of_getElem? b1))
 exact ⟨rfl, by rw [a4, b4], by rw [a3, b3]⟩
theorem MvA.same {A B C : List (ByteArray × Int)} {W : Wd} {e : E2} {fi fj : Nat} {T : Tab} {L : List C5} {W1 W2 : Wd} {c1 c2 : Int} (hst : standB A B C W = true) (h1 : MvA W e fi fj T L W1 c1) (h2 : MvA W e fi fj T L W2 c2) : W1 = W2 ∧ c1 = c2 := by
 have no : ∀ {i : Nat} {T1 : Tab} {W1 : Wd}, (∀ t ∈ W.tabs, ¬ t.cols = L.map (·.1)) → W.tabs.length = 40 → GoA W W1 T1 L i → False := by
  rintro i T1 W1 hn h4 ⟨g1, g2, rfl | ⟨rfl, g3, g4, g5, g6⟩⟩
  ·
   exact hn _ (List.mem_of_getElem? g1) g2
  exact g6 h4
 rcases h1 with ⟨rfl, rfl, hn, h4⟩ | ⟨i, T1, V1, g1, rfl, rfl⟩
 ·
  rcases h2 with ⟨rfl, rfl, _, _⟩ | ⟨i, T1, V1, g1, rfl, rfl⟩
  ·
   exact ⟨rfl, rfl⟩
  exact absurd g1 (no hn h4)
 rcases h2 with ⟨rfl, rfl, hn, h4⟩ | ⟨j, T2, V2, g2, rfl, rfl⟩
 ·
  exact absurd g1 (no hn h4)
 obtain ⟨rfl, rfl, rfl⟩ := g1.same hst g2
 exact ⟨rfl, rfl⟩
theorem MvA.kW {W : Wd} {e : E2} {fi fj : Nat} {T : Tab} {L : List C5} {W1 : Wd} {c1 : Int} (h : MvA W e fi fj T L W1 c1) (hk : kW W) (hT : kTab T) (lL : L.length ≤ 1000) (hrl : ∀ T ∈ W.tabs, T.rows.length ≤ 100000) (hll : ∀ T ∈ W.tabs, ∀ M ∈ T.cells, M.length ≤ 100000) (h40 : W.tabs.length ≤ 40) : kW W1 := by
 rcases h with ⟨_, rfl, _, _⟩ | ⟨i, T1, V1, g1, rfl, _⟩
 ·
  exact hk
 have h := g1.size (e := e) hk lL hrl hll h40
 refine ⟨h.1, h.2.1, ⟨?_, ?_⟩, h.2.2.2⟩
 ·
  show ((setW V1 i (addT T1 e L)).tabs.set fi _).length ≤ _
  rw [List.length_set]; exact h.2.2.1.1
 intro U hU
 rcases List.mem_or_eq_of_mem_set (show U ∈ (setW V1 i (addT T1 e L)).tabs.set fi (gone T fj) from hU) with h' | rfl
 ·
  exact h.2.2.1.2 U h'
 exact kTab_gone hT fj
def DropR (A B C : List (ByteArray × Int)) (W : Wd) (e : E2) (x : Int) (W' : Wd) (code : Int) : Prop :=
 ((standB A B C W && cmpB A x) = false ∧ W' = W ∧ code = 1) ∨
 (standB A B C W = true ∧ ((¬ e ∈ rowsOf W.tabs ∧ W' = W ∧ code = 2) ∨
 (∃ (i j : Nat) (T : Tab), W.tabs[i]? = some T ∧ T.rows[j]? = some e ∧ ((¬ x ∈ T.cols ∧ W' = W ∧ code = 4) ∨ ∃ q : Nat, T.cols[q]? = some x ∧ MvA W e i j T ((rowC T j).eraseIdx q) W' code))) ∧ cmpB A x = true)
theorem up_one {T : Tab} (h : RTab T) {p q : Nat} {x : Int} (h1 : T.cols[p]? = some x) (h2 : T.cols[q]? = some x) : p = q := by
 rcases Nat.lt_trichotomy p q with g | g | g
 ·
  have := h.up p q x x g h1 h2; omega
 ·
  exact g
 have := h.up q p x x g h2 h1; omega
theorem DropR.same {A B C : List (ByteArray × Int)} {W : Wd} {e : E2} {x : Int} {W1 W2 : Wd} {c1 c2 : Int} (h1 : DropR A B C W e x W1 c1) (h2 : DropR A B C W e x W2 c2) : W1 = W2 ∧ c1 = c2 := by
 rcases h1 with ⟨hf, rfl, rfl⟩ | ⟨ht, h1, hx⟩
 ·
  rcases h2 with ⟨_, rfl, rfl⟩ | ⟨ht, _, hx⟩
  ·
   exact ⟨rfl, rfl⟩
  rw [ht, hx] at hf; cases hf
 obtain ⟨hrt, hon⟩ := stand_tabs ht
 simp only [onceB, decide_eq_true_eq] at hon
 rcases h2 with ⟨hf, _⟩ | ⟨_, h2, _⟩
 ·
  rw [ht, hx] at hf; cases hf
 rcases h1 with ⟨n1, rfl, rfl⟩ | ⟨i, j, T, hT, hj, h1⟩
 ·
  rcases h2 with ⟨n2, rfl, rfl⟩ | ⟨i, j, T, hT, hj, _⟩
  ·
   exact ⟨rfl, rfl⟩
  exact absurd (mem_rows hT hj) n1
 rcases h2 with ⟨n2, _⟩ | ⟨i', j', T', hT', hj', h2⟩
 ·
  exact absurd (mem_rows hT hj) n2
 obtain ⟨rfl, rfl⟩ := rows_unique hon.1 hT hj hT' hj'
 rw [hT] at hT'
 cases hT'
 rcases h1 with ⟨m1, rfl, rfl⟩ | ⟨q, hq, h1⟩
 ·
  rcases h2 with ⟨m2, rfl, rfl⟩ | ⟨q, hq, _⟩
  ·
   exact ⟨rfl, rfl⟩
  exact absurd (List.mem_of_getElem? hq) m1
 rcases h2 with ⟨m2, _⟩ | ⟨q', hq', h2⟩
 ·
  exact absurd (List.mem_of_getElem? hq) m2
 obtain rfl := up_one (hrt T (List.mem_of_getElem? hT)) hq hq'
 exact h1.same ht h2
theorem stand_lens {A B C : List (ByteArray × Int)} {W : Wd} (h : standB A B C W = true) : (∀ T ∈ W.tabs, T.rows.length ≤ 100000) ∧ (∀ T ∈ W.tabs, ∀ M ∈ T.cells, M.length ≤ 100000) := by
 have h1 := (stand_sizes h).2
 refine ⟨fun T hT => by have := h1 T hT; omega, fun T hT M hM => ?_⟩
 rw [rtab_each ((stand_tabs h).1 T hT) M hM]
 have := h1 T hT
 omega
theorem rowC_le {A B C : List (ByteArray × Int)} {W : Wd} (h : standB A B C W = true) {T : Tab} (hT : T ∈ W.tabs) (j : Nat) : (rowC T j).length ≤ 12 := by
 rw [rowC_len ((stand_tabs h).1 T hT).len]
 exact (stand_sizes h).1 T hT
theorem DropR.kW {A B C : List (ByteArray × Int)} {W : Wd} {e : E2} {x : Int} {W1 : Wd} {c1 : Int} (h : DropR A B C W e x W1 c1) (hk : kW W) : kW W1 := by
 rcases h with ⟨_, rfl, _⟩ | ⟨hst, ⟨_, rfl, _⟩ | ⟨i, j, T, hT, hj, ⟨_, rfl, _⟩ | ⟨q, hq, h⟩⟩, _⟩
 ·
  exact hk
 ·
  exact hk
 ·
  exact hk
 have hm := List.mem_of_getElem? hT
 refine h.kW hk (hk.2.2.1.2 T hm) ?_ (stand_lens hst).1 (stand_lens hst).2 (stand_40 hst)
 have h1 := List.length_eraseIdx_le (rowC T j) q
 have h2 := rowC_le hst hm j
 omega
end
end Go.Proofs.YtbgeobpdojmdaaaGreat
