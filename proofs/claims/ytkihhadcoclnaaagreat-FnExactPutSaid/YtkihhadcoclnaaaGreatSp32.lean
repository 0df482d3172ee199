import Derived.Test.YtkihhadcoclnaaaGreatSp24
import Derived.Test.YtkihhadcoclnaaaGreatSp26
import Derived.Test.YtkihhadcoclnaaaGreatSp31
namespace Go.Proofs.YtkihhadcoclnaaaGreat
set_option linter.unusedVariables false
set_option linter.unusedSimpArgs false
section
open Go.RowKit Go.Maps Go.WideMaps
set_option maxRecDepth 100000
theorem nodup_le : ∀ (R M : List E2), R.Nodup → (∀ x ∈ R, x ∈ M) → R.length ≤ M.length
 | [], M, _, _ => by simp
 | a :: R, M, hn, hs => by
  rw [List.nodup_cons] at hn
  have h1 := nodup_le R (M.erase a) hn.2 (fun x hx => by
   have hne : x ≠ a := fun e => hn.1 (e ▸ hx)
   exact (List.mem_erase_of_ne hne).2 (hs x (by simp [hx])))
  have ha := hs a (by simp)
  have h2 := List.length_erase_of_mem ha
  have h3 : 0 < M.length := List.length_pos_of_mem ha
  rw [List.length_cons]
  omega
theorem all_in {R M : List E2} (hn : R.Nodup) (hs : ∀ x ∈ R, x ∈ M) (hl : R.length = M.length) : ∀ x, x ∈ M → x ∈ R := by
 intro x hx
 by_cases h : x ∈ R
 ·
  exact h
 have h1 := nodup_le R (M.erase x) hn (fun y hy => by
  have hne : y ≠ x := fun e => h (by rw [← e]; exact hy)
  exact (List.mem_erase_of_ne hne).2 (hs y hy))
 have h2 := List.length_erase_of_mem hx
 have h3 : 0 < M.length := List.length_pos_of_mem hx
 omega
theorem once_first {T : List Tab} {i j : Nat} {t : Tab} {x : E2} (hn : (rowsOf T).Nodup) (h : T[i]? = some t) (hx : t.rows[j]? = some x) : ¬ x ∈ rowsOf (T.take i) ++ t.rows.take j := by
 obtain ⟨S, hS⟩ := rows_pre2 h hx
 intro hm
 rw [hS, List.nodup_append] at hn
 exact hn.2.2 x hm x (by simp) rfl
theorem rows_in {T : List Tab} {i j k : Nat} {t : Tab} {x : E2} (h : T[i]? = some t) (hx : t.rows[j]? = some x) (hk : i < k) : x ∈ rowsOf (T.take k) := by
 simp only [rowsOf, List.mem_flatMap]
 exact ⟨t, List.mem_of_getElem? (by rw [List.getElem?_take, if_pos hk]; exact h), List.mem_of_getElem? hx⟩
theorem rows_unique {T : List Tab} {i j i' j' : Nat} {t t' : Tab} {x : E2} (hn : (rowsOf T).Nodup) (h : T[i]? = some t) (hx : t.rows[j]? = some x) (h' : T[i']? = some t') (hx' : t'.rows[j']? = some x) : i = i' ∧ j = j' := by
 have f1 := once_first hn h hx
 have f2 := once_first hn h' hx'
 have ei : i = i' := by
  rcases Nat.lt_trichotomy i i' with g | g | g
  ·
   exact absurd (List.mem_append_left _ (rows_in h hx g)) f2
  ·
   exact g
  exact absurd (List.mem_append_left _ (rows_in h' hx' g)) f1
 subst ei
 rw [h] at h'
 cases h'
 refine ⟨rfl, ?_⟩
 have tk : ∀ {a b : Nat}, a < b → t.rows[a]? = some x → x ∈ t.rows.take b := fun hab ha => List.mem_of_getElem? (by rw [List.getElem?_take, if_pos hab]; exact ha)
 rcases Nat.lt_trichotomy j j' with g | g | g
 ·
  exact absurd (List.mem_append_right _ (tk g hx)) f2
 ·
  exact g
 exact absurd (List.mem_append_right _ (tk g hx')) f1
structure RTab (t : Tab) : Prop where
 up : ∀ (p q : Nat) x y, p < q → t.cols[p]? = some x → t.cols[q]? = some y → x < y
 len : t.cells.length = t.cols.length
 each : ∀ (q : Nat) L, t.cells[q]? = some L → L.length = t.rows.length
theorem rtab_of {A : List (ByteArray × Int)} {t : Tab} (h : tabB A t = true) : RTab t := by
 simp only [tabB, Bool.and_eq_true, decide_eq_true_eq, List.all_eq_true, List.mem_range] at h
 obtain ⟨h1, h2⟩ := h
 refine ⟨?_, h1, fun q L hL => ?_⟩
 ·
  intro p q x y hpq hp hq
  have key : ∀ d : Nat, ∀ q y, p + d + 1 = q → t.cols[q]? = some y → x < y := by
   intro d
   induction d with
   | zero =>
    intro q y e hq
    have c := (colB_iff.1 (h2 q (List.getElem?_eq_some_iff.1 hq).1)).2.1
    rcases c with c | c
    ·
     omega
    rw [show q - 1 = p by omega, getD_of hp, getD_of hq] at c; exact c
   | succ d ih =>
    intro q y e hq
    have hql := (List.getElem?_eq_some_iff.1 hq).1
    obtain ⟨z, hz⟩ := get_some (L := t.cols) (k := q - 1) (by omega)
    have c := (colB_iff.1 (h2 q hql)).2.1
    have := ih (q - 1) z (by omega) hz
    rcases c with c | c
    ·
     omega
    rw [getD_of hz, getD_of hq] at c; omega
  exact key (q - p - 1) q y (by omega) hq
 have hq : q < t.cols.length := by rw [← h1]; exact (List.getElem?_eq_some_iff.1 hL).1
 have c := (colB_iff.1 (h2 q hq)).2.2.1
 rw [getD_of hL] at c
 exact c
theorem stand_tabs {A B C : List (ByteArray × Int)} {W : Wd} (h : standB A B C W = true) : (∀ t ∈ W.tabs, RTab t) ∧ onceB (listB W.gens W.free) W.tabs = true := by
 simp only [standB, Bool.and_eq_true, tabsB, List.all_eq_true, List.mem_range] at h
 refine ⟨fun t ht => ?_, h.2⟩
 obtain ⟨j, hj, rfl⟩ := List.getElem_of_mem ht
 have := h.1.2 j hj
 rw [tabA_eq (List.getElem?_eq_getElem hj), Bool.and_eq_true] at this
 exact rtab_of this.1
theorem mem_live {G F : List Int} {x : E2} (hk : okE G F = true) : x ∈ listB G F ↔ l2B G F x.1 x.2 = true := by
 simp only [listB, hk, if_true, LK, List.mem_map, List.mem_filter, List.mem_range, l2B, decide_eq_true_eq, Bool.not_eq_true', decide_eq_false_iff_not]
 constructor
 ·
  rintro ⟨i, ⟨hi, hn⟩, rfl⟩
  simp only [Int.toNat_natCast]
  exact ⟨by omega, by omega, trivial, hn⟩
 rintro ⟨h1, h2, h3, h4⟩
 refine ⟨x.1.toNat, ⟨by omega, ?_⟩, ?_⟩
 ·
  rw [Int.toNat_of_nonneg h1]; exact h4
 apply Prod.ext
 ·
  simp only; omega
 simp only; exact h3
set_option maxHeartbeats 1000000 in
theorem l4At_any (s : Option Addr) (c : Nat) (L : List Int) (x : Int) (B : Nat) (w : World) (hL : Els 1 cInt w B s L) (hl : L.length ≤ 1048576) :
  Calls Tryz.prog 77 #[.slice s L.length c, .int .i64 x] w fun e w' => (∃ r : Int, e = .returned (.int .i64 r) ∧ ((r = -1 ∧ ¬ x ∈ L) ∨ ∃ q : Nat, r = q ∧ L[q]? = some x)) ∧ w' = w := by
 have HL : Hid (Els 1 cInt w B s L) := hL
 clear hL; go_enter Tryz.func77, Tryz.ntmps77
 go_wp2_with fail; go_loopw [5] (fun i wr => ∃ k : Nat, k ≤ L.length ∧ i = .int .i64 k ∧ wr = w ∧ Hid (∀ (j : Nat) a, j < k → L[j]? = some a → ¬ a = x)) (fun i _ => L.length - (intOf i).toNat)
 case atStart => exact ⟨0, Nat.zero_le _, rfl, rfl, fun j a hj => absurd hj (Nat.not_lt_zero _)⟩
 obtain ⟨k, hk, rfl, rfl, hN⟩ := hrel
 by_cases hlt : k < L.length
 ·
  obtain ⟨a, ha⟩ := get_some hlt
  obtain ⟨b, o, rfl, _, hp, e1⟩ := eInt_cells HL.out ha
  have HA : Hid (L[k]? = some a) := ha
  have kI0 : (0 : Int) ≤ (k : Int) := by omega
  have kI1 : (k : Int) < (L.length : Int) := by omega
  clear ha; by_cases hax : a = x
  ·
   subst hax
   go_wp2_with fail; go_ret; exact ⟨⟨_, rfl, Or.inr ⟨k, rfl, HA.out⟩⟩, rfl⟩
  have tb : (a == x) = false := by simp [hax]
  have hn : Hid (∀ (j : Nat) v, j < k + 1 → L[j]? = some v → ¬ v = x) := by
   intro j v hj hv
   by_cases e : j = k
   ·
    subst e; rw [HA.out] at hv; cases hv; exact hax
   exact hN.out j v (by omega) hv
  clear hN hax; go_wp2_with fail; go_roundw
  case rel => exact ⟨k + 1, by omega, by go_num, trivial, hn⟩
  case measure => simp [intOf]; omega
 have hk' : k = L.length := by omega
 subst hk'
 go_wp2_with fail; go_ret; refine ⟨⟨_, rfl, Or.inl ⟨rfl, fun hx => ?_⟩⟩, rfl⟩
 obtain ⟨j, hj, he⟩ := List.getElem_of_mem hx
 exact hN.out j _ hj (List.getElem?_eq_getElem hj) he
def setT (t : Tab) (q : Nat) (L : List V4) : Tab := ⟨t.cols, t.rows, t.cells.set q L⟩
def setW (W : Wd) (i : Nat) (t : Tab) : Wd := ⟨W.gens, W.free, W.tabs.set i t, W.res⟩
def SetR (A B C : List (ByteArray × Int)) (W : Wd) (e : E2) (comp : Int) (v : V4) (W' : Wd) (code : Int) : Prop :=
 ((standB A B C W && fitB A comp v) = false ∧ W' = W ∧ code = 1) ∨
 ((standB A B C W && fitB A comp v) = true ∧ ((¬ e ∈ rowsOf W.tabs ∧ W' = W ∧ code = 2) ∨
 (∃ (i j : Nat) (t : Tab), W.tabs[i]? = some t ∧ t.rows[j]? = some e ∧ (¬ comp ∈ t.cols) ∧ W' = W ∧ code = 4) ∨
 (∃ (i j q : Nat) (t : Tab) (L : List V4), W.tabs[i]? = some t ∧ t.rows[j]? = some e ∧ t.cols[q]? = some comp ∧ t.cells[q]? = some L ∧ W' = setW W i (setT t q (L.set j v)) ∧ code = 0)))
theorem mem_rows {T : List Tab} {i j : Nat} {t : Tab} {x : E2} (h : T[i]? = some t) (hx : t.rows[j]? = some x) : x ∈ rowsOf T := by
 simp only [rowsOf, List.mem_flatMap]
 exact ⟨t, List.mem_of_getElem? h, List.mem_of_getElem? hx⟩
theorem cols_unique {t : Tab} (h : RTab t) {p q : Nat} {x : Int} (hp : t.cols[p]? = some x) (hq : t.cols[q]? = some x) : p = q := by
 rcases Nat.lt_trichotomy p q with h1 | h1 | h1
 ·
  have := h.up p q x x h1 hp hq; omega
 ·
  exact h1
 have := h.up q p x x h1 hq hp; omega
theorem SetR.same {A B C : List (ByteArray × Int)} {W : Wd} {e : E2} {comp : Int} {v : V4} {W1 W2 : Wd} {c1 c2 : Int} (h1 : SetR A B C W e comp v W1 c1) (h2 : SetR A B C W e comp v W2 c2) : W1 = W2 ∧ c1 = c2 := by
 rcases h1 with ⟨hf, rfl, rfl⟩ | ⟨ht, h1⟩
 ·
  rcases h2 with ⟨_, rfl, rfl⟩ | ⟨ht, _⟩
  ·
   exact ⟨rfl, rfl⟩
  rw [hf] at ht; cases ht
 have hst : standB A B C W = true := by simp only [Bool.and_eq_true] at ht; exact ht.1
 obtain ⟨hrt, hon⟩ := stand_tabs hst
 simp only [onceB, decide_eq_true_eq] at hon
 rcases h2 with ⟨hf, _⟩ | ⟨_, h2⟩
 ·
  rw [hf] at ht; cases ht
 rcases h1 with ⟨hn, rfl, rfl⟩ | ⟨i, j, t, h11, h12, h13, rfl, rfl⟩ | ⟨i, j, q, t, L, h11, h12, h13, h14, rfl, rfl⟩
 ·
  rcases h2 with ⟨_, rfl, rfl⟩ | ⟨i', j', t', h21, h22, _⟩ | ⟨i', j', q', t', L', h21, h22, _⟩
  ·
   exact ⟨rfl, rfl⟩
  ·
   exact absurd (mem_rows h21 h22) hn
  exact absurd (mem_rows h21 h22) hn
 ·
  rcases h2 with ⟨hn, _⟩ | ⟨i', j', t', h21, h22, _, rfl, rfl⟩ | ⟨i', j', q', t', L', h21, h22, h23, _⟩
  ·
   exact absurd (mem_rows h11 h12) hn
  ·
   exact ⟨rfl, rfl⟩
  obtain ⟨rfl, rfl⟩ := rows_unique hon.1 h11 h12 h21 h22
  rw [h11] at h21
  cases h21
  exact absurd (List.mem_of_getElem? h23) h13
 rcases h2 with ⟨hn, _⟩ | ⟨i', j', t', h21, h22, h23, _⟩ | ⟨i', j', q', t', L', h21, h22, h23, h24, rfl, rfl⟩
 ·
  exact absurd (mem_rows h11 h12) hn
 ·
  obtain ⟨rfl, rfl⟩ := rows_unique hon.1 h11 h12 h21 h22
  rw [h11] at h21
  cases h21
  exact absurd (List.mem_of_getElem? h13) h23
 obtain ⟨rfl, rfl⟩ := rows_unique hon.1 h11 h12 h21 h22
 rw [h11] at h21
 cases h21
 have := cols_unique (hrt t (List.mem_of_getElem? h11)) h13 h23
 subst this
 rw [h14] at h24
 cases h24
 exact ⟨rfl, rfl⟩
theorem kW_set {W : Wd} (hk : kW W) {i q j : Nat} {t : Tab} {L : List V4} {v : V4} (h1 : W.tabs[i]? = some t) (h2 : t.cells[q]? = some L) : kW (setW W i (setT t q (L.set j v))) := by
 obtain ⟨a, b, ⟨c, d⟩, e⟩ := hk
 have ht := d t (List.mem_of_getElem? h1)
 refine ⟨a, b, ⟨by show (W.tabs.set _ _).length ≤ _; rw [List.length_set]; exact c, fun T hT => ?_⟩, e⟩
 have hT : T ∈ W.tabs.set i (setT t q (L.set j v)) := hT
 rcases List.mem_or_eq_of_mem_set hT with h | rfl
 ·
  exact d T h
 refine ⟨ht.1, ht.2.1, by show (t.cells.set _ _).length ≤ _; rw [List.length_set]; exact ht.2.2.1, fun l hl => ?_⟩
 have hl : l ∈ t.cells.set q (L.set j v) := hl
 rcases List.mem_or_eq_of_mem_set hl with h | rfl
 ·
  exact ht.2.2.2 l h
 rw [List.length_set]; exact ht.2.2.2 L (List.mem_of_getElem? h2)
theorem SetR.kW {A B C : List (ByteArray × Int)} {W : Wd} {e : E2} {comp : Int} {v : V4} {W1 : Wd} {c1 : Int} (h : SetR A B C W e comp v W1 c1) (hk : kW W) : kW W1 := by
 rcases h with ⟨_, rfl, _⟩ | ⟨_, ⟨_, rfl, _⟩ | ⟨_, _, _, _, _, _, rfl, _⟩ | ⟨i, j, q, t, L, h1, _, _, h4, rfl, _⟩⟩
 ·
  exact hk
 ·
  exact hk
 ·
  exact hk
 exact kW_set hk h1 h4
theorem rW_split {V : WV} {W : Wd} {i : Nat} {t : TV} {T : Tab} (h1 : V.ts[i]? = some t) (h2 : W.tabs[i]? = some T) (P : List OR) : P ++ rW V W = (P ++ [rI V.g W.gens, rI V.f W.free, rT V.t V.ts, rV V.r W.res] ++ rTabs (V.ts.take i) (W.tabs.take i)) ++ (rTab t T ++ rTabs (V.ts.drop (i + 1)) (W.tabs.drop (i + 1))) := by
 unfold rW
 rw [rTabs_split h1 h2]
 simp
theorem rW_setW {V : WV} {W : Wd} {i : Nat} {t : TV} {T T' : Tab} (h1 : V.ts[i]? = some t) (h2 : W.tabs[i]? = some T) (P : List OR) : P ++ rW V (setW W i T') = (P ++ [rI V.g W.gens, rI V.f W.free, rT V.t V.ts, rV V.r W.res] ++ rTabs (V.ts.take i) (W.tabs.take i)) ++ (rTab t T' ++ rTabs (V.ts.drop (i + 1)) (W.tabs.drop (i + 1))) := by
 unfold rW setW
 dsimp only
 rw [rTabs_set h1 h2]
 simp
theorem OWf.setW {V : WV} {W : Wd} (h : OWf V W) {i q : Nat} {T : Tab} {L' : List V4} (h2 : W.tabs[i]? = some T) (ok : okVs L') : OWf V (setW W i (setT T q L')) := by
 refine ⟨?_, ?_, ?_, h.okr⟩
 ·
  show V.ts.length = (W.tabs.set _ _).length
  rw [List.length_set]; exact h.len
 ·
  intro j t U ht hU
  have hU : (W.tabs.set i (setT T q L'))[j]? = some U := hU
  by_cases e : j = i
  ·
   subst e
   rw [List.getElem?_set_self ((List.getElem?_eq_some_iff.1 h2).1)] at hU
   cases hU
   show _ = (T.cells.set _ _).length
   rw [List.length_set]; exact h.lens j t T ht h2
  rw [List.getElem?_set_ne (fun e' => e e'.symm)] at hU
  exact h.lens j t U ht hU
 intro U hU M hM
 have hU : U ∈ W.tabs.set i (setT T q L') := hU
 rcases List.mem_or_eq_of_mem_set hU with h' | rfl
 ·
  exact h.okc U h' M hM
 have hM : M ∈ T.cells.set q L' := hM
 rcases List.mem_or_eq_of_mem_set hM with h' | rfl
 ·
  exact h.okc T (List.mem_of_getElem? h2) M h'
 exact ok
theorem rV_set {w : World} {B g c : Nat} {L : List V4} {j : Nat} {p : V4} (hp : L[j]? = some p) (v : V4) (h : (rV (.slice (some ⟨g, 0, none⟩) L.length c) L).on w B) :
  (rV (.slice (some ⟨g, 0, none⟩) L.length c) (L.set j v)).on ((((w.setCell ⟨g, j * 4, none⟩ (.int .i64 v.1)).setCell ⟨g, j * 4 + 1, none⟩ (.int .i64 v.2.1)).setCell ⟨g, j * 4 + 2, none⟩ (.float .f64 v.2.2.1)).setCell ⟨g, j * 4 + 3, none⟩ (.float .f64 v.2.2.2)) B ∧
  w.grownBy ((((w.setCell ⟨g, j * 4, none⟩ (.int .i64 v.1)).setCell ⟨g, j * 4 + 1, none⟩ (.int .i64 v.2.1)).setCell ⟨g, j * 4 + 2, none⟩ (.float .f64 v.2.2.1)).setCell ⟨g, j * 4 + 3, none⟩ (.float .f64 v.2.2.2)) (some g) := by
 refine ⟨?_, grow_set (grow_set (grow_set (grow_set (grown_refl _ _) _ _) _ _) _ _) _ _⟩
 have hj := (List.getElem?_eq_some_iff.1 hp).1
 have e1 : L = L.take j ++ p :: L.drop (j + 1) := by rw [← drop_get hp, List.take_append_drop]
 have e2 : L.set j v = L.take j ++ v :: L.drop (j + 1) := by
  conv => lhs; rw [e1]
  rw [List.set_append_right _ _ (by simp; omega), List.length_take, Nat.min_eq_left (by omega), Nat.sub_self, List.set_cons_zero]
 have ea : ((L.take j).flatMap vcells).length = j * 4 := by rw [flat_len (k := 4) (f := vcells) (fun _ => rfl), List.length_take, Nat.min_eq_left (by omega)]
 have hr : w.ownsRow B 59 4 (.slice (some ⟨g, 0, none⟩) L.length c) L.length (L.flatMap vcells) := h
 have ef : L.flatMap vcells = (L.take j).flatMap vcells ++ (.int .i64 p.1 :: .int .i64 p.2.1 :: .float .f64 p.2.2.1 :: .float .f64 p.2.2.2 :: (L.drop (j + 1)).flatMap vcells) := by
  conv => lhs; rw [e1]
  rw [List.flatMap_append, List.flatMap_cons]
  rfl
 rw [ef] at hr
 have hput := own_put1 (i := j * 4) (u := .int .i64 v.1) hr ea.symm
 rw [List.append_cons] at hput
 have hput := own_put1 (i := j * 4 + 1) (u := .int .i64 v.2.1) hput (by simp [ea])
 rw [List.append_cons] at hput
 have hput := own_put1 (i := j * 4 + 2) (u := .float .f64 v.2.2.1) hput (by simp [ea])
 rw [List.append_cons] at hput
 have hput := own_put1 (i := j * 4 + 3) (u := .float .f64 v.2.2.2) hput (by simp [ea])
 show World.ownsRow _ _ _ _ _ (L.set j v).length ((L.set j v).flatMap vcells)
 rw [List.length_set, e2, List.flatMap_append, List.flatMap_cons]
 simp only [List.append_assoc, List.singleton_append] at hput
 exact hput
end
section
open Go.RowKit
theorem ownsRow_take {w : World} {B : Nat} {T : TypeId} {k n c : Nat} {s : Option Addr} {cs : List Value} (h : w.ownsRow B T k (.slice s n c) n cs) (m : Nat) (hm : m ≤ n) :
  w.ownsRow B T k (.slice s m c) m (cs.take (m * k)) := by
 have hmk : m * k ≤ n * k := Nat.mul_le_mul_right k hm
 refine ⟨by rw [List.length_take, h.1]; omega, ?_⟩
 rcases h.2 with ⟨h1, h2⟩ | ⟨g, cap, cur, h1, hb, hg, hc, hx, hsz, ht⟩
 ·
  have h3 : m = 0 := by omega
  subst h3
  simp only [Value.slice.injEq] at h1
  obtain ⟨rfl, _, rfl⟩ := h1
  exact Or.inl ⟨rfl, rfl⟩
 simp only [Value.slice.injEq] at h1
 obtain ⟨rfl, _, rfl⟩ := h1
 refine Or.inr ⟨g, c, cur, rfl, hb, hg, by omega, hx, hsz, ?_⟩
 rw [← ht, List.take_take, Nat.min_eq_left hmk]
def wo {α : Type} (L : List α) (i : Nat) : List α := match L[L.length - 1]? with
 | some x => (L.set i x).take (L.length - 1)
 | none => L
theorem wo_length {α : Type} {L : List α} {i : Nat} (h : i < L.length) : (wo L i).length = L.length - 1 := by
 unfold wo
 rw [List.getElem?_eq_getElem (by omega : L.length - 1 < L.length)]
 simp
theorem wo_get {α : Type} {L : List α} {i j : Nat} (h : i < L.length) (hj : j < L.length - 1) : (wo L i)[j]? = if j = i then L[L.length - 1]? else L[j]? := by
 unfold wo
 rw [List.getElem?_eq_getElem (by omega : L.length - 1 < L.length)]
 simp only
 rw [List.getElem?_take_of_lt hj, List.getElem?_set]
 by_cases e : i = j
 ·
  subst e
  rw [if_pos rfl, if_pos h, if_pos rfl]
 rw [if_neg e, if_neg (fun x => e x.symm)]
end
section
open Go.RowKit
theorem run_copyO (w : World) (dT sT ty e : TypeId) (i0 : TypeInfo) (k : Nat) (g o dLen dCap : Nat) (a : Addr) (sLen sCap : Nat) (cur : Array Value) (t : TypeId) (cs : List Value)
  (hu : Tryz.prog.underlying dT = some (.slice e)) (hi : Tryz.prog.info? e = some i0) (hz1 : i0.size = k) (hg : w.heap[g]? = some (.cells cur t (0, 0))) (hn : cs.length = Nat.min sLen dLen * k)
  (hsrc : ∀ j v, cs[j]? = some v → w.cell? (a.add j) = some v) (hfit : o + cs.length ≤ cur.size) (h1 : ∀ v ∈ cs, v.oneCell' = true) :
  (Builtin.copy_ #[dT, sT] ty #[.slice (some ⟨g, o, none⟩) dLen dCap, .slice (some a) sLen sCap]).run Tryz.prog w =
   .ok (goInt (Nat.min sLen dLen)) (w.setRow g (cur.toList.take o ++ cs ++ cur.toList.drop (o + cs.length)).toArray) := by
 have hl := run_loadCells_list (P := Tryz.prog) w a cs hsrc
 have hst := run_storeCells_at Tryz.prog g o t cs 0 cur w hg (by simpa using hfit) h1
 rw [hn] at hl
 simp [Builtin.copy_, run_underlying hu, Builtin.lenOf, Builtin.firstCells, sizeOf, typeInfo, hi, hz1, hl, hst]
def woc (k n i : Nat) (cs : List Value) : List Value := (cs.take (i * k) ++ cs.drop ((n - 1) * k) ++ cs.drop (i * k + k)).take ((n - 1) * k)
theorem without_own {w : World} (dT ty e : TypeId) (i0 : TypeInfo) (k : Nat) (hu : Tryz.prog.underlying dT = some (.slice e)) (hi : Tryz.prog.info? e = some i0) (hz1 : i0.size = k) {B n c : Nat} {s : Option Addr} {cs : List Value}
  (h : w.ownsRow B e k (.slice s n c) n cs) (i : Nat) (hin : i < n) (h1 : ∀ v ∈ cs, v.oneCell' = true) :
  ∃ g w', s = some ⟨g, 0, none⟩ ∧ n ≤ c ∧ (Builtin.copy_ #[dT, dT] ty #[.slice (some ⟨g, i * k, none⟩) (n - i) (c - i), .slice (some ⟨g, (n - 1) * k, none⟩) 1 (c - (n - 1))]).run Tryz.prog w = .ok (goInt 1) w' ∧
   w'.ownsRow B e k (.slice s (n - 1) c) (n - 1) (woc k n i cs) ∧ w.grownBy w' (some g) ∧ w'.heap.size = w.heap.size := by
 obtain ⟨hlen, hh⟩ := h
 rcases hh with ⟨_, h2⟩ | ⟨g, cap, cur, h2, hb, hg, hc, hx, hsz, ht⟩
 ·
  omega
 simp only [Value.slice.injEq] at h2
 obtain ⟨rfl, _, rfl⟩ := h2
 have e0 : (n - 1) * k + k = n * k := by
  have : n - 1 + 1 = n := by omega
  rw [← Nat.succ_mul, Nat.succ_eq_add_one, this]
 have e1 : i * k + k ≤ n * k := by rw [← Nat.succ_mul]; exact Nat.mul_le_mul_right k (by omega)
 have e2 : n * k ≤ c * k := Nat.mul_le_mul_right k hc
 have l1 : (cs.drop ((n - 1) * k)).length = k := by rw [List.length_drop, hlen]; omega
 have hm : Nat.min 1 (n - i) = 1 := by show min 1 (n - i) = 1; omega
 have hrun := run_copyO w dT dT ty e i0 k g (i * k) (n - i) (c - i) ⟨g, (n - 1) * k, none⟩ 1 (c - (n - 1)) cur _ (cs.drop ((n - 1) * k)) hu hi hz1 hg (by rw [l1, hm, Nat.one_mul]) (by
  intro j v hv
  have hj : j < k := by have := (List.getElem?_eq_some_iff.1 hv).1; omega
  rw [List.getElem?_drop, ← ht, List.getElem?_take_of_lt (by omega)] at hv
  rw [Go.WideShapes.add_plain]
  simp only [World.cell?, hg]
  simpa using hv) (by rw [l1, hsz]; omega) (fun v hv => h1 v (List.mem_of_mem_drop hv))
 rw [hm, l1] at hrun
 refine ⟨g, _, rfl, hc, hrun, ⟨?_, Or.inr ⟨g, c, _, rfl, hb, setRow_heap w g _ _ _ _ hg, by omega, hx, ?_, ?_⟩⟩, ⟨rfl, rfl, rfl, ?_, ?_⟩, ?_⟩
 ·
  unfold woc
  simp only [List.length_take, List.length_append, List.length_drop, hlen]
  omega
 ·
  simp only [List.size_toArray, List.length_append, List.length_take, List.length_drop, Array.length_toList, hsz, hlen]
  omega
 ·
  unfold woc
  rw [List.toList_toArray]
  have ha : List.take (i * k) cur.toList = List.take (i * k) cs := by rw [← ht, List.take_take, Nat.min_eq_left (by omega)]
  rw [ha]
  have hl2 : (List.take (i * k) cs ++ List.drop ((n - 1) * k) cs).length = i * k + k := by rw [List.length_append, l1, List.length_take, hlen]; omega
  generalize List.take (i * k) cs ++ List.drop ((n - 1) * k) cs = Q at hl2
  apply List.ext_getElem?
  intro j
  by_cases hj : j < (n - 1) * k
  ·
   rw [List.getElem?_take_of_lt hj, List.getElem?_take_of_lt hj]
   by_cases h7 : j < i * k + k
   ·
    rw [List.getElem?_append_left (by omega), List.getElem?_append_left (by omega)]
   rw [List.getElem?_append_right (by omega), List.getElem?_append_right (by omega), hl2, List.getElem?_drop, List.getElem?_drop, ← ht, List.getElem?_take_of_lt (by omega)]
  rw [List.getElem?_eq_none (by rw [List.length_take]; omega), List.getElem?_eq_none (by rw [List.length_take]; omega)]
 ·
  rw [setRow_size]; exact Nat.le_refl _
 ·
  intro q hq hne
  exact setRow_other w g q _ (fun e => hne (by rw [e]))
 exact setRow_size _ _ _
end
section
open Go.RowKit
theorem flat_take {α : Type} {k : Nat} {f : α → List Value} (hf : ∀ a, (f a).length = k) : ∀ (L : List α) (m : Nat), (L.take m).flatMap f = (L.flatMap f).take (m * k)
 | [], m => by simp
 | a :: L, 0 => by simp
 | a :: L, m + 1 => by
  rw [List.take_succ_cons, List.flatMap_cons, List.flatMap_cons, flat_take hf L m, List.take_append, List.take_of_length_le (l := f a) (by rw [hf, Nat.succ_mul]; omega), hf, Nat.succ_mul, Nat.add_sub_cancel]
theorem flat_drop {α : Type} {k : Nat} {f : α → List Value} (hf : ∀ a, (f a).length = k) : ∀ (L : List α) (m : Nat), (L.drop m).flatMap f = (L.flatMap f).drop (m * k)
 | [], m => by simp
 | a :: L, 0 => by simp
 | a :: L, m + 1 => by
  rw [List.drop_succ_cons, List.flatMap_cons, flat_drop hf L m, List.drop_append, (List.drop_eq_nil_of_le (by rw [hf, Nat.succ_mul]; omega) : List.drop ((m + 1) * k) (f a) = []), hf, Nat.succ_mul, Nat.add_sub_cancel, List.nil_append]
theorem woc_flat {α : Type} {k : Nat} {f : α → List Value} (hf : ∀ a, (f a).length = k) {L : List α} {i : Nat} (h : i < L.length) : woc k L.length i (L.flatMap f) = (wo L i).flatMap f := by
 unfold woc wo
 have hx : L[L.length - 1]? = some L[L.length - 1] := List.getElem?_eq_getElem (by omega)
 rw [hx]
 simp only
 have e1 : L.drop (L.length - 1) = [L[L.length - 1]] := by
  rw [List.drop_eq_getElem_cons (by omega), List.drop_eq_nil_of_le (by omega)]
 rw [flat_take hf, List.set_eq_take_append_cons_drop, if_pos h, List.flatMap_append, List.flatMap_cons, flat_take hf, flat_drop hf, ← flat_drop hf L (L.length - 1), e1, Nat.succ_mul]
 simp
end
end Go.Proofs.YtkihhadcoclnaaaGreat
