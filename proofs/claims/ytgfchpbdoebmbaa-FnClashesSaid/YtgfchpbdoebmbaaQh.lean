import Derived.Test.YtgfchpbdoebmbaaQg
import Derived.Shelf.Sort.Plain
import Derived.Shelf.Slices.In.SortNone
import Derived.Shelf.Slices.CompactI
import Derived.Lib.SortBridge
import Derived.Shelf.Lay
import Derived.Ground.NamesProg
namespace Go.Proofs
open Go.Shelf
shelf_lay Lays.n189 Nm 189 at Try as Try.laysSortI
shelf_lay Lays2.n20 Nm2 20 at Try as Try.laysCompactI
end Go.Proofs
namespace Go.Proofs.Ytgfchpbdoebmbaa
open Go.RowKit
set_option linter.unusedVariables false
set_option linter.unusedSimpArgs false

/-! a sorted list without its repetitions -/
theorem arr_get {M : List Int} {j : Nat} (h : j < M.length) : M.toArray[j]! = M[j] := by simp [h]
theorem compact_part {M : List Int} (hM : M.Pairwise (· ≤ ·)) : ∀ m, m ≤ M.length → Asc (Lib.compactUpTo M.toArray m) ∧ (∀ x, x ∈ Lib.compactUpTo M.toArray m ↔ x ∈ M.take m) ∧ (Lib.compactUpTo M.toArray m).length ≤ m
  | 0, _ => ⟨by simp [Lib.compactUpTo, Asc], by simp [Lib.compactUpTo], by simp [Lib.compactUpTo]⟩
  | m + 1, h => by
    have hm : m < M.length := by omega
    obtain ⟨h1, h2, h3⟩ := compact_part hM m (by omega)
    rw [Lib.compactUpTo_succ]
    have hx : M[m]? = some M[m] := by simp [hm]
    by_cases hk : Lib.keeps M.toArray m = true
    · rw [if_pos hk, arr_get hm]
      refine ⟨List.pairwise_append.2 ⟨h1, by simp, fun a ha b hb => ?_⟩, fun x => ?_, by simp; omega⟩
      · simp at hb
        subst hb
        have ha := (h2 a).1 ha
        obtain ⟨j, hj, e⟩ := List.getElem_of_mem ha
        rw [List.length_take] at hj
        rw [List.getElem_take] at e
        unfold Lib.keeps at hk
        have hk := of_decide_eq_true hk
        rcases hk with hk | hk
        · omega
        · rw [arr_get hm, arr_get (by omega)] at hk
          have l1 : M[m - 1] ≤ M[m] := List.pairwise_iff_getElem.1 hM (m - 1) m (by omega) hm (by omega)
          have l2 : M[j] ≤ M[m - 1] := by
            by_cases e2 : j = m - 1
            · subst e2; exact Int.le_refl _
            · exact List.pairwise_iff_getElem.1 hM j (m - 1) (by omega) (by omega) (by omega)
          omega
      · rw [List.mem_append, h2 x, mem_take_succ hx]
        simp
    · rw [if_neg hk]
      refine ⟨by simpa using h1, fun x => ?_, by simp; omega⟩
      rw [List.append_nil, h2 x, mem_take_succ hx]
      refine ⟨Or.inl, fun hor => ?_⟩
      rcases hor with hor | rfl
      · exact hor
      · unfold Lib.keeps at hk
        have hk : ¬ (m = 0 ∨ M.toArray[m]! ≠ M.toArray[m - 1]!) := fun q => hk (decide_eq_true q)
        have h0 : m ≠ 0 := fun q => hk (Or.inl q)
        have h5 : M.toArray[m]! = M.toArray[m - 1]! := Classical.byContradiction fun q => hk (Or.inr q)
        rw [arr_get hm, arr_get (by omega)] at h5
        rw [h5]
        exact List.mem_iff_getElem.2 ⟨m - 1, by rw [List.length_take]; omega, by rw [List.getElem_take]⟩
theorem srt_compact (L : List Int) : Srt L (Lib.compact (L.mergeSort fun x y => decide (x ≤ y))) := by
  have hM : (L.mergeSort fun x y => decide (x ≤ y)).Pairwise (· ≤ ·) := by
    have := List.pairwise_mergeSort (le := fun x y : Int => decide (x ≤ y)) (fun a b c h1 h2 => by simp at *; omega) (fun a b => by simp; omega) L
    exact this.imp (fun h => by simpa using h)
  obtain ⟨h1, h2, h3⟩ := compact_part hM _ (Nat.le_refl _)
  refine ⟨h1, fun x => ?_, ?_⟩
  · rw [show Lib.compact (L.mergeSort fun x y => decide (x ≤ y)) = Lib.compactUpTo _ _ from rfl, h2 x, List.take_length, List.mem_mergeSort]
  · have := List.length_mergeSort (le := fun x y : Int => decide (x ≤ y)) L
    unfold Lib.compact
    omega

/-! a row of one's own, written over -/
theorem putCells_head (d : Array Int) (c : Array Value) (h : d.size ≤ c.size) : (Sort.putCells (Value.int .i64) 0 d c).toList.take d.size = d.toList.map (Value.int .i64) := by
  apply List.ext_getElem?
  intro j
  rw [List.getElem?_take]
  by_cases hj : j < d.size
  · rw [if_pos hj]
    have hc : j < c.size := by omega
    simp [Sort.putCells, hj, hc]
  · rw [if_neg hj]
    symm
    rw [List.getElem?_eq_none_iff]
    simp; omega
theorem OI.rowed {w : World} {B g cap n : Nat} {L : List Int} (h : OI w B (.slice (some ⟨g, 0, none⟩) L.length cap) L) (d : List Int) (hd : d.length = L.length) (os : Array Obj) (m : Nat) (hm : m ≤ d.length) :
    OI (Sort.grow (Sort.putRow (Value.int .i64) (Sort.ahead w n) g 0 d.toArray) os) B (.slice (some ⟨g, 0, none⟩) m cap) (d.take m) := by
  have hlen : (d.take m).length = m := by rw [List.length_take]; omega
  obtain ⟨h1, h2⟩ := h
  rcases h2 with ⟨h2, _⟩ | ⟨g', cap', cur, e, hb, hg, hc, hx, hs, ht⟩
  · cases h2
  · cases e
    have hg1 : g < w.heap.size := (Array.getElem?_eq_some_iff.1 hg).1
    unfold OI
    rw [hlen]
    refine ⟨by simp; omega, Or.inr ⟨g, cap, Sort.putCells (Value.int .i64) 0 d.toArray cur, rfl, hb, ?_, by omega, hx, by simpa [Sort.putCells] using hs, ?_⟩⟩
    · rw [Sort.heap_grow_old _ _ (by simpa using hg1)]
      simp only [Sort.putRow, Sort.mapBlock, Sort.heap_ahead, Array.getElem?_modify, if_true, hg]
      rfl
    · have := putCells_head d.toArray cur (by simp; omega)
      have h5 := congrArg (List.take (m * 1)) this
      rw [List.take_take] at h5
      rw [show min (m * 1) d.toArray.size = m * 1 by simp; omega] at h5
      rw [h5]
      simp [List.map_take]
theorem below_rowed {w W : World} {B g n : Nat} (h : Below B W w) (hg : B ≤ g) (hB : B ≤ w.heap.size) (d : Array Int) (os : Array Obj) : Below B W (Sort.grow (Sort.putRow (Value.int .i64) (Sort.ahead w n) g 0 d) os) := by
  refine h.trans ⟨rfl, rfl, rfl, by simp, fun k hk => ?_⟩
  rw [Sort.heap_grow_old _ _ (by simp; omega)]
  simp only [Sort.putRow, Sort.mapBlock, Sort.heap_ahead, Array.getElem?_modify]
  rw [if_neg (by omega)]
theorem OI.holds {w : World} {B g cap : Nat} {L : List Int} (h : OI w B (.slice (some ⟨g, 0, none⟩) L.length cap) L) : Sort.Holds (Value.int .i64) w g 0 L.toArray := by
  obtain ⟨h1, h2⟩ := h
  rcases h2 with ⟨h2, _⟩ | ⟨g', cap', cur, e, hb, hg, hc, hx, hs, ht⟩
  · cases h2
  · cases e
    intro j hj
    have hj : j < L.length := by simpa using hj
    rw [Nat.zero_add]
    refine ⟨?_, frozen_of_row w g j cur _ hg⟩
    rw [cell_of_row w g j cur _ (0, 0) hg, arr_get hj]
    have := congrArg (fun l => l[j]?) ht
    simp only [List.getElem?_take, List.getElem?_map] at this
    rw [if_pos (by omega)] at this
    simpa [hj] using this

/-- sorted in its place. -/
theorem sort_own (s : Option Addr) (c B : Nat) (L : List Int) (w W : World) (h : OI w B (.slice s L.length c) L) (hb : Below B W w) (hB : B ≤ w.heap.size) (hl : L.length < 4611686018427387904) :
    Calls Try.prog 44 #[.slice s L.length c] w fun e w' => (e = .returned (.tuple #[]) ∧ OI w' B (.slice s L.length c) (L.mergeSort fun x y => decide (x ≤ y))) ∧ Below B W w' ∧ B ≤ w'.heap.size := by
  rcases h.form with ⟨e, rfl⟩ | ⟨g, cap, e, hg, hgw, hc⟩
  · cases e
    refine (Any.slices_Sort_int_none Try.laysSortI none 0 w).mono ?_
    rintro e w' ⟨rfl, rfl⟩
    exact ⟨⟨rfl, by simpa using h⟩, hb, hB⟩
  · cases e
    refine (Any.slices_Sort_int Try.laysSortI g 0 c L w h.holds hgw hl).mono ?_
    rintro e w' ⟨rfl, n, os, rfl⟩
    have hln := List.length_mergeSort (le := fun x y : Int => decide (x ≤ y)) L
    have := h.rowed (n := n) (L.mergeSort fun x y => decide (x ≤ y)) hln os L.length (by omega)
    rw [show L.length = (L.mergeSort fun x y => decide (x ≤ y)).length from hln.symm, List.take_length] at this
    rw [← hln]
    exact ⟨⟨rfl, this⟩, below_rowed hb hg hB _ _, by simp; omega⟩
/-- the repetitions gone. -/
theorem compact_own (s : Option Addr) (c B : Nat) (L : List Int) (w W : World) (h : OI w B (.slice s L.length c) L) (hb : Below B W w) (hB : B ≤ w.heap.size) (hl : L.length < 4611686018427387904) :
    Calls Try.prog 45 #[.slice s L.length c] w fun e w' => (e = .returned (.slice s (Lib.compact L).length c) ∧ OI w' B (.slice s (Lib.compact L).length c) (Lib.compact L)) ∧ Below B W w' := by
  rcases h.form with ⟨e, rfl⟩ | ⟨g, cap, e, hg, hgw, hc⟩
  · cases e
    refine (Any.slices_Compact_int_empty Try.laysCompactI none 0 w).mono ?_
    rintro e w' ⟨rfl, rfl⟩
    exact ⟨⟨rfl, h⟩, hb⟩
  · cases e
    refine (Any.slices_Compact_int Try.laysCompactI g 0 c L w h.holds (by omega) hc).mono ?_
    rintro e w' ⟨rfl, n, rfl⟩
    have hle := Lib.compact_length_le L
    have := h.rowed (n := n) (Lib.compact L ++ List.replicate (L.length - (Lib.compact L).length) 0) (by simp; omega) #[] (Lib.compact L).length (by simp)
    rw [List.take_left, Sort.grow_empty] at this
    have hbb := below_rowed (n := n) hb hg hB (Lib.compact L ++ List.replicate (L.length - (Lib.compact L).length) 0).toArray #[]
    rw [Sort.grow_empty] at hbb
    exact ⟨⟨rfl, this⟩, hbb⟩
end Go.Proofs.Ytgfchpbdoebmbaa
