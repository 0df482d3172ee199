import Derived.Test.YtgcfhoojjgcpiaaAl
import Derived.Test.YtgcfhoojjgcpiaaBb
namespace Go.Proofs.Ytgcfhoojjgcpiaa
open Go.RowKit
set_option linter.unusedVariables false
set_option linter.unusedSimpArgs false

set_option maxRecDepth 100000 in
set_option maxHeartbeats 4000000 in
theorem effectOf_any (p0 p1 p2 p3 p4 p5 p6 p7 : Option Addr) (m0 m1 m2 m3 m4 m5 m6 m7 n0 n1 n2 n3 n4 n5 n6 n7 : Nat) (x y : Bool) (w : World) :
    Calls Try.prog 31 #[.agg #[.slice p0 m0 n0, .slice p1 m1 n1, .slice p2 m2 n2, .slice p3 m3 n3, .slice p4 m4 n4, .slice p5 m5 n5, .slice p6 m6 n6, .slice p7 m7 n7], .agg (tch (flg x y))] w fun z w' => z = .returned (.agg #[.slice p0 m0 n0, .slice p1 m1 n1, .slice p2 m2 n2, .slice p3 m3 n3, .slice p4 m4 n4, .slice p5 m5 n5, .slice p6 m6 n6, .slice p7 m7 n7, .bool x, .bool y]) ∧ Below w.heap.size w w' := by
  obtain ⟨k0, k1, k2, L0⟩ := blkThreeE w #[.slice p0 m0 n0, .slice p1 m1 n1, .slice p2 m2 n2, .slice p3 m3 n3, .slice p4 m4 n4, .slice p5 m5 n5, .slice p6 m6 n6, .slice p7 m7 n7] (tch (flg x y)) #[.slice none 0 0, .slice none 0 0, .slice none 0 0, .slice none 0 0, .slice none 0 0, .slice none 0 0, .slice none 0 0, .slice none 0 0, .bool false, .bool false] 46 44 27
  have c96 := k1.cell 96
  have c97 := k1.cell 97
  rw [tch_cell (by rw [flg_len]; omega), show (flg x y).getD 96 false = x by cases x <;> cases y <;> decide] at c96
  rw [tch_cell (by rw [flg_len]; omega), show (flg x y).getD 97 false = y by cases x <;> cases y <;> decide] at c97
  have hk := setRow_heap _ (w.heap.size + 1 + 1) _ (#[.slice p0 m0 n0, .slice p1 m1 n1, .slice p2 m2 n2, .slice p3 m3 n3, .slice p4 m4 n4, .slice p5 m5 n5, .slice p6 m6 n6, .slice p7 m7 n7, .bool x, .bool y]) _ _ k2
  have hbX := below_setRow L0 (show w.heap.size ≤ w.heap.size + 1 + 1 by omega) (#[.slice p0 m0 n0, .slice p1 m1 n1, .slice p2 m2 n2, .slice p3 m3 n3, .slice p4 m4 n4, .slice p5 m5 n5, .slice p6 m6 n6, .slice p7 m7 n7, .bool x, .bool y])
  have y0 := k0.cell 0
  have y1 := k0.cell 1
  have y2 := k0.cell 2
  have y3 := k0.cell 3
  have y4 := k0.cell 4
  have y5 := k0.cell 5
  have y6 := k0.cell 6
  have y7 := k0.cell 7
  have ho : ((tch (flg x y)).all (·.oneCell')) = true := tch_one _
  generalize hT : tch (flg x y) = T at k1 hk hbX L0 k2 c96 c97 y0 y1 y2 y3 y4 y5 y6 y7 ho k0 ⊢
  clear hT
  go_enter Try.func31, Try.ntmps31
  go_wp2_with (refine wpList_store_row rfl 27 (.tmp 4) (.tmp 27) rfl _ #[.slice p0 m0 n0, .slice p1 m1 n1, .slice p2 m2 n2, .slice p3 m3 n3, .slice p4 m4 n4, .slice p5 m5 n5, .slice p6 m6 n6, .slice p7 m7 n7, .bool x, .bool y] rfl rfl _ _ k2 (by rw [Try.infoEf]; rfl) rfl one10 ?_)
  refine bodyPost_ret (v := .agg #[.slice p0 m0 n0, .slice p1 m1 n1, .slice p2 m2 n2, .slice p3 m3 n3, .slice p4 m4 n4, .slice p5 m5 n5, .slice p6 m6 n6, .slice p7 m7 n7, .bool x, .bool y]) (results_cell_row (P := Try.prog) Try.results31 _ _ (w.heap.size + 1 + 1) _ _ _ _ rfl hk Try.underlying27 rfl (by rw [Try.infoEf]; rfl)) rfl ⟨rfl, hbX⟩

def upd {α : Type} (f : Nat → α) (k : Nat) (v : α) : Nat → α := fun j => if j = k then v else f j
theorem upd_at {α : Type} (f : Nat → α) (k : Nat) (v : α) : upd f k v k = v := by simp [upd]
theorem upd_off {α : Type} (f : Nat → α) {k j : Nat} (v : α) (h : ¬ j = k) : upd f k v j = f j := by simp [upd, h]
/-- eight lists, the first k of them made. -/
def rowP (P : Nat → Option Addr) (Cp : Nat → Nat) (R : Nat → List Int) (k : Nat) : Array Value := ((List.range 8).map fun j => if j < k then Value.slice (P j) (R j).length (Cp j) else .slice none 0 0).toArray
theorem rowP_size (P : Nat → Option Addr) (Cp : Nat → Nat) (R : Nat → List Int) (k : Nat) : (rowP P Cp R k).size = 8 := by simp [rowP]
theorem rowP_cell (P : Nat → Option Addr) (Cp : Nat → Nat) (R : Nat → List Int) {k : Nat} (h : k < 8) : (rowP P Cp R k)[k]? = some (.slice none 0 0) := by simp [rowP, h]
theorem rowP_set (P : Nat → Option Addr) (Cp : Nat → Nat) (R : Nat → List Int) {k : Nat} (h : k < 8) (s : Option Addr) (c : Nat) (L : List Int) : (rowP P Cp R k).setIfInBounds k (.slice s L.length c) = rowP (upd P k s) (upd Cp k c) (upd R k L) (k + 1) := by
  apply Array.ext_getElem?
  intro j
  rw [Array.getElem?_setIfInBounds]
  by_cases e : k = j
  · subst e
    simp [rowP, h, upd]
  · rw [if_neg e]
    by_cases hj : j < 8
    · have : (j < k + 1) = (j < k) := by simp; omega
      simp [rowP, hj, this, upd, Ne.symm e]
    · simp [rowP, hj]
/-- own lists, one made behind the other. -/
def Ch (w : World) (lo : Nat) (P : Nat → Option Addr) (Cp N : Nat → Nat) (R : Nat → List Int) (k : Nat) : Prop :=
  lo ≤ N 0 ∧ (∀ j, j < k → N j ≤ N (j + 1)) ∧ (∀ j, j < k → OI w (N j) (.slice (P j) (R j).length (Cp j)) (R j) ∧ ∀ g, (Value.slice (P j) (R j).length (Cp j)).ownBlock = some g → g < N (j + 1)) ∧ N k ≤ w.heap.size
theorem Ch.mono_N {w : World} {lo : Nat} {P : Nat → Option Addr} {Cp N : Nat → Nat} {R : Nat → List Int} {k : Nat} (h : Ch w lo P Cp N R k) : ∀ j i, i ≤ j → j ≤ k → N i ≤ N j := by
  intro j
  induction j with
  | zero => intro i hi _; rw [show i = 0 by omega]; exact Nat.le_refl _
  | succ j ih =>
    intro i hi hj
    by_cases e : i = j + 1
    · rw [e]; exact Nat.le_refl _
    · exact Nat.le_trans (ih i (by omega) (by omega)) (h.2.1 j (by omega))
theorem Ch.start (w : World) (P : Nat → Option Addr) (Cp : Nat → Nat) (R : Nat → List Int) : Ch w w.heap.size P Cp (fun _ => w.heap.size) R 0 := ⟨Nat.le_refl _, fun j h => by omega, fun j h => by omega, Nat.le_refl _⟩
theorem Ch.later {w w' : World} {lo : Nat} {P : Nat → Option Addr} {Cp N : Nat → Nat} {R : Nat → List Int} {k : Nat} (h : Ch w lo P Cp N R k) (hb : Below w.heap.size w w') : Ch w' lo P Cp N R k :=
  ⟨h.1, h.2.1, fun j hj => ⟨(h.2.2.1 j hj).1.later hb, (h.2.2.1 j hj).2⟩, Nat.le_trans h.2.2.2 hb.size⟩
theorem Ch.same {w w' : World} {lo : Nat} {P : Nat → Option Addr} {Cp N : Nat → Nat} {R : Nat → List Int} {k : Nat} (h : Ch w lo P Cp N R k) (hs : ∀ g, lo ≤ g → w'.heap[g]? = w.heap[g]?) (hz : w.heap.size ≤ w'.heap.size) : Ch w' lo P Cp N R k :=
  ⟨h.1, h.2.1, fun j hj => ⟨(h.2.2.1 j hj).1.same (fun g hg => hs g (by have := ((h.2.2.1 j hj).1.lt g hg).1; have := h.mono_N j 0 (by omega) (by omega); have := h.1; omega)), (h.2.2.1 j hj).2⟩, Nat.le_trans h.2.2.2 hz⟩
theorem Ch.lower {w : World} {lo lo' : Nat} {P : Nat → Option Addr} {Cp N : Nat → Nat} {R : Nat → List Int} {k : Nat} (h : Ch w lo P Cp N R k) (hl : lo' ≤ lo) : Ch w lo' P Cp N R k := ⟨Nat.le_trans hl h.1, h.2⟩
theorem Ch.congr {w : World} {lo : Nat} {P : Nat → Option Addr} {Cp N : Nat → Nat} {R R' : Nat → List Int} {k : Nat} (h : Ch w lo P Cp N R k) (e : ∀ j, j < k → R' j = R j) : Ch w lo P Cp N R' k :=
  ⟨h.1, h.2.1, fun j hj => by rw [e j hj]; exact h.2.2.1 j hj, h.2.2.2⟩
theorem Ch.push {w w' : World} {lo : Nat} {P : Nat → Option Addr} {Cp N : Nat → Nat} {R : Nat → List Int} {k : Nat} (h : Ch w lo P Cp N R k) {s : Option Addr} {c : Nat} {L : List Int} (o : OI w' w.heap.size (.slice s L.length c) L) (hb : Below w.heap.size w w') :
    Ch w' lo (upd P k s) (upd Cp k c) (upd N (k + 1) w'.heap.size) (upd R k L) (k + 1) := by
  have h' := h.later hb
  refine ⟨?_, fun j hj => ?_, fun j hj => ?_, ?_⟩
  · rw [upd_off _ _ (by omega)]; exact h.1
  · by_cases e : j = k
    · subst e
      rw [upd_at, upd_off _ _ (by omega)]
      exact Nat.le_trans h.2.2.2 hb.size
    · rw [upd_off _ _ (by omega), upd_off _ _ (by omega)]
      exact h.2.1 j (by omega)
  · by_cases e : j = k
    · subst e
      rw [upd_at, upd_at, upd_at, upd_at, upd_off _ _ (by omega)]
      exact ⟨o.mono h.2.2.2, fun g hg => (o.lt g hg).2⟩
    · rw [upd_off _ _ e, upd_off _ _ e, upd_off _ _ e, upd_off _ _ (by omega), upd_off _ _ (by omega)]
      exact h'.2.2.1 j (by omega)
  · rw [upd_at]; exact Nat.le_refl _
end Go.Proofs.Ytgcfhoojjgcpiaa
