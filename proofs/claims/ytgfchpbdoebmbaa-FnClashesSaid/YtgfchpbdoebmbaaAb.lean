import Derived.Test.YtgfchpbdoebmbaaAa
import Derived.ChangeKeysEq
import Derived.Laws.CopyOwn
namespace Go.Proofs.Ytgfchpbdoebmbaa
open Go.RowKit
set_option linter.unusedVariables false
set_option linter.unusedSimpArgs false

/-- booleans, as cells. -/
def tch (xs : List Bool) : Array Value := (xs.map Value.bool).toArray
theorem tch_size (xs : List Bool) : (tch xs).size = xs.length := by simp [tch]
theorem tch_cell {xs : List Bool} {d : Nat} (h : d < xs.length) : (tch xs)[d]? = some (.bool (xs.getD d false)) := by simp [tch, h]
theorem tch_set (xs : List Bool) (d : Nat) (x : Bool) : (tch xs).setIfInBounds d (.bool x) = tch (xs.set d x) := by simp [tch, List.map_set]
theorem tch_one (xs : List Bool) : (tch xs).all (·.oneCell') = true := by
  rw [Array.all_eq_true_iff_forall_mem]
  intro v hv
  simp only [tch, List.mem_toArray, List.mem_map] at hv
  obtain ⟨x, _, rfl⟩ := hv
  rfl
def seg (i : Nat) (xs : List Bool) : List Bool := (xs.drop (i * 12)).take 12
theorem seg_len {i : Nat} {xs : List Bool} (hi : i < 9) (h : xs.length = 108) : (seg i xs).length = 12 := by simp [seg]; omega
theorem tch_extract (xs : List Bool) (i : Nat) : (tch xs).extract (i * 12) (i * 12 + 12) = tch (seg i xs) := by
  apply Array.ext_getElem?
  intro j
  simp only [tch, seg, Array.getElem?_extract, List.getElem?_toArray, List.getElem?_map, List.getElem?_take, List.getElem?_drop, List.size_toArray, List.length_map]
  by_cases h1 : j < 12
  · by_cases h2 : i * 12 + j < xs.length
    · simp [h1, h2, show j < min (i * 12 + 12) xs.length - i * 12 by omega]
    · simp [h1, h2, show xs.length ≤ i * 12 + j by omega]
  · simp [h1, show ¬ j < min (i * 12 + 12) xs.length - i * 12 by omega]

theorem Try.infoBo : (Try.prog.info? 4).map (fun i => (i.zero, i.size, i.bytes)) = some (some (.bool false), 1, 1) := by kernel_rfl
theorem Try.cellsB : Try.prog.cellsOf 4 = 1 := by kernel_rfl
theorem bit_items (d : Nat) (xs ys : List Bool) (hx : xs.length = 12) (hy : ys.length = 12) (w : World) : ∀ (l : List Nat), (∀ i ∈ l, i < 12) →
    (Op.eqItems (d + 1) 4 1 (tch xs) (tch ys) l).run Try.prog w = .ok (l.all fun i => xs.getD i false == ys.getD i false) w := by
  intro l
  induction l with
  | nil => intro _; simp [Op.eqItems]
  | cons i l ih =>
    intro hl
    have hi : i < 12 := hl i (by simp)
    have px : (Go.part 4 (tch xs) (i * 1)).run Try.prog w = .ok (.bool (xs.getD i false)) w := by
      simp [Go.part, isAgg, run_underlying Try.underlying4, tch, show i < xs.length by omega]
    have py : (Go.part 4 (tch ys) (i * 1)).run Try.prog w = .ok (.bool (ys.getD i false)) w := by
      simp [Go.part, isAgg, run_underlying Try.underlying4, tch, show i < ys.length by omega]
    have pe := run_equalIn_bool (P := Try.prog) w d 4 (xs.getD i false) (ys.getD i false) Try.underlying4
    simp only [Op.eqItems, Sem.run_bind, px, py, pe, Result.andThen_ok, List.all_cons]
    cases hb : (xs.getD i false == ys.getD i false)
    · simp
    · simpa using ih fun j hj => hl j (by simp [hj])
theorem all_list (n : Nat) (xs ys : List Bool) (hx : xs.length = n) (hy : ys.length = n) : ((List.range n).all fun i => xs.getD i false == ys.getD i false) = decide (xs = ys) := by
  rw [Bool.eq_iff_iff, List.all_eq_true, decide_eq_true_eq]
  constructor
  · intro h
    apply List.ext_getElem (by omega)
    intro i h1 h2
    have := h i (by simp; omega)
    rw [beq_iff_eq] at this
    simpa [h1, h2] using this
  · rintro rfl i hi
    simp
theorem seg_all (xs ys : List Bool) (hx : xs.length = 108) (hy : ys.length = 108) : ((List.range 9).all fun i => decide (seg i xs = seg i ys)) = decide (xs = ys) := by
  rw [Bool.eq_iff_iff, List.all_eq_true, decide_eq_true_eq]
  constructor
  · intro h
    apply List.ext_getElem (by omega)
    intro i h1 h2
    have := of_decide_eq_true (h (i / 12) (by simp; omega))
    have := congrArg (fun l => l[i % 12]?) this
    simp only [seg, List.getElem?_take, List.getElem?_drop, show i % 12 < 12 by omega, if_true, show i / 12 * 12 + i % 12 = i by omega] at this
    simpa [h1, h2] using this
  · rintro rfl i hi
    simp
theorem run_storeCells_row (w : World) (g : Nat) (t ty : TypeId) (old cells : Array Value) (hg : w.heap[g]? = some (.cells old t (0, 0))) (hi : (Try.prog.info? ty).map (·.size) = some cells.size)
    (ho : old.size = cells.size) (h1 : cells.all (·.oneCell') = true) : (storeCells ⟨g, 0, none⟩ cells.toList 0).run Try.prog w = .ok () (w.setRow g cells) := by
  have := run_storeVar_row (P := Try.prog) w g t ty old cells hg hi ho h1
  cases hq : Try.prog.info? ty with
  | none => simp [hq] at hi
  | some i =>
    have hs : cells.size = i.size := by simp [hq] at hi; omega
    simpa [storeVar, sizeOf, typeInfo, hq, Value.cells, hs] using this
/-- the set of flags alone. -/
def flg (a b : Bool) : List Bool := ((List.replicate 108 false).set 96 a).set 97 b
theorem flg_len (a b : Bool) : (flg a b).length = 108 := by simp [flg]
theorem flg_none : flg false false = List.replicate 108 false := by decide
theorem flg_inj {a b c d : Bool} : flg a b = flg c d ↔ a = c ∧ b = d := by
  cases a <;> cases b <;> cases c <;> cases d <;> decide

end Go.Proofs.Ytgfchpbdoebmbaa
