import Derived.Test.YtbgeobpdojmdaaaDoorG50
import Derived.Laws.CopyOwn
namespace Go.Proofs.YtbgeobpdojmdaaaDoor
open Go.RowKit
set_option linter.unusedVariables false
set_option linter.unusedSimpArgs false

/-- rows ahead of k are done, row k as far as j. -/
def ptr (F Q : Nat → Nat → Bool) (k j : Nat) (i : Nat) : Nat → Bool := if i < k then thr F Q i else if i = k then (fun y => (List.range j).any fun x => F k x && Q x y) else fun _ => false
theorem ptr_at (F Q : Nat → Nat → Bool) (k j : Nat) : ptr F Q k j k = fun y => (List.range j).any fun x => F k x && Q x y := by simp [ptr]
theorem ptr_zero (F Q : Nat → Nat → Bool) : lk (fun _ _ => false) = lk (ptr F Q 0 0) := lk_congr fun i j _ _ => by
  unfold ptr; simp
theorem ptr_hit (F Q : Nat → Nat → Bool) (k j : Nat) (h : F k j = true) : lk (fun i => if i = k then (fun y => ptr F Q k j k y || Q j y) else ptr F Q k j i) = lk (ptr F Q k (j + 1)) := lk_congr fun i y _ _ => by
  by_cases e : i = k
  · subst e
    rw [if_pos rfl, ptr_at, ptr_at, List.range_succ]
    simp [List.any_append, h]
  · rw [if_neg e]; simp [ptr, e]
theorem ptr_miss (F Q : Nat → Nat → Bool) (k j : Nat) (h : F k j = false) : lk (ptr F Q k j) = lk (ptr F Q k (j + 1)) := lk_congr fun i y _ _ => by
  by_cases e : i = k
  · subst e
    rw [ptr_at, ptr_at, List.range_succ]
    simp [List.any_append, h]
  · simp [ptr, e]
theorem ptr_next (F Q : Nat → Nat → Bool) (k : Nat) : lk (ptr F Q k 16) = lk (ptr F Q (k + 1) 0) := lk_congr fun i y _ _ => by
  unfold ptr
  by_cases e : i < k
  · simp [e, show i < k + 1 by omega]
  · by_cases e2 : i = k
    · subst e2; simp [thr]
    · simp [e, e2, show ¬ i < k + 1 by omega]
theorem ptr_all (F Q : Nat → Nat → Bool) : lk (ptr F Q 16 0) = lk (thr F Q) := lk_congr fun i y hi _ => by simp [ptr, hi]

/-- the lists of links of the call's own: from where 1, 2 .. edges lead to a number. -/
def bkCells (L : List (Int × Int)) (D : Nat) : List Value := (List.range D).flatMap fun d => (lk (bk L d)).toList
theorem bkCells_len (L : List (Int × Int)) : ∀ D, (bkCells L D).length = D * 16
  | 0 => by simp [bkCells]
  | D + 1 => by
    have := bkCells_len L D
    unfold bkCells at this ⊢
    rw [List.range_succ, List.flatMap_append, List.length_append, this]
    simp [lk_size]; omega
theorem bkCells_succ (L : List (Int × Int)) (D : Nat) : bkCells L (D + 1) = bkCells L D ++ (lk (bk L D)).toList := by
  unfold bkCells; rw [List.range_succ, List.flatMap_append]; simp
theorem bkCells_get (L : List (Int × Int)) {d i : Nat} (hi : i < 16) : ∀ D, d < D → (bkCells L D)[d * 16 + i]? = some (.int .u16 (nb (bk L d i)))
  | D + 1, h => by
    rw [bkCells_succ]
    by_cases e : d < D
    · rw [List.getElem?_append_left (by rw [bkCells_len]; omega), bkCells_get L hi D e]
    · have : d = D := by omega
      subst this
      rw [List.getElem?_append_right (by rw [bkCells_len]; omega), bkCells_len, show d * 16 + i - d * 16 = i by omega]
      have := lk_cell (bk L d) hi
      simpa using this
def BK (w : World) (B : Nat) (v : Value) (L : List (Int × Int)) (D : Nat) : Prop := w.ownsRow B 41 16 v D (bkCells L D)
theorem BK.later {w w' : World} {B D : Nat} {v : Value} {L : List (Int × Int)} (h : BK w B v L D) (hb : Below w.heap.size w w') : BK w' B v L D := by
  refine World.ownsRow.kept h (grown_of_below hb) ?_
  cases v.ownBlock with
  | none => exact Or.inl rfl
  | some b => exact Or.inr (by simp)
theorem BK.form {w : World} {B D : Nat} {v : Value} {L : List (Int × Int)} (h : BK w B v L D) (hD : 0 < D) : ∃ g cap, v = .slice (some ⟨g, 0, none⟩) D cap ∧ g < w.heap.size ∧ ∀ d i, d < D → i < 16 → w.cell? ⟨g, d * 16 + i, none⟩ = some (.int .u16 (nb (bk L d i))) := by
  rcases h.2 with ⟨_, h'⟩ | ⟨g, cap, cur, rfl, hb, hg, r⟩
  · omega
  · have hlt := World.ownsRow.lt h g rfl
    refine ⟨g, cap, rfl, hlt.2, fun d i hd hi => ?_⟩
    rw [World.ownsRow.cellAt h (d * 16 + i) (by omega), bkCells_get L hi D hd]
end Go.Proofs.YtbgeobpdojmdaaaDoor
