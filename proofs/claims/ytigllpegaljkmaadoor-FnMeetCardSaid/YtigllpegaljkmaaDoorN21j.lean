import Derived.Test.YtigllpegaljkmaaDoorN11j
import Derived.Test.YtigllpegaljkmaaDoorN30j
namespace Go.Proofs.YtigllpegaljkmaaDoor
open Go.RowKit
set_option linter.unusedVariables false
set_option linter.unusedSimpArgs false

theorem VRow.ints' {w : World} {B : Nat} {s : Option Addr} {n c : Nat} {G : List Int} (h : VRow w B (.slice s n c) G) : Ints w s G := by
  obtain ⟨s', c', e, hi⟩ := h.slice
  simp only [Value.slice.injEq] at e
  obtain ⟨rfl, -, -⟩ := e
  exact hi
theorem MRow.blk {w : World} {B : Nat} {v : Value} {O : List (Int × Int)} (h : MRow w B v O) {m : Nat} (hm : v.ownBlock = some m) : ∃ c fr, w.heap[m]? = some (.cells c 62 fr) := by
  rcases h.2 with ⟨rfl, _⟩ | ⟨g, cap, cur, rfl, _, hg, _⟩
  · simp [Value.ownBlock] at hm
  · simp only [Value.ownBlock, Option.some.injEq] at hm
    subst hm
    exact ⟨_, _, hg⟩
theorem VRow.keptM {w w' : World} {B C : Nat} {v u : Value} {A : List Int} {O : List (Int × Int)} (h : VRow w B v A) (hO : MRow w C u O) (hg : w.grownBy w' u.ownBlock) : VRow w' B v A := by
  cases hv : v.ownBlock with
  | none => exact World.ownsRow.kept h hg (Or.inl hv)
  | some k =>
    refine World.ownsRow.kept h hg (Or.inr ?_)
    intro e
    cases hu : u.ownBlock with
    | none => rw [hu, hv] at e; cases e
    | some m =>
      obtain ⟨c, fr, hb⟩ := hO.blk hu
      refine h.apart hb (by decide) ?_
      rw [e, hu]
theorem pick_at {M : List (Int × Int)} {P : List Int} {i : Nat} (h : ¬ M = []) : ∃ q : Nat, pickK P i M.length = (q : Int) ∧ q < M.length ∧ M.getD (pickK P i M.length).toNat (0, 0) = M[q]?.getD (0, 0) := by
  have := pickK_in P i (m := M.length) (List.length_pos_iff.2 h)
  refine ⟨(pickK P i M.length).toNat, by omega, by omega, ?_⟩
  rw [List.getD_eq_getElem?_getD]

end Go.Proofs.YtigllpegaljkmaaDoor
