import Derived.Test.YtpfamdpgcbpiaaaSa
namespace Go.Proofs.Ytpfamdpgcbpiaaa
open Go.RowKit
set_option linter.unusedVariables false
set_option linter.unusedSimpArgs false

/-- what a look at sizes tells. -/
def Szd (left : Int) (p : Prop) (e : Ending) : Prop := ∃ r : Int, e = .returned (.int .i64 r) ∧ (r = -1 ∨ (0 ≤ r ∧ r ≤ left ∧ p))
theorem eqB_self (k i : Int) (x y : Nat) : eqB k i x y k i x y = true := by simp [eqB, sameB_refl]
theorem step_append_val {ops : Array Oper} {o : Oper} {a : Act} {w : World} {K : Act → World → Prop} {Q : Exit → Act → World → Prop} {E : Prop}
    (hg : o.guard = none) (s x : Operand) (hop : o.op = Op.call { callee := Callee.builtin Builtin.append, args := #[s, x], argTypes := #[24, 24] })
    (Bs : Nat) (v : Value) (L : List V4) (hs : a.eval s = v) (hv : w.ownsRow Bs 64 4 v L.length (L.flatMap vcells))
    (sb : Nat) (p : V4) (hx : a.eval x = .slice (some ⟨sb, 0, none⟩) 1 1) (hb : Blk w sb #[.int .i64 p.1, .int .i64 p.2.1, .float .f64 p.2.2.1, .float .f64 p.2.2.2] 64) (hl : L.length ≤ 1048576) (hB : Bs ≤ w.heap.size)
    (hK : ∀ g cap w', VR w' Bs g (L.length + 1) cap (L ++ [p]) → w.grownBy w' v.ownBlock → g < w'.heap.size → K (a.put o.dst (.slice (some ⟨g, 0, none⟩) (L.length + 1) cap)) w') :
    if Region.wanted o (yielded ops a.tmps) = true then Oper.wp Try.prog o a w K Q else E := by
  obtain ⟨i0, hi, hz0, hz1, hz2⟩ := info_parts Try.infoV
  refine step_append_lies _ hg s x _ hop Bs 64 i0 (.agg #[.int .i64 0, .int .i64 0, .float .f64 0, .float .f64 0]) 4 32 Try.underlying24 hi hz0 hz1 hz2 rfl (by decide) v L.length (L.flatMap vcells) hs hv ⟨sb, 0, none⟩ 1 1 (vcells p) hx rfl ?_ ?_ (by omega) (by unfold maxLen; omega) (by omega) hB w.heap.size rfl ?_
  · intro j u hj
    have := hb.cell j
    rw [Go.WideShapes.add_plain, Nat.zero_add, this]
    simpa [vcells] using hj
  · intro u hu
    simp only [vcells, List.mem_cons, List.not_mem_nil, or_false] at hu
    rcases hu with rfl | rfl | rfl | rfl <;> rfl
  · intro g cap w' h1 h2 _ h4
    refine hK g cap w' ?_ h2 h4
    unfold VR
    rw [List.flatMap_append]
    simpa using h1
end Go.Proofs.Ytpfamdpgcbpiaaa
