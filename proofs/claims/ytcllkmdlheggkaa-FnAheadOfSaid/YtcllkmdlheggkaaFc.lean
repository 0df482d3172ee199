import Derived.Test.YtcllkmdlheggkaaEy
import Derived.RegionTactic
import Derived.BigRegion
namespace Go.Proofs.Ytcllkmdlheggkaa
open Go.RowKit
set_option linter.unusedVariables false
set_option linter.unusedSimpArgs false

theorem wpList_append_new (w : World) {ops : Array Oper} {rest : List Oper} {o : Oper} {a : Act} {Q : Exit → Act → World → Prop}
    (hg : o.guard = none) (s x : Operand) (hop : o.op = Op.call { callee := Callee.builtin Builtin.append, args := #[s, x], argTypes := #[24, 24] })
    (n : Nat) (hs : a.eval s = .slice (some ⟨n, 0, none⟩) 0 0) (hB : Blk w n #[] 3)
    (pb po c : Nat) (G : List Int) (hx : a.eval x = .slice (some ⟨pb, po, none⟩) G.length c) (hG : Ints w (some ⟨pb, po, none⟩) G) (hl : G.length ≤ 1048576)
    (hK : ∀ g c' w', VRow w' 0 (.slice (some ⟨g, 0, none⟩) G.length c') G → w.grownBy w' (some n) → (g = n ∨ w.heap.size ≤ g) → g < w'.heap.size → wpList Try.prog ops Q rest (a.put o.dst (.slice (some ⟨g, 0, none⟩) G.length c')) w') :
    wpList Try.prog ops Q (o :: rest) a w := by
  refine wpList_plain hg fun K hK' => ?_
  have := step_append_new (ops := ops) (K := K) (Q := Q) (E := True) hg s x hop n hs hB pb po c G hx hG hl (fun g c' w' h1 h2 h3 h4 => hK' _ _ (hK g c' w' h1 h2 h3 h4))
  have hw : Region.wanted o (yielded ops a.tmps) = true := by simp [Region.wanted, hg]
  rw [if_pos hw] at this
  exact this

/-- what is taken: the lists, the thing, the code. -/
def takeB (G F : List Int) : List Int × List Int × (Int × Int) × Int :=
  if okE G F = true then (if 0 < F.length then (G, F.dropLast, (F.getLastD 0, G[(F.getLastD 0).toNat]?.getD 0), 0) else if 2000 ≤ G.length then (G, F, (0, 0), 3) else (G ++ [0], F, ((G.length : Int), 0), 0)) else (G, F, (0, 0), 1)

theorem last_eq {F : List Int} (h : 0 < F.length) : F[F.length - 1]?.getD 0 = F.getLastD 0 := by
  rw [List.getLastD_eq_getLast?, List.getLast?_eq_getElem?]
theorem take_eq (F : List Int) : F.take (F.length - 1) = F.dropLast := by rw [List.dropLast_eq_take]
end Go.Proofs.Ytcllkmdlheggkaa
