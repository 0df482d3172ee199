import Derived.Test.YtigllpegaljkmaaDoorG18j
import Derived.Laws.AppendOwn
namespace Go.Proofs.YtigllpegaljkmaaDoor
open Go.RowKit
set_option linter.unusedVariables false
set_option linter.unusedSimpArgs false

/-- an edge more onto a list of edges of the call's own. -/
theorem wpList_append_edge (w : World) {ops : Array Oper} {rest : List Oper} {o : Oper} {a : Act} {Q : Exit → Act → World → Prop}
    (hg : o.guard = none) (s x : Operand) (hop : o.op = Op.call { callee := Callee.builtin Builtin.append, args := #[s, x], argTypes := #[24, 24] })
    (B : Nat) (v : Value) (F : List (Int × Int)) (hs : a.eval s = v) (hv : ERow w B v F) (sb : Nat) (p q : Int) (hx : a.eval x = .slice (some ⟨sb, 0, none⟩) 1 1) (hz0 : w.cell? ⟨sb, 0, none⟩ = some (.int .i64 p)) (hz1 : w.cell? ⟨sb, 1, none⟩ = some (.int .i64 q)) (hl : F.length ≤ 1048576) (hB : B ≤ w.heap.size)
    (hK : ∀ v' w', ERow w' B v' (F ++ [(p, q)]) → w.grownBy w' v.ownBlock → wpList Tryd.prog ops Q rest (a.put o.dst v') w') :
    wpList Tryd.prog ops Q (o :: rest) a w := by
  obtain ⟨ie, hie, he0, he1, he2⟩ := info_parts Tryd.infoEdge
  refine wpList_append_own _ hg s x 24 hop B 45 ie (.agg #[.int .i64 0, .int .i64 0]) 2 16 Tryd.underlying24 hie he0 he1 he2 rfl (by decide) v F.length (ecells F) hs hv ⟨sb, 0, none⟩ 1 1 [.int .i64 p, .int .i64 q] hx rfl ?_ ?_ (by unfold maxLen; omega) (by omega) hB ?_
  · intro j u hj
    match j, hj with
    | 0, hj => simp at hj; subst hj; simpa [Addr.add] using hz0
    | 1, hj => simp at hj; subst hj; simpa [Addr.add] using hz1
  · intro u hu
    simp at hu
    rcases hu with rfl | rfl <;> rfl
  · intro v' w' h1 h2 _
    refine hK v' w' ?_ h2
    unfold ERow
    rw [List.length_append, List.length_singleton, ecells_app]
    exact h1
theorem ERow.apart {w : World} {B : Nat} {v : Value} {O : List (Int × Int)} (h : ERow w B v O) {m : Nat} {c : Array Value} {t : TypeId} {fr : Nat × Nat} (hb : w.heap[m]? = some (.cells c t fr)) (ht : ¬ t = 45) : ¬ v.ownBlock = some m := by
  rcases h.2 with ⟨rfl, _⟩ | ⟨g, cap, cur, rfl, _, hg, _⟩
  · simp [Value.ownBlock]
  · simp only [Value.ownBlock, Option.some.injEq]
    intro e
    subst e
    rw [hg] at hb
    simp at hb
    exact ht hb.2.1.symm
end Go.Proofs.YtigllpegaljkmaaDoor
