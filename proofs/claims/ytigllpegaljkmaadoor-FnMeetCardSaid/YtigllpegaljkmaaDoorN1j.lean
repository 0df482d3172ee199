import Derived.Test.YtigllpegaljkmaaDoorG16j
import Derived.Deep.QuietTactic
import Derived.BigQuiet
namespace Go.Proofs.YtigllpegaljkmaaDoor
open Go.RowKit
set_option linter.unusedVariables false
set_option linter.unusedSimpArgs false
/-- a list of moves of the call's own. -/
def MRow (w : World) (B : Nat) (v : Value) (L : List (Int × Int)) : Prop := w.ownsRow B 62 2 v L.length (ecells L)
theorem MRow.nil (w : World) (B : Nat) : MRow w B (.slice none 0 0) [] := World.ownsRow_nil _ _ _ _
theorem MRow.form {w : World} {B : Nat} {v : Value} {L : List (Int × Int)} (h : MRow w B v L) :
    (v = .slice none 0 0 ∧ L = []) ∨ ∃ g cap, v = .slice (some ⟨g, 0, none⟩) L.length cap ∧ B ≤ g ∧ g < w.heap.size ∧ ∀ j p, L[j]? = some p → w.cell? ⟨g, 2 * j, none⟩ = some (.int .i64 p.1) ∧ w.cell? ⟨g, 2 * j + 1, none⟩ = some (.int .i64 p.2) ∧ w.frozen? ⟨g, 2 * j, none⟩ = false ∧ w.frozen? ⟨g, 2 * j + 1, none⟩ = false := by
  rcases h.2 with ⟨h1, h2⟩ | ⟨g, cap, cur, rfl, hb, hg, r⟩
  · exact Or.inl ⟨h1, List.length_eq_zero_iff.1 h2⟩
  · refine Or.inr ⟨g, cap, rfl, hb, (Array.getElem?_eq_some_iff.1 hg).1, fun j p hp => ?_⟩
    have hj : j < L.length := (List.getElem?_eq_some_iff.1 hp).1
    obtain ⟨e1, e2⟩ := ecells_get L j p hp
    exact ⟨by rw [World.ownsRow.cellAt h (2 * j) (by omega), e1], by rw [World.ownsRow.cellAt h (2 * j + 1) (by omega), e2], World.ownsRow.frozenAt h _, World.ownsRow.frozenAt h _⟩
theorem MRow.mono {w : World} {B B' : Nat} {v : Value} {L : List (Int × Int)} (h : MRow w B v L) (hB : B' ≤ B) : MRow w B' v L := by
  refine ⟨h.1, ?_⟩
  rcases h.2 with h' | ⟨g, cap', cur, h', hb, r⟩
  · exact Or.inl h'
  · exact Or.inr ⟨g, cap', cur, h', Nat.le_trans hB hb, r⟩
theorem MRow.later {w w' : World} {B : Nat} {v : Value} {L : List (Int × Int)} (h : MRow w B v L) (hb : Below w.heap.size w w') : MRow w' B v L := by
  refine World.ownsRow.kept h (grown_of_below hb) ?_
  cases v.ownBlock with
  | none => exact Or.inl rfl
  | some b => exact Or.inr (by simp)
theorem MRow.lt {w : World} {B : Nat} {v : Value} {L : List (Int × Int)} (h : MRow w B v L) : ∀ k, v.ownBlock = some k → B ≤ k ∧ k < w.heap.size := World.ownsRow.lt h
theorem MRow.kept {w w' : World} {B b : Nat} {v : Value} {L : List (Int × Int)} (h : MRow w B v L) (hg : w.grownBy w' (some b)) (hn : ¬ v.ownBlock = some b) : MRow w' B v L := World.ownsRow.kept h hg (Or.inr hn)
theorem MRow.put {w : World} {B g cap : Nat} {L : List (Int × Int)} {A : List (Int × Int)} {p : Int × Int} {C : List (Int × Int)} (h : MRow w B (.slice (some ⟨g, 0, none⟩) L.length cap) L) (hL : L = A ++ p :: C) (a b : Int) :
    MRow ((w.setCell ⟨g, 2 * A.length, none⟩ (.int .i64 a)).setCell ⟨g, 2 * A.length + 1, none⟩ (.int .i64 b)) B (.slice (some ⟨g, 0, none⟩) L.length cap) (A ++ (a, b) :: C) ∧
    w.grownBy ((w.setCell ⟨g, 2 * A.length, none⟩ (.int .i64 a)).setCell ⟨g, 2 * A.length + 1, none⟩ (.int .i64 b)) (some g) := by
  obtain ⟨h1, g1⟩ := World.ownsRow.stored h (2 * A.length) (.int .i64 a)
  obtain ⟨h2, g2⟩ := World.ownsRow.stored h1 (2 * A.length + 1) (.int .i64 b)
  refine ⟨?_, grown_trans g1 g2⟩
  have e : (A ++ (a, b) :: C).length = L.length := by rw [hL]; simp
  unfold MRow
  rw [e, ← ecells_set A p C a b, ← hL]
  exact h2
theorem MRow.list {w : World} {B : Nat} {v : Value} {L : List (Int × Int)} (h : MRow w B v L) : EList w v L := by
  rcases h.form with ⟨rfl, rfl⟩ | ⟨g, cap, rfl, h1, h2, h3⟩
  · exact Or.inl ⟨none, 0, rfl, rfl⟩
  · refine Or.inr ⟨g, cap, rfl, h2, fun j hj => ?_⟩
    obtain ⟨a, b, _, _⟩ := h3 j (L[j]?.getD (0, 0)) (by simp [hj])
    rw [Nat.mul_comm j 2]
    exact ⟨a, b⟩
theorem MRow.eds {w : World} {B : Nat} {s : Option Addr} {n c : Nat} {L : List (Int × Int)} (h : MRow w B (.slice s n c) L) : Eds w s L := by
  rcases h.list with ⟨s', c', e, rfl⟩ | ⟨g, c', e, h1, h2⟩
  · exact Or.inl rfl
  · simp only [Value.slice.injEq] at e
    obtain ⟨rfl, -, -⟩ := e
    refine Or.inr ⟨g, 0, rfl, h1, fun j hj => ?_⟩
    rw [Nat.zero_add]; exact h2 j hj
theorem Tryd.infoMove : (Tryd.prog.info? 62).map (fun i => (i.zero, i.size, i.bytes)) = some (some (.agg #[.int .i64 0, .int .i64 0]), 2, 16) := by kernel_rfl
/-- a move more onto a list of moves of the call's own. -/
theorem wpList_append_move (w : World) {ops : Array Oper} {rest : List Oper} {o : Oper} {a : Act} {Q : Exit → Act → World → Prop}
    (hg : o.guard = none) (s x : Operand) (hop : o.op = Op.call { callee := Callee.builtin Builtin.append, args := #[s, x], argTypes := #[27, 27] })
    (B : Nat) (v : Value) (F : List (Int × Int)) (hs : a.eval s = v) (hv : MRow w B v F) (sb : Nat) (p q : Int) (hx : a.eval x = .slice (some ⟨sb, 0, none⟩) 1 1) (hz0 : w.cell? ⟨sb, 0, none⟩ = some (.int .i64 p)) (hz1 : w.cell? ⟨sb, 1, none⟩ = some (.int .i64 q)) (hl : F.length ≤ 1048576) (hB : B ≤ w.heap.size)
    (hK : ∀ v' w', MRow w' B v' (F ++ [(p, q)]) → w.grownBy w' v.ownBlock → wpList Tryd.prog ops Q rest (a.put o.dst v') w') :
    wpList Tryd.prog ops Q (o :: rest) a w := by
  obtain ⟨ie, hie, he0, he1, he2⟩ := info_parts Tryd.infoMove
  refine wpList_append_own _ hg s x 27 hop B 62 ie (.agg #[.int .i64 0, .int .i64 0]) 2 16 Tryd.underlying27 hie he0 he1 he2 rfl (by decide) v F.length (ecells F) hs hv ⟨sb, 0, none⟩ 1 1 [.int .i64 p, .int .i64 q] hx rfl ?_ ?_ (by unfold maxLen; omega) (by omega) hB ?_
  · intro j u hj
    match j, hj with
    | 0, hj => simp at hj; subst hj; simpa [Addr.add] using hz0
    | 1, hj => simp at hj; subst hj; simpa [Addr.add] using hz1
  · intro u hu
    simp at hu
    rcases hu with rfl | rfl <;> rfl
  · intro v' w' h1 h2 _
    refine hK v' w' ?_ h2
    unfold MRow
    rw [List.length_append, List.length_singleton, ecells_app]
    exact h1
theorem MRow.keptO {w w' : World} {B : Nat} {v : Value} {G : List (Int × Int)} {r : Option Nat} (h : MRow w B v G) (hg : w.grownBy w' r) (hr : ∀ k, v.ownBlock = some k → ¬ r = some k) : MRow w' B v G := by
  cases hv : v.ownBlock with
  | none => exact World.ownsRow.kept h hg (Or.inl hv)
  | some k => exact World.ownsRow.kept h hg (Or.inr (by rw [hv]; exact fun e => hr k hv e.symm))


end Go.Proofs.YtigllpegaljkmaaDoor
