import Derived.Test.YtmoohgafljepdaaDoorN35
import Derived.Test.YtmoohgafljepdaaDoorN1
namespace Go.Proofs.YtmoohgafljepdaaDoor
open Go.RowKit
set_option linter.unusedVariables false
set_option linter.unusedSimpArgs false
def ucells (L : List (Int × Int)) : List Value := L.flatMap fun p => [.int .u16 p.1, .int .u16 p.2]
theorem ucells_nil : ucells [] = [] := rfl
theorem ucells_app (L M : List (Int × Int)) : ucells (L ++ M) = ucells L ++ ucells M := by simp [ucells]
theorem ucells_len : ∀ L : List (Int × Int), (ucells L).length = L.length * 2
  | [] => rfl
  | p :: L => by
    have := ucells_len L
    simp [ucells] at this ⊢; omega
theorem ucells_get : ∀ (L : List (Int × Int)) (j : Nat) (p : Int × Int), L[j]? = some p → (ucells L)[2 * j]? = some (.int .u16 p.1) ∧ (ucells L)[2 * j + 1]? = some (.int .u16 p.2)
  | q :: L, 0, p, h => by
    simp at h; subst h; exact ⟨rfl, rfl⟩
  | q :: L, j + 1, p, h => by
    have := ucells_get L j p (by simpa using h)
    have e : ucells (q :: L) = .int .u16 q.1 :: .int .u16 q.2 :: ucells L := rfl
    rw [e, show 2 * (j + 1) = 2 * j + 1 + 1 by omega, show 2 * j + 1 + 1 + 1 = (2 * j + 1) + 1 + 1 by omega]
    simpa using this

/-- a list of places of the call's own. -/
def URow (w : World) (B : Nat) (v : Value) (L : List (Int × Int)) : Prop := w.ownsRow B 66 2 v L.length (ucells L)
theorem URow.nil (w : World) (B : Nat) : URow w B (.slice none 0 0) [] := World.ownsRow_nil _ _ _ _
theorem URow.form {w : World} {B : Nat} {v : Value} {L : List (Int × Int)} (h : URow w B v L) :
    (v = .slice none 0 0 ∧ L = []) ∨ ∃ g cap, v = .slice (some ⟨g, 0, none⟩) L.length cap ∧ B ≤ g ∧ g < w.heap.size ∧ ∀ j p, L[j]? = some p → w.cell? ⟨g, 2 * j, none⟩ = some (.int .u16 p.1) ∧ w.cell? ⟨g, 2 * j + 1, none⟩ = some (.int .u16 p.2) ∧ w.frozen? ⟨g, 2 * j, none⟩ = false ∧ w.frozen? ⟨g, 2 * j + 1, none⟩ = false := by
  rcases h.2 with ⟨h1, h2⟩ | ⟨g, cap, cur, rfl, hb, hg, r⟩
  · exact Or.inl ⟨h1, List.length_eq_zero_iff.1 h2⟩
  · refine Or.inr ⟨g, cap, rfl, hb, (Array.getElem?_eq_some_iff.1 hg).1, fun j p hp => ?_⟩
    have hj : j < L.length := (List.getElem?_eq_some_iff.1 hp).1
    obtain ⟨e1, e2⟩ := ucells_get L j p hp
    exact ⟨by rw [World.ownsRow.cellAt h (2 * j) (by omega), e1], by rw [World.ownsRow.cellAt h (2 * j + 1) (by omega), e2], World.ownsRow.frozenAt h _, World.ownsRow.frozenAt h _⟩
theorem URow.mono {w : World} {B B' : Nat} {v : Value} {L : List (Int × Int)} (h : URow w B v L) (hB : B' ≤ B) : URow w B' v L := by
  refine ⟨h.1, ?_⟩
  rcases h.2 with h' | ⟨g, cap', cur, h', hb, r⟩
  · exact Or.inl h'
  · exact Or.inr ⟨g, cap', cur, h', Nat.le_trans hB hb, r⟩
theorem URow.later {w w' : World} {B : Nat} {v : Value} {L : List (Int × Int)} (h : URow w B v L) (hb : Below w.heap.size w w') : URow w' B v L := by
  refine World.ownsRow.kept h (grown_of_below hb) ?_
  cases v.ownBlock with
  | none => exact Or.inl rfl
  | some b => exact Or.inr (by simp)
theorem URow.lt {w : World} {B : Nat} {v : Value} {L : List (Int × Int)} (h : URow w B v L) : ∀ k, v.ownBlock = some k → B ≤ k ∧ k < w.heap.size := World.ownsRow.lt h
theorem URow.kept {w w' : World} {B b : Nat} {v : Value} {L : List (Int × Int)} (h : URow w B v L) (hg : w.grownBy w' (some b)) (hn : ¬ v.ownBlock = some b) : URow w' B v L := World.ownsRow.kept h hg (Or.inr hn)
theorem Tryd.infoU : (Tryd.prog.info? 66).map (fun i => (i.zero, i.size, i.bytes)) = some (some (.agg #[.int .u16 0, .int .u16 0]), 2, 4) := by kernel_rfl
theorem wpList_append_place (w : World) {ops : Array Oper} {rest : List Oper} {o : Oper} {a : Act} {Q : Exit → Act → World → Prop}
    (hg : o.guard = none) (s x : Operand) (hop : o.op = Op.call { callee := Callee.builtin Builtin.append, args := #[s, x], argTypes := #[67, 67] })
    (B : Nat) (v : Value) (F : List (Int × Int)) (hs : a.eval s = v) (hv : URow w B v F) (sb : Nat) (p q : Int) (hx : a.eval x = .slice (some ⟨sb, 0, none⟩) 1 1) (hz0 : w.cell? ⟨sb, 0, none⟩ = some (.int .u16 p)) (hz1 : w.cell? ⟨sb, 1, none⟩ = some (.int .u16 q)) (hl : F.length ≤ 1048576) (hB : B ≤ w.heap.size)
    (hK : ∀ v' w', URow w' B v' (F ++ [(p, q)]) → w.grownBy w' v.ownBlock → wpList Tryd.prog ops Q rest (a.put o.dst v') w') :
    wpList Tryd.prog ops Q (o :: rest) a w := by
  obtain ⟨ie, hie, he0, he1, he2⟩ := info_parts Tryd.infoU
  refine wpList_append_own _ hg s x 67 hop B 66 ie (.agg #[.int .u16 0, .int .u16 0]) 2 4 Tryd.underlying67 hie he0 he1 he2 rfl (by decide) v F.length (ucells F) hs hv ⟨sb, 0, none⟩ 1 1 [.int .u16 p, .int .u16 q] hx rfl ?_ ?_ (by unfold maxLen; omega) (by omega) hB ?_
  · intro j u hj
    match j, hj with
    | 0, hj => simp at hj; subst hj; simpa [Addr.add] using hz0
    | 1, hj => simp at hj; subst hj; simpa [Addr.add] using hz1
  · intro u hu
    simp at hu
    rcases hu with rfl | rfl <;> rfl
  · intro v' w' h1 h2 _
    refine hK v' w' ?_ h2
    unfold URow
    rw [List.length_append, List.length_singleton, ucells_app]
    exact h1
theorem URow.keptO {w w' : World} {B : Nat} {v : Value} {G : List (Int × Int)} {r : Option Nat} (h : URow w B v G) (hg : w.grownBy w' r) (hr : ∀ k, v.ownBlock = some k → ¬ r = some k) : URow w' B v G := by
  cases hv : v.ownBlock with
  | none => exact World.ownsRow.kept h hg (Or.inl hv)
  | some k => exact World.ownsRow.kept h hg (Or.inr (by rw [hv]; exact fun e => hr k hv e.symm))

/-- a place of it, looked at. -/
theorem URow.get {w : World} {B : Nat} {v : Value} {L : List (Int × Int)} (h : URow w B v L) {k : Nat} {p : Int × Int} (hk : L[k]? = some p) :
    ∃ g c, v = .slice (some ⟨g, 0, none⟩) L.length c ∧ w.cell? ⟨g, 2 * k, none⟩ = some (.int .u16 p.1) ∧ w.cell? ⟨g, 2 * k + 1, none⟩ = some (.int .u16 p.2) := by
  rcases h.form with ⟨_, rfl⟩ | ⟨g, cap, rfl, h1, h2, h3⟩
  · simp at hk
  · exact ⟨g, cap, rfl, (h3 k p hk).1, (h3 k p hk).2.1⟩
end Go.Proofs.YtmoohgafljepdaaDoor
