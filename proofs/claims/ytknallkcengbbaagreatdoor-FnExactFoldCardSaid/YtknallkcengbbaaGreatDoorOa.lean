import Derived.Test.YtknallkcengbbaaGreatDoorJa
namespace Go.Proofs.YtknallkcengbbaaGreatDoor
open Go.RowKit
set_option linter.unusedVariables false
set_option linter.unusedSimpArgs false

/-! Trees whose nodes stand in their right order: by the specification's way (each node's kids are numbered from 'next' on) and by the program's (a row of those that are nobody's kids so far). K: the kids of a node; ok: a node is right but for the order. -/
inductive FitL (K : Nat → List Int) (ok : Nat → Prop) : List Int → Nat → Nat → Prop
  | nil (nx : Nat) : FitL K ok [] nx nx
  | cons (nx k : Nat) (ks : List Int) (e : Nat) : nx ≤ k → ok k → FitL K ok (K k) nx k → FitL K ok ks (k + 1) e → FitL K ok ((k : Int) :: ks) nx e
section
variable {K : Nat → List Int} {ok : Nat → Prop}
theorem FitL.le {ks : List Int} {a e : Nat} (h : FitL K ok ks a e) : a ≤ e := by
  induction h with
  | nil nx => exact Nat.le_refl _
  | cons nx k ks e h1 _ _ _ _ ih => omega
theorem FitL.append {A B : List Int} {a m e : Nat} (h : FitL K ok A a m) (g : FitL K ok B m e) : FitL K ok (A ++ B) a e := by
  induction h with
  | nil nx => exact g
  | cons nx k ks e' h1 h2 h3 _ _ ih => exact FitL.cons nx k _ e h1 h2 h3 (ih g)
theorem FitL.split {A B : List Int} : ∀ {a e : Nat}, FitL K ok (A ++ B) a e → ∃ m, FitL K ok A a m ∧ FitL K ok B m e := by
  induction A with
  | nil => intro a e h; exact ⟨a, FitL.nil a, h⟩
  | cons x A ih =>
    intro a e h
    rw [List.cons_append] at h
    cases h with
    | cons nx k ks e h1 h2 h3 h4 =>
      obtain ⟨m, g1, g2⟩ := ih h4
      exact ⟨m, FitL.cons a k A m h1 h2 h3 g1, g2⟩
/-- the row behind one node more. -/
def StepTo (K : Nat → List Int) (ok : Nat → Prop) (i : Nat) (l l' : List Int) : Prop := ok i ∧ ∃ A, l = A ++ K i ∧ l' = A ++ [(i : Int)]
/-- the row behind the nodes a .. e - 1. -/
inductive Run (K : Nat → List Int) (ok : Nat → Prop) : Nat → Nat → List Int → List Int → Prop
  | nil (a : Nat) (l : List Int) : Run K ok a a l l
  | cons (a e : Nat) (l l1 l2 : List Int) : StepTo K ok a l l1 → Run K ok (a + 1) e l1 l2 → Run K ok a e l l2
theorem Run.trans {a m e : Nat} {l l1 l2 : List Int} (h : Run K ok a m l l1) (g : Run K ok m e l1 l2) : Run K ok a e l l2 := by
  induction h with
  | nil a l => exact g
  | cons a e' l l1 l2' h1 _ ih => exact Run.cons a e l l1 l2 h1 (ih g)
theorem Run.one {a : Nat} {l l1 : List Int} (h : StepTo K ok a l l1) : Run K ok a (a + 1) l l1 := Run.cons a (a + 1) l l1 l1 h (Run.nil _ _)
theorem FitL.run {ks : List Int} {a e : Nat} (h : FitL K ok ks a e) : ∀ l, Run K ok a e l (l ++ ks) := by
  induction h with
  | nil nx => intro l; rw [List.append_nil]; exact Run.nil _ _
  | cons nx k ks e h1 h2 _ _ ih1 ih2 =>
    intro l
    have h5 := (ih1 l).trans (Run.one ⟨h2, l, rfl, rfl⟩)
    have h6 := h5.trans (ih2 (l ++ [(k : Int)]))
    rw [List.append_assoc] at h6
    exact h6
theorem Run.fit {a e : Nat} {l l' : List Int} (h : Run K ok a e l l') : ∀ b, FitL K ok l b a → FitL K ok l' b e := by
  induction h with
  | nil a l => intro b g; exact g
  | cons a e l l1 l2 h1 _ ih =>
    intro b g
    obtain ⟨h2, A, rfl, rfl⟩ := h1
    obtain ⟨m, g1, g2⟩ := FitL.split g
    exact ih b (g1.append (FitL.cons m a [] (a + 1) g2.le h2 g2 (FitL.nil _)))
/-- the two ways agree. -/
theorem run_fit {n : Nat} {tops : List Int} : Run K ok 0 n [] tops ↔ FitL K ok tops 0 n :=
  ⟨fun h => h.fit 0 (FitL.nil 0), fun h => by have := h.run []; simpa using this⟩
theorem StepTo.same {a : Nat} {l l1 l2 : List Int} (h : StepTo K ok a l l1) (g : StepTo K ok a l l2) : l1 = l2 := by
  obtain ⟨_, A, rfl, rfl⟩ := h
  obtain ⟨_, B, e, rfl⟩ := g
  rw [List.append_cancel_right e]
/-- the row is one only, and where it stops there is none. -/
theorem Run.split {a m e : Nat} (ham : a ≤ m) {l l2 : List Int} (h : Run K ok a e l l2) (hme : m ≤ e) : ∃ l1, Run K ok a m l l1 ∧ Run K ok m e l1 l2 := by
  induction h with
  | nil a l =>
    obtain rfl : m = a := by omega
    exact ⟨l, Run.nil _ _, Run.nil _ _⟩
  | cons a e l l1 l2 h1 h2 ih =>
    by_cases e1 : m = a
    · subst e1; exact ⟨l, Run.nil _ _, Run.cons _ _ _ _ _ h1 h2⟩
    · obtain ⟨l3, g1, g2⟩ := ih (by omega) hme
      exact ⟨l3, Run.cons _ _ _ _ _ h1 g1, g2⟩
theorem Run.le {a e : Nat} {l l' : List Int} (h : Run K ok a e l l') : a ≤ e := by
  induction h with
  | nil a l => exact Nat.le_refl _
  | cons a e l l1 l2 h1 _ ih => omega
theorem Run.same {a e : Nat} {l l1 l2 : List Int} (h : Run K ok a e l l1) (g : Run K ok a e l l2) : l1 = l2 := by
  induction h with
  | nil a l =>
    cases g with
    | nil => rfl
    | cons _ _ _ _ _ _ g2 => have := g2.le; omega
  | cons a e l l3 l4 h1 h2 ih =>
    cases g with
    | nil => have := h2.le; omega
    | cons _ _ _ l5 _ g1 g2 =>
      have := h1.same g1
      subst this
      exact ih g2
theorem Run.len {a e : Nat} {l l' : List Int} (h : Run K ok a e l l') : l'.length ≤ l.length + (e - a) := by
  induction h with
  | nil a l => omega
  | cons a e l l1 l2 h1 h2 ih =>
    obtain ⟨_, A, rfl, rfl⟩ := h1
    have := h2.le
    simp at ih ⊢
    omega
/-- all that stand in the row are numbers of nodes. -/
theorem Run.mem {a e : Nat} {l l' : List Int} (h : Run K ok a e l l') (hl : ∀ x ∈ l, ∃ k : Nat, x = k ∧ k < a) : ∀ x ∈ l', ∃ k : Nat, x = k ∧ k < e := by
  induction h with
  | nil a l => exact hl
  | cons a e l l1 l2 h1 h2 ih =>
    obtain ⟨_, A, rfl, rfl⟩ := h1
    refine ih fun x hx => ?_
    rcases List.mem_append.1 hx with hx | hx
    · obtain ⟨k, e1, e2⟩ := hl x (List.mem_append.2 (Or.inl hx))
      exact ⟨k, e1, by omega⟩
    · simp at hx
      exact ⟨a, hx, by omega⟩
end
end Go.Proofs.YtknallkcengbbaaGreatDoor
