import Derived.Test.YtknallkcengbbaaGreatDoorBase
import Derived.Deep.RegionHeld3
namespace Go.Proofs.YtknallkcengbbaaGreatDoor
open Go.RowKit
set_option linter.unusedVariables false

/-! Operations of a drawn region that are not wanted are passed over, many at once; one that is wanted is taken with its slot said. -/
section
variable {P : Program} {md : Region.Mode} {ops : Array Oper} {Q : Exit → Act → World → Prop} {S : World → Prop}

/-- may these be passed over, one behind the other? -/
def skipOk (md : Region.Mode) (ops : Array Oper) : List (Nat × Nat) → Array Bool → Act → Bool
  | [], _, _ => true
  | j :: js, listed, a =>
    (match ops[j.1]? with | some o => o.dst == some j.2 && !Region.wanted o (yielded ops a.tmps) | none => false) && Region.free md ops listed j.1 && (Region.ready md ops listed).contains j.1 && skipOk md ops js (listed.setIfInBounds j.1 true) (a.put (some j.2) undef)

theorem wpAnyH_skip (hs : Region.noSelect ops = true) (hQ : ∀ c a (d : Nat) w, Q (.panic c) (a.put (some d) undef) w → Q (.panic c) a w) : ∀ (js : List (Nat × Nat)) (fuel : Nat) (listed : Array Bool) (a : Act) (w : World), S w → skipOk md ops js listed a = true →
    wpAnyH P md ops Q S fuel (js.foldl (fun l j => l.setIfInBounds j.1 true) listed) (js.foldl (fun a j => a.put (some j.2) undef) a) w → ∀ F, F = fuel + js.length → wpAnyH P md ops Q S F listed a w
  | [], fuel, listed, a, w, hS, _, h, F, hF => by
    have : F = fuel := by simpa using hF
    subst this
    simpa using h
  | j :: js, fuel, listed, a, w, hS, hk, h, F, hF => by
    have e : F = (fuel + js.length) + 1 := by rw [hF, List.length_cons]; omega
    subst e
    simp only [skipOk, Bool.and_eq_true] at hk
    obtain ⟨⟨⟨h1, h2⟩, h3⟩, h4⟩ := hk
    cases ho : ops[j.1]? with
    | none => rw [ho] at h1; cases h1
    | some o =>
      rw [ho] at h1
      simp only [Bool.and_eq_true, Bool.not_eq_true', beq_iff_eq] at h1
      obtain ⟨h5, h6⟩ := h1
      refine wpAnyH_take (i := j.1) (oi := o) (v := undef) ho hs h2 h3 (by rw [h5]; exact fun c a w => hQ c a _ w) (Or.inr ⟨h6, rfl⟩) hS ?_
      rw [h5]
      exact wpAnyH_skip hs hQ js fuel _ _ w hS h4 (by simpa only [List.foldl_cons] using h) _ rfl

theorem wpAnyH_one {i d : Nat} {o : Oper} {v : Value} {fuel : Nat} {listed : Array Bool} {a : Act} {w : World} (hi : ops[i]? = some o) (hd : o.dst = some d)
    (hs : Region.noSelect ops = true) (hf : Region.free md ops listed i = true) (hr : (Region.ready md ops listed).contains i = true)
    (hQ : ∀ c a w, Q (.panic c) (a.put (some d) v) w → Q (.panic c) a w) (hw : Region.wanted o (yielded ops a.tmps) = true) (hS : S w) (hv : ∀ w, S w → (execOp a.eval o).run P w = .ok (.value v) w)
    (h : wpAnyH P md ops Q S fuel (listed.setIfInBounds i true) (a.put (some d) v) w) : wpAnyH P md ops Q S (fuel + 1) listed a w :=
  wpAnyH_take (i := i) (oi := o) (v := v) hi hs hf hr (by rw [hd]; exact hQ) (Or.inl ⟨hw, hv⟩) hS (by rw [hd]; exact h)
end
end Go.Proofs.YtknallkcengbbaaGreatDoor
