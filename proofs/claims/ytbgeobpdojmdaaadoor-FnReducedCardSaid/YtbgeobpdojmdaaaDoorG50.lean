import Derived.Test.YtbgeobpdojmdaaaDoorG20
namespace Go.Proofs.YtbgeobpdojmdaaaDoor
open Go.RowKit
set_option linter.unusedVariables false
set_option linter.unusedSimpArgs false

/-- one link, and from there on by Q. -/
def thr (F Q : Nat → Nat → Bool) (i j : Nat) : Bool := (List.range 16).any fun x => F i x && Q x j
/-- from where d + 1 edges lead to a number. -/
def bk (L : List (Int × Int)) : Nat → Nat → Nat → Bool
  | 0 => eF L
  | d + 1 => thr (eF L) (bk L d)
theorem bk_iff {L : List (Int × Int)} (h : In16 L) : ∀ (d i j : Nat), bk L d i j = true ↔ wk (eR L) (d + 1) j i
  | 0, i, j => by
    show eF L i j = true ↔ _
    rw [wk_one]; rfl
  | d + 1, i, j => by
    simp only [bk, thr, List.any_eq_true, List.mem_range, Bool.and_eq_true]
    constructor
    · rintro ⟨x, _, h1, h2⟩
      exact ⟨x, (bk_iff h d x j).1 h2, h1⟩
    · rintro ⟨x, h1, h2⟩
      have hx : x < 16 := by
        have := h _ (of_decide_eq_true h2)
        simp at this; omega
      exact ⟨x, hx, h2, (bk_iff h d x j).2 h1⟩
theorem wk_cons {R : Nat → Nat → Bool} : ∀ {d i j : Nat}, wk R (d + 1) i j → ∃ m, R i m = true ∧ wk R d m j
  | 0, i, j, h => ⟨j, wk_one.1 h, rfl⟩
  | d + 1, i, j, h => by
    obtain ⟨m, h1, h2⟩ := h
    obtain ⟨q, h3, h4⟩ := wk_cons h1
    exact ⟨q, h3, m, h4, h2⟩
/-- no closed way is shorter than D, and at D none begins with a lesser number. -/
def MinC (R : Nat → Nat → Bool) (n D x : Nat) : Prop := 1 ≤ D ∧ D ≤ n ∧ x < n ∧ wk R D x x ∧ (∀ d y, 1 ≤ d → d < D → ¬ wk R d y y) ∧ ∀ y, y < x → ¬ wk R D y y
theorem MinC.one {R : Nat → Nat → Bool} {n D x D' x' : Nat} (h : MinC R n D x) (g : MinC R n D' x') : D = D' ∧ x = x' := by
  obtain ⟨a1, a2, a3, a4, a5, a6⟩ := h
  obtain ⟨b1, b2, b3, b4, b5, b6⟩ := g
  have e : D = D' := by
    rcases Nat.lt_trichotomy D D' with q | q | q
    · exact absurd a4 (b5 D x a1 q)
    · exact q
    · exact absurd b4 (a5 D' x' b1 q)
  subst e
  refine ⟨rfl, ?_⟩
  rcases Nat.lt_trichotomy x x' with q | q | q
  · exact absurd a4 (b6 x q)
  · exact q
  · exact absurd b4 (a6 x' q)
/-- there is no circle. -/
def NoC (R : Nat → Nat → Bool) (n : Nat) : Prop := ∀ d x, 1 ≤ d → d ≤ n → ¬ wk R d x x
theorem MinC.not {R : Nat → Nat → Bool} {n D x : Nat} (h : MinC R n D x) : ¬ NoC R n := fun g => g D x h.1 h.2.1 h.2.2.2.1
/-- the next one: the least to which an edge leads and from which left edges lead back. -/
def nxC (R : Nat → Nat → Bool) (n x left y : Nat) : Option Nat := (List.range n).find? fun z => R y z && rch R n z left x
/-- the list behind k steps, and its last number. -/
def cSq (R : Nat → Nat → Bool) (n D x : Nat) : Nat → List Int × Nat
  | 0 => ([(x : Int)], x)
  | k + 1 => match nxC R n x (D - 1 - k) (cSq R n D x k).2 with
    | some z => ((cSq R n D x k).1 ++ [(z : Int)], z)
    | none => cSq R n D x k
open Classical in
noncomputable def circB (n : Int) (L : List (Int × Int)) : List Int :=
  if h : gOk n L = true ∧ ∃ p : Nat × Nat, MinC (eR L) n.toNat p.1 p.2 then (cSq (eR L) n.toNat (Classical.choose h.2).1 (Classical.choose h.2).2 ((Classical.choose h.2).1 - 1)).1 else []
theorem circB_is {n : Nat} {L : List (Int × Int)} {D x : Nat} (hg : gOk n L = true) (h : MinC (eR L) n D x) : circB n L = (cSq (eR L) n D x (D - 1)).1 := by
  have hx : gOk n L = true ∧ ∃ p : Nat × Nat, MinC (eR L) (n : Int).toNat p.1 p.2 := ⟨hg, (D, x), by simpa using h⟩
  unfold circB
  rw [dif_pos hx]
  have hs := Classical.choose_spec hx.2
  generalize Classical.choose hx.2 = p at hs ⊢
  have := MinC.one (R := eR L) (n := n) (by simpa using hs) h
  rw [this.1, this.2]; simp
theorem circB_no {n : Int} {L : List (Int × Int)} (h : ¬ (gOk n L = true ∧ ∃ p : Nat × Nat, MinC (eR L) n.toNat p.1 p.2)) : circB n L = [] := by
  unfold circB; rw [dif_neg h]
theorem circB_none {n : Nat} {L : List (Int × Int)} (h : NoC (eR L) n) : circB n L = [] :=
  circB_no fun g => by
    obtain ⟨_, p, hp⟩ := g
    exact MinC.not (by simpa using hp) h
theorem cSq_len (R : Nat → Nat → Bool) (n D x : Nat) : ∀ k, (cSq R n D x k).1.length ≤ k + 1
  | 0 => by simp [cSq]
  | k + 1 => by
    have := cSq_len R n D x k
    simp only [cSq]
    split
    · simp; omega
    · omega
theorem circB_len (n : Int) (L : List (Int × Int)) : (circB n L).length ≤ 1048576 := by
  by_cases h : gOk n L = true ∧ ∃ p : Nat × Nat, MinC (eR L) n.toNat p.1 p.2
  · obtain ⟨hg, ⟨D, x⟩, hm⟩ := h
    obtain ⟨m, rfl, hm16, _⟩ := gOk_open hg
    have hm' : MinC (eR L) m D x := by simpa using hm
    rw [circB_is hg hm']
    have := cSq_len (eR L) m D x (D - 1)
    have := hm'.2.1
    omega
  · rw [circB_no h]; simp
/-- what is right of the last number behind k steps. -/
def OnC (R : Nat → Nat → Bool) (n D x k y : Nat) : Prop := y < n ∧ wk R k x y ∧ wk R (D - k) y x
theorem OnC.start {R : Nat → Nat → Bool} {n D x : Nat} (h : MinC R n D x) : OnC R n D x 0 x := ⟨h.2.2.1, rfl, by simpa using h.2.2.2.1⟩
theorem OnC.next {R : Nat → Nat → Bool} {n D x k y : Nat} (hR : Sup R n) (h : OnC R n D x k y) (hk : k + 1 < D) : ∃ z, nxC R n x (D - 1 - k) y = some z ∧ OnC R n D x (k + 1) z := by
  obtain ⟨h1, h2, h3⟩ := h
  rw [show D - k = D - 1 - k + 1 by omega] at h3
  obtain ⟨z, z1, z2⟩ := wk_cons h3
  have hz := (hR y z z1).2
  cases hf : nxC R n x (D - 1 - k) y with
  | none =>
    exfalso
    unfold nxC at hf
    rw [List.find?_eq_none] at hf
    have := hf z (by simpa using hz)
    rw [z1, (rch_iff hR (D - 1 - k) x).2 z2] at this
    simp at this
  | some q =>
    refine ⟨q, rfl, ?_⟩
    unfold nxC at hf
    have hm : q < n := by simpa using List.mem_of_find?_eq_some hf
    have hp := List.find?_some hf
    simp only [Bool.and_eq_true] at hp
    refine ⟨hm, ⟨y, h2, hp.1⟩, ?_⟩
    rw [show D - (k + 1) = D - 1 - k by omega]
    exact (rch_iff hR _ _).1 hp.2
/-- how the specification looks for it: by the shortest way back. -/
theorem way_left {R : Nat → Nat → Bool} {n D x k y z : Nat} (hR : Sup R n) (hm : MinC R n D x) (h : OnC R n D x k y) (hk : k + 1 < D) (hz : R y z = true) : decide (wayF R n z x = D - 1 - k) = rch R n z (D - 1 - k) x := by
  obtain ⟨h1, h2, h3⟩ := h
  rw [Bool.eq_iff_iff, decide_eq_true_eq]
  constructor
  · intro e
    rcases way_cases R n z x with ⟨e0, _⟩ | ⟨d, hd, e1, e2, _⟩
    · omega
    · rw [← e, e1]; exact e2
  · intro e
    rcases way_cases R n z x with ⟨_, g⟩ | ⟨d, hd, e1, e2, e3⟩
    · have := g (D - 1 - k - 1) (by have := hm.2.1; omega)
      rw [show D - 1 - k - 1 + 1 = D - 1 - k by omega, e] at this
      cases this
    · rw [e1]
      have w1 := (rch_iff hR (d + 1) x).1 e2
      by_cases q : d + 1 < D - 1 - k
      · exfalso
        exact hm.2.2.2.2.1 (k + 1 + (d + 1)) x (by omega) (by omega) (wk_add ⟨y, h2, hz⟩ w1)
      · by_cases q2 : D - 1 - k < d + 1
        · have := e3 (D - 1 - k - 1) (by omega)
          rw [show D - 1 - k - 1 + 1 = D - 1 - k by omega, e] at this
          cases this
        · omega
end Go.Proofs.YtbgeobpdojmdaaaDoor
