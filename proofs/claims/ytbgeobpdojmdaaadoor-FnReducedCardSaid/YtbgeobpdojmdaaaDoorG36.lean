import Derived.Test.YtbgeobpdojmdaaaDoorG35
namespace Go.Proofs.YtbgeobpdojmdaaaDoor
open Go.RowKit
set_option linter.unusedVariables false
set_option linter.unusedSimpArgs false

theorem next_from {p : Nat → Bool} : ∀ (d y : Nat), p (y + d) = true → ∃ z, y ≤ z ∧ z ≤ y + d ∧ p z = true ∧ ∀ i, y ≤ i → i < z → p i = false
  | 0, y, h => ⟨y, Nat.le_refl _, by omega, h, fun i h1 h2 => by omega⟩
  | d + 1, y, h => by
    cases hp : p y
    · obtain ⟨z, a, b, c, e⟩ := next_from (p := p) d (y + 1) (by rwa [show y + 1 + d = y + (d + 1) by omega])
      refine ⟨z, by omega, by omega, c, fun i h1 h2 => ?_⟩
      by_cases q : i = y
      · subst q; exact hp
      · exact e i (by omega) h2
    · exact ⟨y, Nat.le_refl _, by omega, hp, fun i h1 h2 => by omega⟩
theorem psum_skip (L : List (Int × Int)) (n l : Nat) (S : Nat → Bool) (x : Nat) : ∀ d, (∀ i, x ≤ i → i < x + d → rdy (eF L) n S i = false) → psum L n l S (x + d) = psum L n l S x
  | 0, _ => rfl
  | d + 1, h => by
    rw [show x + (d + 1) = x + d + 1 by omega, psum_succ, h (x + d) (by omega) (by omega), psum_skip L n l S x d (fun i h1 h2 => h i h1 (by omega))]
    simp
/-- one that goes on: if more is left than what the first x make, another one is ready. -/
theorem more_ready {L : List (Int × Int)} {n l : Nat} {S : Nat → Bool} {k x : Nat} (h : k < psum L n l S n) (hx : x ≤ n) (hk : psum L n l S x ≤ k) : ∃ z, x ≤ z ∧ z < n ∧ rdy (eF L) n S z = true ∧ (∀ i, x ≤ i → i < z → rdy (eF L) n S i = false) ∧ psum L n l S z = psum L n l S x := by
  obtain ⟨q, q1, _, q3, q4, q5⟩ := pk_some h
  have hq : x ≤ q := by
    by_cases e : x ≤ q
    · exact e
    · have := psum_le_of L n l S (x := q + 1) (y := x) (by omega); omega
  obtain ⟨z, a, b, c, e⟩ := next_from (p := fun i => rdy (eF L) n S i) (q - x) x (by rwa [show x + (q - x) = q by omega])
  refine ⟨z, a, by omega, c, e, ?_⟩
  have := psum_skip L n l S x (z - x) (fun i h1 h2 => e i h1 (by omega))
  rwa [show x + (z - x) = z by omega] at this
theorem LI.next {L : List (Int × Int)} {n k y : Nat} {O : List Int} (hn : n ≤ 8) (h : LI L n O k) (hj : O.length < n) (hy : y < n) (hr : rdy (eF L) n (stands O) y = true) : (bw (stands (O ++ [(y : Int)]))).toNat < 2 ^ n ∧ gE L n (bw (stands (O ++ [(y : Int)]))).toNat = cnt L n (n - O.length - 1) (addS (stands O) y) := by
  obtain ⟨a, b, c, d⟩ := h
  have hf : (bw (stands O)).toNat.testBit y = false := by rw [bw_test _ (by omega)]; exact rdy_free hr
  have c' : (bw (stands (O ++ [(y : Int)]))).toNat < 2 ^ n := by rw [bw_snoc O (by omega)]; exact or_lt c hy
  have d' : card n (bw (stands (O ++ [(y : Int)]))).toNat = (O ++ [(y : Int)]).length := by
    rw [bw_snoc O (by omega), card_add _ _ hf n, if_pos hy, d]; simp
  refine ⟨c', ?_⟩
  rw [LI.table hn c' d', addS_stands, List.length_append, List.length_singleton, show n - (O.length + 1) = n - O.length - 1 by omega]

end Go.Proofs.YtbgeobpdojmdaaaDoor
