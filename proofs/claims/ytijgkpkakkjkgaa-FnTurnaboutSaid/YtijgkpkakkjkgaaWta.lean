import Derived.Test.YtijgkpkakkjkgaaWdv
import Derived.Test.YtijgkpkakkjkgaaWu
import Derived.Test.YtijgkpkakkjkgaaWsx
namespace Go.Proofs.Ytijgkpkakkjkgaa
open Go.RowKit
set_option linter.unusedVariables false

theorem order_sym (x y : Nat) (lx : x < 18446744073709551616) (ly : y < 18446744073709551616) : (FloatKind.f64.format.order x y == some Ordering.eq) = (FloatKind.f64.format.order y x == some Ordering.eq) := by
  rw [show FloatKind.f64.format = Ieee.double from rfl]
  cases nx : nanB x <;> cases ny : nanB y
  · rw [order_eq x y lx ly nx ny, order_eq y x ly lx ny nx, Bool.eq_iff_iff]
    simp; omega
  · rw [order_nan_right x y ny, order_nan_left y x ny]
  · rw [order_nan_left x y nx, order_nan_right y x nx]
  · rw [order_nan_left x y nx, order_nan_left y x ny]

theorem op2_add_comm (o p : Option Nat) : op2 .add o p = op2 .add p o := by
  cases o <;> cases p <;> simp [op2]
  exact add_comm' _ _

/-- sums, products, 'same', 'and', 'or' may be turned about. -/
theorem opOut_comm (op k i : Int) (x y : Nat) (l j : Int) (u v : Nat) (lx : x < 18446744073709551616) (ly : y < 18446744073709551616) (lu : u < 18446744073709551616) (lv : v < 18446744073709551616) (h : op = 1 ∨ op = 3 ∨ op = 7 ∨ op = 8 ∨ op = 9) :
    opOut op k i x y l j u v = opOut op l j u v k i x y := by
  unfold opOut
  by_cases hg : okB k i x y = true ∧ okB l j u v = true ∧ k = l
  · have hg' : okB l j u v = true ∧ okB k i x y = true ∧ l = k := ⟨hg.2.1, hg.1, hg.2.2.symm⟩
    rw [if_pos hg, if_pos hg']
    obtain ⟨_, _, rfl⟩ := hg
    by_cases h1 : k = 1
    · rw [if_pos h1, if_pos h1]
      unfold intOut
      rcases h with rfl | rfl | rfl | rfl | rfl
      · simp [Int.add_comm]
      · simp [Int.mul_comm]
      · simp [bV, Bool.beq_comm]
      · simp
      · simp
    · rw [if_neg h1, if_neg h1]
      by_cases h2 : k = 2
      · rw [if_pos h2, if_pos h2]
        unfold realOut
        rcases h with rfl | rfl | rfl | rfl | rfl
        · simp [add_comm' x u]
        · simp [mul_comm' x u]
        · simp [order_sym x u lx lu]
        · simp
        · simp
      · rw [if_neg h2, if_neg h2]
        by_cases h3 : k = 3
        · rw [if_pos h3, if_pos h3]
          unfold pairOut
          rcases h with rfl | rfl | rfl | rfl | rfl
          · simp [add_comm' x u, add_comm' y v]
          · have e1 : mulRe x y u v = mulRe u v x y := by unfold mulRe; rw [mul_comm' x u, mul_comm' y v]
            have e2 : mulIm x y u v = mulIm u v x y := by unfold mulIm; rw [mul_comm' x v, mul_comm' y u, op2_add_comm]
            simp [e1, e2]
          · simp [order_sym x u lx lu, order_sym y v ly lv]
          · simp
          · simp
        · rw [if_neg h3, if_neg h3]
          unfold boolOut
          rcases h with rfl | rfl | rfl | rfl | rfl
          · simp
          · simp
          · simp [Bool.beq_comm]
          · simp [Bool.and_comm]
          · simp [Bool.or_comm]
  · have hg' : ¬ (okB l j u v = true ∧ okB k i x y = true ∧ l = k) := fun h => hg ⟨h.2.1, h.1, h.2.2.symm⟩
    rw [if_neg hg, if_neg hg']

theorem vis_same {o : V} {k i : Int} {x y : Nat} {l j : Int} {u v : Nat} (h : VIs o k i x y) (g : VIs o l j u v) : eqB k i x y l j u v = true := by
  obtain ⟨rfl, rfl, h3, h4⟩ := h
  obtain ⟨rfl, rfl, g3, g4⟩ := g
  simp [eqB, h3.same g3, h4.same g4]

theorem is_zero_eq {x : Nat} (h : Is (some 0) x) : x = 0 := by
  rcases h.2 with h | ⟨h, _⟩
  · cases h; rfl
  · cases h

def Fine (o : V) : Prop := (∃ n, o = iV n) ∨ (∃ q, o = rV q) ∨ (∃ q r, o = pV q r) ∨ ∃ b, o = bV b
theorem Fine.ok {o : V} (h : Fine o) {k i : Int} {x y : Nat} (g : VIs o k i x y) : okB k i x y = true := by
  obtain ⟨rfl, rfl, h3, h4⟩ := g
  rcases h with ⟨n, rfl⟩ | ⟨q, rfl⟩ | ⟨q, r, rfl⟩ | ⟨b, rfl⟩
  · rw [is_zero_eq h3, is_zero_eq h4]; simp [okB, iV, plusB]
  · rw [is_zero_eq h4]; simp [okB, rV, plusB]
  · simp [okB, pV]
  · rw [is_zero_eq h3, is_zero_eq h4]; cases b <;> simp [okB, bV, bN, plusB]

theorem fine_i (n : Int) : Fine (iV n) := Or.inl ⟨n, rfl⟩
theorem fine_r (q : Option Nat) : Fine (rV q) := Or.inr (Or.inl ⟨q, rfl⟩)
theorem fine_p (q r : Option Nat) : Fine (pV q r) := Or.inr (Or.inr (Or.inl ⟨q, r, rfl⟩))
theorem fine_b (b : Bool) : Fine (bV b) := Or.inr (Or.inr (Or.inr ⟨b, rfl⟩))

theorem opOut_fine (op k i : Int) (x y : Nat) (l j : Int) (u v : Nat) (h : (opOut op k i x y l j u v).2 = 0) : Fine (opOut op k i x y l j u v).1 := by
  revert h
  unfold opOut intOut realOut pairOut boolOut
  repeat' split
  all_goals first | exact fun _ => fine_i _ | exact fun _ => fine_r _ | exact fun _ => fine_p _ _ | exact fun _ => fine_b _ | (intro h; simp at h)

theorem opOut_code (op k i : Int) (x y : Nat) (l j : Int) (u v : Nat) : (opOut op k i x y l j u v).2 = 0 ∨ (opOut op k i x y l j u v).2 = 1 ∨ (opOut op k i x y l j u v).2 = 2 := by
  unfold opOut intOut realOut pairOut boolOut
  repeat' split
  all_goals simp
end Go.Proofs.Ytijgkpkakkjkgaa
