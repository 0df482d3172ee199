import Derived.Test.YtbgeobpdojmdaaaDoorG20
import Derived.Test.YtbgeobpdojmdaaaDoorG32
namespace Go.Proofs.YtbgeobpdojmdaaaDoor
open Go.RowKit
set_option linter.unusedVariables false
set_option linter.unusedSimpArgs false

theorem psum_mono (L : List (Int × Int)) (n l : Nat) (S : Nat → Bool) (x : Nat) : ∀ d, psum L n l S x ≤ psum L n l S (x + d)
  | 0 => Nat.le_refl _
  | d + 1 => by
    have := psum_mono L n l S x d
    have h := psum_succ L n l S (x + d)
    rw [show x + (d + 1) = x + d + 1 by omega]; omega
theorem psum_le_of (L : List (Int × Int)) (n l : Nat) (S : Nat → Bool) {x y : Nat} (h : x ≤ y) : psum L n l S x ≤ psum L n l S y := by
  have := psum_mono L n l S x (y - x)
  rwa [show x + (y - x) = y by omega] at this
/-- which number comes next, where k lists are passed over. -/
def pkF (L : List (Int × Int)) (n l : Nat) (S : Nat → Bool) (k : Nat) : Option Nat := (List.range n).find? fun x => decide (k < psum L n l S (x + 1))
theorem pk_is {L : List (Int × Int)} {n l : Nat} {S : Nat → Bool} {k x : Nat} (hx : x < n) (h1 : psum L n l S x ≤ k) (h2 : k < psum L n l S (x + 1)) : pkF L n l S k = some x := by
  unfold pkF
  rw [List.find?_range_eq_some]
  refine ⟨by simpa using h2, by simpa using hx, fun y hy => ?_⟩
  have := psum_le_of L n l S (x := y + 1) (y := x) (by omega)
  simp; omega
theorem pk_some {L : List (Int × Int)} {n l : Nat} {S : Nat → Bool} {k : Nat} (h : k < psum L n l S n) : ∃ x, x < n ∧ pkF L n l S k = some x ∧ psum L n l S x ≤ k ∧ k < psum L n l S (x + 1) ∧ rdy (eF L) n S x = true := by
  cases hp : pkF L n l S k with
  | none =>
    exfalso
    unfold pkF at hp
    rw [List.find?_eq_none] at hp
    have h0 : 0 < n := by
      rcases Nat.eq_zero_or_pos n with e | e
      · rw [e, psum_zero] at h; omega
      · exact e
    have := hp (n - 1) (by simp; omega)
    rw [show n - 1 + 1 = n by omega] at this
    simp at this; omega
  | some x =>
    unfold pkF at hp
    rw [List.find?_range_eq_some] at hp
    obtain ⟨h1, h2, h3⟩ := hp
    have h1 : k < psum L n l S (x + 1) := by simpa using h1
    have h2 : x < n := by simpa using h2
    have h4 : psum L n l S x ≤ k := by
      rcases Nat.eq_zero_or_pos x with e | e
      · rw [e, psum_zero]; omega
      · have := h3 (x - 1) (by omega)
        rw [show x - 1 + 1 = x by omega] at this
        simpa using this
    refine ⟨x, h2, rfl, h4, h1, ?_⟩
    cases hr : rdy (eF L) n S x
    · have := psum_succ L n l S x
      rw [hr] at this
      simp at this; omega
    · rfl
/-- what stands and what is left behind j numbers. -/
def lSq (L : List (Int × Int)) (n k : Nat) : Nat → List Int × Nat
  | 0 => ([], k)
  | j + 1 => match pkF L n (n - j - 1) (stands (lSq L n k j).1) (lSq L n k j).2 with
    | some x => ((lSq L n k j).1 ++ [(x : Int)], (lSq L n k j).2 - psum L n (n - j - 1) (stands (lSq L n k j).1) x)
    | none => lSq L n k j
theorem addS_stands (O : List Int) (q : Nat) : addS (stands O) q = stands (O ++ [(q : Int)]) := by
  funext i
  unfold addS stands
  by_cases e : i = q
  · subst e; simp
  · rw [if_neg e, Bool.eq_iff_iff]
    simp only [decide_eq_true_eq, List.mem_append, List.mem_singleton]
    constructor
    · exact Or.inl
    · rintro (h | h)
      · exact h
      · omega
/-- what is right of what stands. -/
def LI (L : List (Int × Int)) (n : Nat) (O : List Int) (k : Nat) : Prop := O.length ≤ n ∧ k < cnt L n (n - O.length) (stands O) ∧ (bw (stands O)).toNat < 2 ^ n ∧ card n (bw (stands O)).toNat = O.length
theorem bw_test (f : Nat → Bool) {i : Nat} (hi : i < 16) : (bw f).toNat.testBit i = f i := by
  rw [← bw_bit f i hi]; rfl
theorem bw_snoc (O : List Int) {q : Nat} (hq : q < 16) : (bw (stands (O ++ [(q : Int)]))).toNat = (bw (stands O)).toNat ||| 2 ^ q := by
  have e : bw (stands (O ++ [(q : Int)])) = bw (stands O) ||| (1#16) <<< q := by
    symm
    apply bw_ext
    intro i hi
    rw [BitVec.getLsbD_or, bw_bit _ i hi, bit16 q i hi, ← addS_stands]
    unfold addS
    by_cases e : i = q <;> simp [e]
  rw [e, BitVec.toNat_or, BitVec.toNat_shiftLeft, Nat.shiftLeft_eq]
  simp
  rw [Nat.mod_eq_of_lt (Nat.pow_lt_pow_right (n := 16) (by omega) hq)]
theorem LI.start {L : List (Int × Int)} {n k : Nat} (h : k < cnt L n n (fun _ => false)) : LI L n [] k := by
  have e : bw (stands []) = 0#16 := (bw_ext (x := 0#16) (f := stands []) (fun i _ => by simp [stands])).symm
  refine ⟨Nat.zero_le _, ?_, by rw [e]; exact Nat.two_pow_pos n, by rw [e]; simp [card]⟩
  rw [List.length_nil, Nat.sub_zero, show stands [] = (fun _ => false) from funext fun i => by simp [stands]]
  exact h
theorem LI.step {L : List (Int × Int)} {n k x : Nat} {O : List Int} (hn : n ≤ 8) (h : LI L n O k) (hj : O.length < n) (hx : x < n) (h1 : psum L n (n - O.length - 1) (stands O) x ≤ k) (h2 : k < psum L n (n - O.length - 1) (stands O) (x + 1)) (hr : rdy (eF L) n (stands O) x = true) : LI L n (O ++ [(x : Int)]) (k - psum L n (n - O.length - 1) (stands O) x) := by
  obtain ⟨a, b, c, d⟩ := h
  have hs := psum_succ L n (n - O.length - 1) (stands O) x
  rw [hr] at hs
  simp only [if_true] at hs
  have hf : (bw (stands O)).toNat.testBit x = false := by rw [bw_test _ (by omega)]; exact rdy_free hr
  refine ⟨by simp; omega, ?_, ?_, ?_⟩
  · rw [← addS_stands, List.length_append, List.length_singleton, show n - (O.length + 1) = n - O.length - 1 by omega]; omega
  · rw [bw_snoc O (by omega)]; exact or_lt c hx
  · rw [bw_snoc O (by omega), card_add _ _ hf n, if_pos hx, d]; simp
/-- the table holds what goes on from O. -/
theorem LI.table {L : List (Int × Int)} {n : Nat} {O : List Int} (hn : n ≤ 8) (c : (bw (stands O)).toNat < 2 ^ n) (d : card n (bw (stands O)).toNat = O.length) : gE L n (bw (stands O)).toNat = cnt L n (n - O.length) (stands O) := by
  unfold gE
  rw [d]
  exact cnt_congr L n (by omega) _ fun i hi => bw_test _ hi
theorem lSq_step {L : List (Int × Int)} {n k0 k x : Nat} {O : List Int} (h : lSq L n k0 O.length = (O, k)) (hp : pkF L n (n - O.length - 1) (stands O) k = some x) : lSq L n k0 (O.length + 1) = (O ++ [(x : Int)], k - psum L n (n - O.length - 1) (stands O) x) := by
  simp only [lSq, h, hp]
def linrB (n : Int) (L : List (Int × Int)) (k : Int) : Option (List Int) := if 0 ≤ k ∧ k < linsB n L then some (lSq L n.toNat k.toNat n.toNat).1 else none
theorem linsB_open {n : Int} {L : List (Int × Int)} (h : 0 < linsB n L) : ∃ m : Nat, n = (m : Int) ∧ m ≤ 8 ∧ gOk n L = true ∧ linsB n L = (cnt L m m (fun _ => false) : Int) := by
  unfold linsB at h ⊢
  split at h
  · rename_i hh
    obtain ⟨m, rfl, _⟩ := gOk_open hh.1
    refine ⟨m, rfl, by omega, hh.1, ?_⟩
    rw [if_pos hh]; simp
  · omega
theorem lSq_len (L : List (Int × Int)) (n k : Nat) : ∀ j, (lSq L n k j).1.length ≤ j
  | 0 => by simp [lSq]
  | j + 1 => by
    have := lSq_len L n k j
    simp only [lSq]
    split
    · simp; omega
    · omega
theorem linrB_len (n : Int) (L : List (Int × Int)) (k : Int) : ((linrB n L k).getD []).length ≤ 1048576 := by
  unfold linrB
  split
  · rename_i h
    obtain ⟨m, rfl, hm, _⟩ := linsB_open (n := n) (L := L) (by omega)
    have := lSq_len L m k.toNat m
    simp; omega
  · simp
end Go.Proofs.YtbgeobpdojmdaaaDoor
