import Derived.Test.YtigllpegaljkmaaDoorG18j
import Derived.Test.YtigllpegaljkmaaDoorN1j
namespace Go.Proofs.YtigllpegaljkmaaDoor
open Go.RowKit
set_option linter.unusedVariables false
set_option linter.unusedSimpArgs false

/-! tasks and moves, in logic: of each task 0 (not begun), 1 (runs), 2 (has ended) -/
def Thr (A : List Int) : Prop := ∀ v ∈ A, v = 0 ∨ v = 1 ∨ v = 2
def fB (A : List Int) (x : Nat) : Bool := !decide (A.getD x 0 = 0)
def fD (A : List Int) (x : Nat) : Bool := decide (A.getD x 0 = 2)
def run1 (A : List Int) (x : Nat) : Bool := decide (A.getD x 0 = 1)
def rdA (L : List (Int × Int)) (A : List Int) (x : Nat) : Bool := decide (A.getD x 0 = 0) && L.all fun e => !(decide (e.2 = (x : Int)) && !decide (A.getD e.1.toNat 0 = 2))
def mvK (k : Int) (f : Nat → Bool) (n : Nat) : List (Int × Int) := ((List.range n).filter f).map fun (x : Nat) => (k, (x : Int))
def mvs (L : List (Int × Int)) (wk : Int) (A : List Int) : List (Int × Int) := mvK 1 (run1 A) A.length ++ if ((mvK 1 (run1 A) A.length).length : Int) < wk then mvK 2 (rdA L A) A.length else []
def doM (A : List Int) (m : Int × Int) : List Int := A.set m.2.toNat (if m.1 = 2 then 1 else 2)
def plG (L : List (Int × Int)) (wk : Int) : List Int → List (Int × Int) → Option (List (Int × Int))
  | A, [] => some (mvs L wk A)
  | A, m :: D => if m ∈ mvs L wk A then plG L wk (doM A m) D else none
def wkOk (wk : Int) : Bool := decide (1 ≤ wk ∧ wk ≤ 8)
def plB (n : Int) (L : List (Int × Int)) (wk : Int) (D : List (Int × Int)) : Option (List (Int × Int)) := if (gOk n L && wkOk wk) = true then plG L wk (List.replicate n.toNat 0) D else none

theorem thr_at {A : List Int} (h : Thr A) (x : Nat) : A.getD x 0 = 0 ∨ A.getD x 0 = 1 ∨ A.getD x 0 = 2 := by
  by_cases hx : x < A.length
  · have := h A[x] (List.getElem_mem hx)
    simpa [List.getD, hx] using this
  · left; simp [List.getD, List.getElem?_eq_none (Nat.le_of_not_lt hx)]
theorem run_bits {A : List Int} (h : Thr A) (x : Nat) : (fB A x && !fD A x) = run1 A x := by
  unfold fB fD run1
  rcases thr_at h x with e | e | e <;> rw [e] <;> rfl
theorem rdy_bits {n : Nat} {L : List (Int × Int)} {A : List Int} (h : Thr A) (hA : A.length = n) (hin : Inn n L) (hn : n ≤ 16) (x : Nat) : (rdy (eF L) n (fD A) x && !fB A x) = (decide (x < n) && rdA L A x) := by
  by_cases hx : x < n
  · have h1 := rdL_eq hin hn (fD A) hx
    rw [← h1]
    unfold rdL rdA fB fD
    have hx' : decide (x < n) = true := by simp [hx]
    rw [hx']
    rcases thr_at h x with e | e | e <;> rw [e] <;> simp
  · simp [rdy, hx]
theorem mem_mvK {k : Int} {f : Nat → Bool} {n : Nat} {m : Int × Int} : m ∈ mvK k f n ↔ ∃ x : Nat, x < n ∧ f x = true ∧ m = (k, (x : Int)) := by
  simp only [mvK, List.mem_map, List.mem_filter, List.mem_range]
  constructor
  · rintro ⟨x, ⟨h1, h2⟩, rfl⟩; exact ⟨x, h1, h2, rfl⟩
  · rintro ⟨x, h1, h2, rfl⟩; exact ⟨x, ⟨h1, h2⟩, rfl⟩
theorem mvK_len (k : Int) (f : Nat → Bool) (n : Nat) : (mvK k f n).length ≤ n := by
  have := List.length_filter_le f (List.range n)
  simpa [mvK] using this
theorem mvK_succ (k : Int) (f : Nat → Bool) (n : Nat) : mvK k f (n + 1) = mvK k f n ++ if f n then [(k, (n : Int))] else [] := by
  unfold mvK
  rw [List.range_succ, List.filter_append, List.map_append]
  congr 1
  cases h : f n <;> simp [List.filter_cons, h]
theorem mvK_skip (k : Int) {f : Nat → Bool} {n : Nat} : ∀ m, (∀ i, n ≤ i → i < n + m → f i = false) → mvK k f (n + m) = mvK k f n
  | 0, _ => rfl
  | m + 1, h => by
    rw [← Nat.add_assoc, mvK_succ, mvK_skip k m (fun i h1 h2 => h i h1 (by omega)), h (n + m) (by omega) (by omega)]
    simp
theorem mvK_congr (k : Int) {f g : Nat → Bool} {n : Nat} (h : ∀ i, i < n → f i = g i) : mvK k f n = mvK k g n := by
  unfold mvK
  congr 1
  exact List.filter_congr fun i hi => h i (by simpa using hi)
theorem mvs_len (L : List (Int × Int)) (wk : Int) (A : List Int) : (mvs L wk A).length ≤ 2 * A.length := by
  have h1 := mvK_len 1 (run1 A) A.length
  have h2 := mvK_len 2 (rdA L A) A.length
  unfold mvs
  rw [List.length_append]
  split
  · omega
  · simp; omega
theorem mem_mvs {L : List (Int × Int)} {wk : Int} {A : List Int} {m : Int × Int} (h : m ∈ mvs L wk A) : ∃ x : Nat, x < A.length ∧ ((m = (1, (x : Int)) ∧ A.getD x 0 = 1) ∨ (m = (2, (x : Int)) ∧ A.getD x 0 = 0)) := by
  unfold mvs at h
  rw [List.mem_append] at h
  rcases h with h | h
  · obtain ⟨x, h1, h2, rfl⟩ := mem_mvK.1 h
    exact ⟨x, h1, Or.inl ⟨rfl, by simpa [run1] using h2⟩⟩
  · split at h
    · obtain ⟨x, h1, h2, rfl⟩ := mem_mvK.1 h
      simp only [rdA, Bool.and_eq_true, decide_eq_true_eq] at h2
      exact ⟨x, h1, Or.inr ⟨rfl, h2.1⟩⟩
    · cases h
theorem doM_len (A : List Int) (m : Int × Int) : (doM A m).length = A.length := by simp [doM]
theorem doM_thr {A : List Int} (h : Thr A) (m : Int × Int) : Thr (doM A m) := by
  intro v hv
  unfold doM at hv
  rcases List.mem_or_eq_of_mem_set hv with hv | rfl
  · exact h v hv
  · split
    · exact Or.inr (Or.inl rfl)
    · exact Or.inr (Or.inr rfl)
theorem doM_at {A : List Int} {k : Int} {x : Nat} (hx : x < A.length) (i : Nat) : (doM A (k, (x : Int))).getD i 0 = if i = x then (if k = 2 then 1 else 2) else A.getD i 0 := by
  unfold doM
  simp only [Int.toNat_natCast, List.getD_eq_getElem?_getD]
  by_cases e : i = x
  · subst e; rw [List.getElem?_set_self hx, if_pos rfl]; rfl
  · rw [List.getElem?_set_ne (Ne.symm e), if_neg e]
theorem beg_B {A : List Int} {x : Nat} (hx : x < A.length) (i : Nat) : fB (doM A (2, (x : Int))) i = (fB A i || decide (i = x)) := by
  unfold fB; rw [doM_at hx]
  by_cases e : i = x
  · subst e; simp
  · simp [e]
theorem beg_D {A : List Int} {x : Nat} (hx : x < A.length) (h0 : A.getD x 0 = 0) (i : Nat) : fD (doM A (2, (x : Int))) i = fD A i := by
  unfold fD; rw [doM_at hx]
  by_cases e : i = x
  · subst e; rw [h0]; simp
  · simp [e]
theorem end_B {A : List Int} {x : Nat} (hx : x < A.length) (h1 : A.getD x 0 = 1) (i : Nat) : fB (doM A (1, (x : Int))) i = fB A i := by
  unfold fB; rw [doM_at hx]
  by_cases e : i = x
  · subst e; rw [h1]; simp
  · simp [e]
theorem end_D {A : List Int} {x : Nat} (hx : x < A.length) (i : Nat) : fD (doM A (1, (x : Int))) i = (fD A i || decide (i = x)) := by
  unfold fD; rw [doM_at hx]
  by_cases e : i = x
  · subst e; simp
  · simp [e]
theorem plG_step {L : List (Int × Int)} {wk : Int} {A : List Int} {D : List (Int × Int)} {k : Nat} (hk : k < D.length) {m : Int × Int} (hm : D[k]?.getD (0, 0) = m) : plG L wk A (D.drop k) = if m ∈ mvs L wk A then plG L wk (doM A m) (D.drop (k + 1)) else none := by
  have : D.drop k = m :: D.drop (k + 1) := by rw [List.drop_eq_getElem_cons hk, ← hm]; simp [hk]
  rw [this]; rfl
theorem zeros_thr (n : Nat) : Thr (List.replicate n 0) := fun v hv => Or.inl (List.eq_of_mem_replicate hv)
theorem zeros_at (n x : Nat) : (List.replicate n (0 : Int)).getD x 0 = 0 := by
  simp only [List.getD_eq_getElem?_getD, List.getElem?_replicate]
  split <;> rfl
theorem zeros_B (n : Nat) (x : Nat) : fB (List.replicate n 0) x = false := by unfold fB; rw [zeros_at]; rfl
theorem zeros_D (n : Nat) (x : Nat) : fD (List.replicate n 0) x = false := by unfold fD; rw [zeros_at]; rfl
theorem mv16 (k : Int) {f : Nat → Bool} {n : Nat} (hn : n ≤ 16) (h : ∀ i, n ≤ i → f i = false) : mvK k f 16 = mvK k f n := by
  have := mvK_skip k (f := f) (n := n) (16 - n) (fun i h1 _ => h i h1)
  rw [show n + (16 - n) = 16 by omega] at this
  exact this

/-! a word without its least bit -/
theorem bw_nat (f : Nat → Bool) (i : Nat) : (bw f).toNat.testBit i = (decide (i < 16) && f i) := by
  rw [BitVec.testBit_toNat]
  by_cases h : i < 16
  · rw [bw_bit f i h]; simp [h]
  · rw [BitVec.getLsbD_of_ge _ _ (by omega)]; simp [h]
theorem less_one {f : Nat → Bool} {q : Nat} (h : Least f q) : nb f - 1 = nb (fun i => decide (i < q) || (f i && decide (q < i))) := by
  obtain ⟨hq, hf, hl⟩ := h
  have e1 : (bw f).toNat = 2 ^ (q + 1) * ((bw f).toNat / 2 ^ (q + 1)) + 2 ^ q := by
    have hm : (bw f).toNat % 2 ^ (q + 1) = 2 ^ q := by
      apply Nat.eq_of_testBit_eq
      intro i
      rw [Nat.testBit_mod_two_pow, bw_nat, Nat.testBit_two_pow]
      by_cases e : i = q
      · subst e; simp [hf, hq]
      · by_cases g : i < q
        · simp [hl i g, Ne.symm e]
        · have : ¬ i < q + 1 := by omega
          simp [this, Ne.symm e]
    have := Nat.div_add_mod (bw f).toNat (2 ^ (q + 1))
    omega
  have e2 : (bw (fun i => decide (i < q) || (f i && decide (q < i)))).toNat = 2 ^ (q + 1) * ((bw f).toNat / 2 ^ (q + 1)) + (2 ^ q - 1) := by
    apply Nat.eq_of_testBit_eq
    intro i
    have hlt : 2 ^ q - 1 < 2 ^ (q + 1) := by
      have := Nat.two_pow_pos q
      rw [Nat.pow_succ]; omega
    rw [bw_nat, Nat.testBit_two_pow_mul_add _ hlt]
    by_cases g : i < q + 1
    · rw [if_pos g, Nat.testBit_two_pow_sub_one]
      by_cases e : i = q
      · subst e; simp
      · have h1 : i < q := by omega
        have h2 : ¬ q < i := by omega
        have h3 : i < 16 := by omega
        simp [h1, h3]
    · rw [if_neg g, Nat.testBit_div_two_pow, bw_nat, show i - (q + 1) + (q + 1) = i by omega]
      have h1 : ¬ i < q := by omega
      have h2 : q < i := by omega
      simp [h1, h2]
  have := Nat.two_pow_pos q
  unfold nb
  rw [e2]
  omega
theorem drop_least {f : Nat → Bool} {q : Nat} (h : Least f q) : bits .and .u16 (nb f) (nb f - 1) = nb (fun i => f i && decide (q < i)) := by
  rw [less_one h, and16]
  refine nb_congr fun i hi => ?_
  by_cases g : i < q
  · have h1 : ¬ q < i := by omega
    simp [h.2.2 i g]
  · by_cases e : q < i
    · cases f i <;> simp [g, e]
    · simp [g, e]
theorem least_some {f : Nat → Bool} (h : (nb f == 0) = false) : ∃ q, Least f q := by
  rw [nb_is_zero, List.all_eq_false] at h
  obtain ⟨x, hx, hf⟩ := h
  have hf : f x = true := by simpa using hf
  have hx : x < 16 := by simpa using hx
  have key : ∀ n, (∃ y, y < n ∧ f y = true) → ∃ q, q < n ∧ f q = true ∧ ∀ i, i < q → f i = false := by
    intro n
    induction n with
    | zero => rintro ⟨y, hy, _⟩; omega
    | succ n ih =>
      rintro ⟨y, hy, hfy⟩
      by_cases hex : ∃ y, y < n ∧ f y = true
      · obtain ⟨q, h1, h2, h3⟩ := ih hex
        exact ⟨q, by omega, h2, h3⟩
      · have hyn : y = n := by
          have : ¬ y < n := fun g => hex ⟨y, g, hfy⟩
          omega
        subst hyn
        refine ⟨y, by omega, hfy, fun i hi => ?_⟩
        cases hfi : f i
        · rfl
        · exact absurd ⟨i, hi, hfi⟩ hex
  obtain ⟨q, h1, h2, h3⟩ := key 16 ⟨x, hx, hf⟩
  exact ⟨q, h1, h2, h3⟩
end Go.Proofs.YtigllpegaljkmaaDoor
