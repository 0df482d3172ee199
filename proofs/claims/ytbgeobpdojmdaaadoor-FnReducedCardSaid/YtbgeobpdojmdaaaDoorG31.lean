import Derived.Test.YtbgeobpdojmdaaaDoorG30
namespace Go.Proofs.YtbgeobpdojmdaaaDoor
open Go.RowKit
set_option linter.unusedVariables false
set_option linter.unusedSimpArgs false

/-- 256 whole numbers as cells. -/
def ct (f : Nat → Int) : Array Value := ((List.range 256).map fun i => Value.int .i64 (f i)).toArray
theorem ct_size (f : Nat → Int) : (ct f).size = 256 := by simp [ct]
theorem ct_one (f : Nat → Int) : (ct f).all (·.oneCell') = true := by
  rw [Array.all_eq_true_iff_forall_mem]
  intro v hv
  simp only [ct, List.mem_toArray, List.mem_map] at hv
  obtain ⟨x, _, rfl⟩ := hv
  rfl
theorem ct_cell (f : Nat → Int) {i : Nat} (hi : i < 256) : (ct f)[i]? = some (.int .i64 (f i)) := by simp [ct, hi]
theorem ct_congr {f g : Nat → Int} (h : ∀ i, i < 256 → f i = g i) : ct f = ct g := by
  unfold ct
  refine congrArg List.toArray (List.map_congr_left fun i hi => ?_)
  rw [h i (by simpa using hi)]
theorem ct_set (f : Nat → Int) (i : Nat) (hi : i < 256) (x : Int) : (ct f).setIfInBounds i (.int .i64 x) = ct fun j => if j = i then x else f j := by
  apply Array.ext_getElem?
  intro j
  by_cases hj : j < 256
  · rw [ct_cell _ hj, Array.getElem?_setIfInBounds]
    by_cases e : i = j
    · subst e; simp [ct_size, hi]
    · rw [if_neg e, ct_cell _ hj, if_neg (Ne.symm e)]
  · rw [Array.getElem?_eq_none (by rw [Array.size_setIfInBounds, ct_size]; omega), Array.getElem?_eq_none (by rw [ct_size]; omega)]
theorem Tryd.infoCt : (Tryd.prog.info? 53).map (·.size) = some 256 := by kernel_rfl
theorem load_ct (f : Nat → Int) (w : World) (n : Nat) (h : Blk w n (ct f) 53) :
    (loadVar 53 ⟨n, 0, none⟩).run Tryd.prog w = .ok (.agg (ct f)) w :=
  run_loadVar_row w n _ _ _ _ _ h Tryd.underlying53 rfl (by rw [Tryd.infoCt, ct_size])
theorem Blk.ctSet {w : World} {n i : Nat} {f : Nat → Int} {t : TypeId} (h : Blk w n (ct f) t) (hi : i < 256) (x : Int) : Blk (w.setCell ⟨n, i, none⟩ (.int .i64 x)) n (ct fun j => if j = i then x else f j) t := by
  rw [← ct_set f i hi x]; exact h.set i _
theorem idx_ct (f : Nat → Int) (i : Nat) (hi : i < 256) (w : World) : (Instr.index 53 (.agg (ct f)) (.int .i64 (i : Int))).run Tryd.prog w = .ok (.int .i64 (f i)) w := by
  obtain ⟨i0, hi0, hz0, hz1, hz2⟩ := info_parts Tryd.infoI
  have hz : (sizeOf 3).run Tryd.prog w = .ok 1 w := by simp [sizeOf, typeInfo, hi0, hz1]
  have px : (Go.part 3 (ct f) i).run Tryd.prog w = .ok (.int .i64 (f i)) w := by
    simp [Go.part, isAgg, run_underlying Tryd.underlying3, ct_cell f hi]
  simp [Instr.index, asIntOf, run_underlying Tryd.underlying53, hz, px, show (i : Int) < 256 by omega, hi, show ¬ 256 ≤ i by omega]

/-- a set as a number. -/
theorem nb_bits (t : Nat) (ht : t < 65536) : nb (fun i => t.testBit i) = (t : Int) := by
  unfold nb
  rw [← bw_ext (x := BitVec.ofNat 16 t) (f := fun i => t.testBit i) (fun i hi => by rw [BitVec.getLsbD_ofNat]; simp [hi]), BitVec.toNat_ofNat, Nat.mod_eq_of_lt (by omega)]
/-- how many of the first n stand. -/
def card (n t : Nat) : Nat := ((List.range n).filter fun i => t.testBit i).length
theorem card_add (t x : Nat) (h : t.testBit x = false) : ∀ n, card n (t ||| 2 ^ x) = card n t + if x < n then 1 else 0
  | 0 => by simp [card]
  | n + 1 => by
    have ih := card_add t x h n
    unfold card at ih ⊢
    rw [List.range_succ, List.filter_append, List.filter_append, List.length_append, List.length_append, ih]
    by_cases e : x = n
    · subst e
      simp [Nat.testBit_or, h, Nat.testBit_two_pow_self]
    · have hb : (t ||| 2 ^ x).testBit n = t.testBit n := by rw [Nat.testBit_or, Nat.testBit_two_pow_of_ne e]; simp
      have hx : (x < n + 1) ↔ x < n := by omega
      by_cases hn : t.testBit n = true
      · simp [hb, hn, hx]; split <;> omega
      · have hn' : t.testBit n = false := by simpa using hn
        rw [hn'] at hb
        simp only [List.filter_cons, hb, hn', List.filter_nil, List.length_nil, hx]
        simp
theorem card_le (n t : Nat) : card n t ≤ n := by
  unfold card
  exact Nat.le_trans (List.length_filter_le _ _) (by simp)
theorem card_full (n : Nat) : card n (2 ^ n - 1) = n := by
  unfold card
  have : (List.range n).filter (fun i => (2 ^ n - 1).testBit i) = List.range n := by
    rw [List.filter_eq_self]
    intro i hi
    rw [Nat.testBit_two_pow_sub_one]; simpa using hi
  rw [this]; simp
theorem card_lt {n t : Nat} (ht : t < 2 ^ n - 1) : card n t < n := by
  by_cases h : card n t = n
  · exfalso
    have hall : ∀ i, i < n → t.testBit i = true := by
      unfold card at h
      have h2 : ((List.range n).filter fun i => t.testBit i).length = (List.range n).length := by simpa using h
      rw [List.length_filter_eq_length_iff] at h2
      intro i hi
      exact h2 i (by simpa using hi)
    have : t = 2 ^ n - 1 := by
      apply Nat.eq_of_testBit_eq
      intro i
      rw [Nat.testBit_two_pow_sub_one]
      by_cases hi : i < n
      · rw [hall i hi]; simp [hi]
      · rw [Nat.testBit_lt_two_pow (Nat.lt_of_lt_of_le (by omega : t < 2 ^ n) (Nat.pow_le_pow_right (by omega) (by omega)))]
        simp [hi]
    omega
  · have := card_le n t; omega
/-- what stands in the table at t. -/
def gE (L : List (Int × Int)) (n t : Nat) : Nat := cnt L n (n - card n t) fun i => t.testBit i
theorem gE_full (L : List (Int × Int)) (n : Nat) : gE L n (2 ^ n - 1) = 1 := by
  unfold gE; rw [card_full, Nat.sub_self]; rfl
theorem gE_zero (L : List (Int × Int)) (n : Nat) : gE L n 0 = cnt L n n fun _ => false := by
  unfold gE
  have : card n 0 = 0 := by simp [card]
  rw [this, Nat.sub_zero]
  simp
theorem gE_sum (L : List (Int × Int)) {n t : Nat} (ht : t < 2 ^ n - 1) : gE L n t = psum L n (n - card n t - 1) (fun i => t.testBit i) n := by
  have := card_lt ht
  unfold gE
  rw [psum_all, show n - card n t - 1 + 1 = n - card n t by omega]
theorem gE_next (L : List (Int × Int)) {n t x : Nat} (hn : n ≤ 16) (hx : x < n) (h : t.testBit x = false) : gE L n (t ||| 2 ^ x) = cnt L n (n - card n t - 1) (addS (fun i => t.testBit i) x) := by
  unfold gE
  rw [card_add t x h n, if_pos hx, show n - (card n t + 1) = n - card n t - 1 by omega]
  refine cnt_congr L n hn _ fun i _ => ?_
  unfold addS
  by_cases e : i = x
  · subst e; simp [Nat.testBit_or, Nat.testBit_two_pow_self]
  · rw [if_neg e, Nat.testBit_or, Nat.testBit_two_pow_of_ne (Ne.symm e)]; simp
theorem or_gt {t x : Nat} (h : t.testBit x = false) : t < t ||| 2 ^ x := by
  have h1 : t ≤ t ||| 2 ^ x := Nat.left_le_or
  by_cases e : t = t ||| 2 ^ x
  · exfalso
    rw [e, Nat.testBit_or, Nat.testBit_two_pow_self] at h
    simp at h
  · omega
theorem or_lt {n t x : Nat} (ht : t < 2 ^ n) (hx : x < n) : t ||| 2 ^ x < 2 ^ n := Nat.or_lt_two_pow ht (Nat.pow_lt_pow_right (by omega) hx)
theorem or64 (t x : Nat) (ht : t < 256) (hx : x < 8) : bits .or .i64 (t : Int) (IntKind.i64.wrap (2 ^ x)) = ((t ||| 2 ^ x : Nat) : Int) := by
  have : ∀ t : Nat, t < 256 → ∀ x : Nat, x < 8 → bits .or .i64 (t : Int) (IntKind.i64.wrap (2 ^ x)) = ((t ||| 2 ^ x : Nat) : Int) := by decide +kernel
  exact this t ht x hx
end Go.Proofs.YtbgeobpdojmdaaaDoor
