import Derived.Test.YtbgeobpdojmdaaaDoorG36
import Derived.Test.YtbgeobpdojmdaaaDoorG52
namespace Go.Proofs.YtbgeobpdojmdaaaDoor
open Go.RowKit
set_option linter.unusedVariables false
set_option linter.unusedSimpArgs false

/-- how many of the first n do not stand yet. -/
def unl (n : Nat) (S : Nat → Bool) : Nat := ((List.range n).filter fun i => !S i).length
theorem unl_succ (n : Nat) (S : Nat → Bool) : unl (n + 1) S = unl n S + if S n then 0 else 1 := by
  unfold unl
  rw [List.range_succ, List.filter_append, List.length_append]
  cases h : S n <;> simp [h]
theorem unl_add {S : Nat → Bool} {x : Nat} (h : S x = false) : ∀ n, unl n (addS S x) + (if x < n then 1 else 0) = unl n S
  | 0 => by simp [unl]
  | n + 1 => by
    have ih := unl_add h n
    rw [unl_succ, unl_succ]
    by_cases e : n = x
    · subst e
      simp [addS, h] at ih ⊢
      omega
    · have : addS S x n = S n := by simp [addS, e]
      rw [this]
      by_cases e2 : x < n
      · rw [if_pos e2] at ih
        rw [if_pos (show x < n + 1 by omega)]; omega
      · rw [if_neg e2] at ih
        rw [if_neg (show ¬ x < n + 1 by omega)]; omega
theorem unl_pos {n : Nat} {S : Nat → Bool} (h : 0 < unl n S) : ∃ x, x < n ∧ S x = false := by
  obtain ⟨x, hx⟩ := List.exists_mem_of_length_pos h
  simp at hx
  exact ⟨x, hx⟩
theorem unl_zero {n : Nat} {S : Nat → Bool} (h : unl n S = 0) {x : Nat} (hx : x < n) : S x = true := by
  have h' := List.length_eq_zero_iff.1 h
  cases e : S x
  · have : x ∈ ((List.range n).filter fun i => !S i) := by simp [hx, e]
    rw [h'] at this; simp at this
  · rfl
theorem rdy_is {L : List (Int × Int)} (h16 : In16 L) {n : Nat} {S : Nat → Bool} {x : Nat} : rdy (eF L) n S x = true ↔ x < n ∧ S x = false ∧ ∀ i, eR L i x = true → S i = true := by
  unfold rdy eF
  simp only [Bool.and_eq_true, decide_eq_true_eq, Bool.not_eq_true', List.all_eq_true, List.mem_range, Bool.and_eq_false_iff, Bool.not_eq_false']
  constructor
  · rintro ⟨h1, h2, h3⟩
    refine ⟨h1, h2, fun i hi => ?_⟩
    have h0 : i < 16 := by
      have := h16 _ (of_decide_eq_true hi)
      dsimp only at this; omega
    rcases h3 i h0 with h | h
    · rw [hi] at h; simp at h
    · simpa using h
  · rintro ⟨h1, h2, h3⟩
    refine ⟨h1, h2, fun i _ => ?_⟩
    cases e : eR L i x
    · exact Or.inl rfl
    · exact Or.inr (by simpa using h3 i e)
theorem least_of {P : Nat → Prop} (h : ∃ n, P n) : ∃ n, P n ∧ ∀ m, m < n → ¬ P m := by
  obtain ⟨n, hn⟩ := h
  induction n using Nat.strongRecOn with
  | _ n ih =>
    by_cases g : ∃ m, m < n ∧ P m
    · obtain ⟨m, h1, h2⟩ := g
      exact ih m h1 h2
    · exact ⟨n, hn, fun m h1 h2 => g ⟨m, h1, h2⟩⟩
/-- without a circle one of those that do not stand yet is ready. -/
theorem ready_some {L : List (Int × Int)} {n : Nat} (h16 : In16 L) (hR : Sup (eR L) n) (hN : NoC (eR L) n) {S : Nat → Bool} (h : 0 < unl n S) : ∃ x, x < n ∧ rdy (eF L) n S x = true := by
  apply Classical.byContradiction
  intro g
  have hp : ∀ x, x < n → S x = false → ∃ i, eR L i x = true ∧ S i = false := by
    intro x hx hs
    apply Classical.byContradiction
    intro k
    refine g ⟨x, hx, (rdy_is h16).2 ⟨hx, hs, fun i hi => ?_⟩⟩
    cases e : S i
    · exact absurd ⟨i, hi, e⟩ k
    · rfl
  have hw : ∀ d x, x < n → S x = false → ∃ y, wk (eR L) d y x := by
    intro d
    induction d with
    | zero => exact fun x _ _ => ⟨x, rfl⟩
    | succ d ih =>
      intro x hx hs
      obtain ⟨i, h1, h2⟩ := hp x hx hs
      obtain ⟨y, hy⟩ := ih i (hR _ _ h1).1 h2
      exact ⟨y, i, hy, h1⟩
  obtain ⟨x, hx, hs⟩ := unl_pos h
  obtain ⟨y, hy⟩ := hw (n + 1) x hx hs
  obtain ⟨p, p0, p1, p2⟩ := wk_path hy
  have hnd : ¬ ((List.range (n + 1)).map fun t => p (t + 1)).Nodup := by
    intro g
    have := nodup_bound n _ g (fun q hq => by
      simp only [List.mem_map, List.mem_range] at hq
      obtain ⟨t, ht, rfl⟩ := hq
      exact (hR _ _ (p2 t ht)).2)
    simp at this; omega
  have : ∃ s t, s < t ∧ t < n + 1 ∧ p (s + 1) = p (t + 1) := by
    apply Classical.byContradiction
    intro g
    apply hnd
    unfold List.Nodup
    rw [List.pairwise_map]
    refine List.Pairwise.imp_of_mem (fun {x y} hx hy hxy e => g ⟨x, y, hxy, by simpa using hy, e⟩) (List.pairwise_lt_range (n := n + 1))
  obtain ⟨s, t, hst, ht, e⟩ := this
  have w1 : wk (eR L) (t - s) (p (s + 1)) (p (t + 1)) := by
    have := path_wk (R := eR L) (p := p) (s := s + 1) (t - s) (fun u _ hu => p2 u (by omega))
    rw [show s + 1 + (t - s) = t + 1 by omega] at this
    exact this
  rw [← e] at w1
  exact hN (t - s) _ (by omega) (by omega) w1
theorem cnt_pos {L : List (Int × Int)} {n : Nat} (h16 : In16 L) (hR : Sup (eR L) n) (hN : NoC (eR L) n) : ∀ (l : Nat) (S : Nat → Bool), l ≤ unl n S → 0 < cnt L n l S
  | 0, S, _ => by simp [cnt]
  | l + 1, S, h => by
    obtain ⟨x, hx, hr⟩ := ready_some h16 hR hN (S := S) (by omega)
    have ha := unl_add ((rdy_is h16).1 hr).2.1 n
    rw [if_pos hx] at ha
    have ih := cnt_pos h16 hR hN l (addS S x) (by omega)
    have h1 := psum_succ L n l S x
    rw [if_pos hr] at h1
    have h2 := psum_le_of L n l S (x := x + 1) (y := n) (by omega)
    rw [← psum_all]; omega
/-- numbers each of which waits for one of them. -/
def Wait (L : List (Int × Int)) (n : Nat) (C : Nat → Prop) : Prop := (∃ y, C y) ∧ ∀ y, C y → y < n ∧ ∃ m, C m ∧ eR L m y = true
theorem wait_of {L : List (Int × Int)} {n : Nat} (hR : Sup (eR L) n) (h : ¬ NoC (eR L) n) : ∃ C, Wait L n C := by
  have : ∃ d x, 1 ≤ d ∧ wk (eR L) d x x := by
    apply Classical.byContradiction
    intro g
    exact h fun d x h1 _ h3 => g ⟨d, x, h1, h3⟩
  obtain ⟨d, x, hd, hw⟩ := this
  refine ⟨fun y => ∃ f, 1 ≤ f ∧ wk (eR L) f x y, ⟨x, d, hd, hw⟩, ?_⟩
  rintro y ⟨f, hf, hy⟩
  obtain ⟨f, rfl⟩ : ∃ g, f = g + 1 := ⟨f - 1, by omega⟩
  obtain ⟨m, h1, h2⟩ := hy
  refine ⟨(hR _ _ h2).2, m, ?_, h2⟩
  by_cases e : f = 0
  · subst e
    have : x = m := h1
    subst this; exact ⟨d, hd, hw⟩
  · exact ⟨f, by omega, h1⟩
theorem wait_rdy {L : List (Int × Int)} {n : Nat} {C : Nat → Prop} (h16 : In16 L) (hC : Wait L n C) {S : Nat → Bool} (hS : ∀ y, C y → S y = false) {x : Nat} (hr : rdy (eF L) n S x = true) : ∀ y, C y → addS S x y = false := by
  intro y hy
  have hx : ¬ C x := by
    intro g
    obtain ⟨_, m, h1, h2⟩ := hC.2 x g
    have := ((rdy_is h16).1 hr).2.2 m h2
    rw [hS m h1] at this; simp at this
  have : ¬ y = x := by rintro rfl; exact hx hy
  simp [addS, this, hS y hy]
theorem cnt_zero {L : List (Int × Int)} {n : Nat} {C : Nat → Prop} (h16 : In16 L) (hC : Wait L n C) : ∀ (l : Nat) (S : Nat → Bool), unl n S = l → (∀ y, C y → S y = false) → cnt L n l S = 0
  | 0, S, h, hS => by
    obtain ⟨y, hy⟩ := hC.1
    have := unl_zero h (hC.2 y hy).1
    rw [hS y hy] at this; simp at this
  | l + 1, S, h, hS => by
    rw [← psum_all]
    have : ∀ k, k ≤ n → psum L n l S k = 0 := by
      intro k
      induction k with
      | zero => exact fun _ => rfl
      | succ k ih =>
        intro hk
        rw [psum_succ, ih (by omega)]
        by_cases hr : rdy (eF L) n S k = true
        · rw [if_pos hr]
          have ha := unl_add ((rdy_is h16).1 hr).2.1 n
          rw [if_pos (show k < n by omega)] at ha
          rw [cnt_zero h16 hC l (addS S k) (by omega) (wait_rdy h16 hC hS hr)]
        · rw [if_neg hr]
    exact this n (Nat.le_refl _)
theorem unl_nil (n : Nat) : unl n (stands []) = n := by
  have : ((List.range n).filter fun i => !stands [] i) = List.range n := List.filter_eq_self.2 (fun i _ => by simp [stands])
  unfold unl; rw [this]; simp
theorem unl_nil' (n : Nat) : unl n (fun _ => false) = n := by
  have : ((List.range n).filter fun _ => !false) = List.range n := List.filter_eq_self.2 (fun i _ => by simp)
  unfold unl; rw [this]; simp
theorem cSeq_succ {L : List (Int × Int)} {n k : Nat} {O : List Int} (h : cSeq L n (k + 1) = some O) : ∃ P q, cSeq L n k = some P ∧ cStep L n P = some q ∧ O = P ++ [(q : Int)] := by
  rw [cSeq] at h
  cases hp : cSeq L n k with
  | none => simp [hp] at h
  | some P =>
    rw [hp] at h
    cases hq : cStep L n P with
    | none => simp [hq] at h
    | some q => exact ⟨P, q, rfl, hq, by simpa [hq] using h.symm⟩
theorem cSeq_unl {L : List (Int × Int)} {n : Nat} (h16 : In16 L) : ∀ (k : Nat) (O : List Int), cSeq L n k = some O → unl n (stands O) + k = n
  | 0, O, h => by
    have : [] = O := by simpa [cSeq] using h
    subst this; rw [unl_nil]; rfl
  | k + 1, O, h => by
    obtain ⟨P, q, h1, h2, rfl⟩ := cSeq_succ h
    have ih := cSeq_unl h16 k P h1
    obtain ⟨h3, h4⟩ := cStep_lt h2
    have ha := unl_add ((rdy_is h16).1 h4).2.1 n
    rw [if_pos h3] at ha
    rw [← addS_stands]; omega
theorem cSeq_wait {L : List (Int × Int)} {n : Nat} {C : Nat → Prop} (h16 : In16 L) (hC : Wait L n C) : ∀ (k : Nat) (O : List Int), cSeq L n k = some O → ∀ y, C y → stands O y = false
  | 0, O, h => by
    have : [] = O := by simpa [cSeq] using h
    subst this
    intro y _; simp [stands]
  | k + 1, O, h => by
    obtain ⟨P, q, h1, h2, rfl⟩ := cSeq_succ h
    rw [← addS_stands]
    exact wait_rdy h16 hC (cSeq_wait h16 hC k P h1) (cStep_lt h2).2
theorem cSeq_no {L : List (Int × Int)} {n : Nat} (h16 : In16 L) (hR : Sup (eR L) n) {O : List Int} (h : cSeq L n n = some O) : NoC (eR L) n := by
  apply Classical.byContradiction
  intro g
  obtain ⟨C, hC⟩ := wait_of hR g
  have h1 := cSeq_unl h16 n O h
  obtain ⟨y, hy⟩ := hC.1
  have h2 := unl_zero (n := n) (S := stands O) (by omega) (hC.2 y hy).1
  rw [cSeq_wait h16 hC n O h y hy] at h2; simp at h2
/-- the first list of all is the canonical one. -/
theorem lSq_first {L : List (Int × Int)} {n : Nat} (h16 : In16 L) (hR : Sup (eR L) n) (hN : NoC (eR L) n) : ∀ j, j ≤ n → ∃ O, cSeq L n j = some O ∧ lSq L n 0 j = (O, 0)
  | 0, _ => ⟨[], rfl, rfl⟩
  | j + 1, hj => by
    obtain ⟨O, h1, h2⟩ := lSq_first h16 hR hN j (by omega)
    have hu := cSeq_unl h16 j O h1
    obtain ⟨x, hx, hr⟩ := ready_some h16 hR hN (S := stands O) (by omega)
    cases hs : cStep L n O with
    | none =>
      exfalso
      unfold cStep at hs
      rw [List.find?_eq_none] at hs
      exact hs x (by simpa using hx) hr
    | some q =>
      obtain ⟨q1, q2⟩ := cStep_lt hs
      have hq : ∀ i, i < q → rdy (eF L) n (stands O) i = false := by
        have hs' := hs
        unfold cStep at hs'
        rw [List.find?_range_eq_some] at hs'
        intro i hi
        simpa using hs'.2.2 i hi
      have p0 := psum_skip L n (n - j - 1) (stands O) 0 q (fun i _ hi => hq i (by omega))
      rw [Nat.zero_add, psum_zero] at p0
      have ha := unl_add ((rdy_is h16).1 q2).2.1 n
      rw [if_pos q1] at ha
      have hc := cnt_pos h16 hR hN (n - j - 1) (addS (stands O) q) (by omega)
      have p1 := psum_succ L n (n - j - 1) (stands O) q
      rw [if_pos q2, p0] at p1
      have hpk : pkF L n (n - j - 1) (stands O) 0 = some q := pk_is q1 (by omega) (by omega)
      refine ⟨O ++ [(q : Int)], by simp [cSeq, h1, hs], ?_⟩
      rw [lSq, h2]
      simp only [hpk, p0]
theorem canB_iff {n : Nat} {L : List (Int × Int)} (hg : gOk n L = true) : (canB n L).isSome = true ↔ NoC (eR L) n := by
  obtain ⟨m, hm, _, _, hin, h16⟩ := gOk_open hg
  have : m = n := by omega
  subst this
  have e : canB (m : Int) L = cSeq L m m := by simp [canB, hg]
  rw [e]
  constructor
  · intro h
    obtain ⟨O, hO⟩ := Option.isSome_iff_exists.1 h
    exact cSeq_no h16 hin.sup hO
  · intro h
    obtain ⟨O, hO, _⟩ := lSq_first h16 hin.sup h m (Nat.le_refl _)
    rw [hO]; rfl
theorem linr_first {n : Nat} {L : List (Int × Int)} (hg : gOk n L = true) (hn : n ≤ 8) : linrB n L 0 = canB n L := by
  obtain ⟨m, hm, _, _, hin, h16⟩ := gOk_open hg
  have : m = n := by omega
  subst this
  have e : canB (m : Int) L = cSeq L m m := by simp [canB, hg]
  have el : linsB (m : Int) L = (cnt L m m (fun _ => false) : Int) := by
    unfold linsB
    rw [if_pos ⟨hg, by omega⟩]; simp
  unfold linrB
  rw [el, e]
  by_cases h : NoC (eR L) m
  · obtain ⟨O, hO, hl⟩ := lSq_first h16 hin.sup h m (Nat.le_refl _)
    have hp := cnt_pos h16 hin.sup h m (fun _ => false) (by rw [unl_nil']; exact Nat.le_refl _)
    rw [if_pos (by omega), hO]
    simp [hl]
  · obtain ⟨C, hC⟩ := wait_of hin.sup h
    rw [cnt_zero h16 hC m (fun _ => false) (unl_nil' m) (fun _ _ => rfl), if_neg (by omega)]
    cases hO : cSeq L m m with
    | none => rfl
    | some O => exact absurd (cSeq_no h16 hin.sup hO) h
theorem minC_of {R : Nat → Nat → Bool} {n : Nat} (hR : Sup R n) (h : ¬ NoC R n) : ∃ D x, MinC R n D x := by
  have : ∃ d, 1 ≤ d ∧ ∃ x, wk R d x x := by
    apply Classical.byContradiction
    intro g
    exact h fun d x h1 _ h3 => g ⟨d, h1, x, h3⟩
  obtain ⟨D, ⟨hD, x0, hx0⟩, hmin⟩ := least_of this
  obtain ⟨x, hx, hxm⟩ := least_of (P := fun y => wk R D y y) ⟨x0, hx0⟩
  obtain ⟨e, e1, e2, e3, e4⟩ := short hR D hD hx
  have hDn : D ≤ n := by
    by_cases g : e < D
    · exact absurd ⟨e1, x, e4⟩ (hmin e g)
    · omega
  have hxn : x < n := by
    obtain ⟨D', rfl⟩ : ∃ g, D = g + 1 := ⟨D - 1, by omega⟩
    obtain ⟨m, _, h2⟩ := hx
    exact (hR _ _ h2).2
  exact ⟨D, x, hD, hDn, hxn, hx, fun d y h1 h2 h3 => hmin d h2 ⟨h1, y, h3⟩, hxm⟩
theorem cSq_pos (R : Nat → Nat → Bool) (n D x : Nat) : ∀ k, 0 < (cSq R n D x k).1.length
  | 0 => by simp [cSq]
  | k + 1 => by
    have := cSq_pos R n D x k
    rw [cSq]
    split
    · simp
    · exact this
/-- a circle is told where there is no order, and only there. -/
theorem circ_can {n : Nat} {L : List (Int × Int)} (hg : gOk n L = true) : (canB n L).isSome = decide ((circB n L).length = 0) := by
  obtain ⟨m, hm, _, _, hin, h16⟩ := gOk_open hg
  have : m = n := by omega
  subst this
  by_cases h : NoC (eR L) m
  · rw [(canB_iff hg).2 h, circB_none h]; rfl
  · obtain ⟨D, x, hM⟩ := minC_of hin.sup h
    have h1 : (canB (m : Int) L).isSome = false := by
      cases e : (canB (m : Int) L).isSome
      · rfl
      · exact absurd ((canB_iff hg).1 e) h
    rw [h1, circB_is hg hM]
    have := cSq_pos (eR L) m D x (D - 1)
    symm; simp only [decide_eq_false_iff_not]; omega
end Go.Proofs.YtbgeobpdojmdaaaDoor
