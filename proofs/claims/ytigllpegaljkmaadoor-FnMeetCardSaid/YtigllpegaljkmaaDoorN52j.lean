import Derived.Test.YtigllpegaljkmaaDoorN30j
import Derived.Test.YtigllpegaljkmaaDoorG18j
import Derived.Test.YtigllpegaljkmaaDoorN51j
namespace Go.Proofs.YtigllpegaljkmaaDoor
open Go.RowKit
set_option linter.unusedVariables false
set_option linter.unusedSimpArgs false

def addS (S : Nat → Bool) (x : Nat) : Nat → Bool := fun i => if i = x then true else S i
theorem addS_stands (O : List Int) (q : Nat) : addS (stands O) q = stands (O ++ [(q : Int)]) := by
  funext i
  unfold addS stands
  by_cases e : i = q
  · subst e; simp
  · have : ¬ (i : Int) = (q : Int) := by omega
    simp [e, this]
/-- how many of the first n do not stand yet. -/
def unl (n : Nat) (S : Nat → Bool) : Nat := ((List.range n).filter fun i => !S i).length
theorem unl_succ (n : Nat) (S : Nat → Bool) : unl (n + 1) S = unl n S + if S n then 0 else 1 := by
  unfold unl
  rw [List.range_succ, List.filter_append, List.length_append]
  cases h : S n <;> simp [h]
theorem unl_add {S : Nat → Bool} {x : Nat} (h : S x = false) : ∀ n, unl n (addS S x) + (if x < n then 1 else 0) = unl n S
  | 0 => by simp [unl]
  | n + 1 => by
    have ih := unl_add h n
    rw [unl_succ, unl_succ]
    by_cases e : n = x
    · subst e
      simp [addS, h] at ih ⊢
      omega
    · have : addS S x n = S n := by simp [addS, e]
      rw [this]
      by_cases e2 : x < n
      · rw [if_pos e2] at ih
        rw [if_pos (show x < n + 1 by omega)]; omega
      · rw [if_neg e2] at ih
        rw [if_neg (show ¬ x < n + 1 by omega)]; omega
theorem unl_pos {n : Nat} {S : Nat → Bool} (h : 0 < unl n S) : ∃ x, x < n ∧ S x = false := by
  obtain ⟨x, hx⟩ := List.exists_mem_of_length_pos h
  simp at hx
  exact ⟨x, hx⟩
theorem unl_zero {n : Nat} {S : Nat → Bool} (h : unl n S = 0) {x : Nat} (hx : x < n) : S x = true := by
  have h' := List.length_eq_zero_iff.1 h
  cases e : S x
  · have : x ∈ ((List.range n).filter fun i => !S i) := by simp [hx, e]
    rw [h'] at this; simp at this
  · rfl
theorem rdy_is {L : List (Int × Int)} (h16 : In16 L) {n : Nat} {S : Nat → Bool} {x : Nat} : rdy (eF L) n S x = true ↔ x < n ∧ S x = false ∧ ∀ i, eR L i x = true → S i = true := by
  unfold rdy eF
  simp only [Bool.and_eq_true, decide_eq_true_eq, Bool.not_eq_true', List.all_eq_true, List.mem_range, Bool.and_eq_false_iff, Bool.not_eq_false']
  constructor
  · rintro ⟨h1, h2, h3⟩
    refine ⟨h1, h2, fun i hi => ?_⟩
    have h0 : i < 16 := by
      have := h16 _ (of_decide_eq_true hi)
      dsimp only at this; omega
    rcases h3 i h0 with h | h
    · rw [hi] at h; simp at h
    · simpa using h
  · rintro ⟨h1, h2, h3⟩
    refine ⟨h1, h2, fun i _ => ?_⟩
    cases e : eR L i x
    · exact Or.inl rfl
    · exact Or.inr (by simpa using h3 i e)
theorem unl_nil (n : Nat) : unl n (stands []) = n := by
  have : ((List.range n).filter fun i => !stands [] i) = List.range n := List.filter_eq_self.2 (fun i _ => by simp [stands])
  unfold unl; rw [this]; simp
theorem cSeq_succ {L : List (Int × Int)} {n k : Nat} {O : List Int} (h : cSeq L n (k + 1) = some O) : ∃ P q, cSeq L n k = some P ∧ cStep L n P = some q ∧ O = P ++ [(q : Int)] := by
  rw [cSeq] at h
  cases hp : cSeq L n k with
  | none => simp [hp] at h
  | some P =>
    rw [hp] at h
    cases hq : cStep L n P with
    | none => simp [hq] at h
    | some q => exact ⟨P, q, rfl, hq, by simpa [hq] using h.symm⟩
theorem cSeq_unl {L : List (Int × Int)} {n : Nat} (h16 : In16 L) : ∀ (k : Nat) (O : List Int), cSeq L n k = some O → unl n (stands O) + k = n
  | 0, O, h => by
    have : [] = O := by simpa [cSeq] using h
    subst this; rw [unl_nil]; rfl
  | k + 1, O, h => by
    obtain ⟨P, q, h1, h2, rfl⟩ := cSeq_succ h
    have ih := cSeq_unl h16 k P h1
    obtain ⟨h3, h4⟩ := cStep_lt h2
    have ha := unl_add ((rdy_is h16).1 h4).2.1 n
    rw [if_pos h3] at ha
    rw [← addS_stands]; omega
/-! Two tasks meet just if neither is ahead, in logic. -/
/-- a state that moves lead to. -/
def Rch (L : List (Int × Int)) (wk : Int) (n : Nat) (A : List Int) : Prop := ∃ M, Vld L wk (List.replicate n 0) M ∧ stA (List.replicate n 0) M = A
theorem vld_snoc {L : List (Int × Int)} {wk : Int} : ∀ {M : List (Int × Int)} {A : List Int} {m : Int × Int}, Vld L wk A M → m ∈ mvs L wk (stA A M) → Vld L wk A (M ++ [m])
  | [], A, m, _, h => ⟨h, trivial⟩
  | x :: M, A, m, h, g => ⟨h.1, vld_snoc h.2 g⟩
theorem stA_snoc (A : List Int) (M : List (Int × Int)) (m : Int × Int) : stA A (M ++ [m]) = doM (stA A M) m := by simp [stA]
theorem Rch.zero (L : List (Int × Int)) (wk : Int) (n : Nat) : Rch L wk n (List.replicate n 0) := ⟨[], trivial, rfl⟩
theorem Rch.step {L : List (Int × Int)} {wk : Int} {n : Nat} {A : List Int} (h : Rch L wk n A) {m : Int × Int} (hm : m ∈ mvs L wk A) : Rch L wk n (doM A m) := by
  obtain ⟨M, h1, rfl⟩ := h
  exact ⟨M ++ [m], vld_snoc h1 hm, stA_snoc _ _ _⟩
theorem Rch.len {L : List (Int × Int)} {wk : Int} {n : Nat} {A : List Int} (h : Rch L wk n A) : A.length = n := by
  obtain ⟨M, _, rfl⟩ := h; rw [stA_len]; simp
theorem mem_end {L : List (Int × Int)} {wk : Int} {A : List Int} {x : Nat} (hx : x < A.length) (h : A.getD x 0 = 1) : ((1 : Int), (x : Int)) ∈ mvs L wk A :=
  List.mem_append_left _ (mem_mvK.2 ⟨x, hx, by simp [run1]; simpa using h, rfl⟩)
theorem mem_beg {L : List (Int × Int)} {wk : Int} {A : List Int} {x : Nat} (hx : x < A.length) (h : rdA L A x = true) (hw : ((mvK 1 (run1 A) A.length).length : Int) < wk) : ((2 : Int), (x : Int)) ∈ mvs L wk A := by
  unfold mvs
  rw [if_pos hw]
  exact List.mem_append_right _ (mem_mvK.2 ⟨x, hx, h, rfl⟩)
theorem run_few {A : List Int} {S : List Nat} (h : ∀ x, x < A.length → A.getD x 0 = 1 → x ∈ S) : (mvK 1 (run1 A) A.length).length ≤ S.length := by
  unfold mvK
  rw [List.length_map]
  refine nodup_len _ S (List.nodup_range.filter _) fun x hx => ?_
  obtain ⟨h1, h2⟩ := List.mem_filter.1 hx
  exact h x (by simpa using h1) (by simpa [run1] using h2)
/-- what has begun waits for nobody. -/
def Fair (L : List (Int × Int)) (A : List Int) : Prop := ∀ i j : Nat, eR L i j = true → ¬ A.getD j 0 = 0 → A.getD i 0 = 2
theorem rdA_edge {L : List (Int × Int)} {A : List Int} {x : Nat} (h : rdA L A x = true) {i : Nat} (he : eR L i x = true) : A.getD i 0 = 2 := by
  unfold rdA at h
  simp only [Bool.and_eq_true, List.all_eq_true] at h
  have := h.2 (i, x) (by simpa [eR] using he)
  simpa using this
theorem fair_step {L : List (Int × Int)} {wk : Int} {A : List Int} (h : Fair L A) {m : Int × Int} (hm : m ∈ mvs L wk A) (hs : ∀ x, eR L x x = false) : Fair L (doM A m) := by
  intro i j he hj
  have hm' := hm
  obtain ⟨z, hz, hc⟩ := mem_mvs hm'
  rcases hc with ⟨rfl, h1⟩ | ⟨rfl, h1⟩
  · rw [doM_at hz] at hj ⊢
    by_cases e : i = z
    · simp [e]
    · simp only [e, if_false]
      by_cases e2 : j = z
      · subst e2; exact h i j he (by omega)
      · simp only [e2, if_false] at hj; exact h i j he hj
  · rw [doM_at hz] at hj ⊢
    have hr : rdA L A z = true := by
      unfold mvs at hm
      rcases List.mem_append.1 hm with g | g
      · obtain ⟨y, _, _, q⟩ := mem_mvK.1 g; simp at q
      · split at g
        · obtain ⟨y, _, q1, q2⟩ := mem_mvK.1 g
          simp only [Prod.mk.injEq, true_and] at q2
          obtain rfl : z = y := by omega
          exact q1
        · simp at g
    by_cases e2 : j = z
    · subst e2
      have h2 := rdA_edge hr he
      have hne : ¬ i = j := fun q => by subst q; rw [hs] at he; simp at he
      simp only [hne, if_false]
      exact h2
    · simp only [e2, if_false] at hj
      have h2 := h i j he hj
      have hne : ¬ i = z := fun q => by subst q; omega
      simp only [hne, if_false]
      exact h2
theorem fair_way {L : List (Int × Int)} {A : List Int} (h : Fair L A) : ∀ (d i j : Nat), Go.Proofs.YtigllpegaljkmaaDoor.wk (eR L) (d + 1) i j → ¬ A.getD j 0 = 0 → A.getD i 0 = 2
  | 0, i, j, ⟨m, h1, h2⟩, hj => by
    have : i = m := h1
    subst this
    exact h i j h2 hj
  | d + 1, i, j, ⟨m, h1, h2⟩, hj => fair_way h d i m h1 (by rw [h m j h2 hj]; omega)
theorem fair_rch {L : List (Int × Int)} {wk : Int} {n : Nat} (hs : ∀ x, eR L x x = false) : ∀ (M : List (Int × Int)) (A : List Int), Fair L A → Vld L wk A M → Fair L (stA A M)
  | [], A, h, _ => h
  | m :: M, A, h, hv => fair_rch (n := n) hs M (doM A m) (fair_step h hv.1 hs) hv.2
theorem fair_zero (L : List (Int × Int)) (n : Nat) : Fair L (List.replicate n 0) := fun i j _ hj => absurd (zeros_at n j) hj

/-! with neither ahead there is a state in which both run -/
theorem seq_way {L : List (Int × Int)} {n : Nat} (h16 : In16 L) : ∀ (k : Nat) (O : List Int), cSeq L n k = some O → ∀ d i j : Nat, Go.Proofs.YtigllpegaljkmaaDoor.wk (eR L) (d + 1) i j → stands O j = true → stands O i = true ∧ ¬ i = j
  | 0, O, h, d, i, j, _, hj => by
    have : [] = O := by simpa [cSeq] using h
    subst this; simp [stands] at hj
  | k + 1, O, h, d, i, j, hw, hj => by
    obtain ⟨P, q, h1, h2, rfl⟩ := cSeq_succ h
    have hr := (rdy_is h16).1 (cStep_lt h2).2
    have ih := seq_way h16 k P h1
    rw [← addS_stands] at hj ⊢
    have up : ∀ x, stands P x = true → addS (stands P) q x = true := fun x hx => by unfold addS; split <;> simp [hx]
    by_cases e : j = q
    · subst e
      obtain ⟨m, w1, w2⟩ := hw
      have hm := hr.2.2 m w2
      cases d with
      | zero =>
        have : i = m := w1
        subst this
        exact ⟨up _ hm, fun q => by subst q; rw [hr.2.1] at hm; simp at hm⟩
      | succ d =>
        have := ih d i m w1 hm
        exact ⟨up _ this.1, fun q => by subst q; rw [hr.2.1] at this; simp at this⟩
    · have hj' : stands P j = true := by unfold addS at hj; rw [if_neg e] at hj; exact hj
      have := ih d i j hw hj'
      exact ⟨up _ this.1, this.2⟩
theorem clo_step {L : List (Int × Int)} {n : Nat} (hR : Sup (eR L) n) (hn : n ≤ 16) {i m j : Nat} (h : eR L i m = true) (g : clo (eR L) 16 m j = true) : clo (eR L) 16 i j = true :=
  clo_trans (eR L) 16 (by have := hR _ _ h; omega) (clo_mono (eR L) 16 h) g
/-- those ahead of one of two have ended, as far as they stand in O; all others have not begun. -/
def stE (E : Nat → Bool) (O : List Int) (n : Nat) : List Int := (List.range n).map fun x => if stands O x && E x then 2 else 0
theorem stE_len (E : Nat → Bool) (O : List Int) (n : Nat) : (stE E O n).length = n := by simp [stE]
theorem stE_at (E : Nat → Bool) (O : List Int) (n x : Nat) : (stE E O n).getD x 0 = if x < n ∧ stands O x = true ∧ E x = true then 2 else 0 := by
  unfold stE
  rw [List.getD_eq_getElem?_getD, List.getElem?_map]
  by_cases hx : x < n
  · rw [List.getElem?_range hx]
    simp only [Option.map_some, Option.getD_some, hx, true_and, Bool.and_eq_true]
  · rw [List.getElem?_eq_none (by simpa using hx)]
    simp [hx]
theorem list_ext_getD {A B : List Int} (h : A.length = B.length) (g : ∀ x, A.getD x 0 = B.getD x 0) : A = B := by
  refine List.ext_getElem h fun i h1 h2 => ?_
  have := g i
  simpa [h1, h2] using this
theorem rdA_of {L : List (Int × Int)} (h16 : In16 L) {A : List Int} {x : Nat} (h0 : A.getD x 0 = 0) (h : ∀ i, eR L i x = true → A.getD i 0 = 2) : rdA L A x = true := by
  unfold rdA
  simp only [Bool.and_eq_true, decide_eq_true_eq, List.all_eq_true]
  refine ⟨h0, fun e he => ?_⟩
  have hb := h16 e he
  by_cases hx : e.2 = (x : Int)
  · have := h e.1.toNat (by
      unfold eR
      rw [show ((e.1.toNat : Nat) : Int) = e.1 by omega, ← hx]
      simpa using he)
    rw [List.getD_eq_getElem?_getD] at this
    simp [hx, this]
  · simp [hx]
theorem seq_lt {L : List (Int × Int)} {n : Nat} : ∀ {k : Nat} {O : List Int}, cSeq L n k = some O → ∀ {x : Nat}, stands O x = true → x < n
  | 0, O, h, x, hx => by
    have : [] = O := by simpa [cSeq] using h
    subst this; simp [stands] at hx
  | k + 1, O, h, x, hx => by
    obtain ⟨P, q, h1, h2, rfl⟩ := cSeq_succ h
    rw [← addS_stands] at hx
    unfold addS at hx
    by_cases e : x = q
    · rw [e]; exact (cStep_lt h2).1
    · rw [if_neg e] at hx; exact seq_lt h1 hx
theorem rch_E {L : List (Int × Int)} {wk : Int} {n : Nat} (h16 : In16 L) (hw : 1 ≤ wk) (E : Nat → Bool) (hE : ∀ i j, eR L i j = true → E j = true → E i = true) : ∀ (k : Nat) (O : List Int), cSeq L n k = some O → Rch L wk n (stE E O n)
  | 0, O, h => by
    have : [] = O := by simpa [cSeq] using h
    subst this
    have e : stE E [] n = List.replicate n 0 := list_ext_getD (by simp [stE_len]) fun x => by rw [stE_at, zeros_at]; simp [stands]
    rw [e]; exact Rch.zero _ _ _
  | k + 1, O, h => by
    obtain ⟨P, q, h1, h2, rfl⟩ := cSeq_succ h
    obtain ⟨hq, hr0⟩ := cStep_lt h2
    have hr := (rdy_is h16).1 hr0
    have ih := rch_E h16 hw E hE k P h1
    have hst : ∀ x, stands (P ++ [(q : Int)]) x = if x = q then true else stands P x := fun x => by rw [← addS_stands]; rfl
    cases he : E q
    · have e : stE E (P ++ [(q : Int)]) n = stE E P n := list_ext_getD (by simp [stE_len]) fun x => by
        rw [stE_at, stE_at, hst]
        by_cases ex : x = q
        · subst ex; simp [he]
        · simp [ex]
      rw [e]; exact ih
    · have h0 : (stE E P n).getD q 0 = 0 := by rw [stE_at, hr.2.1]; simp
      have hl : q < (stE E P n).length := by rw [stE_len]; exact hq
      have hrd : rdA L (stE E P n) q = true := rdA_of h16 h0 fun i hi => by
        rw [stE_at]
        have hin : i < n := by
          have hs := hr.2.2 i hi
          apply Classical.byContradiction
          intro hge
          have := seq_lt h1 hs
          omega
        rw [if_pos ⟨hin, hr.2.2 i hi, hE i q hi he⟩]
      have hc : ((mvK 1 (run1 (stE E P n)) (stE E P n).length).length : Int) < wk := by
        have := run_few (A := stE E P n) (S := []) (fun x _ h => by rw [stE_at] at h; split at h <;> omega)
        simp at this
        simp [this]; omega
      have s1 := ih.step (mem_beg hl hrd hc)
      have hl2 : q < (doM (stE E P n) (2, (q : Int))).length := by rw [doM_len]; exact hl
      have s2 := s1.step (m := (1, (q : Int))) (mem_end hl2 (by rw [doM_at hl]; simp))
      have e : stE E (P ++ [(q : Int)]) n = doM (doM (stE E P n) (2, (q : Int))) (1, (q : Int)) := list_ext_getD (by rw [doM_len, doM_len, stE_len, stE_len]) fun x => by
        rw [doM_at hl2, doM_at hl, stE_at, stE_at, hst]
        by_cases ex : x = q
        · subst ex; simp [he, hq]
        · simp [ex]
      rw [e]; exact s2

/-! the search finds what there is -/
/-- all moves of the first i lead to states that were met, and in none of them both run. -/
def Clsd (L : List (Int × Int)) (wk : Int) (a b : Nat) (Q : List Way) (i : Nat) : Prop := ∀ j q, j < i → Q[j]? = some q → (run1 q.1 a && run1 q.1 b) = false ∧ ∀ m ∈ mvs L wk q.1, ∃ p ∈ Q, p.1 = doM q.1 m
theorem addQ_mem (Q : List Way) (x : Way) (m : Int × Int) : ∃ p ∈ addQ Q x m, p.1 = doM x.1 m := by
  unfold addQ
  split
  · rename_i h
    obtain ⟨q, hq, he⟩ := List.any_eq_true.1 h
    exact ⟨q, hq, by simpa using he⟩
  · exact ⟨(doM x.1 m, x.2 ++ [m]), by simp, rfl⟩
theorem expQ_mem (x : Way) : ∀ (ms : List (Int × Int)) (Q : List Way) (m : Int × Int), m ∈ ms → ∃ p ∈ expQ Q x ms, p.1 = doM x.1 m
  | [], Q, m, h => by simp at h
  | y :: ms, Q, m, h => by
    show ∃ p ∈ expQ (addQ Q x y) x ms, p.1 = doM x.1 m
    rcases List.mem_cons.1 h with rfl | h
    · obtain ⟨p, hp, he⟩ := addQ_mem Q x m
      obtain ⟨Z, hZ⟩ := expQ_pre x ms (addQ Q x m)
      exact ⟨p, by rw [hZ]; exact List.mem_append_left _ hp, he⟩
    · exact expQ_mem x ms _ m h
theorem bfs_full {L : List (Int × Int)} {wk : Int} {a b n : Nat} (hn : n ≤ 6) : ∀ (f : Nat) (Q : List Way) (i : Nat), QOk n Q → 730 ≤ i + f → Clsd L wk a b Q i → bfs L wk a b f Q i = none → ∃ Q', (∃ Z, Q' = Q ++ Z) ∧ Clsd L wk a b Q' Q'.length
  | 0, Q, i, hQ, hf, hC, _ => by
    have := hQ.len hn
    exact ⟨Q, ⟨[], by simp⟩, fun j q hj hq => hC j q (by omega) hq⟩
  | f + 1, Q, i, hQ, hf, hC, hb => by
    simp only [bfs] at hb
    cases hq : Q[i]? with
    | none =>
      have : Q.length ≤ i := List.getElem?_eq_none_iff.1 hq
      exact ⟨Q, ⟨[], by simp⟩, fun j q hj hq => hC j q (by omega) hq⟩
    | some q =>
      rw [hq] at hb
      simp only at hb
      split at hb
      · simp at hb
      · rename_i hr
        have hm : q ∈ Q := List.mem_of_getElem? hq
        have hQ' : QOk n (expQ Q q (mvs L wk q.1)) := expQ_ok _ hQ hm (fun m h => h)
        obtain ⟨Z, hZ⟩ := expQ_pre q (mvs L wk q.1) Q
        obtain ⟨Q', ⟨Y, hY⟩, hc⟩ := bfs_full hn f _ (i + 1) hQ' (by omega) (fun j p hj hp => by
          have hiQ : i < Q.length := (List.getElem?_eq_some_iff.1 hq).1
          have hp' : Q[j]? = some p := by
            rw [hZ, List.getElem?_append_left (by omega)] at hp; exact hp
          by_cases e : j = i
          · subst e
            rw [hq] at hp'
            cases hp'
            exact ⟨by simpa using hr, fun m hm => expQ_mem q _ Q m hm⟩
          · obtain ⟨c1, c2⟩ := hC j p (by omega) hp'
            refine ⟨c1, fun m hm => ?_⟩
            obtain ⟨x, hx, he⟩ := c2 m hm
            exact ⟨x, by rw [hZ]; exact List.mem_append_left _ hx, he⟩) hb
        exact ⟨Q', ⟨Z ++ Y, by rw [hY, hZ, List.append_assoc]⟩, hc⟩
theorem clsd_all {L : List (Int × Int)} {wk : Int} {a b : Nat} {Q : List Way} (h : Clsd L wk a b Q Q.length) : ∀ (M : List (Int × Int)) (A : List Int), (∃ p ∈ Q, p.1 = A) → Vld L wk A M → (run1 (stA A M) a && run1 (stA A M) b) = false
  | [], A, ⟨p, hp, he⟩, _ => by
    obtain ⟨j, hj, rfl⟩ := List.getElem_of_mem hp
    have := (h j _ hj (List.getElem?_eq_getElem hj)).1
    rw [he] at this; exact this
  | m :: M, A, ⟨p, hp, he⟩, hv => by
    obtain ⟨j, hj, rfl⟩ := List.getElem_of_mem hp
    have := (h j _ hj (List.getElem?_eq_getElem hj)).2
    rw [he] at this
    exact clsd_all h M (doM A m) (this m hv.1) hv.2
/-- where the search finds nothing, no state that moves lead to has both of them run. -/
theorem bfs_no {L : List (Int × Int)} {wk : Int} {a b n : Nat} (hn : n ≤ 6) (h : bfs L wk a b 1000 [(List.replicate n 0, [])] 0 = none) {A : List Int} (hA : Rch L wk n A) : (run1 A a && run1 A b) = false := by
  obtain ⟨Q', ⟨Z, hZ⟩, hc⟩ := bfs_full hn 1000 _ 0 (QOk.one n) (by omega) (fun j q hj => absurd hj (Nat.not_lt_zero _)) h
  obtain ⟨M, hv, rfl⟩ := hA
  exact clsd_all hc M _ ⟨(List.replicate n 0, []), by rw [hZ]; simp, rfl⟩ hv
/-- each way leads to its state. -/
def Wys (L : List (Int × Int)) (wk : Int) (n : Nat) (Q : List Way) : Prop := ∀ q ∈ Q, Vld L wk (List.replicate n 0) q.2 ∧ stA (List.replicate n 0) q.2 = q.1
theorem expQ_wys {L : List (Int × Int)} {wk : Int} {n : Nat} {x : Way} : ∀ (ms : List (Int × Int)) (Q : List Way), Wys L wk n Q → x ∈ Q → (∀ m ∈ ms, m ∈ mvs L wk x.1) → Wys L wk n (expQ Q x ms)
  | [], Q, h, _, _ => h
  | m :: ms, Q, h, hx, hm => by
    obtain ⟨Z, hZ⟩ := addQ_pre Q x m
    refine expQ_wys ms (addQ Q x m) (fun q hq => ?_) (by rw [hZ]; exact List.mem_append_left _ hx) (fun y hy => hm y (List.mem_cons_of_mem _ hy))
    unfold addQ at hq
    split at hq
    · exact h q hq
    · rcases List.mem_append.1 hq with hq | hq
      · exact h q hq
      · simp at hq
        subst hq
        obtain ⟨h1, h2⟩ := h x hx
        exact ⟨vld_snoc h1 (by rw [h2]; exact hm m List.mem_cons_self), by rw [stA_snoc, h2]⟩
theorem bfs_yes {L : List (Int × Int)} {wk : Int} {a b n : Nat} : ∀ (f : Nat) (Q : List Way) (i : Nat) (M : List (Int × Int)), Wys L wk n Q → bfs L wk a b f Q i = some M → Vld L wk (List.replicate n 0) M ∧ (run1 (stA (List.replicate n 0) M) a && run1 (stA (List.replicate n 0) M) b) = true
  | 0, Q, i, M, _, h => by simp [bfs] at h
  | f + 1, Q, i, M, hW, h => by
    simp only [bfs] at h
    cases hq : Q[i]? with
    | none => rw [hq] at h; simp at h
    | some q =>
      rw [hq] at h
      simp only at h
      have hm : q ∈ Q := List.mem_of_getElem? hq
      split at h
      · rename_i hr
        injection h with h
        subst h
        obtain ⟨h1, h2⟩ := hW q hm
        exact ⟨h1, by rw [h2]; exact hr⟩
      · exact bfs_yes f _ _ M (expQ_wys _ Q hW hm (fun m h => h)) h
theorem wys_one (L : List (Int × Int)) (wk : Int) (n : Nat) : Wys L wk n [(List.replicate n 0, [])] := fun q hq => by simp at hq; subst hq; exact ⟨trivial, rfl⟩
/-- with neither ahead of the other one, both can run. -/
theorem both_can {L : List (Int × Int)} {wk : Int} {n : Nat} (h16 : In16 L) (hR : Sup (eR L) n) (hn : n ≤ 16) (hw : 2 ≤ wk) {O : List Int} (hO : cSeq L n n = some O) {a b : Nat} (ha : a < n) (hb : b < n) (hab : ¬ a = b) (h1 : clo (eR L) 16 a b = false) (h2 : clo (eR L) 16 b a = false) : ∃ A, Rch L wk n A ∧ (run1 A a && run1 A b) = true := by
  have all : ∀ x, x < n → stands O x = true := fun x hx => unl_zero (by have := cSeq_unl h16 n O hO; omega) hx
  have irr : ∀ x, x < n → clo (eR L) 16 x x = false := fun x hx => by
    cases e : clo (eR L) 16 x x
    · rfl
    · obtain ⟨d, d1, hd⟩ := clo_sound (eR L) 16 e
      obtain ⟨d', rfl⟩ : ∃ d', d = d' + 1 := ⟨d - 1, by omega⟩
      exact absurd rfl (seq_way h16 n O hO d' x x hd (all x hx)).2
  let E : Nat → Bool := fun x => clo (eR L) 16 x a || clo (eR L) 16 x b
  have hE : ∀ i j, eR L i j = true → E j = true → E i = true := fun i j h g => by
    simp only [E, Bool.or_eq_true] at g ⊢
    rcases g with g | g
    · exact Or.inl (clo_step hR hn h g)
    · exact Or.inr (clo_step hR hn h g)
  have hEa : E a = false := by simp only [E, irr a ha, h1]; rfl
  have hEb : E b = false := by simp only [E, irr b hb, h2]; rfl
  have r0 := rch_E (wk := wk) (n := n) h16 (by omega) E hE n O hO
  obtain ⟨A0, hA0⟩ : ∃ A0, stE E O n = A0 := ⟨_, rfl⟩
  have at0 : ∀ x, A0.getD x 0 = if x < n ∧ stands O x = true ∧ E x = true then 2 else 0 := fun x => by rw [← hA0]; exact stE_at E O n x
  have l0 : A0.length = n := by rw [← hA0]; exact stE_len E O n
  rw [hA0] at r0
  have a0 : A0.getD a 0 = 0 := by rw [at0, hEa]; simp
  have b0 : A0.getD b 0 = 0 := by rw [at0, hEb]; simp
  have pre : ∀ i x, (x = a ∨ x = b) → eR L i x = true → A0.getD i 0 = 2 := fun i x hx hi => by
    have hin := (hR _ _ hi).1
    have : E i = true := by
      simp only [E, Bool.or_eq_true]
      rcases hx with rfl | rfl
      · exact Or.inl (clo_mono (eR L) 16 hi)
      · exact Or.inr (clo_mono (eR L) 16 hi)
    rw [at0, if_pos ⟨hin, all i hin, this⟩]
  have c0 : ((mvK 1 (run1 A0) A0.length).length : Int) < wk := by
    have := run_few (A := A0) (S := []) (fun x _ h => by rw [at0] at h; split at h <;> omega)
    simp at this
    simp [this]; omega
  have r1 := r0.step (mem_beg (by omega) (rdA_of h16 a0 fun i hi => pre i a (Or.inl rfl) hi) c0)
  have la : a < A0.length := by omega
  obtain ⟨A1, hA1⟩ : ∃ A1, doM A0 (2, (a : Int)) = A1 := ⟨_, rfl⟩
  have at1 : ∀ x, A1.getD x 0 = if x = a then 1 else A0.getD x 0 := fun x => by rw [← hA1, doM_at la]; simp
  have l1 : A1.length = n := by rw [← hA1, doM_len]; exact l0
  rw [hA1] at r1
  have hba : ¬ b = a := fun e => hab e.symm
  have c1 : ((mvK 1 (run1 A1) A1.length).length : Int) < wk := by
    have := run_few (A := A1) (S := [a]) (fun x _ h => by
      rw [at1] at h
      by_cases e : x = a
      · simp [e]
      · rw [if_neg e, at0] at h; split at h <;> omega)
    simp at this
    omega
  have lb : b < A1.length := by omega
  have r2 := r1.step (mem_beg lb (rdA_of h16 (by rw [at1, if_neg hba]; exact b0) fun i hi => by
    have hia : ¬ i = a := fun e => by
      subst e
      have := clo_mono (eR L) 16 hi
      rw [h1] at this; simp at this
    rw [at1, if_neg hia]; exact pre i b (Or.inr rfl) hi) c1)
  refine ⟨_, r2, ?_⟩
  unfold run1
  rw [doM_at lb, doM_at lb, at1]
  simp [hab]
/-- the search finds a way just if neither is ahead. -/
theorem meet_iff {L : List (Int × Int)} {wk : Int} {n : Nat} (h16 : In16 L) (hR : Sup (eR L) n) (hn : n ≤ 6) (hw : 2 ≤ wk) {O : List Int} (hO : cSeq L n n = some O) {a b : Nat} (ha : a < n) (hb : b < n) (hab : ¬ a = b) : (bfs L wk a b 1000 [(List.replicate n 0, [])] 0).isSome = (!clo (eR L) 16 a b && !clo (eR L) 16 b a) := by
  have all : ∀ x, x < n → stands O x = true := fun x hx => unl_zero (by have := cSeq_unl h16 n O hO; omega) hx
  have slf : ∀ x, eR L x x = false := fun x => by
    cases e : eR L x x
    · rfl
    · have hx := (hR _ _ e).1
      exact absurd rfl (seq_way h16 n O hO 0 x x ⟨x, rfl, e⟩ (all x hx)).2
  cases hB : bfs L wk a b 1000 [(List.replicate n 0, [])] 0 with
  | none =>
    cases h1 : clo (eR L) 16 a b
    · cases h2 : clo (eR L) 16 b a
      · obtain ⟨A, hA, hr⟩ := both_can h16 hR (by omega) hw hO ha hb hab h1 h2
        rw [bfs_no hn hB hA] at hr
        simp at hr
      · rfl
    · rfl
  | some M =>
    obtain ⟨hv, hr⟩ := bfs_yes 1000 _ 0 M (wys_one L wk n) hB
    have hF := fair_rch (n := n) slf M _ (fair_zero L n) hv
    simp only [run1, Bool.and_eq_true, decide_eq_true_eq] at hr
    have no : ∀ i j, (stA (List.replicate n 0) M).getD i 0 = 1 → (stA (List.replicate n 0) M).getD j 0 = 1 → clo (eR L) 16 i j = false := fun i j hi hj => by
      cases e : clo (eR L) 16 i j
      · rfl
      · obtain ⟨d, d1, hd⟩ := clo_sound (eR L) 16 e
        obtain ⟨d', rfl⟩ : ∃ d', d = d' + 1 := ⟨d - 1, by omega⟩
        have := fair_way hF d' i j hd (by omega)
        omega
    rw [no a b hr.1 hr.2, no b a hr.2 hr.1]
    rfl
end Go.Proofs.YtigllpegaljkmaaDoor
namespace Go.Proofs.YtigllpegaljkmaaDoor
open Go.RowKit
set_option linter.unusedVariables false
set_option linter.unusedSimpArgs false

/-- who runs, by the moves and by the state. -/
theorem run_state {L : List (Int × Int)} {wk : Int} (n : Nat) : ∀ (M : List (Int × Int)) (A : List Int) (S : List Int), A.length = n → Vld L wk A M → (∀ x : Nat, x < n → ((x : Int) ∈ S ↔ A.getD x 0 = 1)) → ∀ x : Nat, x < n → ((x : Int) ∈ M.foldl (fun L p => rb L p.1 p.2) S ↔ (stA A M).getD x 0 = 1)
  | [], A, S, _, _, h => h
  | m :: M, A, S, hA, hv, h => by
    intro x hx
    rw [List.foldl_cons]
    show _ ↔ (stA (doM A m) M).getD x 0 = 1
    refine run_state n M (doM A m) _ (by rw [doM_len]; exact hA) hv.2 (fun y hy => ?_) x hx
    rw [mem_rb]
    obtain ⟨z, hz, hc⟩ := mem_mvs hv.1
    rcases hc with ⟨rfl, h1⟩ | ⟨rfl, h1⟩
    · rw [doM_at hz]
      simp only [show ¬ (1 : Int) = 2 by omega, if_false, if_true, h y hy]
      by_cases e : y = z
      · subst e; simp
      · have : ¬ (y : Int) = (z : Int) := by omega
        simp [e, this]
    · rw [doM_at hz]
      simp only [if_true, h y hy]
      by_cases e : y = z
      · subst e; simp
      · have : ¬ (y : Int) = (z : Int) := by omega
        simp [e, this]
theorem rnL_state {L : List (Int × Int)} {wk : Int} {n : Nat} {M : List (Int × Int)} (h : Vld L wk (List.replicate n 0) M) {x : Nat} (hx : x < n) : (x : Int) ∈ rnL M ↔ (stA (List.replicate n 0) M).getD x 0 = 1 :=
  run_state n M _ [] (by simp) h (fun y hy => by rw [zeros_at]; simp) x hx

end Go.Proofs.YtigllpegaljkmaaDoor
