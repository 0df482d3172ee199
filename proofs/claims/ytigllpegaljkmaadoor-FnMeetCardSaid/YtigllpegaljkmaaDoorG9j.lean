import Derived.Test.YtigllpegaljkmaaDoorG8j
namespace Go.Proofs.YtigllpegaljkmaaDoor
open Go.RowKit
set_option linter.unusedVariables false
set_option linter.unusedSimpArgs false

/-- a way of just d edges. -/
def wk (R : Nat → Nat → Bool) : Nat → Nat → Nat → Prop
  | 0, i, j => i = j
  | d + 1, i, j => ∃ m, wk R d i m ∧ R m j = true
theorem wk_add {R : Nat → Nat → Bool} {d : Nat} : ∀ {e i m j : Nat}, wk R d i m → wk R e m j → wk R (d + e) i j
  | 0, i, m, j, h, k => by
    have : m = j := k
    subst this; exact h
  | e + 1, i, m, j, h, k => by
    obtain ⟨q, h1, h2⟩ := k
    exact ⟨q, wk_add h h1, h2⟩
theorem wk_one {R : Nat → Nat → Bool} {i j : Nat} : wk R 1 i j ↔ R i j = true := by
  constructor
  · rintro ⟨m, h, k⟩
    have : i = m := h
    subst this; exact k
  · exact fun h => ⟨i, rfl, h⟩
/-- the numbers on a way. -/
theorem wk_path {R : Nat → Nat → Bool} : ∀ {d i j : Nat}, wk R d i j → ∃ p : Nat → Nat, p 0 = i ∧ p d = j ∧ ∀ t, t < d → R (p t) (p (t + 1)) = true
  | 0, i, j, h => ⟨fun _ => i, rfl, h, fun t ht => absurd ht (by omega)⟩
  | d + 1, i, j, h => by
    obtain ⟨m, h1, h2⟩ := h
    obtain ⟨p, p0, p1, p2⟩ := wk_path h1
    refine ⟨fun t => if t ≤ d then p t else j, by simp [p0], if_neg (by omega), fun t ht => ?_⟩
    by_cases e : t < d
    · simp only [show t ≤ d by omega, show t + 1 ≤ d by omega, if_true]
      exact p2 t e
    · have : t = d := by omega
      subst this
      simp only [Nat.le_refl, if_true, show ¬ t + 1 ≤ t by omega, if_false, p1, h2]
theorem path_wk {R : Nat → Nat → Bool} {p : Nat → Nat} {s : Nat} : ∀ (e : Nat), (∀ t, s ≤ t → t < s + e → R (p t) (p (t + 1)) = true) → wk R e (p s) (p (s + e))
  | 0, h => rfl
  | e + 1, h => ⟨p (s + e), path_wk e (fun t h1 h2 => h t h1 (by omega)), h (s + e) (by omega) (by omega)⟩

/-- all edges lie below n. -/
def Sup (R : Nat → Nat → Bool) (n : Nat) : Prop := ∀ i j, R i j = true → i < n ∧ j < n

theorem short {R : Nat → Nat → Bool} {n : Nat} (hR : Sup R n) : ∀ (d : Nat) {a b : Nat}, 1 ≤ d → wk R d a b → ∃ e, 1 ≤ e ∧ e ≤ n ∧ e ≤ d ∧ wk R e a b := by
  intro d
  induction d using Nat.strongRecOn with
  | _ d ih =>
    intro a b hd h
    by_cases hn : d ≤ n
    · exact ⟨d, hd, hn, Nat.le_refl _, h⟩
    · obtain ⟨p, p0, p1, p2⟩ := wk_path h
      have hnd : ¬ ((List.range d).map fun t => p (t + 1)).Nodup := by
        intro g
        have := nodup_bound n _ g (fun q hq => by
          simp only [List.mem_map, List.mem_range] at hq
          obtain ⟨t, ht, rfl⟩ := hq
          exact (hR _ _ (p2 t ht)).2)
        simp at this; omega
      have : ∃ s t, s < t ∧ t < d ∧ p (s + 1) = p (t + 1) := by
        apply Classical.byContradiction
        intro g
        apply hnd
        unfold List.Nodup
        rw [List.pairwise_map]
        refine List.Pairwise.imp_of_mem (fun {x y} hx hy hxy e => g ⟨x, y, hxy, by simpa using hy, e⟩) (List.pairwise_lt_range (n := d))
      obtain ⟨s, t, hst, ht, e⟩ := this
      have w1 : wk R (s + 1) a (p (s + 1)) := by
        have := path_wk (R := R) (p := p) (s := 0) (s + 1) (fun u _ hu => p2 u (by omega))
        rw [p0, Nat.zero_add] at this
        exact this
      have w2 : wk R (d - (t + 1)) (p (t + 1)) b := by
        have := path_wk (R := R) (p := p) (s := t + 1) (d - (t + 1)) (fun u _ hu => p2 u (by omega))
        rw [show t + 1 + (d - (t + 1)) = d by omega, p1] at this
        exact this
      rw [← e] at w2
      obtain ⟨x, x1, x2, x3, x4⟩ := ih (s + 1 + (d - (t + 1))) (by omega) (by omega) (wk_add w1 w2)
      exact ⟨x, x1, x2, by omega, x4⟩

theorem clo_mono (R : Nat → Nat → Bool) : ∀ (k : Nat) {i j : Nat}, R i j = true → clo R k i j = true
  | 0, i, j, h => h
  | k + 1, i, j, h => by simp [clo, stp, clo_mono R k h]
theorem clo_trans (R : Nat → Nat → Bool) : ∀ (k : Nat) {i m j : Nat}, m < k → clo R k i m = true → clo R k m j = true → clo R k i j = true
  | k + 1, i, m, j, hm, h1, h2 => by
    simp only [clo, stp, Bool.or_eq_true, Bool.and_eq_true] at h1 h2 ⊢
    by_cases e : m < k
    · have ih := fun {i j} => clo_trans R k (i := i) (m := m) (j := j) e
      rcases h1 with h1 | ⟨h1, h1'⟩
      · rcases h2 with h2 | ⟨h2, h2'⟩
        · exact Or.inl (ih h1 h2)
        · exact Or.inr ⟨ih h1 h2, h2'⟩
      · rcases h2 with h2 | ⟨h2, h2'⟩
        · exact Or.inr ⟨h1, ih h1' h2⟩
        · exact Or.inr ⟨h1, h2'⟩
    · have : m = k := by omega
      subst this
      have a : clo R m i m = true := by rcases h1 with h1 | ⟨h1, _⟩ <;> exact h1
      have b : clo R m m j = true := by rcases h2 with h2 | ⟨_, h2⟩ <;> exact h2
      exact Or.inr ⟨a, b⟩
theorem clo_sound (R : Nat → Nat → Bool) : ∀ (k : Nat) {i j : Nat}, clo R k i j = true → ∃ d, 1 ≤ d ∧ wk R d i j
  | 0, i, j, h => ⟨1, Nat.le_refl _, wk_one.2 h⟩
  | k + 1, i, j, h => by
    simp only [clo, stp, Bool.or_eq_true, Bool.and_eq_true] at h
    rcases h with h | ⟨h1, h2⟩
    · exact clo_sound R k h
    · obtain ⟨d, hd, w1⟩ := clo_sound R k h1
      obtain ⟨e, he, w2⟩ := clo_sound R k h2
      exact ⟨d + e, by omega, wk_add w1 w2⟩
theorem clo_all {R : Nat → Nat → Bool} (hR : Sup R 16) : ∀ (d : Nat) {i j : Nat}, wk R (d + 1) i j → clo R 16 i j = true
  | 0, i, j, h => clo_mono R 16 (wk_one.1 h)
  | d + 1, i, j, h => by
    obtain ⟨m, h1, h2⟩ := h
    exact clo_trans R 16 (hR m j h2).1 (clo_all hR d h1) (clo_mono R 16 h2)
theorem clo_iff {R : Nat → Nat → Bool} {n : Nat} (hR : Sup R n) (hn : n ≤ 16) (i j : Nat) : clo R 16 i j = true ↔ ∃ d, 1 ≤ d ∧ d ≤ n ∧ wk R d i j := by
  constructor
  · intro h
    obtain ⟨d, hd, w⟩ := clo_sound R 16 h
    obtain ⟨e, e1, e2, _, e3⟩ := short hR d hd w
    exact ⟨e, e1, e2, e3⟩
  · rintro ⟨d, h1, _, w⟩
    obtain ⟨q, rfl⟩ : ∃ q, d = q + 1 := ⟨d - 1, by omega⟩
    exact clo_all (fun i j h => ⟨Nat.lt_of_lt_of_le (hR i j h).1 hn, Nat.lt_of_lt_of_le (hR i j h).2 hn⟩) q w

/-- who can be come to by just d edges. -/
def rch (R : Nat → Nat → Bool) (n a : Nat) : Nat → Nat → Bool
  | 0, x => decide (x = a)
  | d + 1, y => (List.range n).any fun x => rch R n a d x && R x y
theorem rch_iff {R : Nat → Nat → Bool} {n a : Nat} (hR : Sup R n) : ∀ (d y : Nat), rch R n a d y = true ↔ wk R d a y
  | 0, y => by simp [rch, wk, eq_comm]
  | d + 1, y => by
    simp only [rch, List.any_eq_true, List.mem_range, Bool.and_eq_true]
    constructor
    · rintro ⟨x, _, h1, h2⟩
      exact ⟨x, (rch_iff hR d x).1 h1, h2⟩
    · rintro ⟨x, h1, h2⟩
      exact ⟨x, (hR x y h2).1, (rch_iff hR d x).2 h1, h2⟩
/-- the length of the shortest way of one edge or more; 0: there is none. -/
def wayF (R : Nat → Nat → Bool) (n a b : Nat) : Nat := (((List.range n).find? fun d => rch R n a (d + 1) b).map (· + 1)).getD 0
theorem wayF_none {R : Nat → Nat → Bool} {n a b : Nat} (h : ∀ d, d < n → rch R n a (d + 1) b = false) : wayF R n a b = 0 := by
  have : (List.range n).find? (fun d => rch R n a (d + 1) b) = none := by
    rw [List.find?_eq_none]; intro d hd; rw [h d (by simpa using hd)]; simp
  simp [wayF, this]
theorem wayF_some {R : Nat → Nat → Bool} {n a b d : Nat} (hd : d < n) (h : rch R n a (d + 1) b = true) (h0 : ∀ e, e < d → rch R n a (e + 1) b = false) : wayF R n a b = d + 1 := by
  have : (List.range n).find? (fun d => rch R n a (d + 1) b) = some d := by
    rw [List.find?_range_eq_some]
    exact ⟨h, by simpa using hd, fun e he => by simp [h0 e he]⟩
  simp [wayF, this]
theorem way_cases (R : Nat → Nat → Bool) (n a b : Nat) : (wayF R n a b = 0 ∧ ∀ d, d < n → rch R n a (d + 1) b = false) ∨ ∃ d, d < n ∧ wayF R n a b = d + 1 ∧ rch R n a (d + 1) b = true ∧ ∀ e, e < d → rch R n a (e + 1) b = false := by
  cases h : (List.range n).find? (fun d => rch R n a (d + 1) b) with
  | none =>
    left
    rw [List.find?_eq_none] at h
    have g : ∀ d, d < n → rch R n a (d + 1) b = false := fun d hd => by simpa using h d (by simpa using hd)
    exact ⟨wayF_none g, g⟩
  | some d =>
    right
    rw [List.find?_range_eq_some] at h
    obtain ⟨h1, h2, h3⟩ := h
    have h2 : d < n := by simpa using h2
    have h3' : ∀ e, e < d → rch R n a (e + 1) b = false := fun e he => by simpa using h3 e he
    exact ⟨d, h2, wayF_some h2 h1 h3', h1, h3'⟩
theorem way_clo {R : Nat → Nat → Bool} {n : Nat} (hR : Sup R n) (hn : n ≤ 16) (a b : Nat) : decide (0 < (wayF R n a b : Int)) = clo R 16 a b := by
  rw [Bool.eq_iff_iff, clo_iff hR hn]
  rcases way_cases R n a b with ⟨e, h⟩ | ⟨d, hd, e, h1, h2⟩
  · rw [e]
    simp
    intro d h1 h2 w
    obtain ⟨q, rfl⟩ : ∃ q, d = q + 1 := ⟨d - 1, by omega⟩
    have := h q (by omega)
    rw [(rch_iff hR (q + 1) b).2 w] at this
    cases this
  · rw [e]
    exact ⟨fun _ => ⟨d + 1, by omega, by omega, (rch_iff hR (d + 1) b).1 h1⟩, fun _ => by simp <;> omega⟩
end Go.Proofs.YtigllpegaljkmaaDoor
