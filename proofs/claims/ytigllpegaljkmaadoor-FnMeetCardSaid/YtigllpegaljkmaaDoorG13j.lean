import Derived.Test.YtigllpegaljkmaaDoorG11j
namespace Go.Proofs.YtigllpegaljkmaaDoor
open Go.RowKit
set_option linter.unusedVariables false
set_option linter.unusedSimpArgs false

/-- the numbers of an order, one behind the other: each below n, none twice, each behind all that lead to it. -/
def stepOk (n : Nat) (L : List (Int × Int)) (O : List Int) (k : Nat) : Prop :=
  ∀ i, i < k → (0 ≤ O[i]?.getD 0 ∧ O[i]?.getD 0 < n) ∧ ¬ O[i]?.getD 0 ∈ O.take i ∧ ∀ x : Nat, eR L x (O[i]?.getD 0).toNat = true → (x : Int) ∈ O.take i
open Classical in
noncomputable def linB (n : Int) (L : List (Int × Int)) (O : List Int) : Bool := gOk n L && decide ((O.length : Int) = n ∧ stepOk n.toNat L O O.length)

theorem wpList_load_g {ops : Array Oper} {rest : List Oper} {o : Oper} {a : Act} {w : World} {Q : Exit → Act → World → Prop} (hw : Region.wanted o (yielded ops a.tmps) = true) (x : Operand) (ho : o.op = .load 49 x)
    (g : Nat) (hx : a.eval x = .pointer (some ⟨g, 0, none⟩)) (R : Nat → Nat → Bool) (hg : Blk w g (lk R) 49)
    (h : wpList Tryd.prog ops Q rest (a.put o.dst (.agg (lk R))) w) : wpList Tryd.prog ops Q (o :: rest) a w :=
  wpList_step fun K hK => by
    rw [if_pos hw]
    exact wp_load_row _ x ho g hx _ _ _ _ hg Tryd.underlying49 rfl (by rw [Tryd.infoLk, lk_size]) (hK _ _ h)

/-- who stands already. -/
def stands (O : List Int) (x : Nat) : Bool := decide ((x : Int) ∈ O)
theorem stands_nil : nb (stands []) = 0 := by rw [nb_congr (g := fun _ => false) (fun i _ => by simp [stands]), nb_zero]
theorem stands_snoc (O : List Int) (q : Nat) : nb (fun i => stands O i || decide (i = q)) = nb (stands (O ++ [(q : Int)])) := by
  refine nb_congr fun i _ => ?_
  unfold stands
  rw [Bool.eq_iff_iff]
  simp only [Bool.or_eq_true, decide_eq_true_eq, List.mem_append, List.mem_singleton]
  constructor
  · rintro (h | h)
    · exact Or.inl h
    · exact Or.inr (by omega)
  · rintro (h | h)
    · exact Or.inl h
    · exact Or.inr (by omega)
theorem rdy_stands {n : Nat} {L : List (Int × Int)} (hin : In16 L) (O : List Int) (q : Nat) : rdy (eF L) n (stands O) q = true ↔ q < n ∧ ¬ (q : Int) ∈ O ∧ ∀ x : Nat, eR L x q = true → (x : Int) ∈ O := by
  unfold rdy stands
  simp only [Bool.and_eq_true, decide_eq_true_eq, List.all_eq_true, List.mem_range, Bool.not_eq_true', Bool.and_eq_false_iff, decide_eq_false_iff_not, Bool.not_eq_false']
  constructor
  · rintro ⟨h1, h2, h3⟩
    refine ⟨h1, h2, fun x hx => ?_⟩
    have hx16 : x < 16 := by
      have := hin _ (of_decide_eq_true hx)
      simp at this; omega
    rcases h3 x hx16 with h | h
    · unfold eF at h; rw [hx] at h; cases h
    · exact h
  · rintro ⟨h1, h2, h3⟩
    refine ⟨h1, h2, fun x _ => ?_⟩
    cases h : eR L x q
    · exact Or.inl h
    · exact Or.inr (h3 x h)
theorem stepOk_succ {n : Nat} {L : List (Int × Int)} {O : List Int} {k : Nat} (h : stepOk n L O k) (h1 : (0 ≤ O[k]?.getD 0 ∧ O[k]?.getD 0 < n) ∧ ¬ O[k]?.getD 0 ∈ O.take k ∧ ∀ x : Nat, eR L x (O[k]?.getD 0).toNat = true → (x : Int) ∈ O.take k) : stepOk n L O (k + 1) := by
  intro i hi
  by_cases e : i < k
  · exact h i e
  · have : i = k := by omega
    subst this; exact h1
theorem linB_iff (n : Int) (L : List (Int × Int)) (O : List Int) : linB n L O = true ↔ gOk n L = true ∧ (O.length : Int) = n ∧ stepOk n.toNat L O O.length := by
  unfold linB; simp
theorem linB_no {n : Int} {L : List (Int × Int)} {O : List Int} (h : ¬ ((O.length : Int) = n ∧ stepOk n.toNat L O O.length)) : linB n L O = false := by
  cases e : linB n L O
  · rfl
  · exact absurd ((linB_iff n L O).1 e).2 h
theorem linB_bad {n : Nat} {L : List (Int × Int)} {O : List Int} {k : Nat} (hk : k < O.length) (h : ¬ ((0 ≤ O[k]?.getD 0 ∧ O[k]?.getD 0 < n) ∧ ¬ O[k]?.getD 0 ∈ O.take k ∧ ∀ x : Nat, eR L x (O[k]?.getD 0).toNat = true → (x : Int) ∈ O.take k)) : linB n L O = false :=
  linB_no fun g => h (by have := g.2 k hk; simpa using this)

/-- a row of whole numbers of the call's own, by places. -/
def Rw (w : World) (B g n : Nat) (f : Nat → Int) : Prop := Row w B (some ⟨g, 0, none⟩) n n ((List.range n).map f)
theorem Rw.congr {w : World} {B g n : Nat} {f f' : Nat → Int} (h : Rw w B g n f) (e : ∀ i, i < n → f i = f' i) : Rw w B g n f' := by
  unfold Rw at h ⊢
  rw [List.map_congr_left (g := f) (fun i hi => (e i (by simpa using hi)).symm)]
  exact h
theorem Rw.cell {w : World} {B g n : Nat} {f : Nat → Int} (h : Rw w B g n f) {p : Nat} (hp : p < n) : w.cell? ⟨g, p, none⟩ = some (.int .i64 (f p)) ∧ w.frozen? ⟨g, p, none⟩ = false := by
  have := Row.cell h p hp
  simpa [hp] using this
theorem Rw.set {w : World} {B g n : Nat} {f : Nat → Int} (h : Rw w B g n f) {p : Nat} (hp : p < n) (x : Int) : Rw (w.setCell ⟨g, p, none⟩ (.int .i64 x)) B g n fun i => if i = p then x else f i := by
  have := Row.set h p x
  unfold Rw
  have e : ((List.range n).map f).set p x = (List.range n).map fun i => if i = p then x else f i := by
    apply List.ext_getElem?
    intro j
    rw [List.getElem?_set]
    by_cases hj : j < n
    · by_cases e : p = j
      · subst e; simp [hp]
      · simp [e, hj, Ne.symm e]
    · by_cases e : p = j
      · subst e; omega
      · simp [e, hj]
  rw [← e]; exact this

/-- where each number stands among the first k. -/
def Pl (O : List Int) (k : Nat) (f : Nat → Int) : Prop := (∀ x : Nat, ¬ (x : Int) ∈ O.take k → f x = -1) ∧ ∀ x : Nat, (x : Int) ∈ O.take k → ∃ i, i < k ∧ O[i]?.getD 0 = (x : Int) ∧ f x = (i : Int)
theorem Pl.start (O : List Int) : Pl O 0 fun _ => -1 := ⟨fun _ _ => rfl, fun x hx => by simp at hx⟩
theorem Pl.step {O : List Int} {k q : Nat} {f : Nat → Int} (h : Pl O k f) (hk : k < O.length) (hq : O[k]?.getD 0 = (q : Int)) : Pl O (k + 1) fun i => if i = q then (k : Int) else f i := by
  constructor
  · intro x hx
    rw [take_succ' O k hk, List.mem_append, hq] at hx
    have h1 : ¬ x = q := fun e => hx (Or.inr (by simp [e]))
    simp only [h1, if_false]
    exact h.1 x fun g => hx (Or.inl g)
  · intro x hx
    rw [take_succ' O k hk, List.mem_append, hq] at hx
    by_cases e : x = q
    · subst e
      exact ⟨k, by omega, hq, by simp⟩
    · rcases hx with hx | hx
      · obtain ⟨i, a, b, c⟩ := h.2 x hx
        exact ⟨i, by omega, b, by simp [e, c]⟩
      · simp at hx; omega
theorem Pl.neg {O : List Int} {k : Nat} {f : Nat → Int} (h : Pl O k f) (x : Nat) : decide (0 ≤ f x) = decide ((x : Int) ∈ O.take k) := by
  by_cases m : (x : Int) ∈ O.take k
  · obtain ⟨i, _, _, c⟩ := h.2 x m
    rw [c]; simp [m]
  · rw [h.1 x m]; simp [m]

/-- each below n, none twice. -/
def diff (n : Nat) (O : List Int) (k : Nat) : Prop := ∀ i, i < k → (0 ≤ O[i]?.getD 0 ∧ O[i]?.getD 0 < n) ∧ ¬ O[i]?.getD 0 ∈ O.take i
theorem mem_take {O : List Int} {i j : Nat} (hi : i < j) (hj : j ≤ O.length) : O[i]?.getD 0 ∈ O.take j := by
  rw [List.mem_take_iff_getElem]
  exact ⟨i, by omega, by simp [show i < O.length by omega]⟩
theorem take_mem {O : List Int} {j : Nat} {x : Int} (hj : j ≤ O.length) (h : x ∈ O.take j) : ∃ i, i < j ∧ O[i]?.getD 0 = x := by
  rw [List.mem_take_iff_getElem] at h
  obtain ⟨i, hi, e⟩ := h
  exact ⟨i, by omega, by simp [show i < O.length by omega, e]⟩
theorem diff_inj {n : Nat} {O : List Int} (h : diff n O O.length) {i j : Nat} (hi : i < O.length) (hj : j < O.length) (e : O[i]?.getD 0 = O[j]?.getD 0) : i = j := by
  rcases Nat.lt_trichotomy i j with g | g | g
  · have := (h j hj).2
    rw [← e] at this
    exact absurd (mem_take g (by omega)) this
  · exact g
  · have := (h i hi).2
    rw [e] at this
    exact absurd (mem_take g (by omega)) this
theorem diff_all {O : List Int} (h : diff O.length O O.length) {x : Nat} (hx : x < O.length) : (x : Int) ∈ O := by
  apply Classical.byContradiction
  intro g
  have hnd : (O.map Int.toNat).Nodup := by
    unfold List.Nodup
    rw [List.pairwise_iff_getElem]
    intro i j hi hj hij e
    simp only [List.length_map] at hi hj
    simp only [List.getElem_map] at e
    have a := (h i hi).1
    have b := (h j hj).1
    have c : O[i]?.getD 0 = O[j]?.getD 0 := by
      simp only [List.getElem?_eq_getElem hi, List.getElem?_eq_getElem hj, Option.getD_some] at a b ⊢
      omega
    have := diff_inj h hi hj c
    omega
  have hn : ¬ x ∈ O.map Int.toNat := by
    intro m
    obtain ⟨y, hy, e⟩ := List.mem_map.1 m
    obtain ⟨i, hi, e2⟩ := take_mem (j := O.length) (Nat.le_refl _) (by simpa using hy)
    have := (h i hi).1
    rw [e2] at this
    exact g (by rw [show (x : Int) = y by omega]; exact hy)
  have := nodup_bound O.length (x :: O.map Int.toNat) (List.nodup_cons.2 ⟨hn, hnd⟩) (fun q hq => by
    rcases List.mem_cons.1 hq with e | e
    · omega
    · obtain ⟨y, hy, e⟩ := List.mem_map.1 e
      obtain ⟨i, hi, e2⟩ := take_mem (j := O.length) (Nat.le_refl _) (by simpa using hy)
      have := (h i hi).1
      rw [e2] at this
      omega)
  simp at this
  omega
/-- the two ways of saying that an order is right. -/
theorem lin_same {L : List (Int × Int)} {O : List Int} {f : Nat → Int} (hin : Inn O.length L) (h : diff O.length O O.length) (hp : Pl O O.length f) : stepOk O.length L O O.length ↔ ∀ e ∈ L, f e.1.toNat < f e.2.toNat := by
  constructor
  · intro g e he
    obtain ⟨p, q⟩ := e
    have hr := hin _ he
    simp at hr
    obtain ⟨x, rfl⟩ : ∃ x : Nat, p = (x : Int) := ⟨p.toNat, by omega⟩
    obtain ⟨y, rfl⟩ : ∃ y : Nat, q = (y : Int) := ⟨q.toNat, by omega⟩
    obtain ⟨i, i1, i2, i3⟩ := hp.2 y (by rw [List.take_of_length_le (Nat.le_refl _)]; exact diff_all h (by omega))
    have := (g i i1).2.2 x (by rw [i2]; simp [eR, he])
    obtain ⟨j, j1, j2⟩ := take_mem (by omega) this
    obtain ⟨l, l1, l2, l3⟩ := hp.2 x (by rw [List.take_of_length_le (Nat.le_refl _)]; exact diff_all h (by omega))
    have := diff_inj h (i := l) (j := j) l1 (by omega) (by rw [l2, j2])
    simp only [Int.toNat_natCast]
    rw [i3, l3]; omega
  · intro g i hi
    refine ⟨(h i hi).1, (h i hi).2, fun x hx => ?_⟩
    have hr := (h i hi).1
    obtain ⟨q, hq⟩ : ∃ q : Nat, O[i]?.getD 0 = (q : Int) := ⟨(O[i]?.getD 0).toNat, by omega⟩
    rw [hq] at hx
    simp only [Int.toNat_natCast] at hx
    have he := of_decide_eq_true hx
    have := g _ he
    simp only [Int.toNat_natCast] at this
    have hr := hin _ he
    simp at hr
    obtain ⟨a, a1, a2, a3⟩ := hp.2 q (by rw [List.take_of_length_le (Nat.le_refl _)]; exact diff_all h (by omega))
    obtain ⟨b, b1, b2, b3⟩ := hp.2 x (by rw [List.take_of_length_le (Nat.le_refl _)]; exact diff_all h (by omega))
    have e := diff_inj h (i := a) (j := i) a1 hi (by rw [a2, hq])
    rw [← b2]
    exact mem_take (by omega) (by omega)
theorem stepOk.diff {n : Nat} {L : List (Int × Int)} {O : List Int} {k : Nat} (h : stepOk n L O k) : diff n O k := fun i hi => ⟨(h i hi).1, (h i hi).2.1⟩
end Go.Proofs.YtigllpegaljkmaaDoor
