import Derived.Test.YtbgeobpdojmdaaaDoorG61
import Derived.Test.YtbgeobpdojmdaaaDoorG42
import Derived.Test.YtbgeobpdojmdaaaDoorG11b
namespace Go.Proofs.YtbgeobpdojmdaaaDoor
open Go.RowKit
set_option linter.unusedVariables false
set_option linter.unusedSimpArgs false

theorem mem_redRow {C : Nat → Nat → Bool} {n a : Nat} {e : Int × Int} : ∀ b, e ∈ redRow C n a b ↔ ∃ j, j < b ∧ e = ((a : Int), (j : Int)) ∧ C a j = true ∧ btw C n a j = false
  | 0 => by simp [redRow]
  | b + 1 => by
    have ih := mem_redRow (C := C) (n := n) (a := a) (e := e) b
    unfold redRow
    split
    · rename_i h
      rw [List.mem_append, ih, List.mem_singleton]
      simp only [Bool.and_eq_true, Bool.not_eq_true'] at h
      constructor
      · rintro (⟨j, h1, h2⟩ | rfl)
        · exact ⟨j, by omega, h2⟩
        · exact ⟨b, by omega, rfl, h.1, h.2⟩
      · rintro ⟨j, h1, h2, h3⟩
        by_cases q : j = b
        · subst q; exact Or.inr h2
        · exact Or.inl ⟨j, by omega, h2, h3⟩
    · rename_i h
      rw [ih]
      constructor
      · rintro ⟨j, h1, h2⟩
        exact ⟨j, by omega, h2⟩
      · rintro ⟨j, h1, h2, h3, h4⟩
        by_cases q : j = b
        · subst q; exact absurd (by simp [h3, h4]) h
        · exact ⟨j, by omega, h2, h3, h4⟩
theorem mem_redA {C : Nat → Nat → Bool} {n : Nat} {e : Int × Int} : ∀ a, e ∈ redA C n a ↔ ∃ i j, i < a ∧ j < n ∧ e = ((i : Int), (j : Int)) ∧ C i j = true ∧ btw C n i j = false
  | 0 => by simp [redA]
  | a + 1 => by
    rw [redA, List.mem_append, mem_redA a, mem_redRow]
    constructor
    · rintro (⟨i, j, h1, h2⟩ | ⟨j, h1, h2⟩)
      · exact ⟨i, j, by omega, h2⟩
      · exact ⟨a, j, by omega, h1, h2⟩
    · rintro ⟨i, j, h1, h2, h3⟩
      by_cases q : i = a
      · subst q; exact Or.inr ⟨j, h2, h3⟩
      · exact Or.inl ⟨i, j, by omega, h2, h3⟩
theorem redRow_nodup {C : Nat → Nat → Bool} {n a : Nat} : ∀ b, (redRow C n a b).Nodup
  | 0 => by simp [redRow]
  | b + 1 => by
    have ih := redRow_nodup (C := C) (n := n) (a := a) b
    unfold redRow
    split
    · rw [List.nodup_append]
      refine ⟨ih, by simp, ?_⟩
      intro x hx y hy q
      rw [List.mem_singleton] at hy
      subst q
      obtain ⟨j, h1, h2, _⟩ := (mem_redRow b).1 hx
      rw [hy] at h2
      simp at h2; omega
    · exact ih
theorem redA_nodup {C : Nat → Nat → Bool} {n : Nat} : ∀ a, (redA C n a).Nodup
  | 0 => by simp [redA]
  | a + 1 => by
    rw [redA, List.nodup_append]
    refine ⟨redA_nodup a, redRow_nodup n, ?_⟩
    intro x hx y hy q
    subst q
    obtain ⟨i, j, h1, _, h2, _⟩ := (mem_redA a).1 hx
    obtain ⟨j', _, h3, _⟩ := (mem_redRow n).1 hy
    rw [h2] at h3
    simp at h3; omega
theorem len_sub {α : Type} [DecidableEq α] : ∀ (A B : List α), A.Nodup → (∀ x ∈ A, x ∈ B) → A.length ≤ B.length
  | [], B, _, _ => Nat.zero_le _
  | x :: A, B, h, g => by
    rw [List.nodup_cons] at h
    have hx := g x (by simp)
    have ih := len_sub A (B.erase x) h.2 (fun y hy => by
      refine (List.mem_erase_of_ne ?_).2 (g y (by simp [hy]))
      rintro rfl; exact h.1 hy)
    rw [List.length_erase_of_mem hx] at ih
    have := List.length_pos_of_mem hx
    simp; omega
/-- how many of the first k are such. -/
def nOf (p : Nat → Bool) : Nat → Nat
  | 0 => 0
  | k + 1 => nOf p k + if p k then 1 else 0
theorem nOf_le {p q : Nat → Bool} (h : ∀ i, p i = true → q i = true) : ∀ k, nOf p k ≤ nOf q k
  | 0 => Nat.le_refl _
  | k + 1 => by
    have ih := nOf_le h k
    unfold nOf
    cases hp : p k
    · simp; omega
    · rw [h k hp]; simp; omega
theorem nOf_lt {p q : Nat → Bool} (h : ∀ i, p i = true → q i = true) {x : Nat} (hx : q x = true) (hp : p x = false) : ∀ k, x < k → nOf p k < nOf q k
  | k + 1, hk => by
    unfold nOf
    by_cases e : x = k
    · subst e
      have := nOf_le h x
      rw [hx, hp]; simp; omega
    · have ih := nOf_lt h hx hp k (by omega)
      cases hq : p k
      · simp; omega
      · rw [h k hq]; simp; omega
theorem wk_mono {R Q : Nat → Nat → Bool} (h : ∀ i j, R i j = true → Q i j = true) : ∀ {d i j : Nat}, wk R d i j → wk Q d i j
  | 0, i, j, k => k
  | d + 1, i, j, k => by
    obtain ⟨m, h1, h2⟩ := k
    exact ⟨m, wk_mono h h1, h _ _ h2⟩

/-- the reduced edges. -/
def rM (L : List (Int × Int)) (n : Nat) : List (Int × Int) := redP (clo (eR L) 16) n n 0
theorem rM_mem {L : List (Int × Int)} {n : Nat} {e : Int × Int} : e ∈ rM L n ↔ ∃ i j, i < n ∧ j < n ∧ e = ((i : Int), (j : Int)) ∧ clo (eR L) 16 i j = true ∧ btw (clo (eR L) 16) n i j = false := by
  unfold rM redP
  rw [show redRow (clo (eR L) 16) n n 0 = [] from rfl, List.append_nil]
  exact mem_redA n
theorem rM_nodup (L : List (Int × Int)) (n : Nat) : (rM L n).Nodup := by
  unfold rM redP
  rw [show redRow (clo (eR L) 16) n n 0 = [] from rfl, List.append_nil]
  exact redA_nodup n
theorem rM_eR {L : List (Int × Int)} {n i j : Nat} (hR : Sup (eR L) n) : eR (rM L n) i j = true ↔ clo (eR L) 16 i j = true ∧ btw (clo (eR L) 16) n i j = false := by
  unfold eR
  rw [decide_eq_true_eq, rM_mem]
  constructor
  · rintro ⟨a, b, _, _, h, h1, h2⟩
    simp only [Prod.mk.injEq] at h
    obtain ⟨ha, hb⟩ := h
    have ha : i = a := by omega
    have hb : j = b := by omega
    subst ha hb
    exact ⟨h1, h2⟩
  · rintro ⟨h1, h2⟩
    obtain ⟨h3, h4⟩ := clo_sup hR 16 i j h1
    exact ⟨i, j, h3, h4, rfl, h1, h2⟩
theorem btw_true {C : Nat → Nat → Bool} {n i j : Nat} : btw C n i j = true ↔ ∃ x, x < n ∧ C i x = true ∧ C x j = true := by
  unfold btw
  simp only [List.any_eq_true, List.mem_range, Bool.and_eq_true]
/-- an edge of the reduced ones is one of the others. -/
theorem rM_sub {L : List (Int × Int)} {n i j : Nat} (hR : Sup (eR L) n) (hn : n ≤ 16) (h : eR (rM L n) i j = true) : eR L i j = true := by
  obtain ⟨h1, h2⟩ := (rM_eR hR).1 h
  obtain ⟨d, hd, hw⟩ := clo_sound (eR L) 16 h1
  match d, hd, hw with
  | 1, _, hw => exact wk_one.1 hw
  | e + 2, _, hw =>
    exfalso
    obtain ⟨m, w1, w2⟩ := hw
    have hS : Sup (eR L) 16 := fun i j h => ⟨Nat.lt_of_lt_of_le (hR i j h).1 hn, Nat.lt_of_lt_of_le (hR i j h).2 hn⟩
    have c1 := clo_all hS e w1
    have c2 := clo_mono (eR L) 16 w2
    rw [btw_true.2 ⟨m, (hR m j w2).1, c1, c2⟩] at h2
    simp at h2
theorem rM_mem_sub {L : List (Int × Int)} {n : Nat} (hR : Sup (eR L) n) (hn : n ≤ 16) : ∀ e ∈ rM L n, e ∈ L := by
  intro e he
  obtain ⟨i, j, _, _, rfl, _⟩ := rM_mem.1 he
  exact of_decide_eq_true (rM_sub hR hn (i := i) (j := j) (decide_eq_true he))
theorem clo_irr {R : Nat → Nat → Bool} {n : Nat} (hR : Sup R n) (hn : n ≤ 16) (hN : NoC R n) (x : Nat) : clo R 16 x x = false := by
  cases h : clo R 16 x x
  · rfl
  · obtain ⟨d, h1, h2, h3⟩ := (clo_iff hR hn x x).1 h
    exact absurd h3 (hN d x h1 h2)
/-- each way is one over the reduced edges. -/
theorem rM_way {L : List (Int × Int)} {n : Nat} (hR : Sup (eR L) n) (hn : n ≤ 16) (hN : NoC (eR L) n) : ∀ (k i j : Nat), nOf (fun x => clo (eR L) 16 i x && clo (eR L) 16 x j) n ≤ k → clo (eR L) 16 i j = true → ∃ d, wk (eR (rM L n)) (d + 1) i j := by
  have ht : ∀ {i m j}, clo (eR L) 16 i m = true → clo (eR L) 16 m j = true → clo (eR L) 16 i j = true := fun {i m j} h1 h2 => clo_trans (eR L) 16 (Nat.lt_of_lt_of_le (clo_sup hR 16 i m h1).2 hn) h1 h2
  have hi := clo_irr hR hn hN
  intro k
  induction k with
  | zero =>
    intro i j hk hc
    refine ⟨0, wk_one.2 ((rM_eR hR).2 ⟨hc, ?_⟩)⟩
    cases hb : btw (clo (eR L) 16) n i j
    · rfl
    · obtain ⟨x, hx, h1, h2⟩ := btw_true.1 hb
      have := nOf_lt (p := fun _ => false) (q := fun x => clo (eR L) 16 i x && clo (eR L) 16 x j) (fun _ h => by simp at h) (x := x) (by simp [h1, h2]) rfl n hx
      omega
  | succ k ih =>
    intro i j hk hc
    cases hb : btw (clo (eR L) 16) n i j
    · exact ⟨0, wk_one.2 ((rM_eR hR).2 ⟨hc, hb⟩)⟩
    · obtain ⟨x, hx, h1, h2⟩ := btw_true.1 hb
      have l1 := nOf_lt (p := fun y => clo (eR L) 16 i y && clo (eR L) 16 y x) (q := fun y => clo (eR L) 16 i y && clo (eR L) 16 y j) (fun y h => by
        simp only [Bool.and_eq_true] at h ⊢
        exact ⟨h.1, ht h.2 h2⟩) (x := x) (by simp [h1, h2]) (by simp [hi]) n hx
      have l2 := nOf_lt (p := fun y => clo (eR L) 16 x y && clo (eR L) 16 y j) (q := fun y => clo (eR L) 16 i y && clo (eR L) 16 y j) (fun y h => by
        simp only [Bool.and_eq_true] at h ⊢
        exact ⟨ht h1 h.1, h.2⟩) (x := x) (by simp [h1, h2]) (by simp [hi]) n hx
      obtain ⟨d, w1⟩ := ih i x (by omega) h1
      obtain ⟨e, w2⟩ := ih x j (by omega) h2
      exact ⟨d + (e + 1), by have := wk_add w1 w2; rwa [show d + 1 + (e + 1) = d + (e + 1) + 1 by omega] at this⟩
theorem rM_sup {L : List (Int × Int)} {n : Nat} (hR : Sup (eR L) n) (hn : n ≤ 16) : Sup (eR (rM L n)) n := fun i j h => hR i j (rM_sub hR hn h)
theorem sup16 {R : Nat → Nat → Bool} {n : Nat} (hR : Sup R n) (hn : n ≤ 16) : Sup R 16 := fun i j h => ⟨Nat.lt_of_lt_of_le (hR i j h).1 hn, Nat.lt_of_lt_of_le (hR i j h).2 hn⟩
theorem rM_clo {L : List (Int × Int)} {n : Nat} (hR : Sup (eR L) n) (hn : n ≤ 16) (hN : NoC (eR L) n) : clo (eR (rM L n)) 16 = clo (eR L) 16 := by
  funext i j
  rw [Bool.eq_iff_iff]
  constructor
  · intro h
    obtain ⟨d, hd, hw⟩ := clo_sound _ 16 h
    obtain ⟨q, rfl⟩ : ∃ q, d = q + 1 := ⟨d - 1, by omega⟩
    exact clo_all (sup16 hR hn) q (wk_mono (fun _ _ => rM_sub hR hn) hw)
  · intro h
    obtain ⟨d, hw⟩ := rM_way hR hn hN _ i j (Nat.le_refl _) h
    exact clo_all (sup16 (rM_sup hR hn) hn) d hw
theorem rM_no {L : List (Int × Int)} {n : Nat} (hR : Sup (eR L) n) (hn : n ≤ 16) (hN : NoC (eR L) n) : NoC (eR (rM L n)) n :=
  fun d x h1 h2 h3 => hN d x h1 h2 (wk_mono (fun _ _ => rM_sub hR hn) h3)
theorem rM_ok {L : List (Int × Int)} {n : Nat} (hg : gOk n L = true) : gOk n (rM L n) = true := by
  obtain ⟨m, hm, h16, hl, hin, _⟩ := gOk_open hg
  have : m = n := by omega
  subst this
  have hs := rM_mem_sub hin.sup h16
  have := len_sub _ _ (rM_nodup L m) hs
  unfold gOk
  rw [decide_eq_true_eq]
  exact ⟨by omega, by omega, by omega, fun e he => hin e (hs e he)⟩
/-- what stands ahead of what stands, stands. -/
def Dn (R : Nat → Nat → Bool) (S : Nat → Bool) : Prop := ∀ i j, R i j = true → S j = true → S i = true
theorem Dn.wk {R : Nat → Nat → Bool} {S : Nat → Bool} (h : Dn R S) : ∀ {d i j : Nat}, wk R d i j → S j = true → S i = true
  | 0, i, j, k, g => by
    have : i = j := k
    subst this; exact g
  | d + 1, i, j, k, g => by
    obtain ⟨m, h1, h2⟩ := k
    exact h.wk h1 (h m j h2 g)
theorem rM_rdy {L : List (Int × Int)} {n : Nat} (hg : gOk n L = true) (hN : NoC (eR L) n) {S : Nat → Bool} (hD : Dn (eR L) S) (x : Nat) : rdy (eF (rM L n)) n S x = rdy (eF L) n S x := by
  obtain ⟨m, hm, hn, hl, hin, h16⟩ := gOk_open hg
  have : m = n := by omega
  subst this
  obtain ⟨m', hm', _, _, hin', h16'⟩ := gOk_open (rM_ok hg)
  rw [Bool.eq_iff_iff, rdy_is h16, rdy_is h16']
  constructor
  · rintro ⟨h1, h2, h3⟩
    refine ⟨h1, h2, fun i hi => ?_⟩
    obtain ⟨d, p, w1, w2⟩ := rM_way hin.sup hn hN _ i x (Nat.le_refl _) (clo_mono (eR L) 16 hi)
    exact hD.wk (wk_mono (fun _ _ => rM_sub hin.sup hn) w1) (h3 p w2)
  · rintro ⟨h1, h2, h3⟩
    exact ⟨h1, h2, fun i hi => h3 i (rM_sub hin.sup hn hi)⟩
theorem rM_cnt {L : List (Int × Int)} {n : Nat} (hg : gOk n L = true) (hN : NoC (eR L) n) : ∀ (l : Nat) (S : Nat → Bool), Dn (eR L) S → cnt (rM L n) n l S = cnt L n l S
  | 0, S, _ => rfl
  | l + 1, S, hD => by
    unfold cnt
    refine congrArg List.sum (List.map_congr_left fun x hx => ?_)
    rw [rM_rdy hg hN hD x]
    by_cases hr : rdy (eF L) n S x = true
    · rw [if_pos hr, if_pos hr]
      refine rM_cnt hg hN l (addS S x) fun i j h1 h2 => ?_
      obtain ⟨m, hm, _, _, _, h16⟩ := gOk_open hg
      unfold addS at h2 ⊢
      by_cases e : j = x
      · subst e
        have := ((rdy_is h16).1 hr).2.2 i h1
        simp [this]
      · rw [if_neg e] at h2
        have := hD i j h1 h2
        simp [this]
    · rw [if_neg hr, if_neg hr]
theorem rM_lins {L : List (Int × Int)} {n : Nat} (hg : gOk n L = true) (hN : NoC (eR L) n) : linsB n (rM L n) = linsB n L := by
  unfold linsB
  rw [hg, rM_ok hg]
  by_cases h : (n : Int) ≤ 8
  · rw [if_pos ⟨rfl, h⟩, if_pos ⟨rfl, h⟩]
    have := rM_cnt hg hN n (fun _ => false) (fun _ _ _ h => h)
    simp only [Int.toNat_natCast]
    rw [this]
  · rw [if_neg (fun g => h g.2), if_neg (fun g => h g.2)]
theorem rM_ahead {L : List (Int × Int)} {n : Nat} (hg : gOk n L = true) (hN : NoC (eR L) n) (a b : Int) : aheadB n (rM L n) a b = aheadB n L a b := by
  obtain ⟨m, hm, hn, _, hin, _⟩ := gOk_open hg
  have : m = n := by omega
  subst this
  unfold aheadB
  rw [hg, rM_ok hg, rM_clo hin.sup hn hN]
theorem redB_rM {L : List (Int × Int)} {n : Nat} (hg : gOk n L = true) (hN : NoC (eR L) n) : redB n L = rM L n := by
  unfold redB
  rw [if_pos ((canB_iff hg).2 hN)]
  simp [rM]
theorem rM_twice {L : List (Int × Int)} {n : Nat} (hg : gOk n L = true) (hN : NoC (eR L) n) : redB n (rM L n) = rM L n := by
  obtain ⟨m, hm, hn, _, hin, _⟩ := gOk_open hg
  have : m = n := by omega
  subst this
  rw [redB_rM (rM_ok hg) (rM_no hin.sup hn hN)]
  show redP (clo (eR (rM L m)) 16) m m 0 = _
  rw [rM_clo hin.sup hn hN]
  rfl
end Go.Proofs.YtbgeobpdojmdaaaDoor
