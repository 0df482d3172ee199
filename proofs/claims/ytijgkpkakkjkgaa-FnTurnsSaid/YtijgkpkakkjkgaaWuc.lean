import Derived.Test.YtijgkpkakkjkgaaWub
import Derived.Test.YtijgkpkakkjkgaaWy
import Derived.Test.YtijgkpkakkjkgaaWr
import Derived.Test.YtijgkpkakkjkgaaWdv
import Derived.Test.YtijgkpkakkjkgaaBk
namespace Go.Proofs.Ytijgkpkakkjkgaa
open Go.RowKit
set_option linter.unusedVariables false

theorem is_some_eq {t x : Nat} (h : Is (some t) x) : x = t := by
  rcases h.2 with h | ⟨h, _⟩
  · cases h; rfl
  · cases h

theorem mul_any (a b c d : Nat) (w : World) (h : Step a b c d) :
    Calls Try.prog 22 #[.int .i64 3, .agg #[.int .i64 3, .int .i64 0, .float .f64 a, .float .f64 b], .agg #[.int .i64 3, .int .i64 0, .float .f64 0, .float .f64 4607182418800017408]] w
      fun e w' => e = .returned (.tuple #[.agg #[.int .i64 3, .int .i64 0, .float .f64 c, .float .f64 d], .int .i64 0]) ∧ Below w.heap.size w w' := by
  refine (implOp_any 3 3 0 a b 3 0 0 4607182418800017408 w).mono ?_
  rintro e w' ⟨k, i, x, y, rfl, hv, hb⟩
  have hO : opOut 3 3 0 a b 3 0 0 4607182418800017408 = (pV (some c) (some d), 0) := by
    simp only [opOut, okB, pairOut]
    rw [h.1, h.2]; simp
  rw [hO] at hv ⊢
  obtain ⟨h1, h2, h3, h4⟩ := hv
  have e1 : k = 3 := h1
  have e2 : i = 0 := h2
  subst e1 e2
  rw [is_some_eq h3, is_some_eq h4]
  exact ⟨rfl, hb⟩

theorem turn6 {a b t : Nat} (h : sizeF a b = some t) : turnOut 6 3 0 a b = (rV (some t), 0) := by
  simp [turnOut, okB, pairTurnOut, h]

theorem size_any (a b t : Nat) (w : World) (la : a < 18446744073709551616) (lb : b < 18446744073709551616) (h : sizeF a b = some t) :
    Calls Try.prog 27 #[.int .i64 6, .agg #[.int .i64 3, .int .i64 0, .float .f64 a, .float .f64 b]] w
      fun e w' => e = .returned (.tuple #[.agg #[.int .i64 2, .int .i64 0, .float .f64 t, .float .f64 0], .int .i64 0]) ∧ Below w.heap.size w w' := by
  refine (implTurn_any 6 3 0 a b w la lb).mono ?_
  rintro e w' ⟨k, i, x, y, rfl, hv, hb⟩
  rw [turn6 h] at hv ⊢
  obtain ⟨h1, h2, h3, h4⟩ := hv
  have e1 : k = 2 := h1
  have e2 : i = 0 := h2
  subst e1 e2
  rw [is_some_eq h3, is_some_eq h4]
  exact ⟨rfl, hb⟩

theorem ssize_any (a b t : Nat) (w : World) (la : a < 18446744073709551616) (lb : b < 18446744073709551616) (h : sizeF a b = some t) :
    Calls Try.prog 28 #[.int .i64 6, .agg #[.int .i64 3, .int .i64 0, .float .f64 a, .float .f64 b]] w
      fun e w' => e = .returned (.tuple #[.agg #[.int .i64 2, .int .i64 0, .float .f64 t, .float .f64 0], .int .i64 0]) ∧ Below w.heap.size w w' := by
  refine (specTurn_any 6 3 0 a b w la lb).mono ?_
  rintro e w' ⟨k, i, x, y, rfl, hv, hb⟩
  rw [turn6 h] at hv ⊢
  obtain ⟨h1, h2, h3, h4⟩ := hv
  have e1 : k = 2 := h1
  have e2 : i = 0 := h2
  subst e1 e2
  rw [is_some_eq h3, is_some_eq h4]
  exact ⟨rfl, hb⟩

theorem eq_self' {x : Nat} (h : nanB x = false) : (FloatKind.f64.format.order x x == some Ordering.eq) = true := by
  have := order_self x
  rw [h] at this; exact this

theorem same2_any (t : Nat) (w : World) (h : nanB t = false) :
    Calls Try.prog 22 #[.int .i64 7, .agg #[.int .i64 2, .int .i64 0, .float .f64 t, .float .f64 0], .agg #[.int .i64 2, .int .i64 0, .float .f64 t, .float .f64 0]] w
      fun e w' => e = .returned (.tuple #[.agg #[.int .i64 4, .int .i64 1, .float .f64 0, .float .f64 0], .int .i64 0]) ∧ Below w.heap.size w w' := by
  refine (implOp_any 7 2 0 t 0 2 0 t 0 w).mono ?_
  rintro e w' ⟨k, i, x, y, rfl, hv, hb⟩
  have hO : opOut 7 2 0 t 0 2 0 t 0 = (bV true, 0) := by
    simp [opOut, okB, plusB, realOut, eq_self' h]
  rw [hO] at hv ⊢
  obtain ⟨h1, h2, h3, h4⟩ := hv
  have e1 : k = 4 := h1
  have e2 : i = 1 := h2
  subst e1 e2
  rw [is_some_eq h3, is_some_eq h4]
  exact ⟨rfl, hb⟩

theorem same3_any (a b : Nat) (w : World) (ha : nanB a = false) (hb : nanB b = false) :
    Calls Try.prog 22 #[.int .i64 7, .agg #[.int .i64 3, .int .i64 0, .float .f64 a, .float .f64 b], .agg #[.int .i64 3, .int .i64 0, .float .f64 a, .float .f64 b]] w
      fun e w' => e = .returned (.tuple #[.agg #[.int .i64 4, .int .i64 1, .float .f64 0, .float .f64 0], .int .i64 0]) ∧ Below w.heap.size w w' := by
  refine (implOp_any 7 3 0 a b 3 0 a b w).mono ?_
  rintro e w' ⟨k, i, x, y, rfl, hv, hbb⟩
  have hO : opOut 7 3 0 a b 3 0 a b = (bV true, 0) := by
    simp [opOut, okB, pairOut, eq_self' ha, eq_self' hb]
  rw [hO] at hv ⊢
  obtain ⟨h1, h2, h3, h4⟩ := hv
  have e1 : k = 4 := h1
  have e2 : i = 1 := h2
  subst e1 e2
  rw [is_some_eq h3, is_some_eq h4]
  exact ⟨rfl, hbb⟩

theorem bcell2 {W w1 : World} (hb : Below W.heap.size W w1) : (∀ b o, (W.cell? ⟨b, o, none⟩).isSome = true → w1.cell? ⟨b, o, none⟩ = W.cell? ⟨b, o, none⟩) ∧ (∀ b o, (W.cell? ⟨b, o, none⟩).isSome = true → w1.frozen? ⟨b, o, none⟩ = W.frozen? ⟨b, o, none⟩) := by
  refine ⟨fun b o h => ?_, fun b o h => ?_⟩
  · obtain ⟨v, hv⟩ := Option.isSome_iff_exists.1 h
    exact hb.cell (p := ⟨b, o, none⟩) (World.block_lt_of_cell? _ _ hv)
  · obtain ⟨v, hv⟩ := Option.isSome_iff_exists.1 h
    exact hb.frozen (p := ⟨b, o, none⟩) (World.block_lt_of_cell? _ _ hv)
theorem alloc_old (W : World) (ob : Obj) (b o : Nat) (h : (W.cell? ⟨b, o, none⟩).isSome = true) : (W.alloc ob).cell? ⟨b, o, none⟩ = W.cell? ⟨b, o, none⟩ :=
  (bcell2 (bl_alloc (Below.refl _ W) ob)).1 b o h
theorem alloc_oldf (W : World) (ob : Obj) (b o : Nat) (h : (W.cell? ⟨b, o, none⟩).isSome = true) : (W.alloc ob).frozen? ⟨b, o, none⟩ = W.frozen? ⟨b, o, none⟩ :=
  (bcell2 (bl_alloc (Below.refl _ W) ob)).2 b o h

theorem Blk.four {w : World} {n : Nat} {a b c d : Value} {t : TypeId} (h : Blk w n #[a, b, c, d] t) : w.cell? ⟨n, 0, none⟩ = some a ∧ w.cell? ⟨n, 1, none⟩ = some b ∧ w.cell? ⟨n, 2, none⟩ = some c ∧ w.cell? ⟨n, 3, none⟩ = some d ∧ ∀ o, w.frozen? ⟨n, o, none⟩ = false := ⟨h.cell 0, h.cell 1, h.cell 2, h.cell 3, h.frozen⟩

/-- the pair after k quarter turns. -/
def PA (x y k : Nat) : Nat := match k with | 0 => x | 1 => negF y | 2 => negF x | 3 => y | _ => x
def PB (x y k : Nat) : Nat := match k with | 0 => y | 1 => x | 2 => negF y | 3 => negF x | _ => y
end Go.Proofs.Ytijgkpkakkjkgaa
