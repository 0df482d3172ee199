import Derived.Test.YtmoohgafljepdaaDoorN8
namespace Go.Proofs.YtmoohgafljepdaaDoor
open Go.RowKit
set_option linter.unusedVariables false
set_option linter.unusedSimpArgs false

/-- what a pick chooses of m. -/
def pickK (P : List Int) (i : Nat) (m : Nat) : Int := if i < P.length then (if (P[i]?.getD 0).tmod (m : Int) < 0 then (P[i]?.getD 0).tmod (m : Int) + (m : Int) else (P[i]?.getD 0).tmod (m : Int)) else 0
theorem pickK_in (P : List Int) (i : Nat) {m : Nat} (h : 0 < m) : 0 ≤ pickK P i m ∧ pickK P i m < (m : Int) := by
  unfold pickK
  split
  · have h1 := Int.tmod_lt_of_pos (P[i]?.getD 0) (b := (m : Int)) (by omega)
    have h2 := Int.lt_tmod_of_pos (P[i]?.getD 0) (b := (m : Int)) (by omega)
    split <;> omega
  · omega
/-- a run: moves, one behind the other, by picks. -/
def rnG (L : List (Int × Int)) (wk : Int) (P : List Int) : Nat → Nat → List Int → List (Int × Int)
  | 0, _, _ => []
  | f + 1, i, A => if mvs L wk A = [] then [] else (mvs L wk A).getD (pickK P i (mvs L wk A).length).toNat (0, 0) :: rnG L wk P f (i + 1) (doM A ((mvs L wk A).getD (pickK P i (mvs L wk A).length).toNat (0, 0)))
def prB (n : Int) (L : List (Int × Int)) (wk : Int) (P : List Int) : Option (List (Int × Int)) := if (gOk n L && wkOk wk && decide (P.length ≤ 2000)) = true then some (rnG L wk P (2 * n.toNat) 0 (List.replicate n.toNat 0)) else none
theorem pick_mem (P : List Int) (i : Nat) {M : List (Int × Int)} (h : ¬ M = []) : M.getD (pickK P i M.length).toNat (0, 0) ∈ M := by
  have hl : 0 < M.length := List.length_pos_iff.2 h
  have := pickK_in P i hl
  rw [List.getD_eq_getElem?_getD]
  exact memE (by omega)
theorem rnG_len (L : List (Int × Int)) (wk : Int) (P : List Int) : ∀ f i A, (rnG L wk P f i A).length ≤ f
  | 0, _, _ => by simp [rnG]
  | f + 1, i, A => by
    simp only [rnG]
    split
    · simp
    · have := rnG_len L wk P f (i + 1) (doM A ((mvs L wk A).getD (pickK P i (mvs L wk A).length).toNat (0, 0)))
      simp only [List.length_cons]
      omega
/-- where moves lead to. -/
def stA (A : List Int) (R : List (Int × Int)) : List Int := R.foldl doM A
/-- each of the moves there is behind those ahead. -/
def Vld (L : List (Int × Int)) (wk : Int) : List Int → List (Int × Int) → Prop
  | _, [] => True
  | A, m :: R => m ∈ mvs L wk A ∧ Vld L wk (doM A m) R
theorem rnG_vld (L : List (Int × Int)) (wk : Int) (P : List Int) : ∀ f i A, Vld L wk A (rnG L wk P f i A)
  | 0, _, _ => by simp [rnG, Vld]
  | f + 1, i, A => by
    simp only [rnG]
    split
    · simp [Vld]
    · rename_i h
      exact ⟨pick_mem P i h, rnG_vld L wk P f (i + 1) _⟩
theorem vld_take {L : List (Int × Int)} {wk : Int} : ∀ {R : List (Int × Int)} {A : List Int} (i : Nat), Vld L wk A R → Vld L wk A (R.take i)
  | [], A, i, h => by simpa using h
  | m :: R, A, 0, h => by simp [Vld]
  | m :: R, A, i + 1, h => ⟨h.1, vld_take i h.2⟩
theorem vld_at {L : List (Int × Int)} {wk : Int} : ∀ {R : List (Int × Int)} {A : List Int} (i : Nat), Vld L wk A R → i < R.length → R[i]?.getD (0, 0) ∈ mvs L wk (stA A (R.take i))
  | [], A, i, h, hi => by simp at hi
  | m :: R, A, 0, h, hi => by simpa [stA] using h.1
  | m :: R, A, i + 1, h, hi => by
    have := vld_at (R := R) (A := doM A m) i h.2 (by simpa using hi)
    simpa [stA] using this
theorem vld_plG {L : List (Int × Int)} {wk : Int} : ∀ {R : List (Int × Int)} {A : List Int}, Vld L wk A R → plG L wk A R = some (mvs L wk (stA A R))
  | [], A, h => rfl
  | m :: R, A, h => by
    simp only [plG]
    rw [if_pos h.1]
    exact vld_plG h.2
theorem stA_len (R : List (Int × Int)) : ∀ A, (stA A R).length = A.length := by
  induction R with
  | nil => intro A; rfl
  | cons m R ih => intro A; exact (ih _).trans (doM_len A m)
theorem stA_thr (R : List (Int × Int)) : ∀ {A}, Thr A → Thr (stA A R) := by
  induction R with
  | nil => intro A h; exact h
  | cons m R ih => intro A h; exact ih (doM_thr h m)
theorem sum_set : ∀ (A : List Int) (x : Nat) (v : Int), x < A.length → (A.set x v).sum = A.sum - A.getD x 0 + v
  | [], x, v, h => by simp at h
  | a :: A, 0, v, h => by simp; omega
  | a :: A, x + 1, v, h => by
    have := sum_set A x v (by simpa using h)
    simp only [List.set_cons_succ, List.sum_cons, List.getD_cons_succ]
    omega
theorem sum_move {L : List (Int × Int)} {wk : Int} {A : List Int} {m : Int × Int} (h : m ∈ mvs L wk A) : (doM A m).sum = A.sum + 1 := by
  obtain ⟨x, hx, hc⟩ := mem_mvs h
  rcases hc with ⟨rfl, h1⟩ | ⟨rfl, h1⟩
  · unfold doM
    simp only [Int.toNat_natCast]
    rw [sum_set A x _ hx, h1]
    simp; omega
  · unfold doM
    simp only [Int.toNat_natCast]
    rw [sum_set A x _ hx, h1]
    simp
theorem vld_sum {L : List (Int × Int)} {wk : Int} : ∀ {R : List (Int × Int)} {A : List Int}, Vld L wk A R → (stA A R).sum = A.sum + (R.length : Int)
  | [], A, h => by simp [stA]
  | m :: R, A, h => by
    have := vld_sum (R := R) h.2
    have h2 := sum_move h.1
    show (stA (doM A m) R).sum = _
    simp only [List.length_cons]
    omega
theorem sum_full : ∀ {A : List Int}, Thr A → A.sum ≤ 2 * (A.length : Int) ∧ (A.sum = 2 * (A.length : Int) → ∀ v ∈ A, v = 2)
  | [], _ => by simp
  | a :: A, h => by
    obtain ⟨h1, h2⟩ := sum_full (A := A) (fun v hv => h v (List.mem_cons_of_mem _ hv))
    have ha := h a List.mem_cons_self
    simp only [List.sum_cons, List.length_cons]
    refine ⟨by omega, fun e v hv => ?_⟩
    rcases List.mem_cons.1 hv with rfl | hv
    · omega
    · exact h2 (by omega) v hv
theorem full_mvs {L : List (Int × Int)} {wk : Int} {A : List Int} (h : ∀ v ∈ A, v = 2) : mvs L wk A = [] := by
  cases hm : mvs L wk A with
  | nil => rfl
  | cons m M =>
    obtain ⟨x, hx, hc⟩ := mem_mvs (L := L) (wk := wk) (A := A) (m := m) (by rw [hm]; exact List.mem_cons_self)
    have := h A[x] (List.getElem_mem hx)
    have e : A.getD x 0 = A[x] := by simp [List.getD, hx]
    rcases hc with ⟨_, h1⟩ | ⟨_, h1⟩ <;> omega
theorem rnG_end (L : List (Int × Int)) (wk : Int) (P : List Int) : ∀ f i A, mvs L wk (stA A (rnG L wk P f i A)) = [] ∨ (rnG L wk P f i A).length = f
  | 0, _, _ => Or.inr rfl
  | f + 1, i, A => by
    simp only [rnG]
    split
    · rename_i h; left; exact h
    · rcases rnG_end L wk P f (i + 1) (doM A ((mvs L wk A).getD (pickK P i (mvs L wk A).length).toNat (0, 0))) with g | g
      · left; exact g
      · right; rw [List.length_cons, g]
/-- behind a whole run there is no move. -/
theorem rnG_last (L : List (Int × Int)) (wk : Int) (P : List Int) (n : Nat) : mvs L wk (stA (List.replicate n 0) (rnG L wk P (2 * n) 0 (List.replicate n 0))) = [] := by
  rcases rnG_end L wk P (2 * n) 0 (List.replicate n 0) with g | g
  · exact g
  · have hs := vld_sum (rnG_vld L wk P (2 * n) 0 (List.replicate n 0))
    rw [g] at hs
    have h0 : (List.replicate n (0 : Int)).sum = 0 := by simp
    have hf := sum_full (stA_thr (rnG L wk P (2 * n) 0 (List.replicate n 0)) (zeros_thr n))
    have hl := stA_len (rnG L wk P (2 * n) 0 (List.replicate n 0)) (List.replicate n 0)
    rw [List.length_replicate] at hl
    exact full_mvs (hf.2 (by rw [hl]; omega))
end Go.Proofs.YtmoohgafljepdaaDoor
