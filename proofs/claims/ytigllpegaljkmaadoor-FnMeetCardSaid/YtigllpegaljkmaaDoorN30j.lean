import Derived.Test.YtigllpegaljkmaaDoorN8j
namespace Go.Proofs.YtigllpegaljkmaaDoor
open Go.RowKit
set_option linter.unusedVariables false
set_option linter.unusedSimpArgs false

/-- what a pick chooses of m. -/
def pickK (P : List Int) (i : Nat) (m : Nat) : Int := if i < P.length then (if (P[i]?.getD 0).tmod (m : Int) < 0 then (P[i]?.getD 0).tmod (m : Int) + (m : Int) else (P[i]?.getD 0).tmod (m : Int)) else 0
theorem pickK_in (P : List Int) (i : Nat) {m : Nat} (h : 0 < m) : 0 ≤ pickK P i m ∧ pickK P i m < (m : Int) := by
  unfold pickK
  split
  · have h1 := Int.tmod_lt_of_pos (P[i]?.getD 0) (b := (m : Int)) (by omega)
    have h2 := Int.lt_tmod_of_pos (P[i]?.getD 0) (b := (m : Int)) (by omega)
    split <;> omega
  · omega
/-- a run: moves, one behind the other, by picks. -/
def rnG (L : List (Int × Int)) (wk : Int) (P : List Int) : Nat → Nat → List Int → List (Int × Int)
  | 0, _, _ => []
  | f + 1, i, A => if mvs L wk A = [] then [] else (mvs L wk A).getD (pickK P i (mvs L wk A).length).toNat (0, 0) :: rnG L wk P f (i + 1) (doM A ((mvs L wk A).getD (pickK P i (mvs L wk A).length).toNat (0, 0)))
def prB (n : Int) (L : List (Int × Int)) (wk : Int) (P : List Int) : Option (List (Int × Int)) := if (gOk n L && wkOk wk && decide (P.length ≤ 2000)) = true then some (rnG L wk P (2 * n.toNat) 0 (List.replicate n.toNat 0)) else none
theorem pick_mem (P : List Int) (i : Nat) {M : List (Int × Int)} (h : ¬ M = []) : M.getD (pickK P i M.length).toNat (0, 0) ∈ M := by
  have hl : 0 < M.length := List.length_pos_iff.2 h
  have := pickK_in P i hl
  rw [List.getD_eq_getElem?_getD]
  exact memE (by omega)
theorem rnG_len (L : List (Int × Int)) (wk : Int) (P : List Int) : ∀ f i A, (rnG L wk P f i A).length ≤ f
  | 0, _, _ => by simp [rnG]
  | f + 1, i, A => by
    simp only [rnG]
    split
    · simp
    · have := rnG_len L wk P f (i + 1) (doM A ((mvs L wk A).getD (pickK P i (mvs L wk A).length).toNat (0, 0)))
      simp only [List.length_cons]
      omega
/-- where moves lead to. -/
def stA (A : List Int) (R : List (Int × Int)) : List Int := R.foldl doM A
/-- each of the moves there is behind those ahead. -/
def Vld (L : List (Int × Int)) (wk : Int) : List Int → List (Int × Int) → Prop
  | _, [] => True
  | A, m :: R => m ∈ mvs L wk A ∧ Vld L wk (doM A m) R
theorem rnG_vld (L : List (Int × Int)) (wk : Int) (P : List Int) : ∀ f i A, Vld L wk A (rnG L wk P f i A)
  | 0, _, _ => by simp [rnG, Vld]
  | f + 1, i, A => by
    simp only [rnG]
    split
    · simp [Vld]
    · rename_i h
      exact ⟨pick_mem P i h, rnG_vld L wk P f (i + 1) _⟩
theorem vld_take {L : List (Int × Int)} {wk : Int} : ∀ {R : List (Int × Int)} {A : List Int} (i : Nat), Vld L wk A R → Vld L wk A (R.take i)
  | [], A, i, h => by simpa using h
  | m :: R, A, 0, h => by simp [Vld]
  | m :: R, A, i + 1, h => ⟨h.1, vld_take i h.2⟩
theorem vld_at {L : List (Int × Int)} {wk : Int} : ∀ {R : List (Int × Int)} {A : List Int} (i : Nat), Vld L wk A R → i < R.length → R[i]?.getD (0, 0) ∈ mvs L wk (stA A (R.take i))
  | [], A, i, h, hi => by simp at hi
  | m :: R, A, 0, h, hi => by simpa [stA] using h.1
  | m :: R, A, i + 1, h, hi => by
    have := vld_at (R := R) (A := doM A m) i h.2 (by simpa using hi)
    simpa [stA] using this
theorem vld_plG {L : List (Int × Int)} {wk : Int} : ∀ {R : List (Int × Int)} {A : List Int}, Vld L wk A R → plG L wk A R = some (mvs L wk (stA A R))
  | [], A, h => rfl
  | m :: R, A, h => by
    simp only [plG]
    rw [if_pos h.1]
    exact vld_plG h.2
theorem stA_len (R : List (Int × Int)) : ∀ A, (stA A R).length = A.length := by
  induction R with
  | nil => intro A; rfl
  | cons m R ih => intro A; exact (ih _).trans (doM_len A m)
theorem stA_thr (R : List (Int × Int)) : ∀ {A}, Thr A → Thr (stA A R) := by
  induction R with
  | nil => intro A h; exact h
  | cons m R ih => intro A h; exact ih (doM_thr h m)
theorem sum_set : ∀ (A : List Int) (x : Nat) (v : Int), x < A.length → (A.set x v).sum = A.sum - A.getD x 0 + v
  | [], x, v, h => by simp at h
  | a :: A, 0, v, h => by simp; omega
  | a :: A, x + 1, v, h => by
    have := sum_set A x v (by simpa using h)
    simp only [List.set_cons_succ, List.sum_cons, List.getD_cons_succ]
    omega
theorem sum_move {L : List (Int × Int)} {wk : Int} {A : List Int} {m : Int × Int} (h : m ∈ mvs L wk A) : (doM A m).sum = A.sum + 1 := by
  obtain ⟨x, hx, hc⟩ := mem_mvs h
  rcases hc with ⟨rfl, h1⟩ | ⟨rfl, h1⟩
  · unfold doM
    simp only [Int.toNat_natCast]
    rw [sum_set A x _ hx, h1]
    simp; omega
  · unfold doM
    simp only [Int.toNat_natCast]
    rw [sum_set A x _ hx, h1]
    simp
theorem vld_sum {L : List (Int × Int)} {wk : Int} : ∀ {R : List (Int × Int)} {A : List Int}, Vld L wk A R → (stA A R).sum = A.sum + (R.length : Int)
  | [], A, h => by simp [stA]
  | m :: R, A, h => by
    have := vld_sum (R := R) h.2
    have h2 := sum_move h.1
    show (stA (doM A m) R).sum = _
    simp only [List.length_cons]
    omega
theorem sum_full : ∀ {A : List Int}, Thr A → A.sum ≤ 2 * (A.length : Int) ∧ (A.sum = 2 * (A.length : Int) → ∀ v ∈ A, v = 2)
  | [], _ => by simp
  | a :: A, h => by
    obtain ⟨h1, h2⟩ := sum_full (A := A) (fun v hv => h v (List.mem_cons_of_mem _ hv))
    have ha := h a List.mem_cons_self
    simp only [List.sum_cons, List.length_cons]
    refine ⟨by omega, fun e v hv => ?_⟩
    rcases List.mem_cons.1 hv with rfl | hv
    · omega
    · exact h2 (by omega) v hv
theorem full_mvs {L : List (Int × Int)} {wk : Int} {A : List Int} (h : ∀ v ∈ A, v = 2) : mvs L wk A = [] := by
  cases hm : mvs L wk A with
  | nil => rfl
  | cons m M =>
    obtain ⟨x, hx, hc⟩ := mem_mvs (L := L) (wk := wk) (A := A) (m := m) (by rw [hm]; exact List.mem_cons_self)
    have := h A[x] (List.getElem_mem hx)
    have e : A.getD x 0 = A[x] := by simp [List.getD, hx]
    rcases hc with ⟨_, h1⟩ | ⟨_, h1⟩ <;> omega
theorem rnG_end (L : List (Int × Int)) (wk : Int) (P : List Int) : ∀ f i A, mvs L wk (stA A (rnG L wk P f i A)) = [] ∨ (rnG L wk P f i A).length = f
  | 0, _, _ => Or.inr rfl
  | f + 1, i, A => by
    simp only [rnG]
    split
    · rename_i h; left; exact h
    · rcases rnG_end L wk P f (i + 1) (doM A ((mvs L wk A).getD (pickK P i (mvs L wk A).length).toNat (0, 0))) with g | g
      · left; exact g
      · right; rw [List.length_cons, g]
/-- behind a whole run there is no move. -/
theorem rnG_last (L : List (Int × Int)) (wk : Int) (P : List Int) (n : Nat) : mvs L wk (stA (List.replicate n 0) (rnG L wk P (2 * n) 0 (List.replicate n 0))) = [] := by
  rcases rnG_end L wk P (2 * n) 0 (List.replicate n 0) with g | g
  · exact g
  · have hs := vld_sum (rnG_vld L wk P (2 * n) 0 (List.replicate n 0))
    rw [g] at hs
    have h0 : (List.replicate n (0 : Int)).sum = 0 := by simp
    have hf := sum_full (stA_thr (rnG L wk P (2 * n) 0 (List.replicate n 0)) (zeros_thr n))
    have hl := stA_len (rnG L wk P (2 * n) 0 (List.replicate n 0)) (List.replicate n 0)
    rw [List.length_replicate] at hl
    exact full_mvs (hf.2 (by rw [hl]; omega))
end Go.Proofs.YtigllpegaljkmaaDoor
namespace Go.Proofs.YtigllpegaljkmaaDoor
open Go.RowKit
set_option linter.unusedVariables false
set_option linter.unusedSimpArgs false

/-! going through all states by rising lengths, in logic: states with the ways to them -/
abbrev Way := List Int × List (Int × Int)
def addQ (Q : List Way) (x : Way) (m : Int × Int) : List Way := if (Q.any fun q => decide (q.1 = doM x.1 m)) = true then Q else Q ++ [(doM x.1 m, x.2 ++ [m])]
def expQ (Q : List Way) (x : Way) (ms : List (Int × Int)) : List Way := ms.foldl (fun Q m => addQ Q x m) Q
def bfs (L : List (Int × Int)) (wk : Int) (a b : Nat) : Nat → List Way → Nat → Option (List (Int × Int))
  | 0, _, _ => none
  | f + 1, Q, i => match Q[i]? with
    | none => none
    | some q => if (run1 q.1 a && run1 q.1 b) = true then some q.2 else bfs L wk a b f (expQ Q q (mvs L wk q.1)) (i + 1)
def meOk (n : Int) (L : List (Int × Int)) (wk a b : Int) : Bool := gOk n L && wkOk wk && decide (n ≤ 6) && decide (¬ a = b) && decide (0 ≤ a ∧ a < n) && decide (0 ≤ b ∧ b < n)
def meB (n : Int) (L : List (Int × Int)) (wk a b : Int) : Option (List (Int × Int)) := if meOk n L wk a b = true then bfs L wk a.toNat b.toNat 1000 [(List.replicate n.toNat 0, [])] 0 else none
/-- states that are unlike, of n tasks, each with a way as long as it is. -/
structure QOk (n : Nat) (Q : List Way) : Prop where
  nd : (Q.map (·.1)).Nodup
  st : ∀ q ∈ Q, Thr q.1 ∧ q.1.length = n ∧ (q.2.length : Int) = q.1.sum
theorem addQ_pre (Q : List Way) (x : Way) (m : Int × Int) : ∃ Z, addQ Q x m = Q ++ Z := by
  unfold addQ
  split
  · exact ⟨[], by simp⟩
  · exact ⟨_, rfl⟩
theorem addQ_ok {n : Nat} {Q : List Way} (h : QOk n Q) {L : List (Int × Int)} {wk : Int} {x : Way} (hx : x ∈ Q) {m : Int × Int} (hm : m ∈ mvs L wk x.1) : QOk n (addQ Q x m) := by
  unfold addQ
  split
  · exact h
  · rename_i hn
    have hs := h.st x hx
    refine ⟨?_, fun q hq => ?_⟩
    · rw [List.map_append, List.nodup_append]
      refine ⟨h.nd, by simp, fun a ha b hb e => ?_⟩
      simp at hb
      subst hb
      obtain ⟨q, hq, hqe⟩ := List.mem_map.1 ha
      exact hn (List.any_eq_true.2 ⟨q, hq, by simp only [decide_eq_true_eq]; rw [hqe, e]⟩)
    · rcases List.mem_append.1 hq with hq | hq
      · exact h.st q hq
      · simp at hq
        subst hq
        refine ⟨doM_thr hs.1 m, by rw [doM_len]; exact hs.2.1, ?_⟩
        have := sum_move hm
        have h3 := hs.2.2
        simp only [List.length_append, List.length_singleton]
        rw [this]
        omega
theorem nodup_len {α : Type} [DecidableEq α] : ∀ (l m : List α), l.Nodup → (∀ x ∈ l, x ∈ m) → l.length ≤ m.length
  | [], m, _, _ => Nat.zero_le _
  | a :: l, m, h, hs => by
    have ha := hs a List.mem_cons_self
    obtain ⟨h1, h2⟩ := List.nodup_cons.1 h
    have := nodup_len l (m.erase a) h2 (fun x hx => (List.mem_erase_of_ne (fun e : x = a => h1 (by rw [← e]; exact hx))).2 (hs x (List.mem_cons_of_mem _ hx)))
    rw [List.length_erase_of_mem ha] at this
    have := List.length_pos_of_mem ha
    simp only [List.length_cons]
    omega
def allS : Nat → List (List Int)
  | 0 => [[]]
  | n + 1 => (allS n).map (0 :: ·) ++ ((allS n).map (1 :: ·) ++ (allS n).map (2 :: ·))
theorem allS_len : ∀ n, (allS n).length = 3 ^ n
  | 0 => rfl
  | n + 1 => by simp [allS, allS_len n, Nat.pow_succ]; omega
theorem mem_allS : ∀ (n : Nat) (A : List Int), Thr A → A.length = n → A ∈ allS n
  | 0, A, _, h => by rw [List.length_eq_zero_iff.1 h]; simp [allS]
  | n + 1, [], _, h => by simp at h
  | n + 1, a :: A, ht, h => by
    have := mem_allS n A (fun v hv => ht v (List.mem_cons_of_mem _ hv)) (by simpa using h)
    have ha := ht a List.mem_cons_self
    simp only [allS, List.mem_append, List.mem_map]
    rcases ha with rfl | rfl | rfl
    · exact Or.inl ⟨A, this, rfl⟩
    · exact Or.inr (Or.inl ⟨A, this, rfl⟩)
    · exact Or.inr (Or.inr ⟨A, this, rfl⟩)
theorem QOk.len {n : Nat} {Q : List Way} (h : QOk n Q) (hn : n ≤ 6) : Q.length ≤ 729 := by
  have := nodup_len (Q.map (·.1)) (allS n) h.nd (fun A hA => by
    obtain ⟨q, hq, rfl⟩ := List.mem_map.1 hA
    exact mem_allS n q.1 (h.st q hq).1 (h.st q hq).2.1)
  rw [List.length_map, allS_len] at this
  have h6 : 3 ^ n ≤ 3 ^ 6 := Nat.pow_le_pow_right (by omega) hn
  omega
theorem QOk.way {n : Nat} {Q : List Way} (h : QOk n Q) (hn : n ≤ 6) {q : Way} (hq : q ∈ Q) : q.2.length ≤ 12 := by
  have h1 := h.st q hq
  have h2 := (sum_full h1.1).1
  omega
theorem QOk.one (n : Nat) : QOk n [(List.replicate n 0, [])] := by
  refine ⟨by simp, fun q hq => ?_⟩
  simp at hq
  subst hq
  exact ⟨zeros_thr n, by simp, by simp⟩
theorem bfs_none {L : List (Int × Int)} {wk : Int} {a b f : Nat} {Q : List Way} {i : Nat} (h : Q.length ≤ i) : bfs L wk a b f Q i = none := by
  cases f with
  | zero => rfl
  | succ f => simp only [bfs]; rw [List.getElem?_eq_none h]
theorem bfs_some {L : List (Int × Int)} {wk : Int} {a b : Nat} {Q : List Way} {i : Nat} {q : Way} (hq : Q[i]? = some q) (hf : i < 1000) : bfs L wk a b (1000 - i) Q i = if (run1 q.1 a && run1 q.1 b) = true then some q.2 else bfs L wk a b (1000 - (i + 1)) (expQ Q q (mvs L wk q.1)) (i + 1) := by
  rw [show 1000 - i = (1000 - (i + 1)) + 1 by omega]
  simp only [bfs]
  rw [hq]
theorem expQ_snoc (Q : List Way) (x : Way) (ms : List (Int × Int)) (m : Int × Int) : expQ Q x (ms ++ [m]) = addQ (expQ Q x ms) x m := by simp [expQ]
theorem expQ_take {Q : List Way} {x : Way} {M : List (Int × Int)} {k : Nat} (hk : k < M.length) {m : Int × Int} (hm : M[k]?.getD (0, 0) = m) : expQ Q x (M.take (k + 1)) = addQ (expQ Q x (M.take k)) x m := by
  rw [takeE_succ M k hk, hm, expQ_snoc]
theorem expQ_pre (x : Way) (ms : List (Int × Int)) : ∀ Q, ∃ Z, expQ Q x ms = Q ++ Z := by
  induction ms with
  | nil => intro Q; exact ⟨[], by simp [expQ]⟩
  | cons m ms ih =>
    intro Q
    obtain ⟨Z, hZ⟩ := addQ_pre Q x m
    obtain ⟨Y, hY⟩ := ih (Q ++ Z)
    refine ⟨Z ++ Y, ?_⟩
    show expQ (addQ Q x m) x ms = _
    rw [hZ, hY, List.append_assoc]
theorem expQ_at {Q : List Way} {x q : Way} {ms : List (Int × Int)} {i : Nat} (h : Q[i]? = some q) : (expQ Q x ms)[i]? = some q := by
  obtain ⟨Z, hZ⟩ := expQ_pre x ms Q
  rw [hZ, List.getElem?_append_left (List.getElem?_eq_some_iff.1 h).1, h]
theorem expQ_ok {n : Nat} {L : List (Int × Int)} {wk : Int} {x : Way} : ∀ (ms : List (Int × Int)) {Q : List Way}, QOk n Q → x ∈ Q → (∀ m ∈ ms, m ∈ mvs L wk x.1) → QOk n (expQ Q x ms)
  | [], Q, h, _, _ => h
  | m :: ms, Q, h, hx, hm => by
    refine expQ_ok ms (addQ_ok h hx (hm m List.mem_cons_self)) ?_ (fun y hy => hm y (List.mem_cons_of_mem _ hy))
    obtain ⟨Z, hZ⟩ := addQ_pre Q x m
    show x ∈ addQ Q x m
    rw [hZ]
    exact List.mem_append_left _ hx
end Go.Proofs.YtigllpegaljkmaaDoor
