import Derived.Test.YtkkofminndboaaaGreatDoorSb06
import Derived.Scope
namespace Go
/-- as Q; by a goto to a label: J of it. -/
def Exit.jumps (J : Nat → Act → World → Prop) (Q : Exit → Act → World → Prop) : Exit → Act → World → Prop
  | .goto l, a, w => J l a w
  | e, a, w => Q e a w
section
variable {P : Program} {a : Act} {w : World} {Q : Exit → Act → World → Prop}
/-- a scope in which the run jumps to many labels: what holds at each jump, and a measure that every pass lowers. -/
theorem wp_scope_many {c : Code} (J : Nat → Act → World → Prop) (μ : Nat → Act → World → Nat)
    (first : c.wp P (Exit.jumps J Q) a w)
    (pass : ∀ l a w, J l a w → ∃ rest, findLabel c l = some rest ∧ rest.wp P (Exit.jumps (fun l' a' w' => J l' a' w' ∧ μ l' a' w' < μ l a w) Q) a w) : (Code.scope c).wp P Q a w := by
  intro b k cs
  have key : ∀ n l a w, μ l a w = n → J l a w → ∃ k', gotoIn l (.inScope c :: k) = some k' ∧ ∃ e a' w', Q e a' w' ∧ Arrives P (lone (b.at a k') cs w) b k cs e a' w' := by
    intro n
    induction n using Nat.strongRecOn with
    | _ n ih =>
      intro l a w hn hJ
      obtain ⟨rest, hf, hpass⟩ := pass l a w hJ
      have hg : gotoIn l (.inScope c :: k) = some (.code rest :: .inScope c :: k) := by simp [gotoIn, hf]
      refine ⟨_, hg, ?_⟩
      obtain ⟨e, a₁, w₁, hq, harr⟩ := hpass b (.inScope c :: k) cs
      cases e with
      | normal => exact ⟨.normal, a₁, w₁, hq, Steps.trans harr (.one step_inScope)⟩
      | exit id => exact ⟨.exit id, a₁, w₁, hq, fun k' hk => harr k' (by simp [exitTo, hk])⟩
      | goto l' =>
        obtain ⟨hJ', hlt⟩ := hq
        obtain ⟨k'', hg'', e₂, a₂, w₂, hq₂, harr₂⟩ := ih _ (by omega) l' a₁ w₁ rfl hJ'
        exact ⟨e₂, a₂, w₂, hq₂, .of_steps (harr _ hg'') harr₂⟩
      | ret => exact ⟨_, a₁, w₁, hq, harr⟩
      | panic ch => exact ⟨_, a₁, w₁, hq, harr⟩
      | outgrown => exact ⟨_, a₁, w₁, hq, harr⟩
  obtain ⟨e, a₁, w₁, hq, harr⟩ := first b (.inScope c :: k) cs
  cases e with
  | normal => exact ⟨.normal, a₁, w₁, hq, .head step_scope (Steps.trans harr (.one step_inScope))⟩
  | exit id => exact ⟨.exit id, a₁, w₁, hq, fun k' hk => .head step_scope (harr k' (by simp [exitTo, hk]))⟩
  | goto l' =>
    obtain ⟨k'', hg'', e₂, a₂, w₂, hq₂, harr₂⟩ := key _ l' a₁ w₁ rfl hq
    exact ⟨e₂, a₂, w₂, hq₂, .of_steps (.head step_scope (harr _ hg'')) harr₂⟩
  | ret => exact ⟨_, a₁, w₁, hq, .of_steps (.one step_scope) harr⟩
  | panic ch => exact ⟨_, a₁, w₁, hq, .of_steps (.one step_scope) harr⟩
  | outgrown => exact ⟨_, a₁, w₁, hq, .of_steps (.one step_scope) harr⟩
end
end Go
namespace Go.Proofs.YtkkofminndboaaaGreatDoor
set_option linter.unusedVariables false
set_option linter.unusedSimpArgs false
section
open Go.RowKit
def isBl (c : Nat) : Bool := decide (c = 9) || decide (c = 10) || decide (c = 32)
def inLn (c : Nat) : Bool := !decide (c = 10)
def isMk (c : Nat) : Bool := decide (c ∈ [123, 125, 40, 41, 59, 44, 46, 36, 61, 43, 45, 42, 47, 37, 60])
def runE (p : Nat → Bool) (s : ByteArray) (k : Nat) : Nat := k + ((s.data.toList.drop k).takeWhile (fun c => p c.toNat)).length
theorem runE_no {p : Nat → Bool} {s : ByteArray} {k : Nat} (h : k < s.size → p (byA s k) = false) : runE p s k = k := by
 unfold runE
 by_cases hk : k < s.size
 ·
  have h1 := toList_at hk
  have h2 : s.data.toList.drop k = (s[k]'hk) :: s.data.toList.drop (k + 1) := by
   rw [List.getElem?_eq_some_iff] at h1
   obtain ⟨a, b⟩ := h1
   rw [List.drop_eq_getElem_cons a, b]
  have h3 := h hk
  rw [← byA_eq hk] at h3
  rw [h2, List.takeWhile_cons, if_neg (by rw [h3]; exact Bool.false_ne_true)]
  rfl
 have : s.data.toList.drop k = [] := List.drop_eq_nil_of_le (by rw [list_len]; omega)
 rw [this]; rfl
theorem runE_yes {p : Nat → Bool} {s : ByteArray} {k : Nat} (hk : k < s.size) (h : p (byA s k) = true) : runE p s k = runE p s (k + 1) := by
 unfold runE
 have h1 := toList_at hk
 have h2 : s.data.toList.drop k = (s[k]'hk) :: s.data.toList.drop (k + 1) := by
  rw [List.getElem?_eq_some_iff] at h1
  obtain ⟨a, b⟩ := h1
  rw [List.drop_eq_getElem_cons a, b]
 rw [← byA_eq hk] at h
 rw [h2, List.takeWhile_cons, if_pos h, List.length_cons]
 omega
theorem runE_ge (p : Nat → Bool) (s : ByteArray) (k : Nat) : k ≤ runE p s k := by unfold runE; omega
theorem runE_gt {p : Nat → Bool} {s : ByteArray} {k : Nat} (hk : k < s.size) (h : p (byA s k) = true) : k < runE p s k := by
 rw [runE_yes hk h]; exact runE_ge p s (k + 1)
theorem runE_eq {p : Nat → Bool} {s : ByteArray} {b : Nat} (h2 : b ≤ s.size) (h4 : b < s.size → p (byA s b) = false) : ∀ (n k : Nat), b = k + n → (∀ j, k ≤ j → j < b → p (byA s j) = true) → runE p s k = b
 | 0, k, e, _ => by subst e; exact runE_no h4
 | n + 1, k, e, h3 => by
  rw [runE_yes (by omega) (h3 k (by omega) (by omega))]
  exact runE_eq h2 h4 n (k + 1) (by omega) (fun j h5 h6 => h3 j (by omega) h6)
theorem runE_le {p : Nat → Bool} {s : ByteArray} {k : Nat} (hk : k ≤ s.size) : runE p s k ≤ s.size := by
 unfold runE
 have h1 : ((s.data.toList.drop k).takeWhile (fun c => p c.toNat)).length ≤ (s.data.toList.drop k).length := List.Sublist.length_le (List.takeWhile_sublist _)
 rw [List.length_drop, list_len] at h1
 omega
theorem runE_all (p : Nat → Bool) (s : ByteArray) : ∀ (k j : Nat), k ≤ j → j < runE p s k → p (byA s j) = true := by
 suffices H : ∀ (n k j : Nat), runE p s k ≤ k + n → k ≤ j → j < runE p s k → p (byA s j) = true from fun k j h1 h2 => H (runE p s k - k) k j (by omega) h1 h2
 intro n
 induction n with
 | zero => intro k j h0 h1 h2; omega
 | succ n ih =>
  intro k j h0 h1 h2
  have hk : k < s.size := by
   by_cases h : k < s.size
   ·
    exact h
   rw [runE_no (fun hh => absurd hh h)] at h2; omega
  cases hp : p (byA s k) with
  | false => rw [runE_no (fun _ => hp)] at h2; omega
  | true =>
   by_cases e : j = k
   ·
    subst e; exact hp
   rw [runE_yes hk hp] at h0 h2
   exact ih (k + 1) j (by omega) (by omega) h2
theorem runE_end {p : Nat → Bool} {s : ByteArray} {k : Nat} : runE p s k < s.size → p (byA s (runE p s k)) = false := by
 suffices H : ∀ (n k : Nat), runE p s k ≤ k + n → runE p s k < s.size → p (byA s (runE p s k)) = false from H (runE p s k - k) k (by omega)
 intro n
 induction n with
 | zero =>
  intro k h0 h1
  have e : runE p s k = k := by have := runE_ge p s k; omega
  rw [e] at h1 ⊢
  cases hp : p (byA s k) with
  | false => rfl
  | true => have := runE_gt h1 hp; omega
 | succ n ih =>
  intro k h0 h1
  have hk : k < s.size := by have := runE_ge p s k; omega
  cases hp : p (byA s k) with
  | false => rw [runE_no (fun _ => hp)]; exact hp
  | true =>
   rw [runE_yes hk hp] at h0 h1 ⊢
   exact ih (k + 1) (by omega) h1
def realV (t : ByteArray) : Option Nat :=
 if decide (1 ≤ runE dgB t 0) && decide (runE dgB t 0 ≤ 9) && decide (t.size ≤ runE dgB t 0 + 7) && decide (runE dgB t 0 + 2 ≤ t.size) && decide (byA t (runE dgB t 0) = 46) && decide (runE dgB t (runE dgB t 0 + 1) = t.size) && (decide (runE dgB t 0 = 1) || !decide (byA t 0 = 48)) then
  (Lib.decFrom 0 (t.data.toList.take (runE dgB t 0) ++ t.data.toList.drop (runE dgB t 0 + 1))).bind fun n => floatBits .quo .f64 (floatOfInt .f64 (n : Int)) (tenF (t.size - runE dgB t 0 - 1))
 else none
theorem real_runs {t : ByteArray} {a k : Nat} (h : RealAt t a k) : runE dgB t 0 = a ∧ runE dgB t (a + 1) = t.size := by
 have hz := h.size
 have e1 : dgB (byA t a) = false := pt_dg h.pt
 have f1 : ∀ j, 0 ≤ j → j < a → dgB (byA t j) = true := fun j _ hj => h.fst j hj
 have f2 : ∀ j, a + 1 ≤ j → j < t.size → dgB (byA t j) = true := fun j h1 h2 => h.snd j (by omega) h2
 exact ⟨runE_eq (p := dgB) (s := t) (b := a) (by omega) (fun _ => e1) a 0 (by omega) f1, runE_eq (p := dgB) (s := t) (b := t.size) (Nat.le_refl _) (fun hh => absurd hh (by omega)) k (a + 1) (by omega) f2⟩
theorem realV_some {t : ByteArray} {r : Nat} (h : RealSays t (.returned (.tuple #[.float .f64 r, .bool true]))) : realV t = some r := by
 rcases h with ⟨_, h2⟩ | ⟨a, k, n, q, h1, h2, h3, h4, h5⟩
 ·
  simp at h2
 simp at h5
 subst h5
 obtain ⟨e1, e2⟩ := real_runs h1
 have hz := h1.size
 have g1 := h1.a1
 have g2 := h1.a9
 have g3 := h1.k1
 have g4 := h1.k6
 unfold realV
 rw [e1, e2]
 have hc : (decide (1 ≤ a) && decide (a ≤ 9) && decide (t.size ≤ a + 7) && decide (a + 2 ≤ t.size) && decide (byA t a = 46) && decide (t.size = t.size) && (decide (a = 1) || !decide (byA t 0 = 48))) = true := by
  have h6 : (decide (a = 1) || !decide (byA t 0 = 48)) = true := by
   rcases h1.nz with e | e
   ·
    simp [e]
   simp [e]
  rw [h6]
  simp [h1.pt]
  omega
 rw [if_pos hc, h2]
 show floatBits .quo .f64 (floatOfInt .f64 (n : Int)) (tenF (t.size - a - 1)) = some r
 rw [show t.size - a - 1 = k by omega, h3]
theorem realV_none {t : ByteArray} {r : Nat} (h : RealSays t (.returned (.tuple #[.float .f64 r, .bool false]))) : realV t = none := by
 rcases h with ⟨h1, h2⟩ | ⟨a, k, n, q, h1, h2, h3, h4, h5⟩
 ·
  unfold realV
  split
  ·
   rename_i hc
   exfalso
   simp only [Bool.and_eq_true, Bool.or_eq_true, decide_eq_true_eq, Bool.not_eq_true', decide_eq_false_iff_not] at hc
   obtain ⟨⟨⟨⟨⟨⟨c1, c2⟩, c3⟩, c4⟩, c5⟩, c6⟩, c7⟩ := hc
   refine h1 ⟨runE dgB t 0, t.size - runE dgB t 0 - 1, by omega, c1, c2, by omega, by omega, c5, fun j hj => ?_, fun j h3 h4 => ?_, c7⟩
   ·
    exact runE_all dgB t 0 j (Nat.zero_le _) hj
   exact runE_all dgB t (runE dgB t 0 + 1) j (by omega) (by rw [c6]; exact h4)
  rfl
 simp at h5
def ptB (s : ByteArray) (b : Nat) : Bool := decide (b + 1 < s.size) && decide (byA s b = 46) && dgB (byA s (b + 1))
def endF (s : ByteArray) (k e : Nat) (pt : Bool) : Int × Option Tk × Nat :=
 if decide (e < s.size) && letB (byA s e) then (3, none, 0)
 else if pt then (match realV (s.extract k e) with
  | some r => (0, some (4, (k : Int), s.extract k e, 0, r), e)
  | none => (3, none, 0))
 else if wholeB (s.extract k e) 15 then (0, some (3, (k : Int), s.extract k e, (((Lib.decFrom 0 (s.extract k e).data.toList).getD 0 : Nat) : Int), 0), e) else (3, none, 0)
def numF (s : ByteArray) (k : Nat) : Int × Option Tk × Nat := if ptB s (runE dgB s k) then endF s k (runE dgB s (runE dgB s k + 1)) true else endF s k (runE dgB s k) false
def stepF (s : ByteArray) (k : Nat) : Int × Option Tk × Nat :=
 if isBl (byA s k) then (0, none, k + 1)
 else if decide (byA s k = 35) then (0, none, runE inLn s k)
 else if letB (byA s k) then (if isW (s.extract k (runE letB s k)) then (0, some (2, (k : Int), s.extract k (runE letB s k), 0, 0), runE letB s k) else if decide (12 < runE letB s k - k) then (4, none, 0) else (0, some (1, (k : Int), s.extract k (runE letB s k), 0, 0), runE letB s k))
 else if dgB (byA s k) then numF s k
 else if decide (byA s k = 61) && decide (k + 1 < s.size) && decide (byA s (k + 1) = 61) then (0, some (5, (k : Int), s.extract k (k + 2), 0, 0), k + 2)
 else if isMk (byA s k) then (0, some (5, (k : Int), s.extract k (k + 1), 0, 0), k + 1)
 else (2, none, 0)
def lexF (s : ByteArray) : Nat → Nat → List Tk → Int × Int × List Tk
 | 0, _, _ => (0, 0, [])
 | n + 1, k, L => if k < s.size then (if (stepF s k).1 = 0 then lexF s n (stepF s k).2.2 (L ++ (stepF s k).2.1.toList) else ((stepF s k).1, (k : Int), [])) else (0, 0, L)
theorem endF_gt {s : ByteArray} {k e : Nat} {pt : Bool} (h : k < e) (h0 : (endF s k e pt).1 = 0) : k < (endF s k e pt).2.2 := by
 revert h0
 unfold endF
 repeat' split
 all_goals simp
 all_goals exact h
theorem stepF_gt {s : ByteArray} {k : Nat} (hk : k < s.size) (h0 : (stepF s k).1 = 0) : k < (stepF s k).2.2 := by
 revert h0
 unfold stepF
 split
 ·
  intro _; show k < k + 1; omega
 split
 ·
  rename_i h1 h2
  intro _
  exact runE_gt hk (by simp only [decide_eq_true_eq] at h2; rw [h2]; rfl)
 split
 ·
  rename_i h1 h2 h3
  have := runE_gt hk h3
  split
  ·
   intro _; exact this
  split
  ·
   intro h; simp at h
  intro _; exact this
 split
 ·
  rename_i h1 h2 h3 h4
  have := runE_gt hk h4
  unfold numF
  split
  ·
   intro h
   have h5 := runE_ge dgB s (runE dgB s k + 1)
   exact endF_gt (by omega) h
  intro h
  exact endF_gt this h
 split
 ·
  intro _; show k < k + 2; omega
 split
 ·
  intro _; show k < k + 1; omega
 intro h; simp at h
theorem lexF_fuel (s : ByteArray) : ∀ (n m k : Nat) (L : List Tk), s.size + 1 - k ≤ n → s.size + 1 - k ≤ m → 1 ≤ n → 1 ≤ m → lexF s n k L = lexF s m k L := by
 intro n
 induction n with
 | zero => intro m k L _ _ h; omega
 | succ n ih =>
  intro m k L h1 h2 _ h4
  obtain ⟨m, rfl⟩ : ∃ q, m = q + 1 := ⟨m - 1, by omega⟩
  unfold lexF
  split
  ·
   rename_i hk
   split
   ·
    rename_i h0
    have := stepF_gt hk h0
    exact ih m _ _ (by omega) (by omega) (by omega) (by omega)
   rfl
  rfl
def full (s : ByteArray) (k : Nat) (L : List Tk) : Int × Int × List Tk := lexF s (s.size + 1 - k + 1) k L
theorem full_end {s : ByteArray} {k : Nat} {L : List Tk} (h : ¬ k < s.size) : full s k L = (0, 0, L) := by
 unfold full lexF; rw [if_neg h]
theorem full_bad {s : ByteArray} {k : Nat} {L : List Tk} {c : Int} {o : Option Tk} {j : Nat} (h : k < s.size) (hs : stepF s k = (c, o, j)) (hc : ¬ c = 0) : full s k L = (c, (k : Int), []) := by
 unfold full lexF; rw [if_pos h, hs, if_neg hc]
theorem full_step {s : ByteArray} {k : Nat} {L : List Tk} {o : Option Tk} {j : Nat} (h : k < s.size) (hs : stepF s k = (0, o, j)) : full s k L = full s j (L ++ o.toList) := by
 have hj : k < j := by have := stepF_gt h (by rw [hs]); rw [hs] at this; exact this
 unfold full
 rw [lexF, if_pos h, hs, if_pos rfl]
 dsimp only
 exact lexF_fuel s _ _ _ _ (by omega) (by omega) (by omega) (by omega)
theorem full_skip {s : ByteArray} {k : Nat} {L : List Tk} {j : Nat} (h : k < s.size) (hs : stepF s k = (0, none, j)) : full s k L = full s j L := by
 rw [full_step h hs]; simp
theorem full_tok {s : ByteArray} {k : Nat} {L : List Tk} {t : Tk} {j : Nat} (h : k < s.size) (hs : stepF s k = (0, some t, j)) : full s k L = full s j (L ++ [t]) := by
 rw [full_step h hs]; rfl
theorem full_blanks {s : ByteArray} {L : List Tk} : ∀ (n k : Nat), runE isBl s k = k + n → full s k L = full s (k + n) L
 | 0, k, _ => rfl
 | n + 1, k, h => by
  have hk : k < s.size := by
   by_cases hh : k < s.size
   ·
    exact hh
   rw [runE_no (fun q => absurd q hh)] at h; omega
  have hb : isBl (byA s k) = true := runE_all isBl s k k (Nat.le_refl _) (by omega)
  rw [full_skip (j := k + 1) hk (by unfold stepF; rw [if_pos hb])]
  rw [runE_yes hk hb] at h
  rw [full_blanks n (k + 1) (by omega), show k + 1 + n = k + (n + 1) by omega]
end
section
open Go.RowKit
theorem get_by {s : ByteArray} {j : Nat} (h : j < s.size) : (s.get! j).toNat = byA s j := by
 have := get_at s j h
 rw [Nat.add_zero] at this
 rw [this]; exact byA_eq h
theorem decode_span {s : ByteArray} {k : Nat} (hk : k < s.size) : k + (Utf8.decode s k).2 ≤ s.size ∧ ∀ j, k < j → j < k + (Utf8.decode s k).2 → 128 ≤ byA s j := by
 have hc : ∀ i, (decide (k + i < s.size) && (s.get! (k + i)).toNat / 64 == 2) = true → k + i < s.size ∧ 128 ≤ byA s (k + i) := by
  intro i h
  simp only [Bool.and_eq_true, decide_eq_true_eq, beq_iff_eq] at h
  have := get_by h.1
  exact ⟨h.1, by omega⟩
 have one : k + 1 ≤ s.size ∧ ∀ j, k < j → j < k + 1 → 128 ≤ byA s j := ⟨by omega, fun j h1 h2 => absurd h1 (by omega)⟩
 simp only [Utf8.decode]
 split
 ·
  exact one
 split
 ·
  rename_i h
  simp only [Bool.and_eq_true] at h
  obtain ⟨p1, p2⟩ := hc 1 (by simpa using h.2)
  split
  ·
   refine ⟨(by show k + 2 ≤ s.size; omega), fun j h1 h2 => ?_⟩
   have h2' : j < k + 2 := h2
   obtain rfl : j = k + 1 := by omega
   exact p2
  exact one
 split
 ·
  rename_i h
  simp only [Bool.and_eq_true] at h
  obtain ⟨p1, p2⟩ := hc 1 (by simpa using h.1.2)
  obtain ⟨q1, q2⟩ := hc 2 (by simpa using h.2)
  split
  ·
   refine ⟨(by show k + 3 ≤ s.size; omega), fun j h1 h2 => ?_⟩
   have h2' : j < k + 3 := h2
   obtain rfl | rfl : j = k + 1 ∨ j = k + 2 := by omega
   ·
    exact p2
   exact q2
  exact one
 split
 ·
  rename_i h
  simp only [Bool.and_eq_true] at h
  obtain ⟨p1, p2⟩ := hc 1 (by simpa using h.1.1.2)
  obtain ⟨q1, q2⟩ := hc 2 (by simpa using h.1.2)
  obtain ⟨r1, r2⟩ := hc 3 (by simpa using h.2)
  split
  ·
   refine ⟨(by show k + 4 ≤ s.size; omega), fun j h1 h2 => ?_⟩
   have h2' : j < k + 4 := h2
   obtain rfl | rfl | rfl : j = k + 1 ∨ j = k + 2 ∨ j = k + 3 := by omega
   ·
    exact p2
   ·
    exact q2
   exact r2
  exact one
 exact one
theorem decode_pos (s : ByteArray) {k : Nat} (hk : k < s.size) : 1 ≤ (Utf8.decode s k).2 := by
 by_cases ha : (s[k]'hk).toNat < 128
 ·
  rw [decode_ascii s k hk ha]; exact Nat.le_refl _
 exact (decode_high s k hk (by omega)).2
set_option maxHeartbeats 1000000 in
theorem isInLine_any (c : Nat) (w : World) :
  Calls Tryz.prog 24 #[.int .i32 (c : Int)] w fun e w' => e = .returned (.bool (inLn c)) ∧ w' = w := by
 cases h1 : ((c : Int) != 10)
 all_goals
  have E : Hid (_ = inLn c) := (by unfold Hid inLn; simp at h1; (first | rw [show decide (c = 10) = true by simp; omega] | rw [show decide (c = 10) = false by simp; omega]))
  go_enter Tryz.func24, Tryz.ntmps24
  go_wp2
  go_ret; exact ⟨ret_bool E.out, rfl⟩
set_option maxHeartbeats 1000000 in
theorem isBlank_any (c : Nat) (w : World) :
  Calls Tryz.prog 19 #[.int .i32 (c : Int)] w fun e w' => e = .returned (.bool (isBl c)) ∧ w' = w := by
 cases h1 : ((c : Int) == 9) <;> cases h2 : ((c : Int) == 10) <;> cases h3 : ((c : Int) == 32)
 all_goals
  have E : Hid ((((c : Int) == 9) || ((c : Int) == 10) || ((c : Int) == 32)) = isBl c) := (by
   show _ = _
   have e1 : ((c : Int) == 9) = decide (c = 9) := by rw [Bool.eq_iff_iff]; simp; omega
   have e2 : ((c : Int) == 10) = decide (c = 10) := by rw [Bool.eq_iff_iff]; simp; omega
   have e3 : ((c : Int) == 32) = decide (c = 32) := by rw [Bool.eq_iff_iff]; simp; omega
   rw [e1, e2, e3]; rfl)
  rw [h1, h2, h3] at E
  go_enter Tryz.func19, Tryz.ntmps19
  go_wp2
  go_ret; exact ⟨ret_bool E.out, rfl⟩
set_option maxHeartbeats 2000000 in
theorem runOf_line (s : ByteArray) (w : World) :
  Calls Tryz.prog 33 #[.string s, .func (.func 24) #[] #[]] w fun e w' => (∃ b : Nat, e = .returned (.int .i64 (b : Int)) ∧ RunP inLn s b) ∧ Below w.heap.size w w' := by
 go_enter Tryz.func33, Tryz.ntmps33
 go_wp2_with fail; go_loopw [] (fun wr => ∃ k : Nat, k ≤ s.size ∧ wr = w.iter s k ∧ Hid (∀ j, j < k → inLn (byA s j) = true)) (fun wr => s.size - wr.iterPos w.heap.size)
 case atStart => exact ⟨0, Nat.zero_le _, rfl, fun j hj => absurd hj (by omega)⟩
 obtain ⟨k, hk, rfl, hall⟩ := hrel
 by_cases hlt : k < s.size
 ·
  have hnx := fun ty => run_next_any (P := Tryz.prog) w s k ty hlt
  have hsp := decode_span hlt
  have hps := decode_pos s hlt
  have hin : inLn (Utf8.decode s k).1 = inLn (byA s k) := by
   by_cases ha : (s[k]'hlt).toNat < 128
   ·
    rw [decode_ascii s k hlt ha, byA_eq hlt]
   have hh := (decode_high s k hlt (by omega)).1
   rw [← byA_eq hlt]
   unfold inLn
   rw [show decide ((Utf8.decode s k).1 = 10) = false by simp; omega, show decide ((s[k]'hlt).toNat = 10) = false by simp; omega]
  obtain ⟨c, hc⟩ : ∃ c, (Utf8.decode s k).1 = c := ⟨_, rfl⟩
  obtain ⟨d, hd⟩ : ∃ d, (Utf8.decode s k).2 = d := ⟨_, rfl⟩
  rw [hc] at hin
  rw [hd] at hsp hps
  simp only [hc, hd] at hnx
  have HSP : Hid (∀ j, k < j → j < k + d → 128 ≤ byA s j) := hsp.2
  have hkd := hsp.1
  clear hc hd hsp; cases hb : inLn (byA s k)
  ·
   rw [hb] at hin
   go_wp2_with fail; refine (isInLine_any c _).mono ?_
   rintro e w' ⟨rfl, rfl⟩
   rw [hin]
   go_wp2_with fail; go_ret; exact ⟨⟨k, rfl, hk, hall.out, fun _ => hb⟩, bl_alloc (Below.refl _ _) _⟩
  have hs' : Hid (∀ j, j < k + d → inLn (byA s j) = true) := by
   intro j hj
   by_cases h : j < k
   ·
    exact hall.out j h
   by_cases h2 : j = k
   ·
    subst h2; exact hb
   have := HSP.out j (by omega) hj
   unfold inLn
   rw [show decide (byA s j = 10) = false by simp; omega]; rfl
  rw [hb] at hin
  go_wp2_with fail; refine (isInLine_any c _).mono ?_
  rintro e w' ⟨rfl, rfl⟩
  rw [hin]
  go_wp2_with fail; go_roundw
  case rel => exact ⟨k + d, by omega, rfl, hs'⟩
  case measure => simp; omega
 have hnx := fun ty => run_next_end (P := Tryz.prog) w s k ty hlt
 go_wp2_with fail; go_ret; exact ⟨⟨s.size, rfl, Nat.le_refl _, fun j hj => hall.out j (by omega), fun h => absurd h (by omega)⟩, bl_alloc (Below.refl _ _) _⟩
theorem run_rest {p : Nat → Bool} {s : ByteArray} {k b : Nat} (hk : k ≤ s.size) (h : RunP p (s.extract k s.size) b) : runE p s k = k + b := by
 obtain ⟨h1, h2, h3⟩ := h
 have sz : (s.extract k s.size).size = s.size - k := size_extract' (Nat.le_refl _)
 rw [sz] at h1 h3
 refine runE_eq (by omega) (fun hh => ?_) b k rfl (fun j h4 h5 => ?_)
 ·
  have := h3 (by omega)
  rw [byA_extract (by omega) (Nat.le_refl _)] at this
  exact this
 have := h2 (j - k) (by omega)
 rw [byA_extract (by omega) (Nat.le_refl _), show k + (j - k) = j by omega] at this
 exact this
theorem slice_from (s : ByteArray) {i : Nat} (hi : i ≤ s.size) (W : World) : (Instr.slice 9 (.string s) (some (.int .i64 (i : Int))) none none).run Tryz.prog W = .ok (.string (s.extract i s.size)) W := by
 rw [run_slice_string_from_if W 9 s .i64 _ Tryz.underlying9, if_pos ⟨by omega, by omega⟩]
 simp
set_option maxHeartbeats 2000000 in
theorem behind_any (p : Nat → Bool) (f : FuncId) (hf : ∀ (t : ByteArray) (w : World), Calls Tryz.prog 33 #[.string t, .func (.func f) #[] #[]] w fun e w' => (∃ b : Nat, e = .returned (.int .i64 (b : Int)) ∧ RunP p t b) ∧ Below w.heap.size w w') (sb : Nat) (s : ByteArray) (v1 v2 v3 : Value) (k : Nat) (hk : k ≤ s.size) (hs : s.size ≤ 4000) (w : World) (hK : Blk w sb #[.string s, v1, v2, v3] 48) :
  Calls Tryz.prog 18 #[.pointer (some ⟨sb, 0, none⟩), .int .i64 (k : Int), .func (.func f) #[] #[]] w fun e w' => e = .returned (.int .i64 (runE p s k : Nat)) ∧ Below w.heap.size w w' := by
 obtain ⟨x0, x1, x2, x3, x4⟩ := hK.four'
 have hsl := slice_from s hk
 obtain ⟨T, hT⟩ : ∃ T, Hid (s.extract k s.size = T) := ⟨_, (rfl : s.extract k s.size = s.extract k s.size)⟩
 rw [hT.out] at hsl
 go_enter Tryz.func18, Tryz.ntmps18
 go_wp2_with fail; try rw [hT.out]
 refine (hf T _).mono ?_
 rintro e w1 ⟨⟨b, rfl, hr⟩, hb1⟩
 have E : Hid (runE p s k = k + b) := run_rest hk (by rw [hT.out]; exact hr)
 have hbs : k + b ≤ s.size := by rw [← E.out]; exact runE_le hk
 have t1 : IntKind.i64.wrap ((k : Int) + (b : Int)) = (k : Int) + (b : Int) := by rw [IntKind.wrap_i64]; omega
 clear hr; go_wp2_with fail; go_ret; refine ⟨?_, hb1⟩
 rw [E.out, show ((k + b : Nat) : Int) = (k : Int) + (b : Int) by omega]
 rfl
end
end Go.Proofs.YtkkofminndboaaaGreatDoor
