import Derived.Test.YtkbgklnkagpchaaN3
namespace Go.Proofs.Ytkbgklnkagpchaa
open Go.RowKit
set_option linter.unusedVariables false
set_option linter.unusedSimpArgs false

/-- who runs behind all of these. -/
def rnL (M : List (Int × Int)) : List Int := M.foldl (fun L p => rb L p.1 p.2) []
theorem foldl_asc (M : List (Int × Int)) : ∀ L, Asc L → Asc (M.foldl (fun L p => rb L p.1 p.2) L) := by
  induction M with
  | nil => intro L h; exact h
  | cons p M ih => intro L h; exact ih _ (rb_asc h _ _)
theorem rnL_asc (M : List (Int × Int)) : Asc (rnL M) := foldl_asc M [] List.Pairwise.nil
theorem foldl_len (M : List (Int × Int)) : ∀ L, (M.foldl (fun L p => rb L p.1 p.2) L).length ≤ L.length + M.length := by
  induction M with
  | nil => intro L; simp
  | cons p M ih =>
    intro L
    have h1 := ih (rb L p.1 p.2)
    have h2 := rb_len L p.1 p.2
    simp only [List.foldl_cons, List.length_cons]
    omega
theorem rnL_len (M : List (Int × Int)) : (rnL M).length ≤ M.length := by have := foldl_len M []; simpa [rnL] using this
theorem rnL_snoc (M : List (Int × Int)) (p : Int × Int) : rnL (M ++ [p]) = rb (rnL M) p.1 p.2 := by simp [rnL]
/-- begun, and not ended behind that. -/
def begP : List (Int × Int) → Int → Prop
  | [], _ => False
  | p :: S, x => begP S x ∨ (p = (2, x) ∧ ¬ (1, x) ∈ S)
theorem mem_foldl (x : Int) (M : List (Int × Int)) : ∀ L, x ∈ M.foldl (fun L p => rb L p.1 p.2) L ↔ begP M x ∨ (x ∈ L ∧ ¬ (1, x) ∈ M) := by
  induction M with
  | nil => intro L; simp [begP]
  | cons p M ih =>
    intro L
    obtain ⟨k, t⟩ := p
    rw [List.foldl_cons, ih, mem_rb]
    simp only [begP, List.mem_cons, Prod.mk.injEq, not_or, not_and]
    by_cases h2 : k = 2
    · subst h2
      simp only [if_true, true_and]
      constructor
      · rintro (h | ⟨rfl | h, g⟩)
        · exact Or.inl (Or.inl h)
        · exact Or.inl (Or.inr ⟨rfl, g⟩)
        · exact Or.inr ⟨h, fun e => by omega, g⟩
      · rintro ((h | ⟨rfl, g⟩) | ⟨h, _, g⟩)
        · exact Or.inl h
        · exact Or.inr ⟨Or.inl rfl, g⟩
        · exact Or.inr ⟨Or.inr h, g⟩
    · by_cases h1 : k = 1
      · subst h1
        simp only [h2, if_false, if_true, false_and, or_false, true_implies]
        constructor
        · rintro (h | ⟨⟨h, e⟩, g⟩)
          · exact Or.inl h
          · exact Or.inr ⟨h, e, g⟩
        · rintro (h | ⟨h, e, g⟩)
          · exact Or.inl h
          · exact Or.inr ⟨⟨h, e⟩, g⟩
      · simp only [h2, h1, if_false, false_and, or_false]
        constructor
        · rintro (h | ⟨h, g⟩)
          · exact Or.inl h
          · exact Or.inr ⟨h, fun e => absurd e.symm h1, g⟩
        · rintro (h | ⟨h, _, g⟩)
          · exact Or.inl h
          · exact Or.inr ⟨h, g⟩
theorem mem_rnL {M : List (Int × Int)} {x : Int} : x ∈ rnL M ↔ begP M x := by
  have := mem_foldl x M []
  simpa [rnL] using this
def runB (M : List (Int × Int)) : List Int := if M.length ≤ 200 then rnL M else []
theorem runB_len (M : List (Int × Int)) : (runB M).length ≤ 200 := by
  unfold runB
  split
  · have := rnL_len M; omega
  · simp
/-- the most that run at one time. -/
def wd (M : List (Int × Int)) : Nat → Nat
  | 0 => 0
  | k + 1 => max (wd M k) (rnL (M.take (k + 1))).length
theorem wd_le (M : List (Int × Int)) : ∀ k, wd M k ≤ M.length
  | 0 => Nat.zero_le _
  | k + 1 => by
    have h1 := wd_le M k
    have h2 := rnL_len (M.take (k + 1))
    have h3 : (M.take (k + 1)).length ≤ M.length := by simp; omega
    unfold wd
    omega
def widB (M : List (Int × Int)) : Nat := if M.length ≤ 200 then wd M M.length else 0
theorem take_rn {M : List (Int × Int)} {k : Nat} (h : k < M.length) {a b : Int} (hx : M[k]?.getD (0, 0) = (a, b)) : rnL (M.take (k + 1)) = rb (rnL (M.take k)) a b := by
  rw [takeE_succ M k h, hx, rnL_snoc]

set_option maxHeartbeats 4000000 in
theorem implRunning_any (s : Option Addr) (c : Nat) (M : List (Int × Int)) (w : World) (hM : Eds w s M) (hl : M.length ≤ 1048576) :
    Calls Try.prog 8 #[.slice s M.length c] w fun e w' => (∃ s' c', e = .returned (.slice s' (runB M).length c') ∧ OI w' w.heap.size (.slice s' (runB M).length c') (runB M)) ∧ Below w.heap.size w w' := by
  have hal := alloc_old
  have haf := alloc_oldf
  have HM : Hid (Eds w s M) := hM
  clear hM
  by_cases h2 : M.length ≤ 200
  · have t2 : decide (200 < (M.length : Int)) = false := by simp; omega
    have eR : Hid (runB M = rnL M) := by unfold runB; rw [if_pos h2]; rfl
    go_enter Try.func8, Try.ntmps8
    go_wp2_with fail
    go_loopw [3, 11] (fun tv iv wr => ∃ k : Nat, k ≤ M.length ∧ iv = .int .i64 k ∧ (∃ s' c', tv = .slice s' (rnL (M.take k)).length c' ∧ Hid (OI wr w.heap.size (.slice s' (rnL (M.take k)).length c') (rnL (M.take k)))) ∧ Hid (Below w.heap.size w wr)) (fun _ iv _ => M.length - (intOf iv).toNat)
    case atStart => exact ⟨0, Nat.zero_le _, rfl, ⟨none, 0, rfl, OI.nil _ _⟩, Below.refl _ _⟩
    case round =>
      obtain ⟨k, hk, rfl, ⟨s', c', rfl, hO⟩, hbel⟩ := hrel
      by_cases hlt : k < M.length
      · obtain ⟨b, o, rfl, hp, e1, e2⟩ := (HM.out.later hbel.out).get hlt
        obtain ⟨⟨p1, p2⟩, hx⟩ : ∃ x, Hid (M[k]?.getD (0, 0) = x) := ⟨_, rfl⟩
        rw [hx.out] at e1 e2
        have hln : (rnL (M.take k)).length ≤ 1000000 := by have := rnL_len (M.take k); have : (M.take k).length ≤ M.length := by { simp; omega }; omega
        have eN : Hid (rb (rnL (M.take k)) p1 p2 = rnL (M.take (k + 1))) := (take_rn hlt hx.out).symm
        have hbel' := hbel.out.size
        go_wp2_with fail
        refine (runningBehind_any s' c' w.heap.size (rnL (M.take k)) _ w ?_ ?_ ?_ (rnL_asc _) hln p1 p2).mono ?_
        · refine hO.out.later ?_
          (repeat (first | with_reducible exact Below.refl _ _ | with_reducible refine bl_alloc ?_ _ | with_reducible refine bl_drewN ?_ _ | with_reducible refine bl_drew ?_ | with_reducible refine bl_setCell ?_ (by first | exact Nat.le_refl _ | (dsimp only; omega) | (simp <;> omega)) _ | with_reducible refine bl_trans ?_ (by with_reducible assumption)))
        · have hb' := hbel.out
          (repeat (first | with_reducible exact Below.refl _ _ | with_reducible refine bl_alloc ?_ _ | with_reducible refine bl_drewN ?_ _ | with_reducible refine bl_drew ?_ | with_reducible refine bl_setCell ?_ (by first | exact Nat.le_refl _ | (dsimp only; omega) | (simp <;> omega)) _ | with_reducible refine bl_trans ?_ (by with_reducible assumption)))
        · simp; omega
        rintro e w2 ⟨⟨s2, c2, rfl, hO2⟩, hb2, hB2⟩
        rw [eN.out] at hO2 ⊢
        go_wp2_with fail
        go_roundw
        case rel => exact ⟨k + 1, by omega, by go_num, ⟨s2, c2, rfl, hO2⟩, hb2⟩
        case measure => simp [intOf]; omega
      · have hk' : k = M.length := by omega
        subst hk'
        have hO' := hO.out
        rw [List.take_length] at hO' ⊢
        go_wp2_with fail
        go_ret
        rw [eR.out]
        exact ⟨⟨s', c', rfl, hO'⟩, hbel.out⟩
  · have t2 : decide (200 < (M.length : Int)) = true := by simp; omega
    have eR : Hid (runB M = []) := by unfold runB; rw [if_neg h2]; rfl
    go_enter Try.func8, Try.ntmps8
    go_wp2_with fail
    go_ret
    rw [eR.out]
    exact ⟨⟨none, 0, rfl, OI.nil _ _⟩, Below.refl _ _⟩

set_option maxHeartbeats 4000000 in
theorem implWidest_any (s : Option Addr) (c : Nat) (M : List (Int × Int)) (w : World) (hM : Eds w s M) (hl : M.length ≤ 1048576) :
    Calls Try.prog 15 #[.slice s M.length c] w fun e w' => e = .returned (.int .i64 (widB M : Nat)) ∧ Below w.heap.size w w' := by
  have hal := alloc_old
  have haf := alloc_oldf
  have HM : Hid (Eds w s M) := hM
  clear hM
  by_cases h2 : M.length ≤ 200
  · have t2 : decide (200 < (M.length : Int)) = false := by simp; omega
    have eR : Hid (widB M = wd M M.length) := by unfold widB; rw [if_pos h2]; rfl
    go_enter Try.func15, Try.ntmps15
    go_wp2_with fail
    go_loopw [3, 4, 12] (fun tv mv iv wr => ∃ k : Nat, k ≤ M.length ∧ iv = .int .i64 k ∧ (∃ m : Nat, mv = .int .i64 m ∧ Hid (m = wd M k) ∧ m ≤ 1048576) ∧ (∃ s' c', tv = .slice s' (rnL (M.take k)).length c' ∧ Hid (OI wr w.heap.size (.slice s' (rnL (M.take k)).length c') (rnL (M.take k)))) ∧ Hid (Below w.heap.size w wr)) (fun _ _ iv _ => M.length - (intOf iv).toNat)
    case atStart => exact ⟨0, Nat.zero_le _, rfl, ⟨0, rfl, rfl, by omega⟩, ⟨none, 0, rfl, OI.nil _ _⟩, Below.refl _ _⟩
    case round =>
      obtain ⟨k, hk, rfl, ⟨m, rfl, hm, hml⟩, ⟨s', c', rfl, hO⟩, hbel⟩ := hrel
      by_cases hlt : k < M.length
      · obtain ⟨b, o, rfl, hp, e1, e2⟩ := (HM.out.later hbel.out).get hlt
        obtain ⟨⟨p1, p2⟩, hx⟩ : ∃ x, Hid (M[k]?.getD (0, 0) = x) := ⟨_, rfl⟩
        rw [hx.out] at e1 e2
        have hln : (rnL (M.take k)).length ≤ 1000000 := by have := rnL_len (M.take k); have : (M.take k).length ≤ M.length := by { simp; omega }; omega
        have hln2 : (rnL (M.take (k + 1))).length ≤ 1000000 := by have := rnL_len (M.take (k + 1)); have : (M.take (k + 1)).length ≤ M.length := by { simp; omega }; omega
        have eN : Hid (rb (rnL (M.take k)) p1 p2 = rnL (M.take (k + 1))) := (take_rn hlt hx.out).symm
        have hbel' := hbel.out.size
        have hm2 : Hid (max m (rnL (M.take (k + 1))).length = wd M (k + 1)) := by show _ = _; rw [hm.out]; rfl
        go_wp2_with fail
        refine (runningBehind_any s' c' w.heap.size (rnL (M.take k)) _ w ?_ ?_ ?_ (rnL_asc _) hln p1 p2).mono ?_
        · refine hO.out.later ?_
          (repeat (first | with_reducible exact Below.refl _ _ | with_reducible refine bl_alloc ?_ _ | with_reducible refine bl_drewN ?_ _ | with_reducible refine bl_drew ?_ | with_reducible refine bl_setCell ?_ (by first | exact Nat.le_refl _ | (dsimp only; omega) | (simp <;> omega)) _ | with_reducible refine bl_trans ?_ (by with_reducible assumption)))
        · have hb' := hbel.out
          (repeat (first | with_reducible exact Below.refl _ _ | with_reducible refine bl_alloc ?_ _ | with_reducible refine bl_drewN ?_ _ | with_reducible refine bl_drew ?_ | with_reducible refine bl_setCell ?_ (by first | exact Nat.le_refl _ | (dsimp only; omega) | (simp <;> omega)) _ | with_reducible refine bl_trans ?_ (by with_reducible assumption)))
        · simp; omega
        rintro e w2 ⟨⟨s2, c2, rfl, hO2⟩, hb2, hB2⟩
        rw [eN.out] at hO2 ⊢
        obtain ⟨R, hR⟩ : ∃ R, Hid (rnL (M.take (k + 1)) = R) := ⟨_, rfl⟩
        rw [hR.out] at hO2 hm2 hln2 ⊢
        go_wp2_with fail
        go_roundw
        case rel =>
          refine ⟨k + 1, by omega, by go_num, ⟨max m R.length, congrArg (Value.int .i64) (by omega), hm2, by omega⟩, ?_, hb2⟩
          rw [hR.out]
          exact ⟨s2, c2, rfl, hO2⟩
        case measure => simp [intOf]; omega
      · have hk' : k = M.length := by omega
        subst hk'
        have hm' := hm.out
        subst hm'
        go_wp2_with fail
        go_ret
        rw [eR.out]
        exact ⟨rfl, hbel.out⟩
  · have t2 : decide (200 < (M.length : Int)) = true := by simp; omega
    have eR : Hid (widB M = 0) := by unfold widB; rw [if_neg h2]; rfl
    go_enter Try.func15, Try.ntmps15
    go_wp2_with fail
    go_ret
    rw [eR.out]
    exact ⟨rfl, Below.refl _ _⟩
end Go.Proofs.Ytkbgklnkagpchaa
