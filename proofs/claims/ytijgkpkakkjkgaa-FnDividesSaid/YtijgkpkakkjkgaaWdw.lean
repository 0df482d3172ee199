import Derived.Test.YtijgkpkakkjkgaaWdv
import Derived.RegionTactic
import Derived.BigRegion
namespace Go.Proofs.Ytijgkpkakkjkgaa
open Go.RowKit

theorem bcell2 {W w1 : World} (hb : Below W.heap.size W w1) : (∀ b o, (W.cell? ⟨b, o, none⟩).isSome = true → w1.cell? ⟨b, o, none⟩ = W.cell? ⟨b, o, none⟩) ∧ (∀ b o, (W.cell? ⟨b, o, none⟩).isSome = true → w1.frozen? ⟨b, o, none⟩ = W.frozen? ⟨b, o, none⟩) := by
  refine ⟨fun b o h => ?_, fun b o h => ?_⟩
  · obtain ⟨v, hv⟩ := Option.isSome_iff_exists.1 h
    exact hb.cell (p := ⟨b, o, none⟩) (World.block_lt_of_cell? _ _ hv)
  · obtain ⟨v, hv⟩ := Option.isSome_iff_exists.1 h
    exact hb.frozen (p := ⟨b, o, none⟩) (World.block_lt_of_cell? _ _ hv)
theorem alloc_old (W : World) (ob : Obj) (b o : Nat) (h : (W.cell? ⟨b, o, none⟩).isSome = true) : (W.alloc ob).cell? ⟨b, o, none⟩ = W.cell? ⟨b, o, none⟩ :=
  (bcell2 (bl_alloc (Below.refl _ W) ob)).1 b o h
theorem alloc_oldf (W : World) (ob : Obj) (b o : Nat) (h : (W.cell? ⟨b, o, none⟩).isSome = true) : (W.alloc ob).frozen? ⟨b, o, none⟩ = W.frozen? ⟨b, o, none⟩ :=
  (bcell2 (bl_alloc (Below.refl _ W) ob)).2 b o h

theorem is_zero_eq {x : Nat} (h : Is (some 0) x) : x = 0 := by
  rcases h.2 with h | ⟨h, _⟩
  · cases h; rfl
  · cases h

theorem opOut_int (op i j : Int) : opOut op 1 i 0 0 1 j 0 0 = intOut op i j := by
  simp [opOut, okB, plusB]

/-- whole numbers by the program's op: exact. -/
theorem implInt_any (op A B n : Int) (w : World) (h : intOut op A B = (iV n, 0)) :
    Calls Try.prog 22 #[.int .i64 op, .agg #[.int .i64 1, .int .i64 A, .float .f64 0, .float .f64 0], .agg #[.int .i64 1, .int .i64 B, .float .f64 0, .float .f64 0]] w
      fun e w' => e = .returned (.tuple #[.agg #[.int .i64 1, .int .i64 n, .float .f64 0, .float .f64 0], .int .i64 0]) ∧ Below w.heap.size w w' := by
  refine (implOp_any op 1 A 0 0 1 B 0 0 w).mono ?_
  rintro e w' ⟨k, i, x, y, rfl, hv, hb⟩
  rw [opOut_int, h] at hv ⊢
  obtain ⟨h1, h2, h3, h4⟩ := hv
  have e1 : k = 1 := h1
  have e2 : i = n := h2
  subst e1 e2
  rw [is_zero_eq h3, is_zero_eq h4]
  exact ⟨rfl, hb⟩

theorem implIntZ_any (op A B : Int) (w : World) (h : intOut op A B = (zV, 2)) :
    Calls Try.prog 22 #[.int .i64 op, .agg #[.int .i64 1, .int .i64 A, .float .f64 0, .float .f64 0], .agg #[.int .i64 1, .int .i64 B, .float .f64 0, .float .f64 0]] w
      fun e w' => e = .returned (.tuple #[.agg #[.int .i64 0, .int .i64 0, .float .f64 0, .float .f64 0], .int .i64 2]) ∧ Below w.heap.size w w' := by
  refine (implOp_any op 1 A 0 0 1 B 0 0 w).mono ?_
  rintro e w' ⟨k, i, x, y, rfl, hv, hb⟩
  rw [opOut_int, h] at hv ⊢
  obtain ⟨h1, h2, h3, h4⟩ := hv
  have e1 : k = 0 := h1
  have e2 : i = 0 := h2
  subst e1 e2
  rw [is_zero_eq h3, is_zero_eq h4]
  exact ⟨rfl, hb⟩

theorem Bx.later {m : Nat} {W w1 : World} {k i : Int} {x y : Nat} (h : Bx m W k i x y) (hb : Below W.heap.size W w1) : Bx m w1 k i x y := ⟨cell_later hb h.1, cell_later hb h.2.1, cell_later hb h.2.2.1, cell_later hb h.2.2.2⟩

theorem wrap64_mul (q b : Int) : wrap64 (wrap64 q * b) = wrap64 (q * b) := by
  obtain ⟨c, hc⟩ : ∃ c, wrap64 q = q - 18446744073709551616 * c := ⟨(q + 9223372036854775808) / 18446744073709551616, by unfold wrap64; omega⟩
  rw [hc, Int.sub_mul, Int.mul_assoc]
  generalize c * b = m
  generalize q * b = n
  unfold wrap64; omega

theorem wrap64_add (n m : Int) : wrap64 (wrap64 n + m) = wrap64 (n + m) := by unfold wrap64; omega

theorem div_facts {A B : Int} (hA : -9223372036854775808 ≤ A ∧ A ≤ 9223372036854775807) (hB : ¬ B = 0) :
    wrap64 (wrap64 (wrap64 (A.tdiv B) * B) + A.tmod B) = A ∧ (0 < A.tmod B → 0 < A) ∧ (A.tmod B < 0 → A < 0) ∧ (A.tmod B).natAbs < B.natAbs := by
  refine ⟨?_, ?_, ?_, ?_⟩
  · rw [wrap64_mul, wrap64_add]
    have e : A.tdiv B * B + A.tmod B = A := by
      have := Int.mul_tdiv_add_tmod A B
      rw [Int.mul_comm] at this; omega
    rw [e]
    exact IntWalk.wrap64_in _ hA
  · intro h
    by_cases s : 0 < A
    · exact s
    · have e : A.tmod B = -((-A).tmod B) := by rw [Int.neg_tmod, Int.neg_neg]
      have := Int.tmod_nonneg B (show 0 ≤ -A by omega)
      omega
  · intro h
    by_cases s : A < 0
    · exact s
    · have := Int.tmod_nonneg B (show 0 ≤ A by omega)
      omega
  · rw [Int.natAbs_tmod]; exact Nat.mod_lt _ (by omega)

theorem Code.below {w w' : World} {sl : Option Addr} {len : Nat} (h : Code w sl len) (hb : Below w.heap.size w w') : Code w' sl len := by
  rcases h with h0 | ⟨pb, po, h0, h1, h2⟩
  · exact Or.inl h0
  · refine Or.inr ⟨pb, po, h0, Nat.lt_of_lt_of_le h1 hb.size, fun j hj => ?_⟩
    obtain ⟨c, a1, a2, a3⟩ := h2 j hj
    exact ⟨c, a1, a2, cell_later hb a3⟩

theorem ok1 {i : Int} {x y : Nat} (h : okB 1 i x y = true) : x = 0 ∧ y = 0 := by
  simp [okB, plusB] at h; exact h

set_option maxHeartbeats 2000000 in
theorem divides_any (sl : Option Addr) (len cap : Nat) (w : World) (hC : Code w sl len) :
    Calls Try.prog 7 #[.slice sl len cap] w fun e w' => e = .returned (.bool true) ∧ Below w.heap.size w w' := by
  have hal := alloc_old
  have haf := alloc_oldf
  by_cases hl : len ≤ 1048576
  · have hb : decide (1048576 < (len : Int)) = false := by simp; omega
    go_enter Try.func7, Try.ntmps7
    go_wp2_with fail
    refine (big_any sl len cap _).mono ?_
    rintro e w' ⟨rfl, rfl⟩
    rw [hb]
    go_wp2_with fail
    refine (drawOp_any sl len cap _ hl hC).mono ?_
    rintro e w1 ⟨op, k, i, x, y, l, j, u, v, rfl, hi, hj, lx, ly, lu, lv, hb1⟩
    cases ha : okB k i x y
    · go_wp2_with (go_at_call 29; refine (specOk_any _ _ _ _ _ (by assumption) (by assumption)).mono ?_; rintro e w' ⟨rfl, rfl⟩)
      refine (at_any sl len cap 0 _ (by omega) hl (hC.below (by (repeat (first | with_reducible exact Below.refl _ _ | with_reducible refine bl_alloc ?_ _ | with_reducible refine bl_drewN ?_ _ | with_reducible refine bl_drew ?_ | with_reducible refine bl_setCell ?_ (by first | exact Nat.le_refl _ | (dsimp only; omega) | (simp <;> omega)) _ | with_reducible refine bl_trans ?_ (by with_reducible assumption)))))).mono ?_
      rintro e w' ⟨r, rfl, r1, r2, rfl⟩
      go_wp2_with fail
      refine (at_any sl len cap 1 _ (by omega) hl (hC.below (by (repeat (first | with_reducible exact Below.refl _ _ | with_reducible refine bl_alloc ?_ _ | with_reducible refine bl_drewN ?_ _ | with_reducible refine bl_drew ?_ | with_reducible refine bl_setCell ?_ (by first | exact Nat.le_refl _ | (dsimp only; omega) | (simp <;> omega)) _ | with_reducible refine bl_trans ?_ (by with_reducible assumption)))))).mono ?_
      rintro e w' ⟨s, rfl, s1, s2, rfl⟩
      go_wp2_with fail
      have hA := Bx.new w1 1 (r - 128) 0 0 43
      have hB' : Bx (w1.heap.size + 1) ((w1.alloc (.cells #[.int .i64 1, .int .i64 (r - 128), .float .f64 0, .float .f64 0] 43)).alloc (.cells #[.int .i64 1, .int .i64 (s % 9 - 4), .float .f64 0, .float .f64 0] 43)) 1 (s % 9 - 4) 0 0 := by
        have := Bx.new (w1.alloc (.cells #[.int .i64 1, .int .i64 (r - 128), .float .f64 0, .float .f64 0] 43)) 1 (s % 9 - 4) 0 0 43
        simp only [World.size_alloc] at this
        exact this
      by_cases hB : (s % 9 - 4) = 0
      · have gz : ((s % 9 - 4) == 0) = true := beq_iff_eq.2 hB
        have hz4 : Hid (intOut 4 (r - 128) (s % 9 - 4) = (zV, 2)) := by simp [Hid, intOut, hB]
        have hz5 : Hid (intOut 5 (r - 128) (s % 9 - 4) = (zV, 2)) := by simp [Hid, intOut, hB]
        clear hB
        refine (implIntZ_any 4 _ _ _ hz4.out).mono ?_
        rintro e w2 ⟨rfl, hb2⟩
        obtain ⟨a0, a1, a2, a3⟩ := hA.later (show Below _ _ w2 by (repeat (first | with_reducible exact Below.refl _ _ | with_reducible refine bl_alloc ?_ _ | with_reducible refine bl_drewN ?_ _ | with_reducible refine bl_drew ?_ | with_reducible refine bl_setCell ?_ (by first | exact Nat.le_refl _ | (dsimp only; omega) | (simp <;> omega)) _ | with_reducible refine bl_trans ?_ (by with_reducible assumption))))
        obtain ⟨b0, b1, b2, b3⟩ := hB'.later (show Below _ _ w2 by (repeat (first | with_reducible exact Below.refl _ _ | with_reducible refine bl_alloc ?_ _ | with_reducible refine bl_drewN ?_ _ | with_reducible refine bl_drew ?_ | with_reducible refine bl_setCell ?_ (by first | exact Nat.le_refl _ | (dsimp only; omega) | (simp <;> omega)) _ | with_reducible refine bl_trans ?_ (by with_reducible assumption))))
        go_wp2_with fail
        refine (implIntZ_any 5 _ _ _ hz5.out).mono ?_
        rintro e w3 ⟨rfl, hb3⟩
        obtain ⟨c0, c1, c2, c3⟩ := hA.later (show Below _ _ w3 by (repeat (first | with_reducible exact Below.refl _ _ | with_reducible refine bl_alloc ?_ _ | with_reducible refine bl_drewN ?_ _ | with_reducible refine bl_drew ?_ | with_reducible refine bl_setCell ?_ (by first | exact Nat.le_refl _ | (dsimp only; omega) | (simp <;> omega)) _ | with_reducible refine bl_trans ?_ (by with_reducible assumption))))
        obtain ⟨d0, d1, d2, d3⟩ := hB'.later (show Below _ _ w3 by (repeat (first | with_reducible exact Below.refl _ _ | with_reducible refine bl_alloc ?_ _ | with_reducible refine bl_drewN ?_ _ | with_reducible refine bl_drew ?_ | with_reducible refine bl_setCell ?_ (by first | exact Nat.le_refl _ | (dsimp only; omega) | (simp <;> omega)) _ | with_reducible refine bl_trans ?_ (by with_reducible assumption))))
        go_wp2_with fail
        go_ret
        refine ⟨rfl, ?_⟩
        (repeat (first | with_reducible exact Below.refl _ _ | with_reducible refine bl_alloc ?_ _ | with_reducible refine bl_drewN ?_ _ | with_reducible refine bl_drew ?_ | with_reducible refine bl_setCell ?_ (by first | exact Nat.le_refl _ | (dsimp only; omega) | (simp <;> omega)) _ | with_reducible refine bl_trans ?_ (by with_reducible assumption)))
      · obtain ⟨q, m, hq, hm, F1, F2, F3, F4⟩ : ∃ q m : Int, Hid (intOut 4 (r - 128) (s % 9 - 4) = (iV q, 0)) ∧ Hid (intOut 5 (r - 128) (s % 9 - 4) = (iV m, 0)) ∧ Hid (wrap64 (wrap64 (q * (s % 9 - 4)) + m) = (r - 128)) ∧ (0 < m → 0 < (r - 128)) ∧ (m < 0 → (r - 128) < 0) ∧ m.natAbs < ((s % 9 - 4)).natAbs := by
          obtain ⟨f1, f2, f3, f4⟩ := div_facts (A := (r - 128)) (by omega) hB
          exact ⟨wrap64 (((r - 128)).tdiv ((s % 9 - 4))), ((r - 128)).tmod ((s % 9 - 4)), by simp [Hid, intOut, hB], by simp [Hid, intOut, hB], f1, f2, f3, f4⟩
        have g0 : ((s % 9 - 4) == 0) = false := beq_eq_false_iff_ne.2 hB
        have G1 : (wrap64 (wrap64 (q * (s % 9 - 4)) + m) != (r - 128)) = false := by rw [F1.out]; simp
        refine (implInt_any 4 _ _ q _ hq.out).mono ?_
        rintro e w2 ⟨rfl, hb2⟩
        obtain ⟨a0, a1, a2, a3⟩ := hA.later (show Below _ _ w2 by (repeat (first | with_reducible exact Below.refl _ _ | with_reducible refine bl_alloc ?_ _ | with_reducible refine bl_drewN ?_ _ | with_reducible refine bl_drew ?_ | with_reducible refine bl_setCell ?_ (by first | exact Nat.le_refl _ | (dsimp only; omega) | (simp <;> omega)) _ | with_reducible refine bl_trans ?_ (by with_reducible assumption))))
        obtain ⟨b0, b1, b2, b3⟩ := hB'.later (show Below _ _ w2 by (repeat (first | with_reducible exact Below.refl _ _ | with_reducible refine bl_alloc ?_ _ | with_reducible refine bl_drewN ?_ _ | with_reducible refine bl_drew ?_ | with_reducible refine bl_setCell ?_ (by first | exact Nat.le_refl _ | (dsimp only; omega) | (simp <;> omega)) _ | with_reducible refine bl_trans ?_ (by with_reducible assumption))))
        have hQ := Bx.new w2 1 q 0 0 43
        go_wp2_with fail
        refine (implInt_any 5 _ _ m _ hm.out).mono ?_
        rintro e w3 ⟨rfl, hb3⟩
        obtain ⟨c0, c1, c2, c3⟩ := hA.later (show Below _ _ w3 by (repeat (first | with_reducible exact Below.refl _ _ | with_reducible refine bl_alloc ?_ _ | with_reducible refine bl_drewN ?_ _ | with_reducible refine bl_drew ?_ | with_reducible refine bl_setCell ?_ (by first | exact Nat.le_refl _ | (dsimp only; omega) | (simp <;> omega)) _ | with_reducible refine bl_trans ?_ (by with_reducible assumption))))
        obtain ⟨d0, d1, d2, d3⟩ := hB'.later (show Below _ _ w3 by (repeat (first | with_reducible exact Below.refl _ _ | with_reducible refine bl_alloc ?_ _ | with_reducible refine bl_drewN ?_ _ | with_reducible refine bl_drew ?_ | with_reducible refine bl_setCell ?_ (by first | exact Nat.le_refl _ | (dsimp only; omega) | (simp <;> omega)) _ | with_reducible refine bl_trans ?_ (by with_reducible assumption))))
        obtain ⟨e0, e1, e2, e3⟩ := hQ.later (show Below _ _ w3 by (repeat (first | with_reducible exact Below.refl _ _ | with_reducible refine bl_alloc ?_ _ | with_reducible refine bl_drewN ?_ _ | with_reducible refine bl_drew ?_ | with_reducible refine bl_setCell ?_ (by first | exact Nat.le_refl _ | (dsimp only; omega) | (simp <;> omega)) _ | with_reducible refine bl_trans ?_ (by with_reducible assumption))))
        by_cases hm0 : m = 0
        · subst hm0
          have G1' : (wrap64 (wrap64 (q * (s % 9 - 4))) != (r - 128)) = false := by
            have := F1.out
            rw [Int.add_zero] at this
            rw [this]; simp
          go_wp2_with fail
          go_ret
          refine ⟨rfl, ?_⟩
          (repeat (first | with_reducible exact Below.refl _ _ | with_reducible refine bl_alloc ?_ _ | with_reducible refine bl_drewN ?_ _ | with_reducible refine bl_drew ?_ | with_reducible refine bl_setCell ?_ (by first | exact Nat.le_refl _ | (dsimp only; omega) | (simp <;> omega)) _ | with_reducible refine bl_trans ?_ (by with_reducible assumption)))
        · have g1 : (m == 0) = false := beq_eq_false_iff_ne.2 hm0
          by_cases mp : 0 < m <;> by_cases jp : 0 < (s % 9 - 4)
          all_goals
            have ip : decide (m < 0) = decide ((r - 128) < 0) := by simp; omega
            go_wp2_with fail
            go_region
            go_wp2_with fail
            go_ret
            refine ⟨ret_bool (by simp; omega), ?_⟩
            (repeat (first | with_reducible exact Below.refl _ _ | with_reducible refine bl_alloc ?_ _ | with_reducible refine bl_drewN ?_ _ | with_reducible refine bl_drew ?_ | with_reducible refine bl_setCell ?_ (by first | exact Nat.le_refl _ | (dsimp only; omega) | (simp <;> omega)) _ | with_reducible refine bl_trans ?_ (by with_reducible assumption)))
    cases hbb : okB l j u v
    · go_wp2_with (go_at_call 29; refine (specOk_any _ _ _ _ _ (by assumption) (by assumption)).mono ?_; rintro e w' ⟨rfl, rfl⟩)
      refine (at_any sl len cap 0 _ (by omega) hl (hC.below (by (repeat (first | with_reducible exact Below.refl _ _ | with_reducible refine bl_alloc ?_ _ | with_reducible refine bl_drewN ?_ _ | with_reducible refine bl_drew ?_ | with_reducible refine bl_setCell ?_ (by first | exact Nat.le_refl _ | (dsimp only; omega) | (simp <;> omega)) _ | with_reducible refine bl_trans ?_ (by with_reducible assumption)))))).mono ?_
      rintro e w' ⟨r, rfl, r1, r2, rfl⟩
      go_wp2_with fail
      refine (at_any sl len cap 1 _ (by omega) hl (hC.below (by (repeat (first | with_reducible exact Below.refl _ _ | with_reducible refine bl_alloc ?_ _ | with_reducible refine bl_drewN ?_ _ | with_reducible refine bl_drew ?_ | with_reducible refine bl_setCell ?_ (by first | exact Nat.le_refl _ | (dsimp only; omega) | (simp <;> omega)) _ | with_reducible refine bl_trans ?_ (by with_reducible assumption)))))).mono ?_
      rintro e w' ⟨s, rfl, s1, s2, rfl⟩
      go_wp2_with fail
      have hA := Bx.new w1 1 (r - 128) 0 0 43
      have hB' : Bx (w1.heap.size + 1) ((w1.alloc (.cells #[.int .i64 1, .int .i64 (r - 128), .float .f64 0, .float .f64 0] 43)).alloc (.cells #[.int .i64 1, .int .i64 (s % 9 - 4), .float .f64 0, .float .f64 0] 43)) 1 (s % 9 - 4) 0 0 := by
        have := Bx.new (w1.alloc (.cells #[.int .i64 1, .int .i64 (r - 128), .float .f64 0, .float .f64 0] 43)) 1 (s % 9 - 4) 0 0 43
        simp only [World.size_alloc] at this
        exact this
      by_cases hB : (s % 9 - 4) = 0
      · have gz : ((s % 9 - 4) == 0) = true := beq_iff_eq.2 hB
        have hz4 : Hid (intOut 4 (r - 128) (s % 9 - 4) = (zV, 2)) := by simp [Hid, intOut, hB]
        have hz5 : Hid (intOut 5 (r - 128) (s % 9 - 4) = (zV, 2)) := by simp [Hid, intOut, hB]
        clear hB
        refine (implIntZ_any 4 _ _ _ hz4.out).mono ?_
        rintro e w2 ⟨rfl, hb2⟩
        obtain ⟨a0, a1, a2, a3⟩ := hA.later (show Below _ _ w2 by (repeat (first | with_reducible exact Below.refl _ _ | with_reducible refine bl_alloc ?_ _ | with_reducible refine bl_drewN ?_ _ | with_reducible refine bl_drew ?_ | with_reducible refine bl_setCell ?_ (by first | exact Nat.le_refl _ | (dsimp only; omega) | (simp <;> omega)) _ | with_reducible refine bl_trans ?_ (by with_reducible assumption))))
        obtain ⟨b0, b1, b2, b3⟩ := hB'.later (show Below _ _ w2 by (repeat (first | with_reducible exact Below.refl _ _ | with_reducible refine bl_alloc ?_ _ | with_reducible refine bl_drewN ?_ _ | with_reducible refine bl_drew ?_ | with_reducible refine bl_setCell ?_ (by first | exact Nat.le_refl _ | (dsimp only; omega) | (simp <;> omega)) _ | with_reducible refine bl_trans ?_ (by with_reducible assumption))))
        go_wp2_with fail
        refine (implIntZ_any 5 _ _ _ hz5.out).mono ?_
        rintro e w3 ⟨rfl, hb3⟩
        obtain ⟨c0, c1, c2, c3⟩ := hA.later (show Below _ _ w3 by (repeat (first | with_reducible exact Below.refl _ _ | with_reducible refine bl_alloc ?_ _ | with_reducible refine bl_drewN ?_ _ | with_reducible refine bl_drew ?_ | with_reducible refine bl_setCell ?_ (by first | exact Nat.le_refl _ | (dsimp only; omega) | (simp <;> omega)) _ | with_reducible refine bl_trans ?_ (by with_reducible assumption))))
        obtain ⟨d0, d1, d2, d3⟩ := hB'.later (show Below _ _ w3 by (repeat (first | with_reducible exact Below.refl _ _ | with_reducible refine bl_alloc ?_ _ | with_reducible refine bl_drewN ?_ _ | with_reducible refine bl_drew ?_ | with_reducible refine bl_setCell ?_ (by first | exact Nat.le_refl _ | (dsimp only; omega) | (simp <;> omega)) _ | with_reducible refine bl_trans ?_ (by with_reducible assumption))))
        go_wp2_with fail
        go_ret
        refine ⟨rfl, ?_⟩
        (repeat (first | with_reducible exact Below.refl _ _ | with_reducible refine bl_alloc ?_ _ | with_reducible refine bl_drewN ?_ _ | with_reducible refine bl_drew ?_ | with_reducible refine bl_setCell ?_ (by first | exact Nat.le_refl _ | (dsimp only; omega) | (simp <;> omega)) _ | with_reducible refine bl_trans ?_ (by with_reducible assumption)))
      · obtain ⟨q, m, hq, hm, F1, F2, F3, F4⟩ : ∃ q m : Int, Hid (intOut 4 (r - 128) (s % 9 - 4) = (iV q, 0)) ∧ Hid (intOut 5 (r - 128) (s % 9 - 4) = (iV m, 0)) ∧ Hid (wrap64 (wrap64 (q * (s % 9 - 4)) + m) = (r - 128)) ∧ (0 < m → 0 < (r - 128)) ∧ (m < 0 → (r - 128) < 0) ∧ m.natAbs < ((s % 9 - 4)).natAbs := by
          obtain ⟨f1, f2, f3, f4⟩ := div_facts (A := (r - 128)) (by omega) hB
          exact ⟨wrap64 (((r - 128)).tdiv ((s % 9 - 4))), ((r - 128)).tmod ((s % 9 - 4)), by simp [Hid, intOut, hB], by simp [Hid, intOut, hB], f1, f2, f3, f4⟩
        have g0 : ((s % 9 - 4) == 0) = false := beq_eq_false_iff_ne.2 hB
        have G1 : (wrap64 (wrap64 (q * (s % 9 - 4)) + m) != (r - 128)) = false := by rw [F1.out]; simp
        refine (implInt_any 4 _ _ q _ hq.out).mono ?_
        rintro e w2 ⟨rfl, hb2⟩
        obtain ⟨a0, a1, a2, a3⟩ := hA.later (show Below _ _ w2 by (repeat (first | with_reducible exact Below.refl _ _ | with_reducible refine bl_alloc ?_ _ | with_reducible refine bl_drewN ?_ _ | with_reducible refine bl_drew ?_ | with_reducible refine bl_setCell ?_ (by first | exact Nat.le_refl _ | (dsimp only; omega) | (simp <;> omega)) _ | with_reducible refine bl_trans ?_ (by with_reducible assumption))))
        obtain ⟨b0, b1, b2, b3⟩ := hB'.later (show Below _ _ w2 by (repeat (first | with_reducible exact Below.refl _ _ | with_reducible refine bl_alloc ?_ _ | with_reducible refine bl_drewN ?_ _ | with_reducible refine bl_drew ?_ | with_reducible refine bl_setCell ?_ (by first | exact Nat.le_refl _ | (dsimp only; omega) | (simp <;> omega)) _ | with_reducible refine bl_trans ?_ (by with_reducible assumption))))
        have hQ := Bx.new w2 1 q 0 0 43
        go_wp2_with fail
        refine (implInt_any 5 _ _ m _ hm.out).mono ?_
        rintro e w3 ⟨rfl, hb3⟩
        obtain ⟨c0, c1, c2, c3⟩ := hA.later (show Below _ _ w3 by (repeat (first | with_reducible exact Below.refl _ _ | with_reducible refine bl_alloc ?_ _ | with_reducible refine bl_drewN ?_ _ | with_reducible refine bl_drew ?_ | with_reducible refine bl_setCell ?_ (by first | exact Nat.le_refl _ | (dsimp only; omega) | (simp <;> omega)) _ | with_reducible refine bl_trans ?_ (by with_reducible assumption))))
        obtain ⟨d0, d1, d2, d3⟩ := hB'.later (show Below _ _ w3 by (repeat (first | with_reducible exact Below.refl _ _ | with_reducible refine bl_alloc ?_ _ | with_reducible refine bl_drewN ?_ _ | with_reducible refine bl_drew ?_ | with_reducible refine bl_setCell ?_ (by first | exact Nat.le_refl _ | (dsimp only; omega) | (simp <;> omega)) _ | with_reducible refine bl_trans ?_ (by with_reducible assumption))))
        obtain ⟨e0, e1, e2, e3⟩ := hQ.later (show Below _ _ w3 by (repeat (first | with_reducible exact Below.refl _ _ | with_reducible refine bl_alloc ?_ _ | with_reducible refine bl_drewN ?_ _ | with_reducible refine bl_drew ?_ | with_reducible refine bl_setCell ?_ (by first | exact Nat.le_refl _ | (dsimp only; omega) | (simp <;> omega)) _ | with_reducible refine bl_trans ?_ (by with_reducible assumption))))
        by_cases hm0 : m = 0
        · subst hm0
          have G1' : (wrap64 (wrap64 (q * (s % 9 - 4))) != (r - 128)) = false := by
            have := F1.out
            rw [Int.add_zero] at this
            rw [this]; simp
          go_wp2_with fail
          go_ret
          refine ⟨rfl, ?_⟩
          (repeat (first | with_reducible exact Below.refl _ _ | with_reducible refine bl_alloc ?_ _ | with_reducible refine bl_drewN ?_ _ | with_reducible refine bl_drew ?_ | with_reducible refine bl_setCell ?_ (by first | exact Nat.le_refl _ | (dsimp only; omega) | (simp <;> omega)) _ | with_reducible refine bl_trans ?_ (by with_reducible assumption)))
        · have g1 : (m == 0) = false := beq_eq_false_iff_ne.2 hm0
          by_cases mp : 0 < m <;> by_cases jp : 0 < (s % 9 - 4)
          all_goals
            have ip : decide (m < 0) = decide ((r - 128) < 0) := by simp; omega
            go_wp2_with fail
            go_region
            go_wp2_with fail
            go_ret
            refine ⟨ret_bool (by simp; omega), ?_⟩
            (repeat (first | with_reducible exact Below.refl _ _ | with_reducible refine bl_alloc ?_ _ | with_reducible refine bl_drewN ?_ _ | with_reducible refine bl_drew ?_ | with_reducible refine bl_setCell ?_ (by first | exact Nat.le_refl _ | (dsimp only; omega) | (simp <;> omega)) _ | with_reducible refine bl_trans ?_ (by with_reducible assumption)))
    by_cases hk : k = 1
    · by_cases hll : l = 1
      · subst hk hll
        obtain ⟨rfl, rfl⟩ := ok1 ha
        obtain ⟨rfl, rfl⟩ := ok1 hbb
        go_wp2_with (go_at_call 29; refine (specOk_any _ _ _ _ _ (by assumption) (by assumption)).mono ?_; rintro e w' ⟨rfl, rfl⟩)
        have hA := Bx.new w1 1 i 0 0 43
        have hB' : Bx (w1.heap.size + 1) ((w1.alloc (.cells #[.int .i64 1, .int .i64 i, .float .f64 0, .float .f64 0] 43)).alloc (.cells #[.int .i64 1, .int .i64 j, .float .f64 0, .float .f64 0] 43)) 1 j 0 0 := by
          have := Bx.new (w1.alloc (.cells #[.int .i64 1, .int .i64 i, .float .f64 0, .float .f64 0] 43)) 1 j 0 0 43
          simp only [World.size_alloc] at this
          exact this
        by_cases hB : j = 0
        · have gz : (j == 0) = true := beq_iff_eq.2 hB
          have hz4 : Hid (intOut 4 i j = (zV, 2)) := by simp [Hid, intOut, hB]
          have hz5 : Hid (intOut 5 i j = (zV, 2)) := by simp [Hid, intOut, hB]
          clear hB
          refine (implIntZ_any 4 _ _ _ hz4.out).mono ?_
          rintro e w2 ⟨rfl, hb2⟩
          obtain ⟨a0, a1, a2, a3⟩ := hA.later (show Below _ _ w2 by (repeat (first | with_reducible exact Below.refl _ _ | with_reducible refine bl_alloc ?_ _ | with_reducible refine bl_drewN ?_ _ | with_reducible refine bl_drew ?_ | with_reducible refine bl_setCell ?_ (by first | exact Nat.le_refl _ | (dsimp only; omega) | (simp <;> omega)) _ | with_reducible refine bl_trans ?_ (by with_reducible assumption))))
          obtain ⟨b0, b1, b2, b3⟩ := hB'.later (show Below _ _ w2 by (repeat (first | with_reducible exact Below.refl _ _ | with_reducible refine bl_alloc ?_ _ | with_reducible refine bl_drewN ?_ _ | with_reducible refine bl_drew ?_ | with_reducible refine bl_setCell ?_ (by first | exact Nat.le_refl _ | (dsimp only; omega) | (simp <;> omega)) _ | with_reducible refine bl_trans ?_ (by with_reducible assumption))))
          go_wp2_with fail
          refine (implIntZ_any 5 _ _ _ hz5.out).mono ?_
          rintro e w3 ⟨rfl, hb3⟩
          obtain ⟨c0, c1, c2, c3⟩ := hA.later (show Below _ _ w3 by (repeat (first | with_reducible exact Below.refl _ _ | with_reducible refine bl_alloc ?_ _ | with_reducible refine bl_drewN ?_ _ | with_reducible refine bl_drew ?_ | with_reducible refine bl_setCell ?_ (by first | exact Nat.le_refl _ | (dsimp only; omega) | (simp <;> omega)) _ | with_reducible refine bl_trans ?_ (by with_reducible assumption))))
          obtain ⟨d0, d1, d2, d3⟩ := hB'.later (show Below _ _ w3 by (repeat (first | with_reducible exact Below.refl _ _ | with_reducible refine bl_alloc ?_ _ | with_reducible refine bl_drewN ?_ _ | with_reducible refine bl_drew ?_ | with_reducible refine bl_setCell ?_ (by first | exact Nat.le_refl _ | (dsimp only; omega) | (simp <;> omega)) _ | with_reducible refine bl_trans ?_ (by with_reducible assumption))))
          go_wp2_with fail
          go_ret
          refine ⟨rfl, ?_⟩
          (repeat (first | with_reducible exact Below.refl _ _ | with_reducible refine bl_alloc ?_ _ | with_reducible refine bl_drewN ?_ _ | with_reducible refine bl_drew ?_ | with_reducible refine bl_setCell ?_ (by first | exact Nat.le_refl _ | (dsimp only; omega) | (simp <;> omega)) _ | with_reducible refine bl_trans ?_ (by with_reducible assumption)))
        · obtain ⟨q, m, hq, hm, F1, F2, F3, F4⟩ : ∃ q m : Int, Hid (intOut 4 i j = (iV q, 0)) ∧ Hid (intOut 5 i j = (iV m, 0)) ∧ Hid (wrap64 (wrap64 (q * j) + m) = i) ∧ (0 < m → 0 < i) ∧ (m < 0 → i < 0) ∧ m.natAbs < (j).natAbs := by
            obtain ⟨f1, f2, f3, f4⟩ := div_facts (A := i) (by omega) hB
            exact ⟨wrap64 ((i).tdiv (j)), (i).tmod (j), by simp [Hid, intOut, hB], by simp [Hid, intOut, hB], f1, f2, f3, f4⟩
          have g0 : (j == 0) = false := beq_eq_false_iff_ne.2 hB
          have G1 : (wrap64 (wrap64 (q * j) + m) != i) = false := by rw [F1.out]; simp
          refine (implInt_any 4 _ _ q _ hq.out).mono ?_
          rintro e w2 ⟨rfl, hb2⟩
          obtain ⟨a0, a1, a2, a3⟩ := hA.later (show Below _ _ w2 by (repeat (first | with_reducible exact Below.refl _ _ | with_reducible refine bl_alloc ?_ _ | with_reducible refine bl_drewN ?_ _ | with_reducible refine bl_drew ?_ | with_reducible refine bl_setCell ?_ (by first | exact Nat.le_refl _ | (dsimp only; omega) | (simp <;> omega)) _ | with_reducible refine bl_trans ?_ (by with_reducible assumption))))
          obtain ⟨b0, b1, b2, b3⟩ := hB'.later (show Below _ _ w2 by (repeat (first | with_reducible exact Below.refl _ _ | with_reducible refine bl_alloc ?_ _ | with_reducible refine bl_drewN ?_ _ | with_reducible refine bl_drew ?_ | with_reducible refine bl_setCell ?_ (by first | exact Nat.le_refl _ | (dsimp only; omega) | (simp <;> omega)) _ | with_reducible refine bl_trans ?_ (by with_reducible assumption))))
          have hQ := Bx.new w2 1 q 0 0 43
          go_wp2_with fail
          refine (implInt_any 5 _ _ m _ hm.out).mono ?_
          rintro e w3 ⟨rfl, hb3⟩
          obtain ⟨c0, c1, c2, c3⟩ := hA.later (show Below _ _ w3 by (repeat (first | with_reducible exact Below.refl _ _ | with_reducible refine bl_alloc ?_ _ | with_reducible refine bl_drewN ?_ _ | with_reducible refine bl_drew ?_ | with_reducible refine bl_setCell ?_ (by first | exact Nat.le_refl _ | (dsimp only; omega) | (simp <;> omega)) _ | with_reducible refine bl_trans ?_ (by with_reducible assumption))))
          obtain ⟨d0, d1, d2, d3⟩ := hB'.later (show Below _ _ w3 by (repeat (first | with_reducible exact Below.refl _ _ | with_reducible refine bl_alloc ?_ _ | with_reducible refine bl_drewN ?_ _ | with_reducible refine bl_drew ?_ | with_reducible refine bl_setCell ?_ (by first | exact Nat.le_refl _ | (dsimp only; omega) | (simp <;> omega)) _ | with_reducible refine bl_trans ?_ (by with_reducible assumption))))
          obtain ⟨e0, e1, e2, e3⟩ := hQ.later (show Below _ _ w3 by (repeat (first | with_reducible exact Below.refl _ _ | with_reducible refine bl_alloc ?_ _ | with_reducible refine bl_drewN ?_ _ | with_reducible refine bl_drew ?_ | with_reducible refine bl_setCell ?_ (by first | exact Nat.le_refl _ | (dsimp only; omega) | (simp <;> omega)) _ | with_reducible refine bl_trans ?_ (by with_reducible assumption))))
          by_cases hm0 : m = 0
          · subst hm0
            have G1' : (wrap64 (wrap64 (q * j)) != i) = false := by
              have := F1.out
              rw [Int.add_zero] at this
              rw [this]; simp
            go_wp2_with fail
            go_ret
            refine ⟨rfl, ?_⟩
            (repeat (first | with_reducible exact Below.refl _ _ | with_reducible refine bl_alloc ?_ _ | with_reducible refine bl_drewN ?_ _ | with_reducible refine bl_drew ?_ | with_reducible refine bl_setCell ?_ (by first | exact Nat.le_refl _ | (dsimp only; omega) | (simp <;> omega)) _ | with_reducible refine bl_trans ?_ (by with_reducible assumption)))
          · have g1 : (m == 0) = false := beq_eq_false_iff_ne.2 hm0
            by_cases mp : 0 < m <;> by_cases jp : 0 < j
            all_goals
              have ip : decide (m < 0) = decide (i < 0) := by simp; omega
              go_wp2_with fail
              go_region
              go_wp2_with fail
              go_ret
              refine ⟨ret_bool (by simp; omega), ?_⟩
              (repeat (first | with_reducible exact Below.refl _ _ | with_reducible refine bl_alloc ?_ _ | with_reducible refine bl_drewN ?_ _ | with_reducible refine bl_drew ?_ | with_reducible refine bl_setCell ?_ (by first | exact Nat.le_refl _ | (dsimp only; omega) | (simp <;> omega)) _ | with_reducible refine bl_trans ?_ (by with_reducible assumption)))
      · have gl : (l != 1) = true := by simp [hll]
        subst hk
        go_wp2_with (go_at_call 29; refine (specOk_any _ _ _ _ _ (by assumption) (by assumption)).mono ?_; rintro e w' ⟨rfl, rfl⟩)
        refine (at_any sl len cap 0 _ (by omega) hl (hC.below (by (repeat (first | with_reducible exact Below.refl _ _ | with_reducible refine bl_alloc ?_ _ | with_reducible refine bl_drewN ?_ _ | with_reducible refine bl_drew ?_ | with_reducible refine bl_setCell ?_ (by first | exact Nat.le_refl _ | (dsimp only; omega) | (simp <;> omega)) _ | with_reducible refine bl_trans ?_ (by with_reducible assumption)))))).mono ?_
        rintro e w' ⟨r, rfl, r1, r2, rfl⟩
        go_wp2_with fail
        refine (at_any sl len cap 1 _ (by omega) hl (hC.below (by (repeat (first | with_reducible exact Below.refl _ _ | with_reducible refine bl_alloc ?_ _ | with_reducible refine bl_drewN ?_ _ | with_reducible refine bl_drew ?_ | with_reducible refine bl_setCell ?_ (by first | exact Nat.le_refl _ | (dsimp only; omega) | (simp <;> omega)) _ | with_reducible refine bl_trans ?_ (by with_reducible assumption)))))).mono ?_
        rintro e w' ⟨s, rfl, s1, s2, rfl⟩
        go_wp2_with fail
        have hA := Bx.new w1 1 (r - 128) 0 0 43
        have hB' : Bx (w1.heap.size + 1) ((w1.alloc (.cells #[.int .i64 1, .int .i64 (r - 128), .float .f64 0, .float .f64 0] 43)).alloc (.cells #[.int .i64 1, .int .i64 (s % 9 - 4), .float .f64 0, .float .f64 0] 43)) 1 (s % 9 - 4) 0 0 := by
          have := Bx.new (w1.alloc (.cells #[.int .i64 1, .int .i64 (r - 128), .float .f64 0, .float .f64 0] 43)) 1 (s % 9 - 4) 0 0 43
          simp only [World.size_alloc] at this
          exact this
        by_cases hB : (s % 9 - 4) = 0
        · have gz : ((s % 9 - 4) == 0) = true := beq_iff_eq.2 hB
          have hz4 : Hid (intOut 4 (r - 128) (s % 9 - 4) = (zV, 2)) := by simp [Hid, intOut, hB]
          have hz5 : Hid (intOut 5 (r - 128) (s % 9 - 4) = (zV, 2)) := by simp [Hid, intOut, hB]
          clear hB
          refine (implIntZ_any 4 _ _ _ hz4.out).mono ?_
          rintro e w2 ⟨rfl, hb2⟩
          obtain ⟨a0, a1, a2, a3⟩ := hA.later (show Below _ _ w2 by (repeat (first | with_reducible exact Below.refl _ _ | with_reducible refine bl_alloc ?_ _ | with_reducible refine bl_drewN ?_ _ | with_reducible refine bl_drew ?_ | with_reducible refine bl_setCell ?_ (by first | exact Nat.le_refl _ | (dsimp only; omega) | (simp <;> omega)) _ | with_reducible refine bl_trans ?_ (by with_reducible assumption))))
          obtain ⟨b0, b1, b2, b3⟩ := hB'.later (show Below _ _ w2 by (repeat (first | with_reducible exact Below.refl _ _ | with_reducible refine bl_alloc ?_ _ | with_reducible refine bl_drewN ?_ _ | with_reducible refine bl_drew ?_ | with_reducible refine bl_setCell ?_ (by first | exact Nat.le_refl _ | (dsimp only; omega) | (simp <;> omega)) _ | with_reducible refine bl_trans ?_ (by with_reducible assumption))))
          go_wp2_with fail
          refine (implIntZ_any 5 _ _ _ hz5.out).mono ?_
          rintro e w3 ⟨rfl, hb3⟩
          obtain ⟨c0, c1, c2, c3⟩ := hA.later (show Below _ _ w3 by (repeat (first | with_reducible exact Below.refl _ _ | with_reducible refine bl_alloc ?_ _ | with_reducible refine bl_drewN ?_ _ | with_reducible refine bl_drew ?_ | with_reducible refine bl_setCell ?_ (by first | exact Nat.le_refl _ | (dsimp only; omega) | (simp <;> omega)) _ | with_reducible refine bl_trans ?_ (by with_reducible assumption))))
          obtain ⟨d0, d1, d2, d3⟩ := hB'.later (show Below _ _ w3 by (repeat (first | with_reducible exact Below.refl _ _ | with_reducible refine bl_alloc ?_ _ | with_reducible refine bl_drewN ?_ _ | with_reducible refine bl_drew ?_ | with_reducible refine bl_setCell ?_ (by first | exact Nat.le_refl _ | (dsimp only; omega) | (simp <;> omega)) _ | with_reducible refine bl_trans ?_ (by with_reducible assumption))))
          go_wp2_with fail
          go_ret
          refine ⟨rfl, ?_⟩
          (repeat (first | with_reducible exact Below.refl _ _ | with_reducible refine bl_alloc ?_ _ | with_reducible refine bl_drewN ?_ _ | with_reducible refine bl_drew ?_ | with_reducible refine bl_setCell ?_ (by first | exact Nat.le_refl _ | (dsimp only; omega) | (simp <;> omega)) _ | with_reducible refine bl_trans ?_ (by with_reducible assumption)))
        · obtain ⟨q, m, hq, hm, F1, F2, F3, F4⟩ : ∃ q m : Int, Hid (intOut 4 (r - 128) (s % 9 - 4) = (iV q, 0)) ∧ Hid (intOut 5 (r - 128) (s % 9 - 4) = (iV m, 0)) ∧ Hid (wrap64 (wrap64 (q * (s % 9 - 4)) + m) = (r - 128)) ∧ (0 < m → 0 < (r - 128)) ∧ (m < 0 → (r - 128) < 0) ∧ m.natAbs < ((s % 9 - 4)).natAbs := by
            obtain ⟨f1, f2, f3, f4⟩ := div_facts (A := (r - 128)) (by omega) hB
            exact ⟨wrap64 (((r - 128)).tdiv ((s % 9 - 4))), ((r - 128)).tmod ((s % 9 - 4)), by simp [Hid, intOut, hB], by simp [Hid, intOut, hB], f1, f2, f3, f4⟩
          have g0 : ((s % 9 - 4) == 0) = false := beq_eq_false_iff_ne.2 hB
          have G1 : (wrap64 (wrap64 (q * (s % 9 - 4)) + m) != (r - 128)) = false := by rw [F1.out]; simp
          refine (implInt_any 4 _ _ q _ hq.out).mono ?_
          rintro e w2 ⟨rfl, hb2⟩
          obtain ⟨a0, a1, a2, a3⟩ := hA.later (show Below _ _ w2 by (repeat (first | with_reducible exact Below.refl _ _ | with_reducible refine bl_alloc ?_ _ | with_reducible refine bl_drewN ?_ _ | with_reducible refine bl_drew ?_ | with_reducible refine bl_setCell ?_ (by first | exact Nat.le_refl _ | (dsimp only; omega) | (simp <;> omega)) _ | with_reducible refine bl_trans ?_ (by with_reducible assumption))))
          obtain ⟨b0, b1, b2, b3⟩ := hB'.later (show Below _ _ w2 by (repeat (first | with_reducible exact Below.refl _ _ | with_reducible refine bl_alloc ?_ _ | with_reducible refine bl_drewN ?_ _ | with_reducible refine bl_drew ?_ | with_reducible refine bl_setCell ?_ (by first | exact Nat.le_refl _ | (dsimp only; omega) | (simp <;> omega)) _ | with_reducible refine bl_trans ?_ (by with_reducible assumption))))
          have hQ := Bx.new w2 1 q 0 0 43
          go_wp2_with fail
          refine (implInt_any 5 _ _ m _ hm.out).mono ?_
          rintro e w3 ⟨rfl, hb3⟩
          obtain ⟨c0, c1, c2, c3⟩ := hA.later (show Below _ _ w3 by (repeat (first | with_reducible exact Below.refl _ _ | with_reducible refine bl_alloc ?_ _ | with_reducible refine bl_drewN ?_ _ | with_reducible refine bl_drew ?_ | with_reducible refine bl_setCell ?_ (by first | exact Nat.le_refl _ | (dsimp only; omega) | (simp <;> omega)) _ | with_reducible refine bl_trans ?_ (by with_reducible assumption))))
          obtain ⟨d0, d1, d2, d3⟩ := hB'.later (show Below _ _ w3 by (repeat (first | with_reducible exact Below.refl _ _ | with_reducible refine bl_alloc ?_ _ | with_reducible refine bl_drewN ?_ _ | with_reducible refine bl_drew ?_ | with_reducible refine bl_setCell ?_ (by first | exact Nat.le_refl _ | (dsimp only; omega) | (simp <;> omega)) _ | with_reducible refine bl_trans ?_ (by with_reducible assumption))))
          obtain ⟨e0, e1, e2, e3⟩ := hQ.later (show Below _ _ w3 by (repeat (first | with_reducible exact Below.refl _ _ | with_reducible refine bl_alloc ?_ _ | with_reducible refine bl_drewN ?_ _ | with_reducible refine bl_drew ?_ | with_reducible refine bl_setCell ?_ (by first | exact Nat.le_refl _ | (dsimp only; omega) | (simp <;> omega)) _ | with_reducible refine bl_trans ?_ (by with_reducible assumption))))
          by_cases hm0 : m = 0
          · subst hm0
            have G1' : (wrap64 (wrap64 (q * (s % 9 - 4))) != (r - 128)) = false := by
              have := F1.out
              rw [Int.add_zero] at this
              rw [this]; simp
            go_wp2_with fail
            go_ret
            refine ⟨rfl, ?_⟩
            (repeat (first | with_reducible exact Below.refl _ _ | with_reducible refine bl_alloc ?_ _ | with_reducible refine bl_drewN ?_ _ | with_reducible refine bl_drew ?_ | with_reducible refine bl_setCell ?_ (by first | exact Nat.le_refl _ | (dsimp only; omega) | (simp <;> omega)) _ | with_reducible refine bl_trans ?_ (by with_reducible assumption)))
          · have g1 : (m == 0) = false := beq_eq_false_iff_ne.2 hm0
            by_cases mp : 0 < m <;> by_cases jp : 0 < (s % 9 - 4)
            all_goals
              have ip : decide (m < 0) = decide ((r - 128) < 0) := by simp; omega
              go_wp2_with fail
              go_region
              go_wp2_with fail
              go_ret
              refine ⟨ret_bool (by simp; omega), ?_⟩
              (repeat (first | with_reducible exact Below.refl _ _ | with_reducible refine bl_alloc ?_ _ | with_reducible refine bl_drewN ?_ _ | with_reducible refine bl_drew ?_ | with_reducible refine bl_setCell ?_ (by first | exact Nat.le_refl _ | (dsimp only; omega) | (simp <;> omega)) _ | with_reducible refine bl_trans ?_ (by with_reducible assumption)))
    · have gk : (k != 1) = true := by simp [hk]
      go_wp2_with (go_at_call 29; refine (specOk_any _ _ _ _ _ (by assumption) (by assumption)).mono ?_; rintro e w' ⟨rfl, rfl⟩)
      refine (at_any sl len cap 0 _ (by omega) hl (hC.below (by (repeat (first | with_reducible exact Below.refl _ _ | with_reducible refine bl_alloc ?_ _ | with_reducible refine bl_drewN ?_ _ | with_reducible refine bl_drew ?_ | with_reducible refine bl_setCell ?_ (by first | exact Nat.le_refl _ | (dsimp only; omega) | (simp <;> omega)) _ | with_reducible refine bl_trans ?_ (by with_reducible assumption)))))).mono ?_
      rintro e w' ⟨r, rfl, r1, r2, rfl⟩
      go_wp2_with fail
      refine (at_any sl len cap 1 _ (by omega) hl (hC.below (by (repeat (first | with_reducible exact Below.refl _ _ | with_reducible refine bl_alloc ?_ _ | with_reducible refine bl_drewN ?_ _ | with_reducible refine bl_drew ?_ | with_reducible refine bl_setCell ?_ (by first | exact Nat.le_refl _ | (dsimp only; omega) | (simp <;> omega)) _ | with_reducible refine bl_trans ?_ (by with_reducible assumption)))))).mono ?_
      rintro e w' ⟨s, rfl, s1, s2, rfl⟩
      go_wp2_with fail
      have hA := Bx.new w1 1 (r - 128) 0 0 43
      have hB' : Bx (w1.heap.size + 1) ((w1.alloc (.cells #[.int .i64 1, .int .i64 (r - 128), .float .f64 0, .float .f64 0] 43)).alloc (.cells #[.int .i64 1, .int .i64 (s % 9 - 4), .float .f64 0, .float .f64 0] 43)) 1 (s % 9 - 4) 0 0 := by
        have := Bx.new (w1.alloc (.cells #[.int .i64 1, .int .i64 (r - 128), .float .f64 0, .float .f64 0] 43)) 1 (s % 9 - 4) 0 0 43
        simp only [World.size_alloc] at this
        exact this
      by_cases hB : (s % 9 - 4) = 0
      · have gz : ((s % 9 - 4) == 0) = true := beq_iff_eq.2 hB
        have hz4 : Hid (intOut 4 (r - 128) (s % 9 - 4) = (zV, 2)) := by simp [Hid, intOut, hB]
        have hz5 : Hid (intOut 5 (r - 128) (s % 9 - 4) = (zV, 2)) := by simp [Hid, intOut, hB]
        clear hB
        refine (implIntZ_any 4 _ _ _ hz4.out).mono ?_
        rintro e w2 ⟨rfl, hb2⟩
        obtain ⟨a0, a1, a2, a3⟩ := hA.later (show Below _ _ w2 by (repeat (first | with_reducible exact Below.refl _ _ | with_reducible refine bl_alloc ?_ _ | with_reducible refine bl_drewN ?_ _ | with_reducible refine bl_drew ?_ | with_reducible refine bl_setCell ?_ (by first | exact Nat.le_refl _ | (dsimp only; omega) | (simp <;> omega)) _ | with_reducible refine bl_trans ?_ (by with_reducible assumption))))
        obtain ⟨b0, b1, b2, b3⟩ := hB'.later (show Below _ _ w2 by (repeat (first | with_reducible exact Below.refl _ _ | with_reducible refine bl_alloc ?_ _ | with_reducible refine bl_drewN ?_ _ | with_reducible refine bl_drew ?_ | with_reducible refine bl_setCell ?_ (by first | exact Nat.le_refl _ | (dsimp only; omega) | (simp <;> omega)) _ | with_reducible refine bl_trans ?_ (by with_reducible assumption))))
        go_wp2_with fail
        refine (implIntZ_any 5 _ _ _ hz5.out).mono ?_
        rintro e w3 ⟨rfl, hb3⟩
        obtain ⟨c0, c1, c2, c3⟩ := hA.later (show Below _ _ w3 by (repeat (first | with_reducible exact Below.refl _ _ | with_reducible refine bl_alloc ?_ _ | with_reducible refine bl_drewN ?_ _ | with_reducible refine bl_drew ?_ | with_reducible refine bl_setCell ?_ (by first | exact Nat.le_refl _ | (dsimp only; omega) | (simp <;> omega)) _ | with_reducible refine bl_trans ?_ (by with_reducible assumption))))
        obtain ⟨d0, d1, d2, d3⟩ := hB'.later (show Below _ _ w3 by (repeat (first | with_reducible exact Below.refl _ _ | with_reducible refine bl_alloc ?_ _ | with_reducible refine bl_drewN ?_ _ | with_reducible refine bl_drew ?_ | with_reducible refine bl_setCell ?_ (by first | exact Nat.le_refl _ | (dsimp only; omega) | (simp <;> omega)) _ | with_reducible refine bl_trans ?_ (by with_reducible assumption))))
        go_wp2_with fail
        go_ret
        refine ⟨rfl, ?_⟩
        (repeat (first | with_reducible exact Below.refl _ _ | with_reducible refine bl_alloc ?_ _ | with_reducible refine bl_drewN ?_ _ | with_reducible refine bl_drew ?_ | with_reducible refine bl_setCell ?_ (by first | exact Nat.le_refl _ | (dsimp only; omega) | (simp <;> omega)) _ | with_reducible refine bl_trans ?_ (by with_reducible assumption)))
      · obtain ⟨q, m, hq, hm, F1, F2, F3, F4⟩ : ∃ q m : Int, Hid (intOut 4 (r - 128) (s % 9 - 4) = (iV q, 0)) ∧ Hid (intOut 5 (r - 128) (s % 9 - 4) = (iV m, 0)) ∧ Hid (wrap64 (wrap64 (q * (s % 9 - 4)) + m) = (r - 128)) ∧ (0 < m → 0 < (r - 128)) ∧ (m < 0 → (r - 128) < 0) ∧ m.natAbs < ((s % 9 - 4)).natAbs := by
          obtain ⟨f1, f2, f3, f4⟩ := div_facts (A := (r - 128)) (by omega) hB
          exact ⟨wrap64 (((r - 128)).tdiv ((s % 9 - 4))), ((r - 128)).tmod ((s % 9 - 4)), by simp [Hid, intOut, hB], by simp [Hid, intOut, hB], f1, f2, f3, f4⟩
        have g0 : ((s % 9 - 4) == 0) = false := beq_eq_false_iff_ne.2 hB
        have G1 : (wrap64 (wrap64 (q * (s % 9 - 4)) + m) != (r - 128)) = false := by rw [F1.out]; simp
        refine (implInt_any 4 _ _ q _ hq.out).mono ?_
        rintro e w2 ⟨rfl, hb2⟩
        obtain ⟨a0, a1, a2, a3⟩ := hA.later (show Below _ _ w2 by (repeat (first | with_reducible exact Below.refl _ _ | with_reducible refine bl_alloc ?_ _ | with_reducible refine bl_drewN ?_ _ | with_reducible refine bl_drew ?_ | with_reducible refine bl_setCell ?_ (by first | exact Nat.le_refl _ | (dsimp only; omega) | (simp <;> omega)) _ | with_reducible refine bl_trans ?_ (by with_reducible assumption))))
        obtain ⟨b0, b1, b2, b3⟩ := hB'.later (show Below _ _ w2 by (repeat (first | with_reducible exact Below.refl _ _ | with_reducible refine bl_alloc ?_ _ | with_reducible refine bl_drewN ?_ _ | with_reducible refine bl_drew ?_ | with_reducible refine bl_setCell ?_ (by first | exact Nat.le_refl _ | (dsimp only; omega) | (simp <;> omega)) _ | with_reducible refine bl_trans ?_ (by with_reducible assumption))))
        have hQ := Bx.new w2 1 q 0 0 43
        go_wp2_with fail
        refine (implInt_any 5 _ _ m _ hm.out).mono ?_
        rintro e w3 ⟨rfl, hb3⟩
        obtain ⟨c0, c1, c2, c3⟩ := hA.later (show Below _ _ w3 by (repeat (first | with_reducible exact Below.refl _ _ | with_reducible refine bl_alloc ?_ _ | with_reducible refine bl_drewN ?_ _ | with_reducible refine bl_drew ?_ | with_reducible refine bl_setCell ?_ (by first | exact Nat.le_refl _ | (dsimp only; omega) | (simp <;> omega)) _ | with_reducible refine bl_trans ?_ (by with_reducible assumption))))
        obtain ⟨d0, d1, d2, d3⟩ := hB'.later (show Below _ _ w3 by (repeat (first | with_reducible exact Below.refl _ _ | with_reducible refine bl_alloc ?_ _ | with_reducible refine bl_drewN ?_ _ | with_reducible refine bl_drew ?_ | with_reducible refine bl_setCell ?_ (by first | exact Nat.le_refl _ | (dsimp only; omega) | (simp <;> omega)) _ | with_reducible refine bl_trans ?_ (by with_reducible assumption))))
        obtain ⟨e0, e1, e2, e3⟩ := hQ.later (show Below _ _ w3 by (repeat (first | with_reducible exact Below.refl _ _ | with_reducible refine bl_alloc ?_ _ | with_reducible refine bl_drewN ?_ _ | with_reducible refine bl_drew ?_ | with_reducible refine bl_setCell ?_ (by first | exact Nat.le_refl _ | (dsimp only; omega) | (simp <;> omega)) _ | with_reducible refine bl_trans ?_ (by with_reducible assumption))))
        by_cases hm0 : m = 0
        · subst hm0
          have G1' : (wrap64 (wrap64 (q * (s % 9 - 4))) != (r - 128)) = false := by
            have := F1.out
            rw [Int.add_zero] at this
            rw [this]; simp
          go_wp2_with fail
          go_ret
          refine ⟨rfl, ?_⟩
          (repeat (first | with_reducible exact Below.refl _ _ | with_reducible refine bl_alloc ?_ _ | with_reducible refine bl_drewN ?_ _ | with_reducible refine bl_drew ?_ | with_reducible refine bl_setCell ?_ (by first | exact Nat.le_refl _ | (dsimp only; omega) | (simp <;> omega)) _ | with_reducible refine bl_trans ?_ (by with_reducible assumption)))
        · have g1 : (m == 0) = false := beq_eq_false_iff_ne.2 hm0
          by_cases mp : 0 < m <;> by_cases jp : 0 < (s % 9 - 4)
          all_goals
            have ip : decide (m < 0) = decide ((r - 128) < 0) := by simp; omega
            go_wp2_with fail
            go_region
            go_wp2_with fail
            go_ret
            refine ⟨ret_bool (by simp; omega), ?_⟩
            (repeat (first | with_reducible exact Below.refl _ _ | with_reducible refine bl_alloc ?_ _ | with_reducible refine bl_drewN ?_ _ | with_reducible refine bl_drew ?_ | with_reducible refine bl_setCell ?_ (by first | exact Nat.le_refl _ | (dsimp only; omega) | (simp <;> omega)) _ | with_reducible refine bl_trans ?_ (by with_reducible assumption)))
  · have hb : decide (1048576 < (len : Int)) = true := by simp; omega
    go_enter Try.func7, Try.ntmps7
    go_wp2_with fail
    refine (big_any sl len cap _).mono ?_
    rintro e w' ⟨rfl, rfl⟩
    rw [hb]
    go_wp2_with fail
    go_ret
    exact ⟨rfl, Below.refl _ _⟩
end Go.Proofs.Ytijgkpkakkjkgaa
