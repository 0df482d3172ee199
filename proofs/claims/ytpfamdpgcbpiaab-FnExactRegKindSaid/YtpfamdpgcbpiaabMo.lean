import Derived.Test.YtpfamdpgcbpiaabMl
namespace Go.Proofs.Ytpfamdpgcbpiaab
open Go.RowKit Go.Maps Go.WideMaps
set_option linter.unusedVariables false
set_option linter.unusedSimpArgs false

/-- the kind of the declaration of a number in a sort's list. -/
def kindB (A B C : List (ByteArray × Int)) (sort at0 : Int) : Int :=
  if okR A B C = true ∧ 0 ≤ at0 ∧ at0 < (pickL A B C sort).length then (dAt (pickL A B C sort) at0.toNat).2 else 0
theorem ret_intk {a b : Int} (h : a = b) : Ending.returned (.int .i64 a) = .returned (.int .i64 b) := by rw [h]

set_option maxHeartbeats 4000000 in
theorem specRegKind_any (p1 q1 c1 p2 q2 c2 p3 q3 c3 : Nat) (A B C : List (ByteArray × Int)) (sort at0 : Int) (w : World) (hA : Decls w (some ⟨p1, q1, none⟩) A) (hB : Decls w (some ⟨p2, q2, none⟩) B) (hC : Decls w (some ⟨p3, q3, none⟩) C) (l1 : A.length ≤ 1048576) (l2 : B.length ≤ 1048576) (l3 : C.length ≤ 1048576) :
    Calls Try.prog 5 #[.agg #[.slice (some ⟨p1, q1, none⟩) A.length c1, .slice (some ⟨p2, q2, none⟩) B.length c2, .slice (some ⟨p3, q3, none⟩) C.length c3], .int .i64 sort, .int .i64 at0] w fun e w' => e = .returned (.int .i64 (kindB A B C sort at0)) ∧ Below w.heap.size w w' := by
  have hal := alloc_old
  have haf := alloc_oldf
  have k0 := Blk.new w #[.slice (some ⟨p1, q1, none⟩) A.length c1, .slice (some ⟨p2, q2, none⟩) B.length c2, .slice (some ⟨p3, q3, none⟩) C.length c3] 29
  obtain ⟨x0, x1, x2, x3⟩ := k0.three
  obtain ⟨P, hP⟩ : ∃ P, Hid (pickL A B C sort = P) := ⟨_, rfl⟩
  have hPl : P.length ≤ 1048576 := by
    rw [← hP.out]; unfold pickL; split; exact l1; split; exact l2; split; exact l3; simp
  go_enter Try.func5, Try.ntmps5
  go_wp2_with fail
  refine (l3List_any _ _ _ c1 c2 c3 A B C sort _ (hA.later (by (repeat (first | with_reducible exact Below.refl _ _ | with_reducible refine bl_alloc ?_ _ | with_reducible refine bl_drewN ?_ _ | with_reducible refine bl_drew ?_ | with_reducible refine bl_setCell ?_ (by first | exact Nat.le_refl _ | (dsimp only; omega) | (simp <;> omega)) _ | with_reducible refine bl_trans ?_ (by with_reducible assumption))))) (hB.later (by (repeat (first | with_reducible exact Below.refl _ _ | with_reducible refine bl_alloc ?_ _ | with_reducible refine bl_drewN ?_ _ | with_reducible refine bl_drew ?_ | with_reducible refine bl_setCell ?_ (by first | exact Nat.le_refl _ | (dsimp only; omega) | (simp <;> omega)) _ | with_reducible refine bl_trans ?_ (by with_reducible assumption))))) (hC.later (by (repeat (first | with_reducible exact Below.refl _ _ | with_reducible refine bl_alloc ?_ _ | with_reducible refine bl_drewN ?_ _ | with_reducible refine bl_drew ?_ | with_reducible refine bl_setCell ?_ (by first | exact Nat.le_refl _ | (dsimp only; omega) | (simp <;> omega)) _ | with_reducible refine bl_trans ?_ (by with_reducible assumption)))))).mono ?_
  rintro e w1 ⟨⟨sl, c, rfl, hd⟩, hb⟩
  have hd := hd.later hb
  have K1 := k0.later hb
  have L1 : Below w.heap.size w w1 := by (repeat (first | with_reducible exact Below.refl _ _ | with_reducible refine bl_alloc ?_ _ | with_reducible refine bl_drewN ?_ _ | with_reducible refine bl_drew ?_ | with_reducible refine bl_setCell ?_ (by first | exact Nat.le_refl _ | (dsimp only; omega) | (simp <;> omega)) _ | with_reducible refine bl_trans ?_ (by with_reducible assumption)))
  rw [hP.out] at hd ⊢
  clear k0 x0 x1 x2 x3 hb
  obtain ⟨x0, x1, x2, x3⟩ := K1.three
  go_wp2_with fail
  refine (specRegOk_any p1 q1 c1 p2 q2 c2 p3 q3 c3 A B C _ (hA.later L1) (hB.later L1) (hC.later L1)).mono ?_
  rintro e w2 ⟨rfl, hb2⟩
  have hd := hd.later hb2
  have L2 := bl_trans L1 hb2
  clear K1 x0 x1 x2 x3 hb2 L1
  cases hk : okR A B C
  · have E : Hid (0 = kindB A B C sort at0) := by simp [Hid, kindB, hk]
    go_wp2_with fail
    go_ret
    exact ⟨ret_intk E.out, L2⟩
  · have tw : IntKind.i64.wrap ((P.length : Int) - 1) = (P.length : Int) - 1 := by rw [IntKind.wrap_i64]; omega
    cases hi : (decide ((0 : Int) ≤ at0) && decide (at0 ≤ (P.length : Int) - 1))
    · have E : Hid (0 = kindB A B C sort at0) := by
        unfold Hid kindB
        rw [if_neg]
        rw [hP.out]
        rintro ⟨_, a, b⟩
        simp at hi
        exact absurd (hi a) (by omega)
      go_wp2_with (go_at_call 12; refine (l1In_any _ _ _ _).mono ?_; rintro e w' ⟨rfl, rfl⟩; rw [hi])
      go_ret
      exact ⟨ret_intk E.out, L2⟩
    · have hi' : 0 ≤ at0 ∧ at0 < P.length := by simp at hi; omega
      obtain ⟨m, rfl⟩ : ∃ m : Nat, at0 = m := ⟨at0.toNat, by omega⟩
      have hlt : m < P.length := by omega
      obtain ⟨b, o, rfl, hp, e1, e2⟩ := hd.get hlt
      obtain ⟨p, hp0⟩ : ∃ p, Hid (dAt P m = p) := ⟨_, rfl⟩
      rw [hp0.out] at e1 e2
      obtain ⟨n1, n2⟩ := p
      have E : Hid (n2 = kindB A B C sort m) := by
        unfold Hid kindB
        rw [if_pos ⟨hk, by rw [hP.out]; exact hi'⟩, hP.out, show (m : Int).toNat = m by simp, hp0.out]
      clear hd
      go_wp2_with (go_at_call 12; refine (l1In_any _ _ _ _).mono ?_; rintro e w' ⟨rfl, rfl⟩; rw [hi])
      go_ret
      exact ⟨ret_intk E.out, L2⟩

set_option maxHeartbeats 4000000 in
theorem implRegKind_any (s1 s2 s3 : Option Addr) (c1 c2 c3 : Nat) (A B C : List (ByteArray × Int)) (sort at0 : Int) (w : World) (hA : Decls w s1 A) (hB : Decls w s2 B) (hC : Decls w s3 C) (nm : ∀ i, i < (A ++ B ++ C).length → (dAt (A ++ B ++ C) i).1.size ≤ maxLen) (l1 : A.length ≤ 1048576) (l2 : B.length ≤ 1048576) (l3 : C.length ≤ 1048576) :
    Calls Try.prog 7 #[.agg #[.slice s1 A.length c1, .slice s2 B.length c2, .slice s3 C.length c3], .int .i64 sort, .int .i64 at0] w fun e w' => e = .returned (.int .i64 (kindB A B C sort at0)) ∧ Below w.heap.size w w' := by
  have hal := alloc_old
  have haf := alloc_oldf
  have k0 := Blk.new w #[.slice s1 A.length c1, .slice s2 B.length c2, .slice s3 C.length c3] 29
  obtain ⟨x0, x1, x2, x3⟩ := k0.three
  obtain ⟨P, hP⟩ : ∃ P, Hid (pickL A B C sort = P) := ⟨_, rfl⟩
  have hPl : P.length ≤ 1048576 := by
    rw [← hP.out]; unfold pickL; split; exact l1; split; exact l2; split; exact l3; simp
  go_enter Try.func7, Try.ntmps7
  go_wp2_with fail
  refine (declsOf_any _ _ _ c1 c2 c3 A B C sort _ (hA.later (by (repeat (first | with_reducible exact Below.refl _ _ | with_reducible refine bl_alloc ?_ _ | with_reducible refine bl_drewN ?_ _ | with_reducible refine bl_drew ?_ | with_reducible refine bl_setCell ?_ (by first | exact Nat.le_refl _ | (dsimp only; omega) | (simp <;> omega)) _ | with_reducible refine bl_trans ?_ (by with_reducible assumption))))) (hB.later (by (repeat (first | with_reducible exact Below.refl _ _ | with_reducible refine bl_alloc ?_ _ | with_reducible refine bl_drewN ?_ _ | with_reducible refine bl_drew ?_ | with_reducible refine bl_setCell ?_ (by first | exact Nat.le_refl _ | (dsimp only; omega) | (simp <;> omega)) _ | with_reducible refine bl_trans ?_ (by with_reducible assumption))))) (hC.later (by (repeat (first | with_reducible exact Below.refl _ _ | with_reducible refine bl_alloc ?_ _ | with_reducible refine bl_drewN ?_ _ | with_reducible refine bl_drew ?_ | with_reducible refine bl_setCell ?_ (by first | exact Nat.le_refl _ | (dsimp only; omega) | (simp <;> omega)) _ | with_reducible refine bl_trans ?_ (by with_reducible assumption)))))).mono ?_
  rintro e w1 ⟨⟨sl, c, rfl, hd⟩, hb⟩
  have hd := hd.later hb
  have K1 := k0.later hb
  have L1 : Below w.heap.size w w1 := by (repeat (first | with_reducible exact Below.refl _ _ | with_reducible refine bl_alloc ?_ _ | with_reducible refine bl_drewN ?_ _ | with_reducible refine bl_drew ?_ | with_reducible refine bl_setCell ?_ (by first | exact Nat.le_refl _ | (dsimp only; omega) | (simp <;> omega)) _ | with_reducible refine bl_trans ?_ (by with_reducible assumption)))
  rw [hP.out] at hd ⊢
  clear k0 x0 x1 x2 x3 hb
  obtain ⟨x0, x1, x2, x3⟩ := K1.three
  go_wp2_with fail
  refine (implRegOk_any s1 s2 s3 c1 c2 c3 A B C _ (hA.later L1) (hB.later L1) (hC.later L1) nm l1 l2 l3).mono ?_
  rintro e w2 ⟨rfl, hb2⟩
  have hd := hd.later hb2
  have L2 := bl_trans L1 hb2
  clear K1 x0 x1 x2 x3 hb2 L1
  cases hk : okR A B C
  · have E : Hid (0 = kindB A B C sort at0) := by simp [Hid, kindB, hk]
    go_wp2_with fail
    go_ret
    exact ⟨ret_intk E.out, L2⟩
  · by_cases h0 : at0 < 0
    · have E : Hid (0 = kindB A B C sort at0) := by
        unfold Hid kindB
        rw [if_neg]
        rintro ⟨_, a, b⟩
        omega
      have t0 : decide (at0 < 0) = true := by simp [h0]
      go_wp2_with fail
      go_ret
      exact ⟨ret_intk E.out, L2⟩
    · have t0 : decide (at0 < 0) = false := by simp; omega
      obtain ⟨m, rfl⟩ : ∃ m : Nat, at0 = m := ⟨at0.toNat, by omega⟩
      by_cases hlt : m < P.length
      · have t1 : decide ((P.length : Int) ≤ (m : Int)) = false := by simp; omega
        obtain ⟨b, o, rfl, hp, e1, e2⟩ := hd.get hlt
        obtain ⟨p, hp0⟩ : ∃ p, Hid (dAt P m = p) := ⟨_, rfl⟩
        rw [hp0.out] at e1 e2
        obtain ⟨n1, n2⟩ := p
        have E : Hid (n2 = kindB A B C sort m) := by
          unfold Hid kindB
          rw [if_pos ⟨hk, by rw [hP.out]; omega⟩, hP.out, show (m : Int).toNat = m by simp, hp0.out]
        clear hd
        go_wp2_with fail
        go_ret
        exact ⟨ret_intk E.out, L2⟩
      · have t1 : decide ((P.length : Int) ≤ (m : Int)) = true := by simp; omega
        have E : Hid (0 = kindB A B C sort m) := by
          unfold Hid kindB
          rw [if_neg]
          rw [hP.out]
          rintro ⟨_, a, b⟩
          omega
        go_wp2_with fail
        go_ret
        exact ⟨ret_intk E.out, L2⟩

end Go.Proofs.Ytpfamdpgcbpiaab
