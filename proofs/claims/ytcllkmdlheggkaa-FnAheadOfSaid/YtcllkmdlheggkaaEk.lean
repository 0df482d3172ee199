import Derived.Test.YtcllkmdlheggkaaEj
namespace Go.Proofs.Ytcllkmdlheggkaa
open Go.RowKit
set_option linter.unusedVariables false

set_option maxHeartbeats 16000000 in
theorem implLive_any (s1 s2 : Option Addr) (c1 c2 : Nat) (G F : List Int) (a g : Int) (w : World) (h1 : Ints w s1 G) (h2 : Ints w s2 F) (l1 : G.length ≤ 1048576) (l2 : F.length ≤ 1048576) :
    Calls Try.prog 14 #[.agg #[.slice s1 G.length c1, .slice s2 F.length c2], .agg #[.int .i64 a, .int .i64 g]] w fun e w' => e = .returned (.bool (liveB G F a g)) ∧ Below w.heap.size w w' := by
  have hal := alloc_old
  have haf := alloc_oldf
  obtain ⟨k0, k1⟩ := blk2 w #[.slice s1 G.length c1, .slice s2 F.length c2] #[.int .i64 a, .int .i64 g] 26 29
  cases hk : okE G F
  · have hbad : Hid (liveB G F a g = false) := by simp [Hid, liveB, hk]
    go_enter Try.func14, Try.ntmps14
    go_wp2_with fail
    refine (implEntsOk_any s1 s2 c1 c2 G F _ (h1.later (by (repeat (first | with_reducible exact Below.refl _ _ | with_reducible refine bl_alloc ?_ _ | with_reducible refine bl_drewN ?_ _ | with_reducible refine bl_drew ?_ | with_reducible refine bl_setCell ?_ (by first | exact Nat.le_refl _ | (dsimp only; omega) | (simp <;> omega)) _ | with_reducible refine bl_trans ?_ (by with_reducible assumption))))) (h2.later (by (repeat (first | with_reducible exact Below.refl _ _ | with_reducible refine bl_alloc ?_ _ | with_reducible refine bl_drewN ?_ _ | with_reducible refine bl_drew ?_ | with_reducible refine bl_setCell ?_ (by first | exact Nat.le_refl _ | (dsimp only; omega) | (simp <;> omega)) _ | with_reducible refine bl_trans ?_ (by with_reducible assumption))))) l2).mono ?_
    rintro e w1 ⟨rfl, hb1⟩
    rw [hk]
    go_wp2_with fail
    go_ret
    refine ⟨ret_bool' hbad.out.symm, ?_⟩
    (repeat (first | with_reducible exact Below.refl _ _ | with_reducible refine bl_alloc ?_ _ | with_reducible refine bl_drewN ?_ _ | with_reducible refine bl_drew ?_ | with_reducible refine bl_setCell ?_ (by first | exact Nat.le_refl _ | (dsimp only; omega) | (simp <;> omega)) _ | with_reducible refine bl_trans ?_ (by with_reducible assumption)))
  · have hE : Hid (liveB G F a g = l2B G F a g) := by simp [Hid, liveB, hk]
    by_cases a0 : a < 0
    · have hbad : Hid (liveB G F a g = false) := by
        show _ = _
        rw [hE.out]
        simp only [l2B, decide_eq_false_iff_not]
        rintro ⟨h3, _⟩
        omega
      go_enter Try.func14, Try.ntmps14
      go_wp2_with fail
      refine (implEntsOk_any s1 s2 c1 c2 G F _ (h1.later (by (repeat (first | with_reducible exact Below.refl _ _ | with_reducible refine bl_alloc ?_ _ | with_reducible refine bl_drewN ?_ _ | with_reducible refine bl_drew ?_ | with_reducible refine bl_setCell ?_ (by first | exact Nat.le_refl _ | (dsimp only; omega) | (simp <;> omega)) _ | with_reducible refine bl_trans ?_ (by with_reducible assumption))))) (h2.later (by (repeat (first | with_reducible exact Below.refl _ _ | with_reducible refine bl_alloc ?_ _ | with_reducible refine bl_drewN ?_ _ | with_reducible refine bl_drew ?_ | with_reducible refine bl_setCell ?_ (by first | exact Nat.le_refl _ | (dsimp only; omega) | (simp <;> omega)) _ | with_reducible refine bl_trans ?_ (by with_reducible assumption))))) l2).mono ?_
      rintro e w1 ⟨rfl, hb1⟩
      rw [hk]
      obtain ⟨x0, x1, x2⟩ := (k0.later hb1).two
      obtain ⟨y0, y1, y2⟩ := (k1.later hb1).two
      go_wp2_with fail
      go_ret
      refine ⟨ret_bool' hbad.out.symm, ?_⟩
      (repeat (first | with_reducible exact Below.refl _ _ | with_reducible refine bl_alloc ?_ _ | with_reducible refine bl_drewN ?_ _ | with_reducible refine bl_drew ?_ | with_reducible refine bl_setCell ?_ (by first | exact Nat.le_refl _ | (dsimp only; omega) | (simp <;> omega)) _ | with_reducible refine bl_trans ?_ (by with_reducible assumption)))
    by_cases a1 : (G.length : Int) ≤ a
    · have hbad : Hid (liveB G F a g = false) := by
        show _ = _
        rw [hE.out]
        simp only [l2B, decide_eq_false_iff_not]
        rintro ⟨_, h3, _⟩
        omega
      go_enter Try.func14, Try.ntmps14
      go_wp2_with fail
      refine (implEntsOk_any s1 s2 c1 c2 G F _ (h1.later (by (repeat (first | with_reducible exact Below.refl _ _ | with_reducible refine bl_alloc ?_ _ | with_reducible refine bl_drewN ?_ _ | with_reducible refine bl_drew ?_ | with_reducible refine bl_setCell ?_ (by first | exact Nat.le_refl _ | (dsimp only; omega) | (simp <;> omega)) _ | with_reducible refine bl_trans ?_ (by with_reducible assumption))))) (h2.later (by (repeat (first | with_reducible exact Below.refl _ _ | with_reducible refine bl_alloc ?_ _ | with_reducible refine bl_drewN ?_ _ | with_reducible refine bl_drew ?_ | with_reducible refine bl_setCell ?_ (by first | exact Nat.le_refl _ | (dsimp only; omega) | (simp <;> omega)) _ | with_reducible refine bl_trans ?_ (by with_reducible assumption))))) l2).mono ?_
      rintro e w1 ⟨rfl, hb1⟩
      rw [hk]
      obtain ⟨x0, x1, x2⟩ := (k0.later hb1).two
      obtain ⟨y0, y1, y2⟩ := (k1.later hb1).two
      go_wp2_with fail
      go_ret
      refine ⟨ret_bool' hbad.out.symm, ?_⟩
      (repeat (first | with_reducible exact Below.refl _ _ | with_reducible refine bl_alloc ?_ _ | with_reducible refine bl_drewN ?_ _ | with_reducible refine bl_drew ?_ | with_reducible refine bl_setCell ?_ (by first | exact Nat.le_refl _ | (dsimp only; omega) | (simp <;> omega)) _ | with_reducible refine bl_trans ?_ (by with_reducible assumption)))
    obtain ⟨q, rfl⟩ : ∃ q : Nat, a = (q : Int) := ⟨a.toNat, by omega⟩
    have hq : q < G.length := by omega
    obtain ⟨x, hx⟩ : ∃ x, Hid (G[q]?.getD 0 = x) := ⟨_, rfl⟩
    clear a0 a1
    have hE2 : Hid (liveB G F q g = ((g == x) && !decide ((q : Int) ∈ F))) := by
      show _ = _
      rw [hE.out, l2B, Bool.eq_iff_iff]
      have e3 : G[((q : Int)).toNat]?.getD 0 = x := by simpa using hx.out
      rw [e3]
      simp
      constructor
      · rintro ⟨_, h, h'⟩; exact ⟨h.symm, h'⟩
      · rintro ⟨h, h'⟩; exact ⟨by omega, h.symm, h'⟩
    go_enter Try.func14, Try.ntmps14
    go_wp2_with fail
    refine (implEntsOk_any s1 s2 c1 c2 G F _ (h1.later (by (repeat (first | with_reducible exact Below.refl _ _ | with_reducible refine bl_alloc ?_ _ | with_reducible refine bl_drewN ?_ _ | with_reducible refine bl_drew ?_ | with_reducible refine bl_setCell ?_ (by first | exact Nat.le_refl _ | (dsimp only; omega) | (simp <;> omega)) _ | with_reducible refine bl_trans ?_ (by with_reducible assumption))))) (h2.later (by (repeat (first | with_reducible exact Below.refl _ _ | with_reducible refine bl_alloc ?_ _ | with_reducible refine bl_drewN ?_ _ | with_reducible refine bl_drew ?_ | with_reducible refine bl_setCell ?_ (by first | exact Nat.le_refl _ | (dsimp only; omega) | (simp <;> omega)) _ | with_reducible refine bl_trans ?_ (by with_reducible assumption))))) l2).mono ?_
    rintro e w1 ⟨rfl, hb1⟩
    rw [hk]
    have j0 := k0.later hb1
    have j1 := k1.later hb1
    have l1w : Below w.heap.size w w1 := by (repeat (first | with_reducible exact Below.refl _ _ | with_reducible refine bl_alloc ?_ _ | with_reducible refine bl_drewN ?_ _ | with_reducible refine bl_drew ?_ | with_reducible refine bl_setCell ?_ (by first | exact Nat.le_refl _ | (dsimp only; omega) | (simp <;> omega)) _ | with_reducible refine bl_trans ?_ (by with_reducible assumption)))
    obtain ⟨x0, x1, x2⟩ := j0.two
    obtain ⟨y0, y1, y2⟩ := j1.two
    clear k0 k1 hb1
    cases hgx : ((g == x) : Bool)
    · have hbad : Hid (liveB G F q g = false) := by show _ = _; rw [hE2.out, hgx]; rfl
      go_wp2_with fail
      first | go_region_with (first
        | (go_at_call 34; refine (entAt_any s1 s2 c1 c2 G F q x _ (h1.later (by (repeat (first | with_reducible exact Below.refl _ _ | with_reducible refine bl_alloc ?_ _ | with_reducible refine bl_drewN ?_ _ | with_reducible refine bl_drew ?_ | with_reducible refine bl_setCell ?_ (by first | exact Nat.le_refl _ | (dsimp only; omega) | (simp <;> omega)) _ | with_reducible refine bl_trans ?_ (by with_reducible assumption))))) hq hx.out l1).mono ?_; rintro e w2 ⟨rfl, hb2⟩; have l2w : Below w1.heap.size w1 w2 := (by (repeat (first | with_reducible exact Below.refl _ _ | with_reducible refine bl_alloc ?_ _ | with_reducible refine bl_drewN ?_ _ | with_reducible refine bl_drew ?_ | with_reducible refine bl_setCell ?_ (by first | exact Nat.le_refl _ | (dsimp only; omega) | (simp <;> omega)) _ | with_reducible refine bl_trans ?_ (by with_reducible assumption)))); obtain ⟨u0, u1, u2⟩ := (j0.later l2w).two; obtain ⟨v0, v1, v2⟩ := (j1.later l2w).two)
        | (go_at_call 40; refine (contains_any s2 c2 F q _ (h2.later (by (repeat (first | with_reducible exact Below.refl _ _ | with_reducible refine bl_alloc ?_ _ | with_reducible refine bl_drewN ?_ _ | with_reducible refine bl_drew ?_ | with_reducible refine bl_setCell ?_ (by first | exact Nat.le_refl _ | (dsimp only; omega) | (simp <;> omega)) _ | with_reducible refine bl_trans ?_ (by with_reducible assumption))))) l2).mono ?_; rintro e w3 ⟨rfl, hb3⟩)) | fail
      all_goals
        go_wp2_with fail
        go_ret
        refine ⟨ret_bool' hbad.out.symm, ?_⟩
        (repeat (first | with_reducible exact Below.refl _ _ | with_reducible refine bl_alloc ?_ _ | with_reducible refine bl_drewN ?_ _ | with_reducible refine bl_drew ?_ | with_reducible refine bl_setCell ?_ (by first | exact Nat.le_refl _ | (dsimp only; omega) | (simp <;> omega)) _ | with_reducible refine bl_trans ?_ (by with_reducible assumption)))
    · have hE3 : Hid (liveB G F q g = !decide ((q : Int) ∈ F)) := by show _ = _; rw [hE2.out, hgx]; rfl
      have hge : g = x := by simpa using hgx
      clear hgx hE2 hE
      subst hge
      go_wp2_with fail
      first | go_region_with (first
        | (go_at_call 34; refine (entAt_any s1 s2 c1 c2 G F q g _ (h1.later (by (repeat (first | with_reducible exact Below.refl _ _ | with_reducible refine bl_alloc ?_ _ | with_reducible refine bl_drewN ?_ _ | with_reducible refine bl_drew ?_ | with_reducible refine bl_setCell ?_ (by first | exact Nat.le_refl _ | (dsimp only; omega) | (simp <;> omega)) _ | with_reducible refine bl_trans ?_ (by with_reducible assumption))))) hq hx.out l1).mono ?_; rintro e w2 ⟨rfl, hb2⟩; have l2w : Below w1.heap.size w1 w2 := (by (repeat (first | with_reducible exact Below.refl _ _ | with_reducible refine bl_alloc ?_ _ | with_reducible refine bl_drewN ?_ _ | with_reducible refine bl_drew ?_ | with_reducible refine bl_setCell ?_ (by first | exact Nat.le_refl _ | (dsimp only; omega) | (simp <;> omega)) _ | with_reducible refine bl_trans ?_ (by with_reducible assumption)))); obtain ⟨u0, u1, u2⟩ := (j0.later l2w).two; obtain ⟨v0, v1, v2⟩ := (j1.later l2w).two)
        | (go_at_call 40; refine (contains_any s2 c2 F q _ (h2.later (by (repeat (first | with_reducible exact Below.refl _ _ | with_reducible refine bl_alloc ?_ _ | with_reducible refine bl_drewN ?_ _ | with_reducible refine bl_drew ?_ | with_reducible refine bl_setCell ?_ (by first | exact Nat.le_refl _ | (dsimp only; omega) | (simp <;> omega)) _ | with_reducible refine bl_trans ?_ (by with_reducible assumption))))) l2).mono ?_; rintro e w3 ⟨rfl, hb3⟩)) | fail
      all_goals
        go_wp2_with fail
        go_ret
        refine ⟨ret_bool' hE3.out.symm, ?_⟩
        (repeat (first | with_reducible exact Below.refl _ _ | with_reducible refine bl_alloc ?_ _ | with_reducible refine bl_drewN ?_ _ | with_reducible refine bl_drew ?_ | with_reducible refine bl_setCell ?_ (by first | exact Nat.le_refl _ | (dsimp only; omega) | (simp <;> omega)) _ | with_reducible refine bl_trans ?_ (by with_reducible assumption)))
end Go.Proofs.Ytcllkmdlheggkaa
