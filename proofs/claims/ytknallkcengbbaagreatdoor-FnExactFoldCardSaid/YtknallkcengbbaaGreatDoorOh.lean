import Derived.Test.YtknallkcengbbaaGreatDoorOd
import Derived.Test.YtknallkcengbbaaGreatDoorXe
namespace Go.Proofs.YtknallkcengbbaaGreatDoor
open Go.RowKit
set_option linter.unusedVariables false
set_option linter.unusedSimpArgs false

/-- the program's look at a node's text. -/
noncomputable def tfB (k : Int) (t : ByteArray) : Bool := if k = 2 then realB t else if namedK k then nameB t else decide (t = ⟨#[]⟩)
def loK (k : Int) : Int := if k = 8 ∨ k = 9 ∨ k = 32 ∨ k = 33 then 1 else 0
def hiK (k : Int) : Int := if k = 1 then 999999999999999 else if k = 3 then 1 else if k = 8 then 9 else if k = 9 then 6 else if k = 32 ∨ k = 33 then 4 else 0
/-- the program's look at a node's number. -/
def nfB (k q : Int) : Bool := decide (loK k ≤ q) && decide (q ≤ hiK k)
theorem numB_nfB (k q : Int) : numB k q = nfB k q := by
  have h0 : (q == 0) = (decide ((0 : Int) ≤ q) && decide (q ≤ 0)) := by rw [Bool.eq_iff_iff]; simp; omega
  have h1 : (q == 0 || q == 1) = (decide ((0 : Int) ≤ q) && decide (q ≤ 1)) := by rw [Bool.eq_iff_iff]; simp; omega
  unfold numB nfB loK hiK
  by_cases e1 : k = 1
  · subst e1; rfl
  by_cases e3 : k = 3
  · subst e3; exact h1
  by_cases e8 : k = 8
  · subst e8; rfl
  by_cases e9 : k = 9
  · subst e9; rfl
  by_cases e32 : k = 32 ∨ k = 33
  · rw [if_neg e1, if_neg e3, if_neg e8, if_neg e9, if_pos e32, if_pos (by omega), if_neg e1, if_neg e3, if_neg e8, if_neg e9, if_pos e32]
  · rw [if_neg e1, if_neg e3, if_neg e8, if_neg e9, if_neg e32, if_neg (by omega), if_neg e1, if_neg e3, if_neg e8, if_neg e9, if_neg e32]
    exact h0
theorem has_split (k : Int) (t : ByteArray) (q : Int) : hasB k t q = (tfB k t && nfB k q) := by
  unfold hasB tfB
  by_cases e2 : k = 2
  · subst e2
    rw [if_pos rfl, if_pos rfl, ← numB_nfB]
    rfl
  · rw [if_neg e2, if_neg e2, numB_nfB]
    split <;> rfl
theorem named_split {k : Int} (h : namedK k = true) : k = 4 ∨ k = 5 ∨ k = 6 ∨ k = 7 ∨ k = 12 ∨ k = 13 ∨ k = 14 ∨ k = 15 ∨ k = 19 ∨ k = 20 ∨ k = 23 ∨ k = 24 ∨ k = 28 ∨ k = 31 ∨ k = 32 ∨ k = 33 ∨ k = 34 := by simpa [namedK] using h
theorem plain_not {k : Int} (h : namedK k = false) : ¬ (k = 4 ∨ k = 5 ∨ k = 6 ∨ k = 7 ∨ k = 12 ∨ k = 13 ∨ k = 14 ∨ k = 15 ∨ k = 19 ∨ k = 20 ∨ k = 23 ∨ k = 24 ∨ k = 28 ∨ k = 31 ∨ k = 32 ∨ k = 33 ∨ k = 34) := by
  intro g
  have : namedK k = true := by unfold namedK; exact decide_eq_true g
  rw [h] at this
  cases this

set_option maxRecDepth 100000 in
set_option maxHeartbeats 4000000 in
theorem numberFits_any (k : Int) (t : ByteArray) (q : Int) (s : Option Addr) (kn c : Nat) (w : World) :
    Calls Tryz.prog 37 #[.agg #[.int .i64 k, .string t, .int .i64 q, .slice s kn c]] w fun e w' => e = .returned (.bool (nfB k q)) ∧ Below w.heap.size w w' := by
  have k0 := Blk.new w #[.int .i64 k, .string t, .int .i64 q, .slice s kn c] 57
  have L0 := bl_alloc (Below.refl _ w) (.cells #[.int .i64 k, .string t, .int .i64 q, .slice s kn c] 57)
  by_cases hs : k = 1 ∨ k = 3 ∨ k = 8 ∨ k = 9 ∨ k = 32 ∨ k = 33
  · rcases hs with rfl | rfl | rfl | rfl | rfl | rfl
    · have HE : Hid (nfB 1 q = (decide (0 ≤ q) && decide (q ≤ 999999999999999))) := rfl
      obtain ⟨x0, x1, x2, x3, x4⟩ := k0.four'
      by_cases h1 : 0 ≤ q
      · go_enter Tryz.func37, Tryz.ntmps37
        go_wp2_with fail
        go_ret
        exact ⟨ret_bool' (by rw [HE.out]; simp [h1]), L0⟩
      · go_enter Tryz.func37, Tryz.ntmps37
        go_wp2_with fail
        go_ret
        exact ⟨ret_bool' (by rw [HE.out]; symm; rw [Bool.and_eq_false_iff]; left; exact decide_eq_false (by omega)), L0⟩
    · have HE : Hid (nfB 3 q = (decide (0 ≤ q) && decide (q ≤ 1))) := rfl
      obtain ⟨x0, x1, x2, x3, x4⟩ := k0.four'
      by_cases h1 : 0 ≤ q
      · go_enter Tryz.func37, Tryz.ntmps37
        go_wp2_with fail
        go_ret
        exact ⟨ret_bool' (by rw [HE.out]; simp [h1]), L0⟩
      · go_enter Tryz.func37, Tryz.ntmps37
        go_wp2_with fail
        go_ret
        exact ⟨ret_bool' (by rw [HE.out]; symm; rw [Bool.and_eq_false_iff]; left; exact decide_eq_false (by omega)), L0⟩
    · have HE : Hid (nfB 8 q = (decide (1 ≤ q) && decide (q ≤ 9))) := rfl
      obtain ⟨x0, x1, x2, x3, x4⟩ := k0.four'
      by_cases h1 : 1 ≤ q
      · go_enter Tryz.func37, Tryz.ntmps37
        go_wp2_with fail
        go_ret
        exact ⟨ret_bool' (by rw [HE.out]; simp [h1]), L0⟩
      · go_enter Tryz.func37, Tryz.ntmps37
        go_wp2_with fail
        go_ret
        exact ⟨ret_bool' (by rw [HE.out]; symm; rw [Bool.and_eq_false_iff]; left; exact decide_eq_false (by omega)), L0⟩
    · have HE : Hid (nfB 9 q = (decide (1 ≤ q) && decide (q ≤ 6))) := rfl
      obtain ⟨x0, x1, x2, x3, x4⟩ := k0.four'
      by_cases h1 : 1 ≤ q
      · go_enter Tryz.func37, Tryz.ntmps37
        go_wp2_with fail
        go_ret
        exact ⟨ret_bool' (by rw [HE.out]; simp [h1]), L0⟩
      · go_enter Tryz.func37, Tryz.ntmps37
        go_wp2_with fail
        go_ret
        exact ⟨ret_bool' (by rw [HE.out]; symm; rw [Bool.and_eq_false_iff]; left; exact decide_eq_false (by omega)), L0⟩
    · have HE : Hid (nfB 32 q = (decide (1 ≤ q) && decide (q ≤ 4))) := rfl
      obtain ⟨x0, x1, x2, x3, x4⟩ := k0.four'
      by_cases h1 : 1 ≤ q
      · go_enter Tryz.func37, Tryz.ntmps37
        go_wp2_with fail
        go_ret
        exact ⟨ret_bool' (by rw [HE.out]; simp [h1]), L0⟩
      · go_enter Tryz.func37, Tryz.ntmps37
        go_wp2_with fail
        go_ret
        exact ⟨ret_bool' (by rw [HE.out]; symm; rw [Bool.and_eq_false_iff]; left; exact decide_eq_false (by omega)), L0⟩
    · have HE : Hid (nfB 33 q = (decide (1 ≤ q) && decide (q ≤ 4))) := rfl
      obtain ⟨x0, x1, x2, x3, x4⟩ := k0.four'
      by_cases h1 : 1 ≤ q
      · go_enter Tryz.func37, Tryz.ntmps37
        go_wp2_with fail
        go_ret
        exact ⟨ret_bool' (by rw [HE.out]; simp [h1]), L0⟩
      · go_enter Tryz.func37, Tryz.ntmps37
        go_wp2_with fail
        go_ret
        exact ⟨ret_bool' (by rw [HE.out]; symm; rw [Bool.and_eq_false_iff]; left; exact decide_eq_false (by omega)), L0⟩
  · have e1 : (k == 1) = false := by simp; omega
    have e3 : (k == 3) = false := by simp; omega
    have e8 : (k == 8) = false := by simp; omega
    have e9 : (k == 9) = false := by simp; omega
    have e32 : (k == 32) = false := by simp; omega
    have e33 : (k == 33) = false := by simp; omega
    have HE : Hid (nfB k q = (decide (0 ≤ q) && decide (q ≤ 0))) := by
      show _ = _
      unfold nfB loK hiK
      rw [if_neg (by omega), if_neg (by omega), if_neg (by omega), if_neg (by omega), if_neg (by omega), if_neg (by omega)]
    obtain ⟨x0, x1, x2, x3, x4⟩ := k0.four'
    clear hs k0
    by_cases h1 : 0 ≤ q
    · go_enter Tryz.func37, Tryz.ntmps37
      go_wp2_with fail
      go_ret
      exact ⟨ret_bool' (by rw [HE.out]; simp [h1]), L0⟩
    · go_enter Tryz.func37, Tryz.ntmps37
      go_wp2_with fail
      go_ret
      exact ⟨ret_bool' (by rw [HE.out]; symm; rw [Bool.and_eq_false_iff]; left; exact decide_eq_false (by omega)), L0⟩

set_option maxRecDepth 100000 in
set_option maxHeartbeats 4000000 in
theorem textFits_any (k : Int) (t : ByteArray) (ht : t.size ≤ 1048576) (q : Int) (s : Option Addr) (kn c mb : Nat) (w : World) (hm : w.ownsMap Tryz.prog 9 (unitElem (H := Unit)) mb 32 (wordMap words (.map []))) :
    Calls Tryz.prog 36 #[.agg #[.int .i64 k, .string t, .int .i64 q, .slice s kn c], .map (some mb)] w fun e w' => e = .returned (.bool (tfB k t)) ∧ Below w.heap.size w w' := by
  have hal := alloc_old
  have haf := alloc_oldf
  have k0 := Blk.new w #[.int .i64 k, .string t, .int .i64 q, .slice s kn c] 57
  have L0 := bl_alloc (Below.refl _ w) (.cells #[.int .i64 k, .string t, .int .i64 q, .slice s kn c] 57)
  by_cases h2 : k = 2
  · subst h2
    obtain ⟨x0, x1, x2, x3, x4⟩ := k0.four'
    have HE : Hid (tfB 2 t = realB t) := rfl
    clear hm
    go_enter Tryz.func36, Tryz.ntmps36
    go_wp2_with fail
    refine (implRealOf_any t ht _).mono ?_
    rintro e w1 ⟨hr, hb1⟩
    obtain ⟨r, rfl⟩ := hr.flag
    go_wp2_with fail
    go_ret
    exact ⟨ret_bool' (by rw [HE.out]), bl_trans L0 hb1⟩
  · cases hn : namedK k
    · have hp := plain_not hn
      have HE : Hid (tfB k t = decide (t = ⟨#[]⟩)) := by show _ = _; unfold tfB; rw [if_neg h2, hn]; rfl
      have g2 : (k == 2) = false := by simp [h2]
      have g4 : (k == 4) = false := by simp; omega
      have g5 : (k == 5) = false := by simp; omega
      have g6 : (k == 6) = false := by simp; omega
      have g7 : (k == 7) = false := by simp; omega
      have g12 : (k == 12) = false := by simp; omega
      have g13 : (k == 13) = false := by simp; omega
      have g14 : (k == 14) = false := by simp; omega
      have g15 : (k == 15) = false := by simp; omega
      have g19 : (k == 19) = false := by simp; omega
      have g20 : (k == 20) = false := by simp; omega
      have g23 : (k == 23) = false := by simp; omega
      have g24 : (k == 24) = false := by simp; omega
      have g28 : (k == 28) = false := by simp; omega
      have g31 : (k == 31) = false := by simp; omega
      have g32 : (k == 32) = false := by simp; omega
      have g33 : (k == 33) = false := by simp; omega
      have g34 : (k == 34) = false := by simp; omega
      obtain ⟨x0, x1, x2, x3, x4⟩ := k0.four'
      clear hm hp hn h2 k0
      by_cases he : t = ⟨#[]⟩
      · subst he
        go_enter Tryz.func36, Tryz.ntmps36
        go_wp2_with fail
        go_ret
        exact ⟨ret_bool' (by rw [HE.out]; simp), L0⟩
      · have q9 := not_empty he
        have HN : Hid (¬ t = ⟨#[]⟩) := he
        clear he
        go_enter Tryz.func36, Tryz.ntmps36
        go_wp2_with fail
        go_ret
        exact ⟨ret_bool' (by rw [HE.out]; simp [HN.out]; have h9 := not_empty HN.out; simpa using h9), L0⟩
    · have HE : Hid (tfB k t = (lettersB t && !isW t)) := by show _ = _; unfold tfB; rw [if_neg h2, hn]; rfl
      have hlk := word_look (hm.alloc (.cells #[.int .i64 k, .string t, .int .i64 q, .slice s kn c] 57)) t (by unfold maxLen; omega)
      have HS := named_split hn
      clear hn h2 hm
      cases hw : isW t <;> rw [hw] at hlk
      all_goals
        rcases HS with rfl | rfl | rfl | rfl | rfl | rfl | rfl | rfl | rfl | rfl | rfl | rfl | rfl | rfl | rfl | rfl | rfl
      all_goals
        obtain ⟨x0, x1, x2, x3, x4⟩ := k0.four'
        go_enter Tryz.func36, Tryz.ntmps36
        go_wp2_with fail
        refine (lettersOk_any t _).mono ?_
        rintro e w1 ⟨rfl, hb1, _⟩
        cases hl : lettersB t <;>
        · go_wp2_with fail
          go_ret
          exact ⟨ret_bool' (by rw [HE.out, hl, hw]; rfl), bl_trans (bl_alloc L0 _) hb1⟩
end Go.Proofs.YtknallkcengbbaaGreatDoor
