import Derived.Test.YtknallkcengbbaaGreatDoorOb
import Derived.Test.YtknallkcengbbaaGreatDoorMd
import Derived.Test.YtknallkcengbbaaGreatDoorXd
namespace Go.Proofs.YtknallkcengbbaaGreatDoor
open Go.RowKit
set_option linter.unusedVariables false
set_option linter.unusedSimpArgs false

noncomputable def realB (t : ByteArray) : Bool := @decide (∃ a k, RealAt t a k) (Classical.propDecidable _)
theorem RealSays.flag {t : ByteArray} {e : Ending} (h : RealSays t e) : ∃ r, e = .returned (.tuple #[.float .f64 r, .bool (realB t)]) := by
  rcases h with ⟨h1, h2⟩ | ⟨a, k, n, r, h1, _, _, _, h5⟩
  · exact ⟨0, by rw [h2]; simp [realB, h1]⟩
  · refine ⟨r, ?_⟩
    rw [h5]
    have : realB t = true := by unfold realB; exact @decide_eq_true _ (Classical.propDecidable _) ⟨a, k, h1⟩
    rw [this]
theorem not_empty {t : ByteArray} (h : ¬ t = ⟨#[]⟩) : (!t.toList.isEmpty) = true := by
  rw [ByteArray.toList_eq]
  cases hd : t.data.toList with
  | nil => exact absurd (by cases t; simp_all) h
  | cons a l => rfl
/-- the kinds that have a name. -/
def namedK (k : Int) : Bool := decide (k = 4 ∨ k = 5 ∨ k = 6 ∨ k = 7 ∨ k = 12 ∨ k = 13 ∨ k = 14 ∨ k = 15 ∨ k = 19 ∨ k = 20 ∨ k = 23 ∨ k = 24 ∨ k = 28 ∨ k = 31 ∨ k = 32 ∨ k = 33 ∨ k = 34)
/-- the number that a node of a kind may have. -/
def numB (k q : Int) : Bool := if k = 1 then decide (0 ≤ q) && decide (q ≤ 999999999999999) else if k = 3 then (q == 0 || q == 1) else if k = 8 then decide (1 ≤ q) && decide (q ≤ 9) else if k = 9 then decide (1 ≤ q) && decide (q ≤ 6) else if k = 32 ∨ k = 33 then decide (1 ≤ q) && decide (q ≤ 4) else q == 0
/-- a node's text and number are as its kind wants them. -/
noncomputable def hasB (k : Int) (t : ByteArray) (q : Int) : Bool := if k = 2 then realB t && (q == 0) else if namedK k then nameB t && numB k q else decide (t = ⟨#[]⟩) && numB k q
theorem has_named {k : Int} (h : namedK k = true) (t : ByteArray) (q : Int) : hasB k t q = (nameB t && numB k q) := by
  unfold hasB
  rw [if_neg (by rintro rfl; simp [namedK] at h), if_pos h]
theorem has_plain {k : Int} (h2 : ¬ k = 2) (h : namedK k = false) (t : ByteArray) (q : Int) : hasB k t q = (decide (t = ⟨#[]⟩) && numB k q) := by
  unfold hasB
  rw [if_neg h2, if_neg (by simp [h])]

set_option maxRecDepth 100000 in
set_option maxHeartbeats 4000000 in
theorem has_1 (t : ByteArray) (ht : t.size ≤ 1048576) (q : Int) (s : Option Addr) (kn c : Nat) (w : World) :
    Calls Tryz.prog 50 #[.agg #[.int .i64 1, .string t, .int .i64 q, .slice s kn c]] w fun e w' => e = .returned (.bool (hasB 1 t q)) ∧ Below w.heap.size w w' := by
  have hal := alloc_old
  have haf := alloc_oldf
  have k0 := Blk.new w #[.int .i64 1, .string t, .int .i64 q, .slice s kn c] 57
  have L0 := bl_alloc (Below.refl _ w) (.cells #[.int .i64 1, .string t, .int .i64 q, .slice s kn c] 57)
  obtain ⟨x0, x1, x2, x3, x4⟩ := k0.four'
  have HH : Hid (hasB 1 t q = (decide (t = ⟨#[]⟩) && numB 1 q)) := has_plain (by decide) (by decide) t q
  by_cases he : t = ⟨#[]⟩
  · subst he
    have HF : Hid (hasB 1 ⟨#[]⟩ q = numB 1 q) := by show _ = _; rw [HH.out]; simp
    clear HH
    go_enter Tryz.func50, Tryz.ntmps50
    go_wp2_with (go_at_call 47; refine (l1In_any _ _ _ _).mono ?_; rintro e w' ⟨rfl, rfl⟩)
    go_ret
    exact ⟨by rw [HF.out]; rfl, L0⟩
  · have HF : Hid (hasB 1 t q = false) := by show _ = _; rw [HH.out]; simp [he]
    have hne : (!t.toList.isEmpty) = true := not_empty he
    clear HH he
    go_enter Tryz.func50, Tryz.ntmps50
    go_wp2_with fail
    go_ret
    exact ⟨by rw [HF.out]; rfl, L0⟩

set_option maxRecDepth 100000 in
set_option maxHeartbeats 4000000 in
theorem has_2 (t : ByteArray) (ht : t.size ≤ 1048576) (q : Int) (s : Option Addr) (kn c : Nat) (w : World) :
    Calls Tryz.prog 50 #[.agg #[.int .i64 2, .string t, .int .i64 q, .slice s kn c]] w fun e w' => e = .returned (.bool (hasB 2 t q)) ∧ Below w.heap.size w w' := by
  have hal := alloc_old
  have haf := alloc_oldf
  have k0 := Blk.new w #[.int .i64 2, .string t, .int .i64 q, .slice s kn c] 57
  have L0 := bl_alloc (Below.refl _ w) (.cells #[.int .i64 2, .string t, .int .i64 q, .slice s kn c] 57)
  obtain ⟨x0, x1, x2, x3, x4⟩ := k0.four'
  have HH : Hid (hasB 2 t q = (realB t && (q == 0))) := rfl
  go_enter Tryz.func50, Tryz.ntmps50
  go_wp2_with fail
  refine (specRealOf_any t ht _).mono ?_
  rintro e w1 ⟨hr, hb1⟩
  obtain ⟨r, rfl⟩ := hr.flag
  have K1 := k0.later hb1
  have L1 := bl_trans L0 hb1
  clear x0 x1 x2 x3 x4 k0 L0 hb1 hr
  obtain ⟨x0, x1, x2, x3, x4⟩ := K1.four'
  cases hn : realB t
  · have HF : Hid (hasB 2 t q = false) := by show _ = _; rw [HH.out, hn]; rfl
    go_wp2_with fail
    go_ret
    exact ⟨by rw [HF.out]; rfl, L1⟩
  · have HF : Hid (hasB 2 t q = (q == 0)) := by show _ = _; rw [HH.out, hn]; rfl
    go_wp2_with fail
    go_ret
    exact ⟨by rw [HF.out]; rfl, L1⟩

set_option maxRecDepth 100000 in
set_option maxHeartbeats 4000000 in
theorem has_3 (t : ByteArray) (ht : t.size ≤ 1048576) (q : Int) (s : Option Addr) (kn c : Nat) (w : World) :
    Calls Tryz.prog 50 #[.agg #[.int .i64 3, .string t, .int .i64 q, .slice s kn c]] w fun e w' => e = .returned (.bool (hasB 3 t q)) ∧ Below w.heap.size w w' := by
  have hal := alloc_old
  have haf := alloc_oldf
  have k0 := Blk.new w #[.int .i64 3, .string t, .int .i64 q, .slice s kn c] 57
  have L0 := bl_alloc (Below.refl _ w) (.cells #[.int .i64 3, .string t, .int .i64 q, .slice s kn c] 57)
  obtain ⟨x0, x1, x2, x3, x4⟩ := k0.four'
  have HH : Hid (hasB 3 t q = (decide (t = ⟨#[]⟩) && numB 3 q)) := has_plain (by decide) (by decide) t q
  by_cases he : t = ⟨#[]⟩
  · subst he
    have HF : Hid (hasB 3 ⟨#[]⟩ q = numB 3 q) := by show _ = _; rw [HH.out]; simp
    clear HH
    go_enter Tryz.func50, Tryz.ntmps50
    by_cases h0 : q = 0
    · subst h0
      go_wp2_with fail
      go_ret
      exact ⟨by rw [HF.out]; rfl, L0⟩
    · have g0 : (q == 0) = false := by simp [h0]
      have HG : Hid (hasB 3 ⟨#[]⟩ q = (q == 1)) := by show _ = _; rw [HF.out]; show (q == 0 || q == 1) = _; rw [g0]; rfl
      go_wp2_with fail
      go_ret
      exact ⟨by rw [HG.out]; rfl, L0⟩
  · have HF : Hid (hasB 3 t q = false) := by show _ = _; rw [HH.out]; simp [he]
    have hne : (!t.toList.isEmpty) = true := not_empty he
    clear HH he
    go_enter Tryz.func50, Tryz.ntmps50
    go_wp2_with fail
    go_ret
    exact ⟨by rw [HF.out]; rfl, L0⟩

set_option maxRecDepth 100000 in
set_option maxHeartbeats 4000000 in
theorem has_4 (t : ByteArray) (ht : t.size ≤ 1048576) (q : Int) (s : Option Addr) (kn c : Nat) (w : World) :
    Calls Tryz.prog 50 #[.agg #[.int .i64 4, .string t, .int .i64 q, .slice s kn c]] w fun e w' => e = .returned (.bool (hasB 4 t q)) ∧ Below w.heap.size w w' := by
  have hal := alloc_old
  have haf := alloc_oldf
  have k0 := Blk.new w #[.int .i64 4, .string t, .int .i64 q, .slice s kn c] 57
  have L0 := bl_alloc (Below.refl _ w) (.cells #[.int .i64 4, .string t, .int .i64 q, .slice s kn c] 57)
  obtain ⟨x0, x1, x2, x3, x4⟩ := k0.four'
  have HH : Hid (hasB 4 t q = (nameB t && numB 4 q)) := has_named (by decide) t q
  go_enter Tryz.func50, Tryz.ntmps50
  go_wp2_with fail
  refine (specNameOk_any t _).mono ?_
  rintro e w1 ⟨rfl, hb1⟩
  have K1 := k0.later hb1
  have L1 := bl_trans L0 hb1
  clear x0 x1 x2 x3 x4 k0 L0 hb1
  obtain ⟨x0, x1, x2, x3, x4⟩ := K1.four'
  cases hn : nameB t
  · have HF : Hid (hasB 4 t q = false) := by show _ = _; rw [HH.out, hn]; rfl
    go_wp2_with fail
    go_ret
    exact ⟨by rw [HF.out]; rfl, L1⟩
  · have HF : Hid (hasB 4 t q = numB 4 q) := by show _ = _; rw [HH.out, hn]; rfl
    go_wp2_with fail
    go_ret
    exact ⟨by rw [HF.out]; rfl, L1⟩

set_option maxRecDepth 100000 in
set_option maxHeartbeats 4000000 in
theorem has_5 (t : ByteArray) (ht : t.size ≤ 1048576) (q : Int) (s : Option Addr) (kn c : Nat) (w : World) :
    Calls Tryz.prog 50 #[.agg #[.int .i64 5, .string t, .int .i64 q, .slice s kn c]] w fun e w' => e = .returned (.bool (hasB 5 t q)) ∧ Below w.heap.size w w' := by
  have hal := alloc_old
  have haf := alloc_oldf
  have k0 := Blk.new w #[.int .i64 5, .string t, .int .i64 q, .slice s kn c] 57
  have L0 := bl_alloc (Below.refl _ w) (.cells #[.int .i64 5, .string t, .int .i64 q, .slice s kn c] 57)
  obtain ⟨x0, x1, x2, x3, x4⟩ := k0.four'
  have HH : Hid (hasB 5 t q = (nameB t && numB 5 q)) := has_named (by decide) t q
  go_enter Tryz.func50, Tryz.ntmps50
  go_wp2_with fail
  refine (specNameOk_any t _).mono ?_
  rintro e w1 ⟨rfl, hb1⟩
  have K1 := k0.later hb1
  have L1 := bl_trans L0 hb1
  clear x0 x1 x2 x3 x4 k0 L0 hb1
  obtain ⟨x0, x1, x2, x3, x4⟩ := K1.four'
  cases hn : nameB t
  · have HF : Hid (hasB 5 t q = false) := by show _ = _; rw [HH.out, hn]; rfl
    go_wp2_with fail
    go_ret
    exact ⟨by rw [HF.out]; rfl, L1⟩
  · have HF : Hid (hasB 5 t q = numB 5 q) := by show _ = _; rw [HH.out, hn]; rfl
    go_wp2_with fail
    go_ret
    exact ⟨by rw [HF.out]; rfl, L1⟩

set_option maxRecDepth 100000 in
set_option maxHeartbeats 4000000 in
theorem has_6 (t : ByteArray) (ht : t.size ≤ 1048576) (q : Int) (s : Option Addr) (kn c : Nat) (w : World) :
    Calls Tryz.prog 50 #[.agg #[.int .i64 6, .string t, .int .i64 q, .slice s kn c]] w fun e w' => e = .returned (.bool (hasB 6 t q)) ∧ Below w.heap.size w w' := by
  have hal := alloc_old
  have haf := alloc_oldf
  have k0 := Blk.new w #[.int .i64 6, .string t, .int .i64 q, .slice s kn c] 57
  have L0 := bl_alloc (Below.refl _ w) (.cells #[.int .i64 6, .string t, .int .i64 q, .slice s kn c] 57)
  obtain ⟨x0, x1, x2, x3, x4⟩ := k0.four'
  have HH : Hid (hasB 6 t q = (nameB t && numB 6 q)) := has_named (by decide) t q
  go_enter Tryz.func50, Tryz.ntmps50
  go_wp2_with fail
  refine (specNameOk_any t _).mono ?_
  rintro e w1 ⟨rfl, hb1⟩
  have K1 := k0.later hb1
  have L1 := bl_trans L0 hb1
  clear x0 x1 x2 x3 x4 k0 L0 hb1
  obtain ⟨x0, x1, x2, x3, x4⟩ := K1.four'
  cases hn : nameB t
  · have HF : Hid (hasB 6 t q = false) := by show _ = _; rw [HH.out, hn]; rfl
    go_wp2_with fail
    go_ret
    exact ⟨by rw [HF.out]; rfl, L1⟩
  · have HF : Hid (hasB 6 t q = numB 6 q) := by show _ = _; rw [HH.out, hn]; rfl
    go_wp2_with fail
    go_ret
    exact ⟨by rw [HF.out]; rfl, L1⟩

set_option maxRecDepth 100000 in
set_option maxHeartbeats 4000000 in
theorem has_7 (t : ByteArray) (ht : t.size ≤ 1048576) (q : Int) (s : Option Addr) (kn c : Nat) (w : World) :
    Calls Tryz.prog 50 #[.agg #[.int .i64 7, .string t, .int .i64 q, .slice s kn c]] w fun e w' => e = .returned (.bool (hasB 7 t q)) ∧ Below w.heap.size w w' := by
  have hal := alloc_old
  have haf := alloc_oldf
  have k0 := Blk.new w #[.int .i64 7, .string t, .int .i64 q, .slice s kn c] 57
  have L0 := bl_alloc (Below.refl _ w) (.cells #[.int .i64 7, .string t, .int .i64 q, .slice s kn c] 57)
  obtain ⟨x0, x1, x2, x3, x4⟩ := k0.four'
  have HH : Hid (hasB 7 t q = (nameB t && numB 7 q)) := has_named (by decide) t q
  go_enter Tryz.func50, Tryz.ntmps50
  go_wp2_with fail
  refine (specNameOk_any t _).mono ?_
  rintro e w1 ⟨rfl, hb1⟩
  have K1 := k0.later hb1
  have L1 := bl_trans L0 hb1
  clear x0 x1 x2 x3 x4 k0 L0 hb1
  obtain ⟨x0, x1, x2, x3, x4⟩ := K1.four'
  cases hn : nameB t
  · have HF : Hid (hasB 7 t q = false) := by show _ = _; rw [HH.out, hn]; rfl
    go_wp2_with fail
    go_ret
    exact ⟨by rw [HF.out]; rfl, L1⟩
  · have HF : Hid (hasB 7 t q = numB 7 q) := by show _ = _; rw [HH.out, hn]; rfl
    go_wp2_with fail
    go_ret
    exact ⟨by rw [HF.out]; rfl, L1⟩

set_option maxRecDepth 100000 in
set_option maxHeartbeats 4000000 in
theorem has_8 (t : ByteArray) (ht : t.size ≤ 1048576) (q : Int) (s : Option Addr) (kn c : Nat) (w : World) :
    Calls Tryz.prog 50 #[.agg #[.int .i64 8, .string t, .int .i64 q, .slice s kn c]] w fun e w' => e = .returned (.bool (hasB 8 t q)) ∧ Below w.heap.size w w' := by
  have hal := alloc_old
  have haf := alloc_oldf
  have k0 := Blk.new w #[.int .i64 8, .string t, .int .i64 q, .slice s kn c] 57
  have L0 := bl_alloc (Below.refl _ w) (.cells #[.int .i64 8, .string t, .int .i64 q, .slice s kn c] 57)
  obtain ⟨x0, x1, x2, x3, x4⟩ := k0.four'
  have HH : Hid (hasB 8 t q = (decide (t = ⟨#[]⟩) && numB 8 q)) := has_plain (by decide) (by decide) t q
  by_cases he : t = ⟨#[]⟩
  · subst he
    have HF : Hid (hasB 8 ⟨#[]⟩ q = numB 8 q) := by show _ = _; rw [HH.out]; simp
    clear HH
    go_enter Tryz.func50, Tryz.ntmps50
    go_wp2_with (go_at_call 47; refine (l1In_any _ _ _ _).mono ?_; rintro e w' ⟨rfl, rfl⟩)
    go_ret
    exact ⟨by rw [HF.out]; rfl, L0⟩
  · have HF : Hid (hasB 8 t q = false) := by show _ = _; rw [HH.out]; simp [he]
    have hne : (!t.toList.isEmpty) = true := not_empty he
    clear HH he
    go_enter Tryz.func50, Tryz.ntmps50
    go_wp2_with fail
    go_ret
    exact ⟨by rw [HF.out]; rfl, L0⟩

set_option maxRecDepth 100000 in
set_option maxHeartbeats 4000000 in
theorem has_9 (t : ByteArray) (ht : t.size ≤ 1048576) (q : Int) (s : Option Addr) (kn c : Nat) (w : World) :
    Calls Tryz.prog 50 #[.agg #[.int .i64 9, .string t, .int .i64 q, .slice s kn c]] w fun e w' => e = .returned (.bool (hasB 9 t q)) ∧ Below w.heap.size w w' := by
  have hal := alloc_old
  have haf := alloc_oldf
  have k0 := Blk.new w #[.int .i64 9, .string t, .int .i64 q, .slice s kn c] 57
  have L0 := bl_alloc (Below.refl _ w) (.cells #[.int .i64 9, .string t, .int .i64 q, .slice s kn c] 57)
  obtain ⟨x0, x1, x2, x3, x4⟩ := k0.four'
  have HH : Hid (hasB 9 t q = (decide (t = ⟨#[]⟩) && numB 9 q)) := has_plain (by decide) (by decide) t q
  by_cases he : t = ⟨#[]⟩
  · subst he
    have HF : Hid (hasB 9 ⟨#[]⟩ q = numB 9 q) := by show _ = _; rw [HH.out]; simp
    clear HH
    go_enter Tryz.func50, Tryz.ntmps50
    go_wp2_with (go_at_call 47; refine (l1In_any _ _ _ _).mono ?_; rintro e w' ⟨rfl, rfl⟩)
    go_ret
    exact ⟨by rw [HF.out]; rfl, L0⟩
  · have HF : Hid (hasB 9 t q = false) := by show _ = _; rw [HH.out]; simp [he]
    have hne : (!t.toList.isEmpty) = true := not_empty he
    clear HH he
    go_enter Tryz.func50, Tryz.ntmps50
    go_wp2_with fail
    go_ret
    exact ⟨by rw [HF.out]; rfl, L0⟩

set_option maxRecDepth 100000 in
set_option maxHeartbeats 4000000 in
theorem has_10 (t : ByteArray) (ht : t.size ≤ 1048576) (q : Int) (s : Option Addr) (kn c : Nat) (w : World) :
    Calls Tryz.prog 50 #[.agg #[.int .i64 10, .string t, .int .i64 q, .slice s kn c]] w fun e w' => e = .returned (.bool (hasB 10 t q)) ∧ Below w.heap.size w w' := by
  have hal := alloc_old
  have haf := alloc_oldf
  have k0 := Blk.new w #[.int .i64 10, .string t, .int .i64 q, .slice s kn c] 57
  have L0 := bl_alloc (Below.refl _ w) (.cells #[.int .i64 10, .string t, .int .i64 q, .slice s kn c] 57)
  obtain ⟨x0, x1, x2, x3, x4⟩ := k0.four'
  have HH : Hid (hasB 10 t q = (decide (t = ⟨#[]⟩) && numB 10 q)) := has_plain (by decide) (by decide) t q
  by_cases he : t = ⟨#[]⟩
  · subst he
    have HF : Hid (hasB 10 ⟨#[]⟩ q = numB 10 q) := by show _ = _; rw [HH.out]; simp
    clear HH
    go_enter Tryz.func50, Tryz.ntmps50
    go_wp2_with fail
    go_ret
    exact ⟨by rw [HF.out]; rfl, L0⟩
  · have HF : Hid (hasB 10 t q = false) := by show _ = _; rw [HH.out]; simp [he]
    have hne : (!t.toList.isEmpty) = true := not_empty he
    clear HH he
    go_enter Tryz.func50, Tryz.ntmps50
    go_wp2_with fail
    go_ret
    exact ⟨by rw [HF.out]; rfl, L0⟩

set_option maxRecDepth 100000 in
set_option maxHeartbeats 4000000 in
theorem has_11 (t : ByteArray) (ht : t.size ≤ 1048576) (q : Int) (s : Option Addr) (kn c : Nat) (w : World) :
    Calls Tryz.prog 50 #[.agg #[.int .i64 11, .string t, .int .i64 q, .slice s kn c]] w fun e w' => e = .returned (.bool (hasB 11 t q)) ∧ Below w.heap.size w w' := by
  have hal := alloc_old
  have haf := alloc_oldf
  have k0 := Blk.new w #[.int .i64 11, .string t, .int .i64 q, .slice s kn c] 57
  have L0 := bl_alloc (Below.refl _ w) (.cells #[.int .i64 11, .string t, .int .i64 q, .slice s kn c] 57)
  obtain ⟨x0, x1, x2, x3, x4⟩ := k0.four'
  have HH : Hid (hasB 11 t q = (decide (t = ⟨#[]⟩) && numB 11 q)) := has_plain (by decide) (by decide) t q
  by_cases he : t = ⟨#[]⟩
  · subst he
    have HF : Hid (hasB 11 ⟨#[]⟩ q = numB 11 q) := by show _ = _; rw [HH.out]; simp
    clear HH
    go_enter Tryz.func50, Tryz.ntmps50
    go_wp2_with fail
    go_ret
    exact ⟨by rw [HF.out]; rfl, L0⟩
  · have HF : Hid (hasB 11 t q = false) := by show _ = _; rw [HH.out]; simp [he]
    have hne : (!t.toList.isEmpty) = true := not_empty he
    clear HH he
    go_enter Tryz.func50, Tryz.ntmps50
    go_wp2_with fail
    go_ret
    exact ⟨by rw [HF.out]; rfl, L0⟩

set_option maxRecDepth 100000 in
set_option maxHeartbeats 4000000 in
theorem has_12 (t : ByteArray) (ht : t.size ≤ 1048576) (q : Int) (s : Option Addr) (kn c : Nat) (w : World) :
    Calls Tryz.prog 50 #[.agg #[.int .i64 12, .string t, .int .i64 q, .slice s kn c]] w fun e w' => e = .returned (.bool (hasB 12 t q)) ∧ Below w.heap.size w w' := by
  have hal := alloc_old
  have haf := alloc_oldf
  have k0 := Blk.new w #[.int .i64 12, .string t, .int .i64 q, .slice s kn c] 57
  have L0 := bl_alloc (Below.refl _ w) (.cells #[.int .i64 12, .string t, .int .i64 q, .slice s kn c] 57)
  obtain ⟨x0, x1, x2, x3, x4⟩ := k0.four'
  have HH : Hid (hasB 12 t q = (nameB t && numB 12 q)) := has_named (by decide) t q
  go_enter Tryz.func50, Tryz.ntmps50
  go_wp2_with fail
  refine (specNameOk_any t _).mono ?_
  rintro e w1 ⟨rfl, hb1⟩
  have K1 := k0.later hb1
  have L1 := bl_trans L0 hb1
  clear x0 x1 x2 x3 x4 k0 L0 hb1
  obtain ⟨x0, x1, x2, x3, x4⟩ := K1.four'
  cases hn : nameB t
  · have HF : Hid (hasB 12 t q = false) := by show _ = _; rw [HH.out, hn]; rfl
    go_wp2_with fail
    go_ret
    exact ⟨by rw [HF.out]; rfl, L1⟩
  · have HF : Hid (hasB 12 t q = numB 12 q) := by show _ = _; rw [HH.out, hn]; rfl
    go_wp2_with fail
    go_ret
    exact ⟨by rw [HF.out]; rfl, L1⟩

set_option maxRecDepth 100000 in
set_option maxHeartbeats 4000000 in
theorem has_13 (t : ByteArray) (ht : t.size ≤ 1048576) (q : Int) (s : Option Addr) (kn c : Nat) (w : World) :
    Calls Tryz.prog 50 #[.agg #[.int .i64 13, .string t, .int .i64 q, .slice s kn c]] w fun e w' => e = .returned (.bool (hasB 13 t q)) ∧ Below w.heap.size w w' := by
  have hal := alloc_old
  have haf := alloc_oldf
  have k0 := Blk.new w #[.int .i64 13, .string t, .int .i64 q, .slice s kn c] 57
  have L0 := bl_alloc (Below.refl _ w) (.cells #[.int .i64 13, .string t, .int .i64 q, .slice s kn c] 57)
  obtain ⟨x0, x1, x2, x3, x4⟩ := k0.four'
  have HH : Hid (hasB 13 t q = (nameB t && numB 13 q)) := has_named (by decide) t q
  go_enter Tryz.func50, Tryz.ntmps50
  go_wp2_with fail
  refine (specNameOk_any t _).mono ?_
  rintro e w1 ⟨rfl, hb1⟩
  have K1 := k0.later hb1
  have L1 := bl_trans L0 hb1
  clear x0 x1 x2 x3 x4 k0 L0 hb1
  obtain ⟨x0, x1, x2, x3, x4⟩ := K1.four'
  cases hn : nameB t
  · have HF : Hid (hasB 13 t q = false) := by show _ = _; rw [HH.out, hn]; rfl
    go_wp2_with fail
    go_ret
    exact ⟨by rw [HF.out]; rfl, L1⟩
  · have HF : Hid (hasB 13 t q = numB 13 q) := by show _ = _; rw [HH.out, hn]; rfl
    go_wp2_with fail
    go_ret
    exact ⟨by rw [HF.out]; rfl, L1⟩

set_option maxRecDepth 100000 in
set_option maxHeartbeats 4000000 in
theorem has_14 (t : ByteArray) (ht : t.size ≤ 1048576) (q : Int) (s : Option Addr) (kn c : Nat) (w : World) :
    Calls Tryz.prog 50 #[.agg #[.int .i64 14, .string t, .int .i64 q, .slice s kn c]] w fun e w' => e = .returned (.bool (hasB 14 t q)) ∧ Below w.heap.size w w' := by
  have hal := alloc_old
  have haf := alloc_oldf
  have k0 := Blk.new w #[.int .i64 14, .string t, .int .i64 q, .slice s kn c] 57
  have L0 := bl_alloc (Below.refl _ w) (.cells #[.int .i64 14, .string t, .int .i64 q, .slice s kn c] 57)
  obtain ⟨x0, x1, x2, x3, x4⟩ := k0.four'
  have HH : Hid (hasB 14 t q = (nameB t && numB 14 q)) := has_named (by decide) t q
  go_enter Tryz.func50, Tryz.ntmps50
  go_wp2_with fail
  refine (specNameOk_any t _).mono ?_
  rintro e w1 ⟨rfl, hb1⟩
  have K1 := k0.later hb1
  have L1 := bl_trans L0 hb1
  clear x0 x1 x2 x3 x4 k0 L0 hb1
  obtain ⟨x0, x1, x2, x3, x4⟩ := K1.four'
  cases hn : nameB t
  · have HF : Hid (hasB 14 t q = false) := by show _ = _; rw [HH.out, hn]; rfl
    go_wp2_with fail
    go_ret
    exact ⟨by rw [HF.out]; rfl, L1⟩
  · have HF : Hid (hasB 14 t q = numB 14 q) := by show _ = _; rw [HH.out, hn]; rfl
    go_wp2_with fail
    go_ret
    exact ⟨by rw [HF.out]; rfl, L1⟩

set_option maxRecDepth 100000 in
set_option maxHeartbeats 4000000 in
theorem has_15 (t : ByteArray) (ht : t.size ≤ 1048576) (q : Int) (s : Option Addr) (kn c : Nat) (w : World) :
    Calls Tryz.prog 50 #[.agg #[.int .i64 15, .string t, .int .i64 q, .slice s kn c]] w fun e w' => e = .returned (.bool (hasB 15 t q)) ∧ Below w.heap.size w w' := by
  have hal := alloc_old
  have haf := alloc_oldf
  have k0 := Blk.new w #[.int .i64 15, .string t, .int .i64 q, .slice s kn c] 57
  have L0 := bl_alloc (Below.refl _ w) (.cells #[.int .i64 15, .string t, .int .i64 q, .slice s kn c] 57)
  obtain ⟨x0, x1, x2, x3, x4⟩ := k0.four'
  have HH : Hid (hasB 15 t q = (nameB t && numB 15 q)) := has_named (by decide) t q
  go_enter Tryz.func50, Tryz.ntmps50
  go_wp2_with fail
  refine (specNameOk_any t _).mono ?_
  rintro e w1 ⟨rfl, hb1⟩
  have K1 := k0.later hb1
  have L1 := bl_trans L0 hb1
  clear x0 x1 x2 x3 x4 k0 L0 hb1
  obtain ⟨x0, x1, x2, x3, x4⟩ := K1.four'
  cases hn : nameB t
  · have HF : Hid (hasB 15 t q = false) := by show _ = _; rw [HH.out, hn]; rfl
    go_wp2_with fail
    go_ret
    exact ⟨by rw [HF.out]; rfl, L1⟩
  · have HF : Hid (hasB 15 t q = numB 15 q) := by show _ = _; rw [HH.out, hn]; rfl
    go_wp2_with fail
    go_ret
    exact ⟨by rw [HF.out]; rfl, L1⟩

set_option maxRecDepth 100000 in
set_option maxHeartbeats 4000000 in
theorem has_16 (t : ByteArray) (ht : t.size ≤ 1048576) (q : Int) (s : Option Addr) (kn c : Nat) (w : World) :
    Calls Tryz.prog 50 #[.agg #[.int .i64 16, .string t, .int .i64 q, .slice s kn c]] w fun e w' => e = .returned (.bool (hasB 16 t q)) ∧ Below w.heap.size w w' := by
  have hal := alloc_old
  have haf := alloc_oldf
  have k0 := Blk.new w #[.int .i64 16, .string t, .int .i64 q, .slice s kn c] 57
  have L0 := bl_alloc (Below.refl _ w) (.cells #[.int .i64 16, .string t, .int .i64 q, .slice s kn c] 57)
  obtain ⟨x0, x1, x2, x3, x4⟩ := k0.four'
  have HH : Hid (hasB 16 t q = (decide (t = ⟨#[]⟩) && numB 16 q)) := has_plain (by decide) (by decide) t q
  by_cases he : t = ⟨#[]⟩
  · subst he
    have HF : Hid (hasB 16 ⟨#[]⟩ q = numB 16 q) := by show _ = _; rw [HH.out]; simp
    clear HH
    go_enter Tryz.func50, Tryz.ntmps50
    go_wp2_with fail
    go_ret
    exact ⟨by rw [HF.out]; rfl, L0⟩
  · have HF : Hid (hasB 16 t q = false) := by show _ = _; rw [HH.out]; simp [he]
    have hne : (!t.toList.isEmpty) = true := not_empty he
    clear HH he
    go_enter Tryz.func50, Tryz.ntmps50
    go_wp2_with fail
    go_ret
    exact ⟨by rw [HF.out]; rfl, L0⟩

set_option maxRecDepth 100000 in
set_option maxHeartbeats 4000000 in
theorem has_17 (t : ByteArray) (ht : t.size ≤ 1048576) (q : Int) (s : Option Addr) (kn c : Nat) (w : World) :
    Calls Tryz.prog 50 #[.agg #[.int .i64 17, .string t, .int .i64 q, .slice s kn c]] w fun e w' => e = .returned (.bool (hasB 17 t q)) ∧ Below w.heap.size w w' := by
  have hal := alloc_old
  have haf := alloc_oldf
  have k0 := Blk.new w #[.int .i64 17, .string t, .int .i64 q, .slice s kn c] 57
  have L0 := bl_alloc (Below.refl _ w) (.cells #[.int .i64 17, .string t, .int .i64 q, .slice s kn c] 57)
  obtain ⟨x0, x1, x2, x3, x4⟩ := k0.four'
  have HH : Hid (hasB 17 t q = (decide (t = ⟨#[]⟩) && numB 17 q)) := has_plain (by decide) (by decide) t q
  by_cases he : t = ⟨#[]⟩
  · subst he
    have HF : Hid (hasB 17 ⟨#[]⟩ q = numB 17 q) := by show _ = _; rw [HH.out]; simp
    clear HH
    go_enter Tryz.func50, Tryz.ntmps50
    go_wp2_with fail
    go_ret
    exact ⟨by rw [HF.out]; rfl, L0⟩
  · have HF : Hid (hasB 17 t q = false) := by show _ = _; rw [HH.out]; simp [he]
    have hne : (!t.toList.isEmpty) = true := not_empty he
    clear HH he
    go_enter Tryz.func50, Tryz.ntmps50
    go_wp2_with fail
    go_ret
    exact ⟨by rw [HF.out]; rfl, L0⟩

set_option maxRecDepth 100000 in
set_option maxHeartbeats 4000000 in
theorem has_18 (t : ByteArray) (ht : t.size ≤ 1048576) (q : Int) (s : Option Addr) (kn c : Nat) (w : World) :
    Calls Tryz.prog 50 #[.agg #[.int .i64 18, .string t, .int .i64 q, .slice s kn c]] w fun e w' => e = .returned (.bool (hasB 18 t q)) ∧ Below w.heap.size w w' := by
  have hal := alloc_old
  have haf := alloc_oldf
  have k0 := Blk.new w #[.int .i64 18, .string t, .int .i64 q, .slice s kn c] 57
  have L0 := bl_alloc (Below.refl _ w) (.cells #[.int .i64 18, .string t, .int .i64 q, .slice s kn c] 57)
  obtain ⟨x0, x1, x2, x3, x4⟩ := k0.four'
  have HH : Hid (hasB 18 t q = (decide (t = ⟨#[]⟩) && numB 18 q)) := has_plain (by decide) (by decide) t q
  by_cases he : t = ⟨#[]⟩
  · subst he
    have HF : Hid (hasB 18 ⟨#[]⟩ q = numB 18 q) := by show _ = _; rw [HH.out]; simp
    clear HH
    go_enter Tryz.func50, Tryz.ntmps50
    go_wp2_with fail
    go_ret
    exact ⟨by rw [HF.out]; rfl, L0⟩
  · have HF : Hid (hasB 18 t q = false) := by show _ = _; rw [HH.out]; simp [he]
    have hne : (!t.toList.isEmpty) = true := not_empty he
    clear HH he
    go_enter Tryz.func50, Tryz.ntmps50
    go_wp2_with fail
    go_ret
    exact ⟨by rw [HF.out]; rfl, L0⟩

set_option maxRecDepth 100000 in
set_option maxHeartbeats 4000000 in
theorem has_19 (t : ByteArray) (ht : t.size ≤ 1048576) (q : Int) (s : Option Addr) (kn c : Nat) (w : World) :
    Calls Tryz.prog 50 #[.agg #[.int .i64 19, .string t, .int .i64 q, .slice s kn c]] w fun e w' => e = .returned (.bool (hasB 19 t q)) ∧ Below w.heap.size w w' := by
  have hal := alloc_old
  have haf := alloc_oldf
  have k0 := Blk.new w #[.int .i64 19, .string t, .int .i64 q, .slice s kn c] 57
  have L0 := bl_alloc (Below.refl _ w) (.cells #[.int .i64 19, .string t, .int .i64 q, .slice s kn c] 57)
  obtain ⟨x0, x1, x2, x3, x4⟩ := k0.four'
  have HH : Hid (hasB 19 t q = (nameB t && numB 19 q)) := has_named (by decide) t q
  go_enter Tryz.func50, Tryz.ntmps50
  go_wp2_with fail
  refine (specNameOk_any t _).mono ?_
  rintro e w1 ⟨rfl, hb1⟩
  have K1 := k0.later hb1
  have L1 := bl_trans L0 hb1
  clear x0 x1 x2 x3 x4 k0 L0 hb1
  obtain ⟨x0, x1, x2, x3, x4⟩ := K1.four'
  cases hn : nameB t
  · have HF : Hid (hasB 19 t q = false) := by show _ = _; rw [HH.out, hn]; rfl
    go_wp2_with fail
    go_ret
    exact ⟨by rw [HF.out]; rfl, L1⟩
  · have HF : Hid (hasB 19 t q = numB 19 q) := by show _ = _; rw [HH.out, hn]; rfl
    go_wp2_with fail
    go_ret
    exact ⟨by rw [HF.out]; rfl, L1⟩

set_option maxRecDepth 100000 in
set_option maxHeartbeats 4000000 in
theorem has_20 (t : ByteArray) (ht : t.size ≤ 1048576) (q : Int) (s : Option Addr) (kn c : Nat) (w : World) :
    Calls Tryz.prog 50 #[.agg #[.int .i64 20, .string t, .int .i64 q, .slice s kn c]] w fun e w' => e = .returned (.bool (hasB 20 t q)) ∧ Below w.heap.size w w' := by
  have hal := alloc_old
  have haf := alloc_oldf
  have k0 := Blk.new w #[.int .i64 20, .string t, .int .i64 q, .slice s kn c] 57
  have L0 := bl_alloc (Below.refl _ w) (.cells #[.int .i64 20, .string t, .int .i64 q, .slice s kn c] 57)
  obtain ⟨x0, x1, x2, x3, x4⟩ := k0.four'
  have HH : Hid (hasB 20 t q = (nameB t && numB 20 q)) := has_named (by decide) t q
  go_enter Tryz.func50, Tryz.ntmps50
  go_wp2_with fail
  refine (specNameOk_any t _).mono ?_
  rintro e w1 ⟨rfl, hb1⟩
  have K1 := k0.later hb1
  have L1 := bl_trans L0 hb1
  clear x0 x1 x2 x3 x4 k0 L0 hb1
  obtain ⟨x0, x1, x2, x3, x4⟩ := K1.four'
  cases hn : nameB t
  · have HF : Hid (hasB 20 t q = false) := by show _ = _; rw [HH.out, hn]; rfl
    go_wp2_with fail
    go_ret
    exact ⟨by rw [HF.out]; rfl, L1⟩
  · have HF : Hid (hasB 20 t q = numB 20 q) := by show _ = _; rw [HH.out, hn]; rfl
    go_wp2_with fail
    go_ret
    exact ⟨by rw [HF.out]; rfl, L1⟩

set_option maxRecDepth 100000 in
set_option maxHeartbeats 4000000 in
theorem has_21 (t : ByteArray) (ht : t.size ≤ 1048576) (q : Int) (s : Option Addr) (kn c : Nat) (w : World) :
    Calls Tryz.prog 50 #[.agg #[.int .i64 21, .string t, .int .i64 q, .slice s kn c]] w fun e w' => e = .returned (.bool (hasB 21 t q)) ∧ Below w.heap.size w w' := by
  have hal := alloc_old
  have haf := alloc_oldf
  have k0 := Blk.new w #[.int .i64 21, .string t, .int .i64 q, .slice s kn c] 57
  have L0 := bl_alloc (Below.refl _ w) (.cells #[.int .i64 21, .string t, .int .i64 q, .slice s kn c] 57)
  obtain ⟨x0, x1, x2, x3, x4⟩ := k0.four'
  have HH : Hid (hasB 21 t q = (decide (t = ⟨#[]⟩) && numB 21 q)) := has_plain (by decide) (by decide) t q
  by_cases he : t = ⟨#[]⟩
  · subst he
    have HF : Hid (hasB 21 ⟨#[]⟩ q = numB 21 q) := by show _ = _; rw [HH.out]; simp
    clear HH
    go_enter Tryz.func50, Tryz.ntmps50
    go_wp2_with fail
    go_ret
    exact ⟨by rw [HF.out]; rfl, L0⟩
  · have HF : Hid (hasB 21 t q = false) := by show _ = _; rw [HH.out]; simp [he]
    have hne : (!t.toList.isEmpty) = true := not_empty he
    clear HH he
    go_enter Tryz.func50, Tryz.ntmps50
    go_wp2_with fail
    go_ret
    exact ⟨by rw [HF.out]; rfl, L0⟩

set_option maxRecDepth 100000 in
set_option maxHeartbeats 4000000 in
theorem has_22 (t : ByteArray) (ht : t.size ≤ 1048576) (q : Int) (s : Option Addr) (kn c : Nat) (w : World) :
    Calls Tryz.prog 50 #[.agg #[.int .i64 22, .string t, .int .i64 q, .slice s kn c]] w fun e w' => e = .returned (.bool (hasB 22 t q)) ∧ Below w.heap.size w w' := by
  have hal := alloc_old
  have haf := alloc_oldf
  have k0 := Blk.new w #[.int .i64 22, .string t, .int .i64 q, .slice s kn c] 57
  have L0 := bl_alloc (Below.refl _ w) (.cells #[.int .i64 22, .string t, .int .i64 q, .slice s kn c] 57)
  obtain ⟨x0, x1, x2, x3, x4⟩ := k0.four'
  have HH : Hid (hasB 22 t q = (decide (t = ⟨#[]⟩) && numB 22 q)) := has_plain (by decide) (by decide) t q
  by_cases he : t = ⟨#[]⟩
  · subst he
    have HF : Hid (hasB 22 ⟨#[]⟩ q = numB 22 q) := by show _ = _; rw [HH.out]; simp
    clear HH
    go_enter Tryz.func50, Tryz.ntmps50
    go_wp2_with fail
    go_ret
    exact ⟨by rw [HF.out]; rfl, L0⟩
  · have HF : Hid (hasB 22 t q = false) := by show _ = _; rw [HH.out]; simp [he]
    have hne : (!t.toList.isEmpty) = true := not_empty he
    clear HH he
    go_enter Tryz.func50, Tryz.ntmps50
    go_wp2_with fail
    go_ret
    exact ⟨by rw [HF.out]; rfl, L0⟩

set_option maxRecDepth 100000 in
set_option maxHeartbeats 4000000 in
theorem has_23 (t : ByteArray) (ht : t.size ≤ 1048576) (q : Int) (s : Option Addr) (kn c : Nat) (w : World) :
    Calls Tryz.prog 50 #[.agg #[.int .i64 23, .string t, .int .i64 q, .slice s kn c]] w fun e w' => e = .returned (.bool (hasB 23 t q)) ∧ Below w.heap.size w w' := by
  have hal := alloc_old
  have haf := alloc_oldf
  have k0 := Blk.new w #[.int .i64 23, .string t, .int .i64 q, .slice s kn c] 57
  have L0 := bl_alloc (Below.refl _ w) (.cells #[.int .i64 23, .string t, .int .i64 q, .slice s kn c] 57)
  obtain ⟨x0, x1, x2, x3, x4⟩ := k0.four'
  have HH : Hid (hasB 23 t q = (nameB t && numB 23 q)) := has_named (by decide) t q
  go_enter Tryz.func50, Tryz.ntmps50
  go_wp2_with fail
  refine (specNameOk_any t _).mono ?_
  rintro e w1 ⟨rfl, hb1⟩
  have K1 := k0.later hb1
  have L1 := bl_trans L0 hb1
  clear x0 x1 x2 x3 x4 k0 L0 hb1
  obtain ⟨x0, x1, x2, x3, x4⟩ := K1.four'
  cases hn : nameB t
  · have HF : Hid (hasB 23 t q = false) := by show _ = _; rw [HH.out, hn]; rfl
    go_wp2_with fail
    go_ret
    exact ⟨by rw [HF.out]; rfl, L1⟩
  · have HF : Hid (hasB 23 t q = numB 23 q) := by show _ = _; rw [HH.out, hn]; rfl
    go_wp2_with fail
    go_ret
    exact ⟨by rw [HF.out]; rfl, L1⟩

set_option maxRecDepth 100000 in
set_option maxHeartbeats 4000000 in
theorem has_24 (t : ByteArray) (ht : t.size ≤ 1048576) (q : Int) (s : Option Addr) (kn c : Nat) (w : World) :
    Calls Tryz.prog 50 #[.agg #[.int .i64 24, .string t, .int .i64 q, .slice s kn c]] w fun e w' => e = .returned (.bool (hasB 24 t q)) ∧ Below w.heap.size w w' := by
  have hal := alloc_old
  have haf := alloc_oldf
  have k0 := Blk.new w #[.int .i64 24, .string t, .int .i64 q, .slice s kn c] 57
  have L0 := bl_alloc (Below.refl _ w) (.cells #[.int .i64 24, .string t, .int .i64 q, .slice s kn c] 57)
  obtain ⟨x0, x1, x2, x3, x4⟩ := k0.four'
  have HH : Hid (hasB 24 t q = (nameB t && numB 24 q)) := has_named (by decide) t q
  go_enter Tryz.func50, Tryz.ntmps50
  go_wp2_with fail
  refine (specNameOk_any t _).mono ?_
  rintro e w1 ⟨rfl, hb1⟩
  have K1 := k0.later hb1
  have L1 := bl_trans L0 hb1
  clear x0 x1 x2 x3 x4 k0 L0 hb1
  obtain ⟨x0, x1, x2, x3, x4⟩ := K1.four'
  cases hn : nameB t
  · have HF : Hid (hasB 24 t q = false) := by show _ = _; rw [HH.out, hn]; rfl
    go_wp2_with fail
    go_ret
    exact ⟨by rw [HF.out]; rfl, L1⟩
  · have HF : Hid (hasB 24 t q = numB 24 q) := by show _ = _; rw [HH.out, hn]; rfl
    go_wp2_with fail
    go_ret
    exact ⟨by rw [HF.out]; rfl, L1⟩

set_option maxRecDepth 100000 in
set_option maxHeartbeats 4000000 in
theorem has_25 (t : ByteArray) (ht : t.size ≤ 1048576) (q : Int) (s : Option Addr) (kn c : Nat) (w : World) :
    Calls Tryz.prog 50 #[.agg #[.int .i64 25, .string t, .int .i64 q, .slice s kn c]] w fun e w' => e = .returned (.bool (hasB 25 t q)) ∧ Below w.heap.size w w' := by
  have hal := alloc_old
  have haf := alloc_oldf
  have k0 := Blk.new w #[.int .i64 25, .string t, .int .i64 q, .slice s kn c] 57
  have L0 := bl_alloc (Below.refl _ w) (.cells #[.int .i64 25, .string t, .int .i64 q, .slice s kn c] 57)
  obtain ⟨x0, x1, x2, x3, x4⟩ := k0.four'
  have HH : Hid (hasB 25 t q = (decide (t = ⟨#[]⟩) && numB 25 q)) := has_plain (by decide) (by decide) t q
  by_cases he : t = ⟨#[]⟩
  · subst he
    have HF : Hid (hasB 25 ⟨#[]⟩ q = numB 25 q) := by show _ = _; rw [HH.out]; simp
    clear HH
    go_enter Tryz.func50, Tryz.ntmps50
    go_wp2_with fail
    go_ret
    exact ⟨by rw [HF.out]; rfl, L0⟩
  · have HF : Hid (hasB 25 t q = false) := by show _ = _; rw [HH.out]; simp [he]
    have hne : (!t.toList.isEmpty) = true := not_empty he
    clear HH he
    go_enter Tryz.func50, Tryz.ntmps50
    go_wp2_with fail
    go_ret
    exact ⟨by rw [HF.out]; rfl, L0⟩

set_option maxRecDepth 100000 in
set_option maxHeartbeats 4000000 in
theorem has_26 (t : ByteArray) (ht : t.size ≤ 1048576) (q : Int) (s : Option Addr) (kn c : Nat) (w : World) :
    Calls Tryz.prog 50 #[.agg #[.int .i64 26, .string t, .int .i64 q, .slice s kn c]] w fun e w' => e = .returned (.bool (hasB 26 t q)) ∧ Below w.heap.size w w' := by
  have hal := alloc_old
  have haf := alloc_oldf
  have k0 := Blk.new w #[.int .i64 26, .string t, .int .i64 q, .slice s kn c] 57
  have L0 := bl_alloc (Below.refl _ w) (.cells #[.int .i64 26, .string t, .int .i64 q, .slice s kn c] 57)
  obtain ⟨x0, x1, x2, x3, x4⟩ := k0.four'
  have HH : Hid (hasB 26 t q = (decide (t = ⟨#[]⟩) && numB 26 q)) := has_plain (by decide) (by decide) t q
  by_cases he : t = ⟨#[]⟩
  · subst he
    have HF : Hid (hasB 26 ⟨#[]⟩ q = numB 26 q) := by show _ = _; rw [HH.out]; simp
    clear HH
    go_enter Tryz.func50, Tryz.ntmps50
    go_wp2_with fail
    go_ret
    exact ⟨by rw [HF.out]; rfl, L0⟩
  · have HF : Hid (hasB 26 t q = false) := by show _ = _; rw [HH.out]; simp [he]
    have hne : (!t.toList.isEmpty) = true := not_empty he
    clear HH he
    go_enter Tryz.func50, Tryz.ntmps50
    go_wp2_with fail
    go_ret
    exact ⟨by rw [HF.out]; rfl, L0⟩

set_option maxRecDepth 100000 in
set_option maxHeartbeats 4000000 in
theorem has_27 (t : ByteArray) (ht : t.size ≤ 1048576) (q : Int) (s : Option Addr) (kn c : Nat) (w : World) :
    Calls Tryz.prog 50 #[.agg #[.int .i64 27, .string t, .int .i64 q, .slice s kn c]] w fun e w' => e = .returned (.bool (hasB 27 t q)) ∧ Below w.heap.size w w' := by
  have hal := alloc_old
  have haf := alloc_oldf
  have k0 := Blk.new w #[.int .i64 27, .string t, .int .i64 q, .slice s kn c] 57
  have L0 := bl_alloc (Below.refl _ w) (.cells #[.int .i64 27, .string t, .int .i64 q, .slice s kn c] 57)
  obtain ⟨x0, x1, x2, x3, x4⟩ := k0.four'
  have HH : Hid (hasB 27 t q = (decide (t = ⟨#[]⟩) && numB 27 q)) := has_plain (by decide) (by decide) t q
  by_cases he : t = ⟨#[]⟩
  · subst he
    have HF : Hid (hasB 27 ⟨#[]⟩ q = numB 27 q) := by show _ = _; rw [HH.out]; simp
    clear HH
    go_enter Tryz.func50, Tryz.ntmps50
    go_wp2_with fail
    go_ret
    exact ⟨by rw [HF.out]; rfl, L0⟩
  · have HF : Hid (hasB 27 t q = false) := by show _ = _; rw [HH.out]; simp [he]
    have hne : (!t.toList.isEmpty) = true := not_empty he
    clear HH he
    go_enter Tryz.func50, Tryz.ntmps50
    go_wp2_with fail
    go_ret
    exact ⟨by rw [HF.out]; rfl, L0⟩

set_option maxRecDepth 100000 in
set_option maxHeartbeats 4000000 in
theorem has_28 (t : ByteArray) (ht : t.size ≤ 1048576) (q : Int) (s : Option Addr) (kn c : Nat) (w : World) :
    Calls Tryz.prog 50 #[.agg #[.int .i64 28, .string t, .int .i64 q, .slice s kn c]] w fun e w' => e = .returned (.bool (hasB 28 t q)) ∧ Below w.heap.size w w' := by
  have hal := alloc_old
  have haf := alloc_oldf
  have k0 := Blk.new w #[.int .i64 28, .string t, .int .i64 q, .slice s kn c] 57
  have L0 := bl_alloc (Below.refl _ w) (.cells #[.int .i64 28, .string t, .int .i64 q, .slice s kn c] 57)
  obtain ⟨x0, x1, x2, x3, x4⟩ := k0.four'
  have HH : Hid (hasB 28 t q = (nameB t && numB 28 q)) := has_named (by decide) t q
  go_enter Tryz.func50, Tryz.ntmps50
  go_wp2_with fail
  refine (specNameOk_any t _).mono ?_
  rintro e w1 ⟨rfl, hb1⟩
  have K1 := k0.later hb1
  have L1 := bl_trans L0 hb1
  clear x0 x1 x2 x3 x4 k0 L0 hb1
  obtain ⟨x0, x1, x2, x3, x4⟩ := K1.four'
  cases hn : nameB t
  · have HF : Hid (hasB 28 t q = false) := by show _ = _; rw [HH.out, hn]; rfl
    go_wp2_with fail
    go_ret
    exact ⟨by rw [HF.out]; rfl, L1⟩
  · have HF : Hid (hasB 28 t q = numB 28 q) := by show _ = _; rw [HH.out, hn]; rfl
    go_wp2_with fail
    go_ret
    exact ⟨by rw [HF.out]; rfl, L1⟩

set_option maxRecDepth 100000 in
set_option maxHeartbeats 4000000 in
theorem has_29 (t : ByteArray) (ht : t.size ≤ 1048576) (q : Int) (s : Option Addr) (kn c : Nat) (w : World) :
    Calls Tryz.prog 50 #[.agg #[.int .i64 29, .string t, .int .i64 q, .slice s kn c]] w fun e w' => e = .returned (.bool (hasB 29 t q)) ∧ Below w.heap.size w w' := by
  have hal := alloc_old
  have haf := alloc_oldf
  have k0 := Blk.new w #[.int .i64 29, .string t, .int .i64 q, .slice s kn c] 57
  have L0 := bl_alloc (Below.refl _ w) (.cells #[.int .i64 29, .string t, .int .i64 q, .slice s kn c] 57)
  obtain ⟨x0, x1, x2, x3, x4⟩ := k0.four'
  have HH : Hid (hasB 29 t q = (decide (t = ⟨#[]⟩) && numB 29 q)) := has_plain (by decide) (by decide) t q
  by_cases he : t = ⟨#[]⟩
  · subst he
    have HF : Hid (hasB 29 ⟨#[]⟩ q = numB 29 q) := by show _ = _; rw [HH.out]; simp
    clear HH
    go_enter Tryz.func50, Tryz.ntmps50
    go_wp2_with fail
    go_ret
    exact ⟨by rw [HF.out]; rfl, L0⟩
  · have HF : Hid (hasB 29 t q = false) := by show _ = _; rw [HH.out]; simp [he]
    have hne : (!t.toList.isEmpty) = true := not_empty he
    clear HH he
    go_enter Tryz.func50, Tryz.ntmps50
    go_wp2_with fail
    go_ret
    exact ⟨by rw [HF.out]; rfl, L0⟩

set_option maxRecDepth 100000 in
set_option maxHeartbeats 4000000 in
theorem has_30 (t : ByteArray) (ht : t.size ≤ 1048576) (q : Int) (s : Option Addr) (kn c : Nat) (w : World) :
    Calls Tryz.prog 50 #[.agg #[.int .i64 30, .string t, .int .i64 q, .slice s kn c]] w fun e w' => e = .returned (.bool (hasB 30 t q)) ∧ Below w.heap.size w w' := by
  have hal := alloc_old
  have haf := alloc_oldf
  have k0 := Blk.new w #[.int .i64 30, .string t, .int .i64 q, .slice s kn c] 57
  have L0 := bl_alloc (Below.refl _ w) (.cells #[.int .i64 30, .string t, .int .i64 q, .slice s kn c] 57)
  obtain ⟨x0, x1, x2, x3, x4⟩ := k0.four'
  have HH : Hid (hasB 30 t q = (decide (t = ⟨#[]⟩) && numB 30 q)) := has_plain (by decide) (by decide) t q
  by_cases he : t = ⟨#[]⟩
  · subst he
    have HF : Hid (hasB 30 ⟨#[]⟩ q = numB 30 q) := by show _ = _; rw [HH.out]; simp
    clear HH
    go_enter Tryz.func50, Tryz.ntmps50
    go_wp2_with fail
    go_ret
    exact ⟨by rw [HF.out]; rfl, L0⟩
  · have HF : Hid (hasB 30 t q = false) := by show _ = _; rw [HH.out]; simp [he]
    have hne : (!t.toList.isEmpty) = true := not_empty he
    clear HH he
    go_enter Tryz.func50, Tryz.ntmps50
    go_wp2_with fail
    go_ret
    exact ⟨by rw [HF.out]; rfl, L0⟩

set_option maxRecDepth 100000 in
set_option maxHeartbeats 4000000 in
theorem has_31 (t : ByteArray) (ht : t.size ≤ 1048576) (q : Int) (s : Option Addr) (kn c : Nat) (w : World) :
    Calls Tryz.prog 50 #[.agg #[.int .i64 31, .string t, .int .i64 q, .slice s kn c]] w fun e w' => e = .returned (.bool (hasB 31 t q)) ∧ Below w.heap.size w w' := by
  have hal := alloc_old
  have haf := alloc_oldf
  have k0 := Blk.new w #[.int .i64 31, .string t, .int .i64 q, .slice s kn c] 57
  have L0 := bl_alloc (Below.refl _ w) (.cells #[.int .i64 31, .string t, .int .i64 q, .slice s kn c] 57)
  obtain ⟨x0, x1, x2, x3, x4⟩ := k0.four'
  have HH : Hid (hasB 31 t q = (nameB t && numB 31 q)) := has_named (by decide) t q
  go_enter Tryz.func50, Tryz.ntmps50
  go_wp2_with fail
  refine (specNameOk_any t _).mono ?_
  rintro e w1 ⟨rfl, hb1⟩
  have K1 := k0.later hb1
  have L1 := bl_trans L0 hb1
  clear x0 x1 x2 x3 x4 k0 L0 hb1
  obtain ⟨x0, x1, x2, x3, x4⟩ := K1.four'
  cases hn : nameB t
  · have HF : Hid (hasB 31 t q = false) := by show _ = _; rw [HH.out, hn]; rfl
    go_wp2_with fail
    go_ret
    exact ⟨by rw [HF.out]; rfl, L1⟩
  · have HF : Hid (hasB 31 t q = numB 31 q) := by show _ = _; rw [HH.out, hn]; rfl
    go_wp2_with fail
    go_ret
    exact ⟨by rw [HF.out]; rfl, L1⟩

set_option maxRecDepth 100000 in
set_option maxHeartbeats 4000000 in
theorem has_32 (t : ByteArray) (ht : t.size ≤ 1048576) (q : Int) (s : Option Addr) (kn c : Nat) (w : World) :
    Calls Tryz.prog 50 #[.agg #[.int .i64 32, .string t, .int .i64 q, .slice s kn c]] w fun e w' => e = .returned (.bool (hasB 32 t q)) ∧ Below w.heap.size w w' := by
  have hal := alloc_old
  have haf := alloc_oldf
  have k0 := Blk.new w #[.int .i64 32, .string t, .int .i64 q, .slice s kn c] 57
  have L0 := bl_alloc (Below.refl _ w) (.cells #[.int .i64 32, .string t, .int .i64 q, .slice s kn c] 57)
  obtain ⟨x0, x1, x2, x3, x4⟩ := k0.four'
  have HH : Hid (hasB 32 t q = (nameB t && numB 32 q)) := has_named (by decide) t q
  go_enter Tryz.func50, Tryz.ntmps50
  go_wp2_with fail
  refine (specNameOk_any t _).mono ?_
  rintro e w1 ⟨rfl, hb1⟩
  have K1 := k0.later hb1
  have L1 := bl_trans L0 hb1
  clear x0 x1 x2 x3 x4 k0 L0 hb1
  obtain ⟨x0, x1, x2, x3, x4⟩ := K1.four'
  cases hn : nameB t
  · have HF : Hid (hasB 32 t q = false) := by show _ = _; rw [HH.out, hn]; rfl
    go_wp2_with fail
    go_ret
    exact ⟨by rw [HF.out]; rfl, L1⟩
  · have HF : Hid (hasB 32 t q = numB 32 q) := by show _ = _; rw [HH.out, hn]; rfl
    go_wp2_with (go_at_call 47; refine (l1In_any _ _ _ _).mono ?_; rintro e w' ⟨rfl, rfl⟩)
    go_ret
    exact ⟨by rw [HF.out]; rfl, L1⟩

set_option maxRecDepth 100000 in
set_option maxHeartbeats 4000000 in
theorem has_33 (t : ByteArray) (ht : t.size ≤ 1048576) (q : Int) (s : Option Addr) (kn c : Nat) (w : World) :
    Calls Tryz.prog 50 #[.agg #[.int .i64 33, .string t, .int .i64 q, .slice s kn c]] w fun e w' => e = .returned (.bool (hasB 33 t q)) ∧ Below w.heap.size w w' := by
  have hal := alloc_old
  have haf := alloc_oldf
  have k0 := Blk.new w #[.int .i64 33, .string t, .int .i64 q, .slice s kn c] 57
  have L0 := bl_alloc (Below.refl _ w) (.cells #[.int .i64 33, .string t, .int .i64 q, .slice s kn c] 57)
  obtain ⟨x0, x1, x2, x3, x4⟩ := k0.four'
  have HH : Hid (hasB 33 t q = (nameB t && numB 33 q)) := has_named (by decide) t q
  go_enter Tryz.func50, Tryz.ntmps50
  go_wp2_with fail
  refine (specNameOk_any t _).mono ?_
  rintro e w1 ⟨rfl, hb1⟩
  have K1 := k0.later hb1
  have L1 := bl_trans L0 hb1
  clear x0 x1 x2 x3 x4 k0 L0 hb1
  obtain ⟨x0, x1, x2, x3, x4⟩ := K1.four'
  cases hn : nameB t
  · have HF : Hid (hasB 33 t q = false) := by show _ = _; rw [HH.out, hn]; rfl
    go_wp2_with fail
    go_ret
    exact ⟨by rw [HF.out]; rfl, L1⟩
  · have HF : Hid (hasB 33 t q = numB 33 q) := by show _ = _; rw [HH.out, hn]; rfl
    go_wp2_with (go_at_call 47; refine (l1In_any _ _ _ _).mono ?_; rintro e w' ⟨rfl, rfl⟩)
    go_ret
    exact ⟨by rw [HF.out]; rfl, L1⟩

set_option maxRecDepth 100000 in
set_option maxHeartbeats 4000000 in
theorem has_34 (t : ByteArray) (ht : t.size ≤ 1048576) (q : Int) (s : Option Addr) (kn c : Nat) (w : World) :
    Calls Tryz.prog 50 #[.agg #[.int .i64 34, .string t, .int .i64 q, .slice s kn c]] w fun e w' => e = .returned (.bool (hasB 34 t q)) ∧ Below w.heap.size w w' := by
  have hal := alloc_old
  have haf := alloc_oldf
  have k0 := Blk.new w #[.int .i64 34, .string t, .int .i64 q, .slice s kn c] 57
  have L0 := bl_alloc (Below.refl _ w) (.cells #[.int .i64 34, .string t, .int .i64 q, .slice s kn c] 57)
  obtain ⟨x0, x1, x2, x3, x4⟩ := k0.four'
  have HH : Hid (hasB 34 t q = (nameB t && numB 34 q)) := has_named (by decide) t q
  go_enter Tryz.func50, Tryz.ntmps50
  go_wp2_with fail
  refine (specNameOk_any t _).mono ?_
  rintro e w1 ⟨rfl, hb1⟩
  have K1 := k0.later hb1
  have L1 := bl_trans L0 hb1
  clear x0 x1 x2 x3 x4 k0 L0 hb1
  obtain ⟨x0, x1, x2, x3, x4⟩ := K1.four'
  cases hn : nameB t
  · have HF : Hid (hasB 34 t q = false) := by show _ = _; rw [HH.out, hn]; rfl
    go_wp2_with fail
    go_ret
    exact ⟨by rw [HF.out]; rfl, L1⟩
  · have HF : Hid (hasB 34 t q = numB 34 q) := by show _ = _; rw [HH.out, hn]; rfl
    go_wp2_with fail
    go_ret
    exact ⟨by rw [HF.out]; rfl, L1⟩

set_option maxRecDepth 100000 in
set_option maxHeartbeats 4000000 in
theorem has_none (k : Int) (hn : k < 1 ∨ 34 < k) (t : ByteArray) (ht : t.size ≤ 1048576) (q : Int) (s : Option Addr) (kn c : Nat) (w : World) :
    Calls Tryz.prog 50 #[.agg #[.int .i64 k, .string t, .int .i64 q, .slice s kn c]] w fun e w' => e = .returned (.bool (hasB k t q)) ∧ Below w.heap.size w w' := by
  have hal := alloc_old
  have haf := alloc_oldf
  have k0 := Blk.new w #[.int .i64 k, .string t, .int .i64 q, .slice s kn c] 57
  have L0 := bl_alloc (Below.refl _ w) (.cells #[.int .i64 k, .string t, .int .i64 q, .slice s kn c] 57)
  obtain ⟨x0, x1, x2, x3, x4⟩ := k0.four'
  have HH : Hid (hasB k t q = (decide (t = ⟨#[]⟩) && numB k q)) := has_plain (by omega) (by unfold namedK; simp; omega) t q
  have HN : Hid (numB k q = (q == 0)) := by show _ = _; unfold numB; repeat rw [if_neg (by omega)]
  have e1 := (noKind hn).ne 1 (by omega) (by omega)
  have e2 := (noKind hn).ne 2 (by omega) (by omega)
  have e3 := (noKind hn).ne 3 (by omega) (by omega)
  have e4 := (noKind hn).ne 4 (by omega) (by omega)
  have e5 := (noKind hn).ne 5 (by omega) (by omega)
  have e6 := (noKind hn).ne 6 (by omega) (by omega)
  have e7 := (noKind hn).ne 7 (by omega) (by omega)
  have e8 := (noKind hn).ne 8 (by omega) (by omega)
  have e9 := (noKind hn).ne 9 (by omega) (by omega)
  have e10 := (noKind hn).ne 10 (by omega) (by omega)
  have e11 := (noKind hn).ne 11 (by omega) (by omega)
  have e12 := (noKind hn).ne 12 (by omega) (by omega)
  have e13 := (noKind hn).ne 13 (by omega) (by omega)
  have e14 := (noKind hn).ne 14 (by omega) (by omega)
  have e15 := (noKind hn).ne 15 (by omega) (by omega)
  have e16 := (noKind hn).ne 16 (by omega) (by omega)
  have e17 := (noKind hn).ne 17 (by omega) (by omega)
  have e18 := (noKind hn).ne 18 (by omega) (by omega)
  have e19 := (noKind hn).ne 19 (by omega) (by omega)
  have e20 := (noKind hn).ne 20 (by omega) (by omega)
  have e21 := (noKind hn).ne 21 (by omega) (by omega)
  have e22 := (noKind hn).ne 22 (by omega) (by omega)
  have e23 := (noKind hn).ne 23 (by omega) (by omega)
  have e24 := (noKind hn).ne 24 (by omega) (by omega)
  have e25 := (noKind hn).ne 25 (by omega) (by omega)
  have e26 := (noKind hn).ne 26 (by omega) (by omega)
  have e27 := (noKind hn).ne 27 (by omega) (by omega)
  have e28 := (noKind hn).ne 28 (by omega) (by omega)
  have e29 := (noKind hn).ne 29 (by omega) (by omega)
  have e30 := (noKind hn).ne 30 (by omega) (by omega)
  have e31 := (noKind hn).ne 31 (by omega) (by omega)
  have e32 := (noKind hn).ne 32 (by omega) (by omega)
  have e33 := (noKind hn).ne 33 (by omega) (by omega)
  have e34 := (noKind hn).ne 34 (by omega) (by omega)
  clear hn
  by_cases he : t = ⟨#[]⟩
  · subst he
    have HF : Hid (hasB k ⟨#[]⟩ q = (q == 0)) := by show _ = _; rw [HH.out, HN.out]; simp
    clear HH HN
    go_enter Tryz.func50, Tryz.ntmps50
    go_wp2_with fail
    go_ret
    exact ⟨by rw [HF.out]; rfl, L0⟩
  · have HF : Hid (hasB k t q = false) := by show _ = _; rw [HH.out]; simp [he]
    have hne : (!t.toList.isEmpty) = true := not_empty he
    clear HH he HN
    go_enter Tryz.func50, Tryz.ntmps50
    go_wp2_with fail
    go_ret
    exact ⟨by rw [HF.out]; rfl, L0⟩

theorem l8Has_any (k : Int) (t : ByteArray) (ht : t.size ≤ 1048576) (q : Int) (s : Option Addr) (kn c : Nat) (w : World) :
    Calls Tryz.prog 50 #[.agg #[.int .i64 k, .string t, .int .i64 q, .slice s kn c]] w fun e w' => e = .returned (.bool (hasB k t q)) ∧ Below w.heap.size w w' := by
  rcases kind_split k with h | h | rfl | rfl | rfl | rfl | rfl | rfl | rfl | rfl | rfl | rfl | rfl | rfl | rfl | rfl | rfl | rfl | rfl | rfl | rfl | rfl | rfl | rfl | rfl | rfl | rfl | rfl | rfl | rfl | rfl | rfl | rfl | rfl | rfl | rfl
  · exact has_none k (Or.inl h) t ht q s kn c w
  · exact has_none k (Or.inr h) t ht q s kn c w
  · exact has_1 t ht q s kn c w
  · exact has_2 t ht q s kn c w
  · exact has_3 t ht q s kn c w
  · exact has_4 t ht q s kn c w
  · exact has_5 t ht q s kn c w
  · exact has_6 t ht q s kn c w
  · exact has_7 t ht q s kn c w
  · exact has_8 t ht q s kn c w
  · exact has_9 t ht q s kn c w
  · exact has_10 t ht q s kn c w
  · exact has_11 t ht q s kn c w
  · exact has_12 t ht q s kn c w
  · exact has_13 t ht q s kn c w
  · exact has_14 t ht q s kn c w
  · exact has_15 t ht q s kn c w
  · exact has_16 t ht q s kn c w
  · exact has_17 t ht q s kn c w
  · exact has_18 t ht q s kn c w
  · exact has_19 t ht q s kn c w
  · exact has_20 t ht q s kn c w
  · exact has_21 t ht q s kn c w
  · exact has_22 t ht q s kn c w
  · exact has_23 t ht q s kn c w
  · exact has_24 t ht q s kn c w
  · exact has_25 t ht q s kn c w
  · exact has_26 t ht q s kn c w
  · exact has_27 t ht q s kn c w
  · exact has_28 t ht q s kn c w
  · exact has_29 t ht q s kn c w
  · exact has_30 t ht q s kn c w
  · exact has_31 t ht q s kn c w
  · exact has_32 t ht q s kn c w
  · exact has_33 t ht q s kn c w
  · exact has_34 t ht q s kn c w
end Go.Proofs.YtknallkcengbbaaGreatDoor
