import Derived.Test.YtjckoldjodjehaaGreatDoorSe03
namespace Go.Proofs.YtjckoldjodjehaaGreatDoor
set_option linter.unusedVariables false
set_option linter.unusedSimpArgs false
section
open Go.RowKit
noncomputable def realB (t : ByteArray) : Bool := @decide (∃ a k, RealAt t a k) (Classical.propDecidable _)
theorem RealSays.flag {t : ByteArray} {e : Ending} (h : RealSays t e) : ∃ r, e = .returned (.tuple #[.float .f64 r, .bool (realB t)]) := by
 rcases h with ⟨h1, h2⟩ | ⟨a, k, n, r, h1, _, _, _, h5⟩
 ·
  exact ⟨0, by rw [h2]; simp [realB, h1]⟩
 refine ⟨r, ?_⟩
 rw [h5]
 have : realB t = true := by unfold realB; exact @decide_eq_true _ (Classical.propDecidable _) ⟨a, k, h1⟩
 rw [this]
theorem not_empty {t : ByteArray} (h : ¬ t = ⟨#[]⟩) : (!t.toList.isEmpty) = true := by
 rw [ByteArray.toList_eq]
 cases hd : t.data.toList with
 | nil => exact absurd (by cases t; simp_all) h
 | cons a l => rfl
def namedK (k : Int) : Bool := decide (k = 4 ∨ k = 5 ∨ k = 6 ∨ k = 7 ∨ k = 12 ∨ k = 13 ∨ k = 14 ∨ k = 15 ∨ k = 19 ∨ k = 20 ∨ k = 23 ∨ k = 24 ∨ k = 28 ∨ k = 31 ∨ k = 32 ∨ k = 33 ∨ k = 34)
def numB (k q : Int) : Bool := if k = 1 then decide (0 ≤ q) && decide (q ≤ 999999999999999) else if k = 3 then (q == 0 || q == 1) else if k = 8 then decide (1 ≤ q) && decide (q ≤ 9) else if k = 9 then decide (1 ≤ q) && decide (q ≤ 6) else if k = 32 ∨ k = 33 then decide (1 ≤ q) && decide (q ≤ 4) else q == 0
noncomputable def hasB (k : Int) (t : ByteArray) (q : Int) : Bool := if k = 2 then realB t && (q == 0) else if namedK k then nameB t && numB k q else decide (t = ⟨#[]⟩) && numB k q
theorem has_named {k : Int} (h : namedK k = true) (t : ByteArray) (q : Int) : hasB k t q = (nameB t && numB k q) := by
 unfold hasB
 rw [if_neg (by rintro rfl; simp [namedK] at h), if_pos h]
theorem has_plain {k : Int} (h2 : ¬ k = 2) (h : namedK k = false) (t : ByteArray) (q : Int) : hasB k t q = (decide (t = ⟨#[]⟩) && numB k q) := by
 unfold hasB
 rw [if_neg h2, if_neg (by simp [h])]
set_option maxRecDepth 100000 in
set_option maxHeartbeats 4000000 in
theorem has_1 (t : ByteArray) (ht : t.size ≤ 1048576) (q : Int) (s : Option Addr) (kn c : Nat) (w : World) :
  Calls Tryz.prog 49 #[.agg #[.int .i64 1, .string t, .int .i64 q, .slice s kn c]] w fun e w' => e = .returned (.bool (hasB 1 t q)) ∧ Below w.heap.size w w' := by
 have hal := alloc_old
 have haf := alloc_oldf
 have k0 := Blk.new w #[.int .i64 1, .string t, .int .i64 q, .slice s kn c] 66
 have L0 := bl_alloc (Below.refl _ w) (.cells #[.int .i64 1, .string t, .int .i64 q, .slice s kn c] 66)
 obtain ⟨x0, x1, x2, x3, x4⟩ := k0.four'
 have HH : Hid (hasB 1 t q = (decide (t = ⟨#[]⟩) && numB 1 q)) := has_plain (by decide) (by decide) t q
 by_cases he : t = ⟨#[]⟩
 ·
  subst he
  have HF : Hid (hasB 1 ⟨#[]⟩ q = numB 1 q) := by show _ = _; rw [HH.out]; simp
  clear HH; go_enter Tryz.func49, Tryz.ntmps49
  go_wp2_with (go_at_call 47; refine (l1In_any _ _ _ _).mono ?_; rintro e w' ⟨rfl, rfl⟩)
  go_ret; exact ⟨by rw [HF.out]; rfl, L0⟩
 have HF : Hid (hasB 1 t q = false) := by show _ = _; rw [HH.out]; simp [he]
 have hne : (!t.toList.isEmpty) = true := not_empty he
 clear HH he; go_enter Tryz.func49, Tryz.ntmps49
 go_wp2_with fail; go_ret; exact ⟨by rw [HF.out]; rfl, L0⟩
set_option maxRecDepth 100000 in
set_option maxHeartbeats 4000000 in
theorem has_2 (t : ByteArray) (ht : t.size ≤ 1048576) (q : Int) (s : Option Addr) (kn c : Nat) (w : World) :
  Calls Tryz.prog 49 #[.agg #[.int .i64 2, .string t, .int .i64 q, .slice s kn c]] w fun e w' => e = .returned (.bool (hasB 2 t q)) ∧ Below w.heap.size w w' := by
 have hal := alloc_old
 have haf := alloc_oldf
 have k0 := Blk.new w #[.int .i64 2, .string t, .int .i64 q, .slice s kn c] 66
 have L0 := bl_alloc (Below.refl _ w) (.cells #[.int .i64 2, .string t, .int .i64 q, .slice s kn c] 66)
 obtain ⟨x0, x1, x2, x3, x4⟩ := k0.four'
 have HH : Hid (hasB 2 t q = (realB t && (q == 0))) := rfl
 go_enter Tryz.func49, Tryz.ntmps49
 go_wp2_with fail; refine (specRealOf_any t ht _).mono ?_
 rintro e w1 ⟨hr, hb1⟩
 obtain ⟨r, rfl⟩ := hr.flag
 have K1 := k0.later hb1
 have L1 := bl_trans L0 hb1
 clear x0 x1 x2 x3 x4 k0 L0 hb1 hr; obtain ⟨x0, x1, x2, x3, x4⟩ := K1.four'
 cases hn : realB t
 ·
  have HF : Hid (hasB 2 t q = false) := by show _ = _; rw [HH.out, hn]; rfl
  go_wp2_with fail; go_ret; exact ⟨by rw [HF.out]; rfl, L1⟩
 have HF : Hid (hasB 2 t q = (q == 0)) := by show _ = _; rw [HH.out, hn]; rfl
 go_wp2_with fail; go_ret; exact ⟨by rw [HF.out]; rfl, L1⟩
set_option maxRecDepth 100000 in
set_option maxHeartbeats 4000000 in
theorem has_3 (t : ByteArray) (ht : t.size ≤ 1048576) (q : Int) (s : Option Addr) (kn c : Nat) (w : World) :
  Calls Tryz.prog 49 #[.agg #[.int .i64 3, .string t, .int .i64 q, .slice s kn c]] w fun e w' => e = .returned (.bool (hasB 3 t q)) ∧ Below w.heap.size w w' := by
 have hal := alloc_old
 have haf := alloc_oldf
 have k0 := Blk.new w #[.int .i64 3, .string t, .int .i64 q, .slice s kn c] 66
 have L0 := bl_alloc (Below.refl _ w) (.cells #[.int .i64 3, .string t, .int .i64 q, .slice s kn c] 66)
 obtain ⟨x0, x1, x2, x3, x4⟩ := k0.four'
 have HH : Hid (hasB 3 t q = (decide (t = ⟨#[]⟩) && numB 3 q)) := has_plain (by decide) (by decide) t q
 by_cases he : t = ⟨#[]⟩
 ·
  subst he
  have HF : Hid (hasB 3 ⟨#[]⟩ q = numB 3 q) := by show _ = _; rw [HH.out]; simp
  clear HH; go_enter Tryz.func49, Tryz.ntmps49
  by_cases h0 : q = 0
  ·
   subst h0
   go_wp2_with fail; go_ret; exact ⟨by rw [HF.out]; rfl, L0⟩
  have g0 : (q == 0) = false := by simp [h0]
  have HG : Hid (hasB 3 ⟨#[]⟩ q = (q == 1)) := by show _ = _; rw [HF.out]; show (q == 0 || q == 1) = _; rw [g0]; rfl
  go_wp2_with fail; go_ret; exact ⟨by rw [HG.out]; rfl, L0⟩
 have HF : Hid (hasB 3 t q = false) := by show _ = _; rw [HH.out]; simp [he]
 have hne : (!t.toList.isEmpty) = true := not_empty he
 clear HH he; go_enter Tryz.func49, Tryz.ntmps49
 go_wp2_with fail; go_ret; exact ⟨by rw [HF.out]; rfl, L0⟩
set_option maxRecDepth 100000 in
set_option maxHeartbeats 4000000 in
theorem has_4 (t : ByteArray) (ht : t.size ≤ 1048576) (q : Int) (s : Option Addr) (kn c : Nat) (w : World) :
  Calls Tryz.prog 49 #[.agg #[.int .i64 4, .string t, .int .i64 q, .slice s kn c]] w fun e w' => e = .returned (.bool (hasB 4 t q)) ∧ Below w.heap.size w w' := by
 have hal := alloc_old
 have haf := alloc_oldf
 have k0 := Blk.new w #[.int .i64 4, .string t, .int .i64 q, .slice s kn c] 66
 have L0 := bl_alloc (Below.refl _ w) (.cells #[.int .i64 4, .string t, .int .i64 q, .slice s kn c] 66)
 obtain ⟨x0, x1, x2, x3, x4⟩ := k0.four'
 have HH : Hid (hasB 4 t q = (nameB t && numB 4 q)) := has_named (by decide) t q
 go_enter Tryz.func49, Tryz.ntmps49
 go_wp2_with fail; refine (specNameOk_any t _).mono ?_
 rintro e w1 ⟨rfl, hb1⟩
 have K1 := k0.later hb1
 have L1 := bl_trans L0 hb1
 clear x0 x1 x2 x3 x4 k0 L0 hb1; obtain ⟨x0, x1, x2, x3, x4⟩ := K1.four'
 cases hn : nameB t
 ·
  have HF : Hid (hasB 4 t q = false) := by show _ = _; rw [HH.out, hn]; rfl
  go_wp2_with fail; go_ret; exact ⟨by rw [HF.out]; rfl, L1⟩
 have HF : Hid (hasB 4 t q = numB 4 q) := by show _ = _; rw [HH.out, hn]; rfl
 go_wp2_with fail; go_ret; exact ⟨by rw [HF.out]; rfl, L1⟩
set_option maxRecDepth 100000 in
set_option maxHeartbeats 4000000 in
theorem has_5 (t : ByteArray) (ht : t.size ≤ 1048576) (q : Int) (s : Option Addr) (kn c : Nat) (w : World) :
  Calls Tryz.prog 49 #[.agg #[.int .i64 5, .string t, .int .i64 q, .slice s kn c]] w fun e w' => e = .returned (.bool (hasB 5 t q)) ∧ Below w.heap.size w w' := by
 have hal := alloc_old
 have haf := alloc_oldf
 have k0 := Blk.new w #[.int .i64 5, .string t, .int .i64 q, .slice s kn c] 66
 have L0 := bl_alloc (Below.refl _ w) (.cells #[.int .i64 5, .string t, .int .i64 q, .slice s kn c] 66)
 obtain ⟨x0, x1, x2, x3, x4⟩ := k0.four'
 have HH : Hid (hasB 5 t q = (nameB t && numB 5 q)) := has_named (by decide) t q
 go_enter Tryz.func49, Tryz.ntmps49
 go_wp2_with fail; refine (specNameOk_any t _).mono ?_
 rintro e w1 ⟨rfl, hb1⟩
 have K1 := k0.later hb1
 have L1 := bl_trans L0 hb1
 clear x0 x1 x2 x3 x4 k0 L0 hb1; obtain ⟨x0, x1, x2, x3, x4⟩ := K1.four'
 cases hn : nameB t
 ·
  have HF : Hid (hasB 5 t q = false) := by show _ = _; rw [HH.out, hn]; rfl
  go_wp2_with fail; go_ret; exact ⟨by rw [HF.out]; rfl, L1⟩
 have HF : Hid (hasB 5 t q = numB 5 q) := by show _ = _; rw [HH.out, hn]; rfl
 go_wp2_with fail; go_ret; exact ⟨by rw [HF.out]; rfl, L1⟩
set_option maxRecDepth 100000 in
set_option maxHeartbeats 4000000 in
theorem has_6 (t : ByteArray) (ht : t.size ≤ 1048576) (q : Int) (s : Option Addr) (kn c : Nat) (w : World) :
  Calls Tryz.prog 49 #[.agg #[.int .i64 6, .string t, .int .i64 q, .slice s kn c]] w fun e w' => e = .returned (.bool (hasB 6 t q)) ∧ Below w.heap.size w w' := by
 have hal := alloc_old
 have haf := alloc_oldf
 have k0 := Blk.new w #[.int .i64 6, .string t, .int .i64 q, .slice s kn c] 66
 have L0 := bl_alloc (Below.refl _ w) (.cells #[.int .i64 6, .string t, .int .i64 q, .slice s kn c] 66)
 obtain ⟨x0, x1, x2, x3, x4⟩ := k0.four'
 have HH : Hid (hasB 6 t q = (nameB t && numB 6 q)) := has_named (by decide) t q
 go_enter Tryz.func49, Tryz.ntmps49
 go_wp2_with fail; refine (specNameOk_any t _).mono ?_
 rintro e w1 ⟨rfl, hb1⟩
 have K1 := k0.later hb1
 have L1 := bl_trans L0 hb1
 clear x0 x1 x2 x3 x4 k0 L0 hb1; obtain ⟨x0, x1, x2, x3, x4⟩ := K1.four'
 cases hn : nameB t
 ·
  have HF : Hid (hasB 6 t q = false) := by show _ = _; rw [HH.out, hn]; rfl
  go_wp2_with fail; go_ret; exact ⟨by rw [HF.out]; rfl, L1⟩
 have HF : Hid (hasB 6 t q = numB 6 q) := by show _ = _; rw [HH.out, hn]; rfl
 go_wp2_with fail; go_ret; exact ⟨by rw [HF.out]; rfl, L1⟩
set_option maxRecDepth 100000 in
set_option maxHeartbeats 4000000 in
theorem has_7 (t : ByteArray) (ht : t.size ≤ 1048576) (q : Int) (s : Option Addr) (kn c : Nat) (w : World) :
  Calls Tryz.prog 49 #[.agg #[.int .i64 7, .string t, .int .i64 q, .slice s kn c]] w fun e w' => e = .returned (.bool (hasB 7 t q)) ∧ Below w.heap.size w w' := by
 have hal := alloc_old
 have haf := alloc_oldf
 have k0 := Blk.new w #[.int .i64 7, .string t, .int .i64 q, .slice s kn c] 66
 have L0 := bl_alloc (Below.refl _ w) (.cells #[.int .i64 7, .string t, .int .i64 q, .slice s kn c] 66)
 obtain ⟨x0, x1, x2, x3, x4⟩ := k0.four'
 have HH : Hid (hasB 7 t q = (nameB t && numB 7 q)) := has_named (by decide) t q
 go_enter Tryz.func49, Tryz.ntmps49
 go_wp2_with fail; refine (specNameOk_any t _).mono ?_
 rintro e w1 ⟨rfl, hb1⟩
 have K1 := k0.later hb1
 have L1 := bl_trans L0 hb1
 clear x0 x1 x2 x3 x4 k0 L0 hb1; obtain ⟨x0, x1, x2, x3, x4⟩ := K1.four'
 cases hn : nameB t
 ·
  have HF : Hid (hasB 7 t q = false) := by show _ = _; rw [HH.out, hn]; rfl
  go_wp2_with fail; go_ret; exact ⟨by rw [HF.out]; rfl, L1⟩
 have HF : Hid (hasB 7 t q = numB 7 q) := by show _ = _; rw [HH.out, hn]; rfl
 go_wp2_with fail; go_ret; exact ⟨by rw [HF.out]; rfl, L1⟩
set_option maxRecDepth 100000 in
set_option maxHeartbeats 4000000 in
theorem has_8 (t : ByteArray) (ht : t.size ≤ 1048576) (q : Int) (s : Option Addr) (kn c : Nat) (w : World) :
  Calls Tryz.prog 49 #[.agg #[.int .i64 8, .string t, .int .i64 q, .slice s kn c]] w fun e w' => e = .returned (.bool (hasB 8 t q)) ∧ Below w.heap.size w w' := by
 have hal := alloc_old
 have haf := alloc_oldf
 have k0 := Blk.new w #[.int .i64 8, .string t, .int .i64 q, .slice s kn c] 66
 have L0 := bl_alloc (Below.refl _ w) (.cells #[.int .i64 8, .string t, .int .i64 q, .slice s kn c] 66)
 obtain ⟨x0, x1, x2, x3, x4⟩ := k0.four'
 have HH : Hid (hasB 8 t q = (decide (t = ⟨#[]⟩) && numB 8 q)) := has_plain (by decide) (by decide) t q
 by_cases he : t = ⟨#[]⟩
 ·
  subst he
  have HF : Hid (hasB 8 ⟨#[]⟩ q = numB 8 q) := by show _ = _; rw [HH.out]; simp
  clear HH; go_enter Tryz.func49, Tryz.ntmps49
  go_wp2_with (go_at_call 47; refine (l1In_any _ _ _ _).mono ?_; rintro e w' ⟨rfl, rfl⟩)
  go_ret; exact ⟨by rw [HF.out]; rfl, L0⟩
 have HF : Hid (hasB 8 t q = false) := by show _ = _; rw [HH.out]; simp [he]
 have hne : (!t.toList.isEmpty) = true := not_empty he
 clear HH he; go_enter Tryz.func49, Tryz.ntmps49
 go_wp2_with fail; go_ret; exact ⟨by rw [HF.out]; rfl, L0⟩
set_option maxRecDepth 100000 in
set_option maxHeartbeats 4000000 in
theorem has_9 (t : ByteArray) (ht : t.size ≤ 1048576) (q : Int) (s : Option Addr) (kn c : Nat) (w : World) :
  Calls Tryz.prog 49 #[.agg #[.int .i64 9, .string t, .int .i64 q, .slice s kn c]] w fun e w' => e = .returned (.bool (hasB 9 t q)) ∧ Below w.heap.size w w' := by
 have hal := alloc_old
 have haf := alloc_oldf
 have k0 := Blk.new w #[.int .i64 9, .string t, .int .i64 q, .slice s kn c] 66
 have L0 := bl_alloc (Below.refl _ w) (.cells #[.int .i64 9, .string t, .int .i64 q, .slice s kn c] 66)
 obtain ⟨x0, x1, x2, x3, x4⟩ := k0.four'
 have HH : Hid (hasB 9 t q = (decide (t = ⟨#[]⟩) && numB 9 q)) := has_plain (by decide) (by decide) t q
 by_cases he : t = ⟨#[]⟩
 ·
  subst he
  have HF : Hid (hasB 9 ⟨#[]⟩ q = numB 9 q) := by show _ = _; rw [HH.out]; simp
  clear HH; go_enter Tryz.func49, Tryz.ntmps49
  go_wp2_with (go_at_call 47; refine (l1In_any _ _ _ _).mono ?_; rintro e w' ⟨rfl, rfl⟩)
  go_ret; exact ⟨by rw [HF.out]; rfl, L0⟩
 have HF : Hid (hasB 9 t q = false) := by show _ = _; rw [HH.out]; simp [he]
 have hne : (!t.toList.isEmpty) = true := not_empty he
 clear HH he; go_enter Tryz.func49, Tryz.ntmps49
 go_wp2_with fail; go_ret; exact ⟨by rw [HF.out]; rfl, L0⟩
set_option maxRecDepth 100000 in
set_option maxHeartbeats 4000000 in
theorem has_10 (t : ByteArray) (ht : t.size ≤ 1048576) (q : Int) (s : Option Addr) (kn c : Nat) (w : World) :
  Calls Tryz.prog 49 #[.agg #[.int .i64 10, .string t, .int .i64 q, .slice s kn c]] w fun e w' => e = .returned (.bool (hasB 10 t q)) ∧ Below w.heap.size w w' := by
 have hal := alloc_old
 have haf := alloc_oldf
 have k0 := Blk.new w #[.int .i64 10, .string t, .int .i64 q, .slice s kn c] 66
 have L0 := bl_alloc (Below.refl _ w) (.cells #[.int .i64 10, .string t, .int .i64 q, .slice s kn c] 66)
 obtain ⟨x0, x1, x2, x3, x4⟩ := k0.four'
 have HH : Hid (hasB 10 t q = (decide (t = ⟨#[]⟩) && numB 10 q)) := has_plain (by decide) (by decide) t q
 by_cases he : t = ⟨#[]⟩
 ·
  subst he
  have HF : Hid (hasB 10 ⟨#[]⟩ q = numB 10 q) := by show _ = _; rw [HH.out]; simp
  clear HH; go_enter Tryz.func49, Tryz.ntmps49
  go_wp2_with fail; go_ret; exact ⟨by rw [HF.out]; rfl, L0⟩
 have HF : Hid (hasB 10 t q = false) := by show _ = _; rw [HH.out]; simp [he]
 have hne : (!t.toList.isEmpty) = true := not_empty he
 clear HH he; go_enter Tryz.func49, Tryz.ntmps49
 go_wp2_with fail; go_ret; exact ⟨by rw [HF.out]; rfl, L0⟩
set_option maxRecDepth 100000 in
set_option maxHeartbeats 4000000 in
theorem has_11 (t : ByteArray) (ht : t.size ≤ 1048576) (q : Int) (s : Option Addr) (kn c : Nat) (w : World) :
  Calls Tryz.prog 49 #[.agg #[.int .i64 11, .string t, .int .i64 q, .slice s kn c]] w fun e w' => e = .returned (.bool (hasB 11 t q)) ∧ Below w.heap.size w w' := by
 have hal := alloc_old
 have haf := alloc_oldf
 have k0 := Blk.new w #[.int .i64 11, .string t, .int .i64 q, .slice s kn c] 66
 have L0 := bl_alloc (Below.refl _ w) (.cells #[.int .i64 11, .string t, .int .i64 q, .slice s kn c] 66)
 obtain ⟨x0, x1, x2, x3, x4⟩ := k0.four'
 have HH : Hid (hasB 11 t q = (decide (t = ⟨#[]⟩) && numB 11 q)) := has_plain (by decide) (by decide) t q
 by_cases he : t = ⟨#[]⟩
 ·
  subst he
  have HF : Hid (hasB 11 ⟨#[]⟩ q = numB 11 q) := by show _ = _; rw [HH.out]; simp
  clear HH; go_enter Tryz.func49, Tryz.ntmps49
  go_wp2_with fail; go_ret; exact ⟨by rw [HF.out]; rfl, L0⟩
 have HF : Hid (hasB 11 t q = false) := by show _ = _; rw [HH.out]; simp [he]
 have hne : (!t.toList.isEmpty) = true := not_empty he
 clear HH he; go_enter Tryz.func49, Tryz.ntmps49
 go_wp2_with fail; go_ret; exact ⟨by rw [HF.out]; rfl, L0⟩
set_option maxRecDepth 100000 in
set_option maxHeartbeats 4000000 in
theorem has_12 (t : ByteArray) (ht : t.size ≤ 1048576) (q : Int) (s : Option Addr) (kn c : Nat) (w : World) :
  Calls Tryz.prog 49 #[.agg #[.int .i64 12, .string t, .int .i64 q, .slice s kn c]] w fun e w' => e = .returned (.bool (hasB 12 t q)) ∧ Below w.heap.size w w' := by
 have hal := alloc_old
 have haf := alloc_oldf
 have k0 := Blk.new w #[.int .i64 12, .string t, .int .i64 q, .slice s kn c] 66
 have L0 := bl_alloc (Below.refl _ w) (.cells #[.int .i64 12, .string t, .int .i64 q, .slice s kn c] 66)
 obtain ⟨x0, x1, x2, x3, x4⟩ := k0.four'
 have HH : Hid (hasB 12 t q = (nameB t && numB 12 q)) := has_named (by decide) t q
 go_enter Tryz.func49, Tryz.ntmps49
 go_wp2_with fail; refine (specNameOk_any t _).mono ?_
 rintro e w1 ⟨rfl, hb1⟩
 have K1 := k0.later hb1
 have L1 := bl_trans L0 hb1
 clear x0 x1 x2 x3 x4 k0 L0 hb1; obtain ⟨x0, x1, x2, x3, x4⟩ := K1.four'
 cases hn : nameB t
 ·
  have HF : Hid (hasB 12 t q = false) := by show _ = _; rw [HH.out, hn]; rfl
  go_wp2_with fail; go_ret; exact ⟨by rw [HF.out]; rfl, L1⟩
 have HF : Hid (hasB 12 t q = numB 12 q) := by show _ = _; rw [HH.out, hn]; rfl
 go_wp2_with fail; go_ret; exact ⟨by rw [HF.out]; rfl, L1⟩
set_option maxRecDepth 100000 in
set_option maxHeartbeats 4000000 in
theorem has_13 (t : ByteArray) (ht : t.size ≤ 1048576) (q : Int) (s : Option Addr) (kn c : Nat) (w : World) :
  Calls Tryz.prog 49 #[.agg #[.int .i64 13, .string t, .int .i64 q, .slice s kn c]] w fun e w' => e = .returned (.bool (hasB 13 t q)) ∧ Below w.heap.size w w' := by
 have hal := alloc_old
 have haf := alloc_oldf
 have k0 := Blk.new w #[.int .i64 13, .string t, .int .i64 q, .slice s kn c] 66
 have L0 := bl_alloc (Below.refl _ w) (.cells #[.int .i64 13, .string t, .int .i64 q, .slice s kn c] 66)
 obtain ⟨x0, x1, x2, x3, x4⟩ := k0.four'
 have HH : Hid (hasB 13 t q = (nameB t && numB 13 q)) := has_named (by decide) t q
 go_enter Tryz.func49, Tryz.ntmps49
 go_wp2_with fail; refine (specNameOk_any t _).mono ?_
 rintro e w1 ⟨rfl, hb1⟩
 have K1 := k0.later hb1
 have L1 := bl_trans L0 hb1
 clear x0 x1 x2 x3 x4 k0 L0 hb1; obtain ⟨x0, x1, x2, x3, x4⟩ := K1.four'
 cases hn : nameB t
 ·
  have HF : Hid (hasB 13 t q = false) := by show _ = _; rw [HH.out, hn]; rfl
  go_wp2_with fail; go_ret; exact ⟨by rw [HF.out]; rfl, L1⟩
 have HF : Hid (hasB 13 t q = numB 13 q) := by show _ = _; rw [HH.out, hn]; rfl
 go_wp2_with fail; go_ret; exact ⟨by rw [HF.out]; rfl, L1⟩
set_option maxRecDepth 100000 in
set_option maxHeartbeats 4000000 in
theorem has_14 (t : ByteArray) (ht : t.size ≤ 1048576) (q : Int) (s : Option Addr) (kn c : Nat) (w : World) :
  Calls Tryz.prog 49 #[.agg #[.int .i64 14, .string t, .int .i64 q, .slice s kn c]] w fun e w' => e = .returned (.bool (hasB 14 t q)) ∧ Below w.heap.size w w' := by
 have hal := alloc_old
 have haf := alloc_oldf
 have k0 := Blk.new w #[.int .i64 14, .string t, .int .i64 q, .slice s kn c] 66
 have L0 := bl_alloc (Below.refl _ w) (.cells #[.int .i64 14, .string t, .int .i64 q, .slice s kn c] 66)
 obtain ⟨x0, x1, x2, x3, x4⟩ := k0.four'
 have HH : Hid (hasB 14 t q = (nameB t && numB 14 q)) := has_named (by decide) t q
 go_enter Tryz.func49, Tryz.ntmps49
 go_wp2_with fail; refine (specNameOk_any t _).mono ?_
 rintro e w1 ⟨rfl, hb1⟩
 have K1 := k0.later hb1
 have L1 := bl_trans L0 hb1
 clear x0 x1 x2 x3 x4 k0 L0 hb1; obtain ⟨x0, x1, x2, x3, x4⟩ := K1.four'
 cases hn : nameB t
 ·
  have HF : Hid (hasB 14 t q = false) := by show _ = _; rw [HH.out, hn]; rfl
  go_wp2_with fail; go_ret; exact ⟨by rw [HF.out]; rfl, L1⟩
 have HF : Hid (hasB 14 t q = numB 14 q) := by show _ = _; rw [HH.out, hn]; rfl
 go_wp2_with fail; go_ret; exact ⟨by rw [HF.out]; rfl, L1⟩
set_option maxRecDepth 100000 in
set_option maxHeartbeats 4000000 in
theorem has_15 (t : ByteArray) (ht : t.size ≤ 1048576) (q : Int) (s : Option Addr) (kn c : Nat) (w : World) :
  Calls Tryz.prog 49 #[.agg #[.int .i64 15, .string t, .int .i64 q, .slice s kn c]] w fun e w' => e = .returned (.bool (hasB 15 t q)) ∧ Below w.heap.size w w' := by
 have hal := alloc_old
 have haf := alloc_oldf
 have k0 := Blk.new w #[.int .i64 15, .string t, .int .i64 q, .slice s kn c] 66
 have L0 := bl_alloc (Below.refl _ w) (.cells #[.int .i64 15, .string t, .int .i64 q, .slice s kn c] 66)
 obtain ⟨x0, x1, x2, x3, x4⟩ := k0.four'
 have HH : Hid (hasB 15 t q = (nameB t && numB 15 q)) := has_named (by decide) t q
 go_enter Tryz.func49, Tryz.ntmps49
 go_wp2_with fail; refine (specNameOk_any t _).mono ?_
 rintro e w1 ⟨rfl, hb1⟩
 have K1 := k0.later hb1
 have L1 := bl_trans L0 hb1
 clear x0 x1 x2 x3 x4 k0 L0 hb1; obtain ⟨x0, x1, x2, x3, x4⟩ := K1.four'
 cases hn : nameB t
 ·
  have HF : Hid (hasB 15 t q = false) := by show _ = _; rw [HH.out, hn]; rfl
  go_wp2_with fail; go_ret; exact ⟨by rw [HF.out]; rfl, L1⟩
 have HF : Hid (hasB 15 t q = numB 15 q) := by show _ = _; rw [HH.out, hn]; rfl
 go_wp2_with fail; go_ret; exact ⟨by rw [HF.out]; rfl, L1⟩
set_option maxRecDepth 100000 in
set_option maxHeartbeats 4000000 in
theorem has_16 (t : ByteArray) (ht : t.size ≤ 1048576) (q : Int) (s : Option Addr) (kn c : Nat) (w : World) :
  Calls Tryz.prog 49 #[.agg #[.int .i64 16, .string t, .int .i64 q, .slice s kn c]] w fun e w' => e = .returned (.bool (hasB 16 t q)) ∧ Below w.heap.size w w' := by
 have hal := alloc_old
 have haf := alloc_oldf
 have k0 := Blk.new w #[.int .i64 16, .string t, .int .i64 q, .slice s kn c] 66
 have L0 := bl_alloc (Below.refl _ w) (.cells #[.int .i64 16, .string t, .int .i64 q, .slice s kn c] 66)
 obtain ⟨x0, x1, x2, x3, x4⟩ := k0.four'
 have HH : Hid (hasB 16 t q = (decide (t = ⟨#[]⟩) && numB 16 q)) := has_plain (by decide) (by decide) t q
 by_cases he : t = ⟨#[]⟩
 ·
  subst he
  have HF : Hid (hasB 16 ⟨#[]⟩ q = numB 16 q) := by show _ = _; rw [HH.out]; simp
  clear HH; go_enter Tryz.func49, Tryz.ntmps49
  go_wp2_with fail; go_ret; exact ⟨by rw [HF.out]; rfl, L0⟩
 have HF : Hid (hasB 16 t q = false) := by show _ = _; rw [HH.out]; simp [he]
 have hne : (!t.toList.isEmpty) = true := not_empty he
 clear HH he; go_enter Tryz.func49, Tryz.ntmps49
 go_wp2_with fail; go_ret; exact ⟨by rw [HF.out]; rfl, L0⟩
set_option maxRecDepth 100000 in
set_option maxHeartbeats 4000000 in
theorem has_17 (t : ByteArray) (ht : t.size ≤ 1048576) (q : Int) (s : Option Addr) (kn c : Nat) (w : World) :
  Calls Tryz.prog 49 #[.agg #[.int .i64 17, .string t, .int .i64 q, .slice s kn c]] w fun e w' => e = .returned (.bool (hasB 17 t q)) ∧ Below w.heap.size w w' := by
 have hal := alloc_old
 have haf := alloc_oldf
 have k0 := Blk.new w #[.int .i64 17, .string t, .int .i64 q, .slice s kn c] 66
 have L0 := bl_alloc (Below.refl _ w) (.cells #[.int .i64 17, .string t, .int .i64 q, .slice s kn c] 66)
 obtain ⟨x0, x1, x2, x3, x4⟩ := k0.four'
 have HH : Hid (hasB 17 t q = (decide (t = ⟨#[]⟩) && numB 17 q)) := has_plain (by decide) (by decide) t q
 by_cases he : t = ⟨#[]⟩
 ·
  subst he
  have HF : Hid (hasB 17 ⟨#[]⟩ q = numB 17 q) := by show _ = _; rw [HH.out]; simp
  clear HH; go_enter Tryz.func49, Tryz.ntmps49
  go_wp2_with fail; go_ret; exact ⟨by rw [HF.out]; rfl, L0⟩
 have HF : Hid (hasB 17 t q = false) := by show _ = _; rw [HH.out]; simp [he]
 have hne : (!t.toList.isEmpty) = true := not_empty he
 clear HH he; go_enter Tryz.func49, Tryz.ntmps49
 go_wp2_with fail; go_ret; exact ⟨by rw [HF.out]; rfl, L0⟩
set_option maxRecDepth 100000 in
set_option maxHeartbeats 4000000 in
theorem has_18 (t : ByteArray) (ht : t.size ≤ 1048576) (q : Int) (s : Option Addr) (kn c : Nat) (w : World) :
  Calls Tryz.prog 49 #[.agg #[.int .i64 18, .string t, .int .i64 q, .slice s kn c]] w fun e w' => e = .returned (.bool (hasB 18 t q)) ∧ Below w.heap.size w w' := by
 have hal := alloc_old
 have haf := alloc_oldf
 have k0 := Blk.new w #[.int .i64 18, .string t, .int .i64 q, .slice s kn c] 66
 have L0 := bl_alloc (Below.refl _ w) (.cells #[.int .i64 18, .string t, .int .i64 q, .slice s kn c] 66)
 obtain ⟨x0, x1, x2, x3, x4⟩ := k0.four'
 have HH : Hid (hasB 18 t q = (decide (t = ⟨#[]⟩) && numB 18 q)) := has_plain (by decide) (by decide) t q
 by_cases he : t = ⟨#[]⟩
 ·
  subst he
  have HF : Hid (hasB 18 ⟨#[]⟩ q = numB 18 q) := by show _ = _; rw [HH.out]; simp
  clear HH; go_enter Tryz.func49, Tryz.ntmps49
  go_wp2_with fail; go_ret; exact ⟨by rw [HF.out]; rfl, L0⟩
 have HF : Hid (hasB 18 t q = false) := by show _ = _; rw [HH.out]; simp [he]
 have hne : (!t.toList.isEmpty) = true := not_empty he
 clear HH he; go_enter Tryz.func49, Tryz.ntmps49
 go_wp2_with fail; go_ret; exact ⟨by rw [HF.out]; rfl, L0⟩
set_option maxRecDepth 100000 in
set_option maxHeartbeats 4000000 in
theorem has_19 (t : ByteArray) (ht : t.size ≤ 1048576) (q : Int) (s : Option Addr) (kn c : Nat) (w : World) :
  Calls Tryz.prog 49 #[.agg #[.int .i64 19, .string t, .int .i64 q, .slice s kn c]] w fun e w' => e = .returned (.bool (hasB 19 t q)) ∧ Below w.heap.size w w' := by
 have hal := alloc_old
 have haf := alloc_oldf
 have k0 := Blk.new w #[.int .i64 19, .string t, .int .i64 q, .slice s kn c] 66
 have L0 := bl_alloc (Below.refl _ w) (.cells #[.int .i64 19, .string t, .int .i64 q, .slice s kn c] 66)
 obtain ⟨x0, x1, x2, x3, x4⟩ := k0.four'
 have HH : Hid (hasB 19 t q = (nameB t && numB 19 q)) := has_named (by decide) t q
 go_enter Tryz.func49, Tryz.ntmps49
 go_wp2_with fail; refine (specNameOk_any t _).mono ?_
 rintro e w1 ⟨rfl, hb1⟩
 have K1 := k0.later hb1
 have L1 := bl_trans L0 hb1
 clear x0 x1 x2 x3 x4 k0 L0 hb1; obtain ⟨x0, x1, x2, x3, x4⟩ := K1.four'
 cases hn : nameB t
 ·
  have HF : Hid (hasB 19 t q = false) := by show _ = _; rw [HH.out, hn]; rfl
  go_wp2_with fail; go_ret; exact ⟨by rw [HF.out]; rfl, L1⟩
 have HF : Hid (hasB 19 t q = numB 19 q) := by show _ = _; rw [HH.out, hn]; rfl
 go_wp2_with fail; go_ret; exact ⟨by rw [HF.out]; rfl, L1⟩
set_option maxRecDepth 100000 in
set_option maxHeartbeats 4000000 in
theorem has_20 (t : ByteArray) (ht : t.size ≤ 1048576) (q : Int) (s : Option Addr) (kn c : Nat) (w : World) :
  Calls Tryz.prog 49 #[.agg #[.int .i64 20, .string t, .int .i64 q, .slice s kn c]] w fun e w' => e = .returned (.bool (hasB 20 t q)) ∧ Below w.heap.size w w' := by
 have hal := alloc_old
 have haf := alloc_oldf
 have k0 := Blk.new w #[.int .i64 20, .string t, .int .i64 q, .slice s kn c] 66
 have L0 := bl_alloc (Below.refl _ w) (.cells #[.int .i64 20, .string t, .int .i64 q, .slice s kn c] 66)
 obtain ⟨x0, x1, x2, x3, x4⟩ := k0.four'
 have HH : Hid (hasB 20 t q = (nameB t && numB 20 q)) := has_named (by decide) t q
 go_enter Tryz.func49, Tryz.ntmps49
 go_wp2_with fail; refine (specNameOk_any t _).mono ?_
 rintro e w1 ⟨rfl, hb1⟩
 have K1 := k0.later hb1
 have L1 := bl_trans L0 hb1
 clear x0 x1 x2 x3 x4 k0 L0 hb1; obtain ⟨x0, x1, x2, x3, x4⟩ := K1.four'
 cases hn : nameB t
 ·
  have HF : Hid (hasB 20 t q = false) := by show _ = _; rw [HH.out, hn]; rfl
  go_wp2_with fail; go_ret; exact ⟨by rw [HF.out]; rfl, L1⟩
 have HF : Hid (hasB 20 t q = numB 20 q) := by show _ = _; rw [HH.out, hn]; rfl
 go_wp2_with fail; go_ret; exact ⟨by rw [HF.out]; rfl, L1⟩
set_option maxRecDepth 100000 in
set_option maxHeartbeats 4000000 in
theorem has_21 (t : ByteArray) (ht : t.size ≤ 1048576) (q : Int) (s : Option Addr) (kn c : Nat) (w : World) :
  Calls Tryz.prog 49 #[.agg #[.int .i64 21, .string t, .int .i64 q, .slice s kn c]] w fun e w' => e = .returned (.bool (hasB 21 t q)) ∧ Below w.heap.size w w' := by
 have hal := alloc_old
 have haf := alloc_oldf
 have k0 := Blk.new w #[.int .i64 21, .string t, .int .i64 q, .slice s kn c] 66
 have L0 := bl_alloc (Below.refl _ w) (.cells #[.int .i64 21, .string t, .int .i64 q, .slice s kn c] 66)
 obtain ⟨x0, x1, x2, x3, x4⟩ := k0.four'
 have HH : Hid (hasB 21 t q = (decide (t = ⟨#[]⟩) && numB 21 q)) := has_plain (by decide) (by decide) t q
 by_cases he : t = ⟨#[]⟩
 ·
  subst he
  have HF : Hid (hasB 21 ⟨#[]⟩ q = numB 21 q) := by show _ = _; rw [HH.out]; simp
  clear HH; go_enter Tryz.func49, Tryz.ntmps49
  go_wp2_with fail; go_ret; exact ⟨by rw [HF.out]; rfl, L0⟩
 have HF : Hid (hasB 21 t q = false) := by show _ = _; rw [HH.out]; simp [he]
 have hne : (!t.toList.isEmpty) = true := not_empty he
 clear HH he; go_enter Tryz.func49, Tryz.ntmps49
 go_wp2_with fail; go_ret; exact ⟨by rw [HF.out]; rfl, L0⟩
set_option maxRecDepth 100000 in
set_option maxHeartbeats 4000000 in
theorem has_22 (t : ByteArray) (ht : t.size ≤ 1048576) (q : Int) (s : Option Addr) (kn c : Nat) (w : World) :
  Calls Tryz.prog 49 #[.agg #[.int .i64 22, .string t, .int .i64 q, .slice s kn c]] w fun e w' => e = .returned (.bool (hasB 22 t q)) ∧ Below w.heap.size w w' := by
 have hal := alloc_old
 have haf := alloc_oldf
 have k0 := Blk.new w #[.int .i64 22, .string t, .int .i64 q, .slice s kn c] 66
 have L0 := bl_alloc (Below.refl _ w) (.cells #[.int .i64 22, .string t, .int .i64 q, .slice s kn c] 66)
 obtain ⟨x0, x1, x2, x3, x4⟩ := k0.four'
 have HH : Hid (hasB 22 t q = (decide (t = ⟨#[]⟩) && numB 22 q)) := has_plain (by decide) (by decide) t q
 by_cases he : t = ⟨#[]⟩
 ·
  subst he
  have HF : Hid (hasB 22 ⟨#[]⟩ q = numB 22 q) := by show _ = _; rw [HH.out]; simp
  clear HH; go_enter Tryz.func49, Tryz.ntmps49
  go_wp2_with fail; go_ret; exact ⟨by rw [HF.out]; rfl, L0⟩
 have HF : Hid (hasB 22 t q = false) := by show _ = _; rw [HH.out]; simp [he]
 have hne : (!t.toList.isEmpty) = true := not_empty he
 clear HH he; go_enter Tryz.func49, Tryz.ntmps49
 go_wp2_with fail; go_ret; exact ⟨by rw [HF.out]; rfl, L0⟩
set_option maxRecDepth 100000 in
set_option maxHeartbeats 4000000 in
theorem has_23 (t : ByteArray) (ht : t.size ≤ 1048576) (q : Int) (s : Option Addr) (kn c : Nat) (w : World) :
  Calls Tryz.prog 49 #[.agg #[.int .i64 23, .string t, .int .i64 q, .slice s kn c]] w fun e w' => e = .returned (.bool (hasB 23 t q)) ∧ Below w.heap.size w w' := by
 have hal := alloc_old
 have haf := alloc_oldf
 have k0 := Blk.new w #[.int .i64 23, .string t, .int .i64 q, .slice s kn c] 66
 have L0 := bl_alloc (Below.refl _ w) (.cells #[.int .i64 23, .string t, .int .i64 q, .slice s kn c] 66)
 obtain ⟨x0, x1, x2, x3, x4⟩ := k0.four'
 have HH : Hid (hasB 23 t q = (nameB t && numB 23 q)) := has_named (by decide) t q
 go_enter Tryz.func49, Tryz.ntmps49
 go_wp2_with fail; refine (specNameOk_any t _).mono ?_
 rintro e w1 ⟨rfl, hb1⟩
 have K1 := k0.later hb1
 have L1 := bl_trans L0 hb1
 clear x0 x1 x2 x3 x4 k0 L0 hb1; obtain ⟨x0, x1, x2, x3, x4⟩ := K1.four'
 cases hn : nameB t
 ·
  have HF : Hid (hasB 23 t q = false) := by show _ = _; rw [HH.out, hn]; rfl
  go_wp2_with fail; go_ret; exact ⟨by rw [HF.out]; rfl, L1⟩
 have HF : Hid (hasB 23 t q = numB 23 q) := by show _ = _; rw [HH.out, hn]; rfl
 go_wp2_with fail; go_ret; exact ⟨by rw [HF.out]; rfl, L1⟩
set_option maxRecDepth 100000 in
set_option maxHeartbeats 4000000 in
theorem has_24 (t : ByteArray) (ht : t.size ≤ 1048576) (q : Int) (s : Option Addr) (kn c : Nat) (w : World) :
  Calls Tryz.prog 49 #[.agg #[.int .i64 24, .string t, .int .i64 q, .slice s kn c]] w fun e w' => e = .returned (.bool (hasB 24 t q)) ∧ Below w.heap.size w w' := by
 have hal := alloc_old
 have haf := alloc_oldf
 have k0 := Blk.new w #[.int .i64 24, .string t, .int .i64 q, .slice s kn c] 66
 have L0 := bl_alloc (Below.refl _ w) (.cells #[.int .i64 24, .string t, .int .i64 q, .slice s kn c] 66)
 obtain ⟨x0, x1, x2, x3, x4⟩ := k0.four'
 have HH : Hid (hasB 24 t q = (nameB t && numB 24 q)) := has_named (by decide) t q
 go_enter Tryz.func49, Tryz.ntmps49
 go_wp2_with fail; refine (specNameOk_any t _).mono ?_
 rintro e w1 ⟨rfl, hb1⟩
 have K1 := k0.later hb1
 have L1 := bl_trans L0 hb1
 clear x0 x1 x2 x3 x4 k0 L0 hb1; obtain ⟨x0, x1, x2, x3, x4⟩ := K1.four'
 cases hn : nameB t
 ·
  have HF : Hid (hasB 24 t q = false) := by show _ = _; rw [HH.out, hn]; rfl
  go_wp2_with fail; go_ret; exact ⟨by rw [HF.out]; rfl, L1⟩
 have HF : Hid (hasB 24 t q = numB 24 q) := by show _ = _; rw [HH.out, hn]; rfl
 go_wp2_with fail; go_ret; exact ⟨by rw [HF.out]; rfl, L1⟩
set_option maxRecDepth 100000 in
set_option maxHeartbeats 4000000 in
theorem has_25 (t : ByteArray) (ht : t.size ≤ 1048576) (q : Int) (s : Option Addr) (kn c : Nat) (w : World) :
  Calls Tryz.prog 49 #[.agg #[.int .i64 25, .string t, .int .i64 q, .slice s kn c]] w fun e w' => e = .returned (.bool (hasB 25 t q)) ∧ Below w.heap.size w w' := by
 have hal := alloc_old
 have haf := alloc_oldf
 have k0 := Blk.new w #[.int .i64 25, .string t, .int .i64 q, .slice s kn c] 66
 have L0 := bl_alloc (Below.refl _ w) (.cells #[.int .i64 25, .string t, .int .i64 q, .slice s kn c] 66)
 obtain ⟨x0, x1, x2, x3, x4⟩ := k0.four'
 have HH : Hid (hasB 25 t q = (decide (t = ⟨#[]⟩) && numB 25 q)) := has_plain (by decide) (by decide) t q
 by_cases he : t = ⟨#[]⟩
 ·
  subst he
  have HF : Hid (hasB 25 ⟨#[]⟩ q = numB 25 q) := by show _ = _; rw [HH.out]; simp
  clear HH; go_enter Tryz.func49, Tryz.ntmps49
  go_wp2_with fail; go_ret; exact ⟨by rw [HF.out]; rfl, L0⟩
 have HF : Hid (hasB 25 t q = false) := by show _ = _; rw [HH.out]; simp [he]
 have hne : (!t.toList.isEmpty) = true := not_empty he
 clear HH he; go_enter Tryz.func49, Tryz.ntmps49
 go_wp2_with fail; go_ret; exact ⟨by rw [HF.out]; rfl, L0⟩
set_option maxRecDepth 100000 in
set_option maxHeartbeats 4000000 in
theorem has_26 (t : ByteArray) (ht : t.size ≤ 1048576) (q : Int) (s : Option Addr) (kn c : Nat) (w : World) :
  Calls Tryz.prog 49 #[.agg #[.int .i64 26, .string t, .int .i64 q, .slice s kn c]] w fun e w' => e = .returned (.bool (hasB 26 t q)) ∧ Below w.heap.size w w' := by
 have hal := alloc_old
 have haf := alloc_oldf
 have k0 := Blk.new w #[.int .i64 26, .string t, .int .i64 q, .slice s kn c] 66
 have L0 := bl_alloc (Below.refl _ w) (.cells #[.int .i64 26, .string t, .int .i64 q, .slice s kn c] 66)
 obtain ⟨x0, x1, x2, x3, x4⟩ := k0.four'
 have HH : Hid (hasB 26 t q = (decide (t = ⟨#[]⟩) && numB 26 q)) := has_plain (by decide) (by decide) t q
 by_cases he : t = ⟨#[]⟩
 ·
  subst he
  have HF : Hid (hasB 26 ⟨#[]⟩ q = numB 26 q) := by show _ = _; rw [HH.out]; simp
  clear HH; go_enter Tryz.func49, Tryz.ntmps49
  go_wp2_with fail; go_ret; exact ⟨by rw [HF.out]; rfl, L0⟩
 have HF : Hid (hasB 26 t q = false) := by show _ = _; rw [HH.out]; simp [he]
 have hne : (!t.toList.isEmpty) = true := not_empty he
 clear HH he; go_enter Tryz.func49, Tryz.ntmps49
 go_wp2_with fail; go_ret; exact ⟨by rw [HF.out]; rfl, L0⟩
set_option maxRecDepth 100000 in
set_option maxHeartbeats 4000000 in
theorem has_27 (t : ByteArray) (ht : t.size ≤ 1048576) (q : Int) (s : Option Addr) (kn c : Nat) (w : World) :
  Calls Tryz.prog 49 #[.agg #[.int .i64 27, .string t, .int .i64 q, .slice s kn c]] w fun e w' => e = .returned (.bool (hasB 27 t q)) ∧ Below w.heap.size w w' := by
 have hal := alloc_old
 have haf := alloc_oldf
 have k0 := Blk.new w #[.int .i64 27, .string t, .int .i64 q, .slice s kn c] 66
 have L0 := bl_alloc (Below.refl _ w) (.cells #[.int .i64 27, .string t, .int .i64 q, .slice s kn c] 66)
 obtain ⟨x0, x1, x2, x3, x4⟩ := k0.four'
 have HH : Hid (hasB 27 t q = (decide (t = ⟨#[]⟩) && numB 27 q)) := has_plain (by decide) (by decide) t q
 by_cases he : t = ⟨#[]⟩
 ·
  subst he
  have HF : Hid (hasB 27 ⟨#[]⟩ q = numB 27 q) := by show _ = _; rw [HH.out]; simp
  clear HH; go_enter Tryz.func49, Tryz.ntmps49
  go_wp2_with fail; go_ret; exact ⟨by rw [HF.out]; rfl, L0⟩
 have HF : Hid (hasB 27 t q = false) := by show _ = _; rw [HH.out]; simp [he]
 have hne : (!t.toList.isEmpty) = true := not_empty he
 clear HH he; go_enter Tryz.func49, Tryz.ntmps49
 go_wp2_with fail; go_ret; exact ⟨by rw [HF.out]; rfl, L0⟩
set_option maxRecDepth 100000 in
set_option maxHeartbeats 4000000 in
theorem has_28 (t : ByteArray) (ht : t.size ≤ 1048576) (q : Int) (s : Option Addr) (kn c : Nat) (w : World) :
  Calls Tryz.prog 49 #[.agg #[.int .i64 28, .string t, .int .i64 q, .slice s kn c]] w fun e w' => e = .returned (.bool (hasB 28 t q)) ∧ Below w.heap.size w w' := by
 have hal := alloc_old
 have haf := alloc_oldf
 have k0 := Blk.new w #[.int .i64 28, .string t, .int .i64 q, .slice s kn c] 66
 have L0 := bl_alloc (Below.refl _ w) (.cells #[.int .i64 28, .string t, .int .i64 q, .slice s kn c] 66)
 obtain ⟨x0, x1, x2, x3, x4⟩ := k0.four'
 have HH : Hid (hasB 28 t q = (nameB t && numB 28 q)) := has_named (by decide) t q
 go_enter Tryz.func49, Tryz.ntmps49
 go_wp2_with fail; refine (specNameOk_any t _).mono ?_
 rintro e w1 ⟨rfl, hb1⟩
 have K1 := k0.later hb1
 have L1 := bl_trans L0 hb1
 clear x0 x1 x2 x3 x4 k0 L0 hb1; obtain ⟨x0, x1, x2, x3, x4⟩ := K1.four'
 cases hn : nameB t
 ·
  have HF : Hid (hasB 28 t q = false) := by show _ = _; rw [HH.out, hn]; rfl
  go_wp2_with fail; go_ret; exact ⟨by rw [HF.out]; rfl, L1⟩
 have HF : Hid (hasB 28 t q = numB 28 q) := by show _ = _; rw [HH.out, hn]; rfl
 go_wp2_with fail; go_ret; exact ⟨by rw [HF.out]; rfl, L1⟩
set_option maxRecDepth 100000 in
set_option maxHeartbeats 4000000 in
theorem has_29 (t : ByteArray) (ht : t.size ≤ 1048576) (q : Int) (s : Option Addr) (kn c : Nat) (w : World) :
  Calls Tryz.prog 49 #[.agg #[.int .i64 29, .string t, .int .i64 q, .slice s kn c]] w fun e w' => e = .returned (.bool (hasB 29 t q)) ∧ Below w.heap.size w w' := by
 have hal := alloc_old
 have haf := alloc_oldf
 have k0 := Blk.new w #[.int .i64 29, .string t, .int .i64 q, .slice s kn c] 66
 have L0 := bl_alloc (Below.refl _ w) (.cells #[.int .i64 29, .string t, .int .i64 q, .slice s kn c] 66)
 obtain ⟨x0, x1, x2, x3, x4⟩ := k0.four'
 have HH : Hid (hasB 29 t q = (decide (t = ⟨#[]⟩) && numB 29 q)) := has_plain (by decide) (by decide) t q
 by_cases he : t = ⟨#[]⟩
 ·
  subst he
  have HF : Hid (hasB 29 ⟨#[]⟩ q = numB 29 q) := by show _ = _; rw [HH.out]; simp
  clear HH; go_enter Tryz.func49, Tryz.ntmps49
  go_wp2_with fail; go_ret; exact ⟨by rw [HF.out]; rfl, L0⟩
 have HF : Hid (hasB 29 t q = false) := by show _ = _; rw [HH.out]; simp [he]
 have hne : (!t.toList.isEmpty) = true := not_empty he
 clear HH he; go_enter Tryz.func49, Tryz.ntmps49
 go_wp2_with fail; go_ret; exact ⟨by rw [HF.out]; rfl, L0⟩
set_option maxRecDepth 100000 in
set_option maxHeartbeats 4000000 in
theorem has_30 (t : ByteArray) (ht : t.size ≤ 1048576) (q : Int) (s : Option Addr) (kn c : Nat) (w : World) :
  Calls Tryz.prog 49 #[.agg #[.int .i64 30, .string t, .int .i64 q, .slice s kn c]] w fun e w' => e = .returned (.bool (hasB 30 t q)) ∧ Below w.heap.size w w' := by
 have hal := alloc_old
 have haf := alloc_oldf
 have k0 := Blk.new w #[.int .i64 30, .string t, .int .i64 q, .slice s kn c] 66
 have L0 := bl_alloc (Below.refl _ w) (.cells #[.int .i64 30, .string t, .int .i64 q, .slice s kn c] 66)
 obtain ⟨x0, x1, x2, x3, x4⟩ := k0.four'
 have HH : Hid (hasB 30 t q = (decide (t = ⟨#[]⟩) && numB 30 q)) := has_plain (by decide) (by decide) t q
 by_cases he : t = ⟨#[]⟩
 ·
  subst he
  have HF : Hid (hasB 30 ⟨#[]⟩ q = numB 30 q) := by show _ = _; rw [HH.out]; simp
  clear HH; go_enter Tryz.func49, Tryz.ntmps49
  go_wp2_with fail; go_ret; exact ⟨by rw [HF.out]; rfl, L0⟩
 have HF : Hid (hasB 30 t q = false) := by show _ = _; rw [HH.out]; simp [he]
 have hne : (!t.toList.isEmpty) = true := not_empty he
 clear HH he; go_enter Tryz.func49, Tryz.ntmps49
 go_wp2_with fail; go_ret; exact ⟨by rw [HF.out]; rfl, L0⟩
set_option maxRecDepth 100000 in
set_option maxHeartbeats 4000000 in
theorem has_31 (t : ByteArray) (ht : t.size ≤ 1048576) (q : Int) (s : Option Addr) (kn c : Nat) (w : World) :
  Calls Tryz.prog 49 #[.agg #[.int .i64 31, .string t, .int .i64 q, .slice s kn c]] w fun e w' => e = .returned (.bool (hasB 31 t q)) ∧ Below w.heap.size w w' := by
 have hal := alloc_old
 have haf := alloc_oldf
 have k0 := Blk.new w #[.int .i64 31, .string t, .int .i64 q, .slice s kn c] 66
 have L0 := bl_alloc (Below.refl _ w) (.cells #[.int .i64 31, .string t, .int .i64 q, .slice s kn c] 66)
 obtain ⟨x0, x1, x2, x3, x4⟩ := k0.four'
 have HH : Hid (hasB 31 t q = (nameB t && numB 31 q)) := has_named (by decide) t q
 go_enter Tryz.func49, Tryz.ntmps49
 go_wp2_with fail; refine (specNameOk_any t _).mono ?_
 rintro e w1 ⟨rfl, hb1⟩
 have K1 := k0.later hb1
 have L1 := bl_trans L0 hb1
 clear x0 x1 x2 x3 x4 k0 L0 hb1; obtain ⟨x0, x1, x2, x3, x4⟩ := K1.four'
 cases hn : nameB t
 ·
  have HF : Hid (hasB 31 t q = false) := by show _ = _; rw [HH.out, hn]; rfl
  go_wp2_with fail; go_ret; exact ⟨by rw [HF.out]; rfl, L1⟩
 have HF : Hid (hasB 31 t q = numB 31 q) := by show _ = _; rw [HH.out, hn]; rfl
 go_wp2_with fail; go_ret; exact ⟨by rw [HF.out]; rfl, L1⟩
set_option maxRecDepth 100000 in
set_option maxHeartbeats 4000000 in
theorem has_32 (t : ByteArray) (ht : t.size ≤ 1048576) (q : Int) (s : Option Addr) (kn c : Nat) (w : World) :
  Calls Tryz.prog 49 #[.agg #[.int .i64 32, .string t, .int .i64 q, .slice s kn c]] w fun e w' => e = .returned (.bool (hasB 32 t q)) ∧ Below w.heap.size w w' := by
 have hal := alloc_old
 have haf := alloc_oldf
 have k0 := Blk.new w #[.int .i64 32, .string t, .int .i64 q, .slice s kn c] 66
 have L0 := bl_alloc (Below.refl _ w) (.cells #[.int .i64 32, .string t, .int .i64 q, .slice s kn c] 66)
 obtain ⟨x0, x1, x2, x3, x4⟩ := k0.four'
 have HH : Hid (hasB 32 t q = (nameB t && numB 32 q)) := has_named (by decide) t q
 go_enter Tryz.func49, Tryz.ntmps49
 go_wp2_with fail; refine (specNameOk_any t _).mono ?_
 rintro e w1 ⟨rfl, hb1⟩
 have K1 := k0.later hb1
 have L1 := bl_trans L0 hb1
 clear x0 x1 x2 x3 x4 k0 L0 hb1; obtain ⟨x0, x1, x2, x3, x4⟩ := K1.four'
 cases hn : nameB t
 ·
  have HF : Hid (hasB 32 t q = false) := by show _ = _; rw [HH.out, hn]; rfl
  go_wp2_with fail; go_ret; exact ⟨by rw [HF.out]; rfl, L1⟩
 have HF : Hid (hasB 32 t q = numB 32 q) := by show _ = _; rw [HH.out, hn]; rfl
 go_wp2_with (go_at_call 47; refine (l1In_any _ _ _ _).mono ?_; rintro e w' ⟨rfl, rfl⟩)
 go_ret; exact ⟨by rw [HF.out]; rfl, L1⟩
set_option maxRecDepth 100000 in
set_option maxHeartbeats 4000000 in
theorem has_33 (t : ByteArray) (ht : t.size ≤ 1048576) (q : Int) (s : Option Addr) (kn c : Nat) (w : World) :
  Calls Tryz.prog 49 #[.agg #[.int .i64 33, .string t, .int .i64 q, .slice s kn c]] w fun e w' => e = .returned (.bool (hasB 33 t q)) ∧ Below w.heap.size w w' := by
 have hal := alloc_old
 have haf := alloc_oldf
 have k0 := Blk.new w #[.int .i64 33, .string t, .int .i64 q, .slice s kn c] 66
 have L0 := bl_alloc (Below.refl _ w) (.cells #[.int .i64 33, .string t, .int .i64 q, .slice s kn c] 66)
 obtain ⟨x0, x1, x2, x3, x4⟩ := k0.four'
 have HH : Hid (hasB 33 t q = (nameB t && numB 33 q)) := has_named (by decide) t q
 go_enter Tryz.func49, Tryz.ntmps49
 go_wp2_with fail; refine (specNameOk_any t _).mono ?_
 rintro e w1 ⟨rfl, hb1⟩
 have K1 := k0.later hb1
 have L1 := bl_trans L0 hb1
 clear x0 x1 x2 x3 x4 k0 L0 hb1; obtain ⟨x0, x1, x2, x3, x4⟩ := K1.four'
 cases hn : nameB t
 ·
  have HF : Hid (hasB 33 t q = false) := by show _ = _; rw [HH.out, hn]; rfl
  go_wp2_with fail; go_ret; exact ⟨by rw [HF.out]; rfl, L1⟩
 have HF : Hid (hasB 33 t q = numB 33 q) := by show _ = _; rw [HH.out, hn]; rfl
 go_wp2_with (go_at_call 47; refine (l1In_any _ _ _ _).mono ?_; rintro e w' ⟨rfl, rfl⟩)
 go_ret; exact ⟨by rw [HF.out]; rfl, L1⟩
set_option maxRecDepth 100000 in
set_option maxHeartbeats 4000000 in
theorem has_34 (t : ByteArray) (ht : t.size ≤ 1048576) (q : Int) (s : Option Addr) (kn c : Nat) (w : World) :
  Calls Tryz.prog 49 #[.agg #[.int .i64 34, .string t, .int .i64 q, .slice s kn c]] w fun e w' => e = .returned (.bool (hasB 34 t q)) ∧ Below w.heap.size w w' := by
 have hal := alloc_old
 have haf := alloc_oldf
 have k0 := Blk.new w #[.int .i64 34, .string t, .int .i64 q, .slice s kn c] 66
 have L0 := bl_alloc (Below.refl _ w) (.cells #[.int .i64 34, .string t, .int .i64 q, .slice s kn c] 66)
 obtain ⟨x0, x1, x2, x3, x4⟩ := k0.four'
 have HH : Hid (hasB 34 t q = (nameB t && numB 34 q)) := has_named (by decide) t q
 go_enter Tryz.func49, Tryz.ntmps49
 go_wp2_with fail; refine (specNameOk_any t _).mono ?_
 rintro e w1 ⟨rfl, hb1⟩
 have K1 := k0.later hb1
 have L1 := bl_trans L0 hb1
 clear x0 x1 x2 x3 x4 k0 L0 hb1; obtain ⟨x0, x1, x2, x3, x4⟩ := K1.four'
 cases hn : nameB t
 ·
  have HF : Hid (hasB 34 t q = false) := by show _ = _; rw [HH.out, hn]; rfl
  go_wp2_with fail; go_ret; exact ⟨by rw [HF.out]; rfl, L1⟩
 have HF : Hid (hasB 34 t q = numB 34 q) := by show _ = _; rw [HH.out, hn]; rfl
 go_wp2_with fail; go_ret; exact ⟨by rw [HF.out]; rfl, L1⟩
set_option maxRecDepth 100000 in
set_option maxHeartbeats 4000000 in
theorem has_none (k : Int) (hn : k < 1 ∨ 34 < k) (t : ByteArray) (ht : t.size ≤ 1048576) (q : Int) (s : Option Addr) (kn c : Nat) (w : World) :
  Calls Tryz.prog 49 #[.agg #[.int .i64 k, .string t, .int .i64 q, .slice s kn c]] w fun e w' => e = .returned (.bool (hasB k t q)) ∧ Below w.heap.size w w' := by
 have hal := alloc_old
 have haf := alloc_oldf
 have k0 := Blk.new w #[.int .i64 k, .string t, .int .i64 q, .slice s kn c] 66
 have L0 := bl_alloc (Below.refl _ w) (.cells #[.int .i64 k, .string t, .int .i64 q, .slice s kn c] 66)
 obtain ⟨x0, x1, x2, x3, x4⟩ := k0.four'
 have HH : Hid (hasB k t q = (decide (t = ⟨#[]⟩) && numB k q)) := has_plain (by omega) (by unfold namedK; simp; omega) t q
 have HN : Hid (numB k q = (q == 0)) := by show _ = _; unfold numB; repeat rw [if_neg (by omega)]
 have e1 := (noKind hn).ne 1 (by omega) (by omega)
 have e2 := (noKind hn).ne 2 (by omega) (by omega)
 have e3 := (noKind hn).ne 3 (by omega) (by omega)
 have e4 := (noKind hn).ne 4 (by omega) (by omega)
 have e5 := (noKind hn).ne 5 (by omega) (by omega)
 have e6 := (noKind hn).ne 6 (by omega) (by omega)
 have e7 := (noKind hn).ne 7 (by omega) (by omega)
 have e8 := (noKind hn).ne 8 (by omega) (by omega)
 have e9 := (noKind hn).ne 9 (by omega) (by omega)
 have e10 := (noKind hn).ne 10 (by omega) (by omega)
 have e11 := (noKind hn).ne 11 (by omega) (by omega)
 have e12 := (noKind hn).ne 12 (by omega) (by omega)
 have e13 := (noKind hn).ne 13 (by omega) (by omega)
 have e14 := (noKind hn).ne 14 (by omega) (by omega)
 have e15 := (noKind hn).ne 15 (by omega) (by omega)
 have e16 := (noKind hn).ne 16 (by omega) (by omega)
 have e17 := (noKind hn).ne 17 (by omega) (by omega)
 have e18 := (noKind hn).ne 18 (by omega) (by omega)
 have e19 := (noKind hn).ne 19 (by omega) (by omega)
 have e20 := (noKind hn).ne 20 (by omega) (by omega)
 have e21 := (noKind hn).ne 21 (by omega) (by omega)
 have e22 := (noKind hn).ne 22 (by omega) (by omega)
 have e23 := (noKind hn).ne 23 (by omega) (by omega)
 have e24 := (noKind hn).ne 24 (by omega) (by omega)
 have e25 := (noKind hn).ne 25 (by omega) (by omega)
 have e26 := (noKind hn).ne 26 (by omega) (by omega)
 have e27 := (noKind hn).ne 27 (by omega) (by omega)
 have e28 := (noKind hn).ne 28 (by omega) (by omega)
 have e29 := (noKind hn).ne 29 (by omega) (by omega)
 have e30 := (noKind hn).ne 30 (by omega) (by omega)
 have e31 := (noKind hn).ne 31 (by omega) (by omega)
 have e32 := (noKind hn).ne 32 (by omega) (by omega)
 have e33 := (noKind hn).ne 33 (by omega) (by omega)
 have e34 := (noKind hn).ne 34 (by omega) (by omega)
 clear hn; by_cases he : t = ⟨#[]⟩
 ·
  subst he
  have HF : Hid (hasB k ⟨#[]⟩ q = (q == 0)) := by show _ = _; rw [HH.out, HN.out]; simp
  clear HH HN; go_enter Tryz.func49, Tryz.ntmps49
  go_wp2_with fail; go_ret; exact ⟨by rw [HF.out]; rfl, L0⟩
 have HF : Hid (hasB k t q = false) := by show _ = _; rw [HH.out]; simp [he]
 have hne : (!t.toList.isEmpty) = true := not_empty he
 clear HH he HN; go_enter Tryz.func49, Tryz.ntmps49
 go_wp2_with fail; go_ret; exact ⟨by rw [HF.out]; rfl, L0⟩
theorem l8Has_any (k : Int) (t : ByteArray) (ht : t.size ≤ 1048576) (q : Int) (s : Option Addr) (kn c : Nat) (w : World) :
  Calls Tryz.prog 49 #[.agg #[.int .i64 k, .string t, .int .i64 q, .slice s kn c]] w fun e w' => e = .returned (.bool (hasB k t q)) ∧ Below w.heap.size w w' := by
 rcases kind_split k with h | h | rfl | rfl | rfl | rfl | rfl | rfl | rfl | rfl | rfl | rfl | rfl | rfl | rfl | rfl | rfl | rfl | rfl | rfl | rfl | rfl | rfl | rfl | rfl | rfl | rfl | rfl | rfl | rfl | rfl | rfl | rfl | rfl | rfl | rfl
 ·
  exact has_none k (Or.inl h) t ht q s kn c w
 ·
  exact has_none k (Or.inr h) t ht q s kn c w
 ·
  exact has_1 t ht q s kn c w
 ·
  exact has_2 t ht q s kn c w
 ·
  exact has_3 t ht q s kn c w
 ·
  exact has_4 t ht q s kn c w
 ·
  exact has_5 t ht q s kn c w
 ·
  exact has_6 t ht q s kn c w
 ·
  exact has_7 t ht q s kn c w
 ·
  exact has_8 t ht q s kn c w
 ·
  exact has_9 t ht q s kn c w
 ·
  exact has_10 t ht q s kn c w
 ·
  exact has_11 t ht q s kn c w
 ·
  exact has_12 t ht q s kn c w
 ·
  exact has_13 t ht q s kn c w
 ·
  exact has_14 t ht q s kn c w
 ·
  exact has_15 t ht q s kn c w
 ·
  exact has_16 t ht q s kn c w
 ·
  exact has_17 t ht q s kn c w
 ·
  exact has_18 t ht q s kn c w
 ·
  exact has_19 t ht q s kn c w
 ·
  exact has_20 t ht q s kn c w
 ·
  exact has_21 t ht q s kn c w
 ·
  exact has_22 t ht q s kn c w
 ·
  exact has_23 t ht q s kn c w
 ·
  exact has_24 t ht q s kn c w
 ·
  exact has_25 t ht q s kn c w
 ·
  exact has_26 t ht q s kn c w
 ·
  exact has_27 t ht q s kn c w
 ·
  exact has_28 t ht q s kn c w
 ·
  exact has_29 t ht q s kn c w
 ·
  exact has_30 t ht q s kn c w
 ·
  exact has_31 t ht q s kn c w
 ·
  exact has_32 t ht q s kn c w
 ·
  exact has_33 t ht q s kn c w
 exact has_34 t ht q s kn c w
end
section
open Go.RowKit
theorem FitL.same {K : Nat → List Int} {ok : Nat → Prop} {l : List Int} {a m : Nat} (h : FitL K ok l a m) : ∀ m', FitL K ok l a m' → m = m' := by
 induction h with
 | nil nx => intro m' g; cases g; rfl
 | cons nx k ks e _ _ _ _ _ ih =>
  intro m' g
  generalize hx : (k : Int) :: ks = l' at g
  cases g with
  | nil => cases hx
  | cons _ k' ks' _ _ _ _ g4 =>
   simp only [List.cons.injEq] at hx
   obtain ⟨e1, rfl⟩ := hx
   obtain rfl : k = k' := by omega
   exact ih m' g4
def clsOk (cl kind : Int) : Prop := if cl = 10 then kind = 7 else cls kind = cl ∧ ¬ cl = 0
def kidsOf (t : Tre) (k : Nat) : List Int := ((t.nodes[k]?).map Nd.kids).getD []
def okN (t : Tre) (k : Nat) : Prop := ∃ nd, t.nodes[k]? = some nd ∧ hasB nd.kind nd.text nd.num = true ∧ (shp nd.kind nd.kids.length).length = nd.kids.length ∧ ∀ (j : Nat) (x c : Int), nd.kids[j]? = some x → (shp nd.kind nd.kids.length)[j]? = some c → ∃ (m : Nat) (nd' : Nd), x = m ∧ t.nodes[m]? = some nd' ∧ clsOk c nd'.kind
def FitN (t : Tre) (cl : Int) (k nx : Nat) : Prop := ∃ nd, t.nodes[k]? = some nd ∧ clsOk cl nd.kind ∧ nx ≤ k ∧ okN t k ∧ FitL (kidsOf t) (okN t) nd.kids nx k
theorem kidsOf_some {t : Tre} {k : Nat} {nd : Nd} (h : t.nodes[k]? = some nd) : kidsOf t k = nd.kids := by simp [kidsOf, h]
structure SeenIs (w : World) (g n : Nat) (f : Nat → Bool) : Prop where
 lt : g < w.heap.size
 cell : ∀ j, j < n → w.cell? ⟨g, j, none⟩ = some (.bool (f j))
 fz : ∀ j, w.frozen? ⟨g, j, none⟩ = false
theorem SeenIs.later {w w' : World} {g n : Nat} {f : Nat → Bool} (h : SeenIs w g n f) (hb : Below w.heap.size w w') : SeenIs w' g n f :=
 ⟨Nat.lt_of_lt_of_le h.lt hb.size, fun j hj => (hb.cell (p := ⟨g, j, none⟩) h.lt).trans (h.cell j hj), fun j => (hb.frozen (p := ⟨g, j, none⟩) h.lt).trans (h.fz j)⟩
theorem SeenIs.set {w : World} {g n : Nat} {f : Nat → Bool} (h : SeenIs w g n f) {k : Nat} (hk : k < n) : SeenIs (w.setCell ⟨g, k, none⟩ (.bool true)) g n (fun j => if j = k then true else f j) := by
 refine ⟨by simpa [World.setCell] using h.lt, fun j hj => ?_, fun j => (World.frozen?_setCell _ _ _ _).trans (h.fz j)⟩
 by_cases e : j = k
 ·
  subst e
  rw [if_pos rfl]
  exact World.cell?_setCell_same _ _ _ (h.cell j hj)
 rw [if_neg e]
 exact (World.cell?_setCell_other _ _ _ _ (fun q => e (by simp at q <;> omega))).trans (h.cell j hj)
def FitsSays (t : Tre) (I cl : Int) (nx : Nat) (f : Nat → Bool) (g : Nat) (w : World) (e : Ending) (w' : World) : Prop :=
 w.grownBy w' (some g) ∧ ∃ f', SeenIs w' g t.nodes.length f' ∧ ((∃ k : Nat, I = k ∧ FitN t cl k nx ∧ e = .returned (.tuple #[.int .i64 ((k : Int) + 1), .bool true]) ∧ (∀ j, j ≤ k → f' j = true) ∧ ∀ j, k < j → f' j = f j) ∨ ((¬ ∃ k : Nat, I = k ∧ FitN t cl k nx) ∧ ∃ r, e = .returned (.tuple #[.int .i64 r, .bool false])))
theorem grown_bl {g : Nat} {a b c : World} (h : a.grownBy b (some g)) (hb : Below b.heap.size b c) : a.grownBy c (some g) := grown_trans h ⟨hb.os, hb.tape, hb.output, hb.size, fun k hk _ => hb.block k hk⟩
theorem Blk.grown {w w' : World} {n g : Nat} {c : Array Value} {t : TypeId} (h : Blk w n c t) (hg : w.grownBy w' (some g)) (hn : ¬ n = g) : Blk w' n c t := by
 unfold Blk
 rw [hg.block n h.lt (by simpa using hn)]
 exact h
def rl (k : Int) : UInt8 :=
 if k = 27 then 98 else if k = 28 then 99 else if k = 29 then 119 else if k = 30 then 111 else if k = 31 then 110 else if k = 32 then 112 else if k = 33 ∨ k = 34 then 116 else if 1 ≤ k ∧ k ≤ 11 then 101 else if 12 ≤ k ∧ k ≤ 26 then 115 else 63
def ltr (c : Int) : UInt8 :=
 if c = 1 then 101 else if c = 2 then 115 else if c = 3 then 98 else if c = 4 then 119 else if c = 5 then 111 else if c = 6 then 110 else if c = 7 then 112 else if c = 8 then 99 else if c = 9 then 116 else 0
theorem rl_none {k : Int} (h : k < 1 ∨ 34 < k) : rl k = 63 := by
 unfold rl
 rw [if_neg (by omega), if_neg (by omega), if_neg (by omega), if_neg (by omega), if_neg (by omega), if_neg (by omega), if_neg (by omega), if_neg (by omega), if_neg (by omega)]
theorem rl_cls (k c : Int) (h1 : 1 ≤ c) (h9 : c ≤ 9) : rl k = ltr c ↔ cls k = c := by
 have hc : c = 1 ∨ c = 2 ∨ c = 3 ∨ c = 4 ∨ c = 5 ∨ c = 6 ∨ c = 7 ∨ c = 8 ∨ c = 9 := by omega
 rcases kind_split k with h | h | h
 ·
  rw [rl_none (Or.inl h), cls_none (Or.inl h)]
  clear h; rcases hc with rfl | rfl | rfl | rfl | rfl | rfl | rfl | rfl | rfl <;> decide
 ·
  rw [rl_none (Or.inr h), cls_none (Or.inr h)]
  clear h; rcases hc with rfl | rfl | rfl | rfl | rfl | rfl | rfl | rfl | rfl <;> decide
 rcases h with rfl | rfl | rfl | rfl | rfl | rfl | rfl | rfl | rfl | rfl | rfl | rfl | rfl | rfl | rfl | rfl | rfl | rfl | rfl | rfl | rfl | rfl | rfl | rfl | rfl | rfl | rfl | rfl | rfl | rfl | rfl | rfl | rfl | rfl <;> (rcases hc with rfl | rfl | rfl | rfl | rfl | rfl | rfl | rfl | rfl <;> decide)
theorem clsOk_rl (k c : Int) (h1 : 1 ≤ c) (h9 : c ≤ 9) : clsOk c k ↔ rl k = ltr c := by
 rw [rl_cls k c h1 h9]
 unfold clsOk
 rw [if_neg (by omega)]
 exact ⟨fun h => h.1, fun h => ⟨h, by omega⟩⟩
def Fit2 (cs ks : List Int) : Prop := cs.length = ks.length ∧ ∀ (j : Nat) (x c : Int), ks[j]? = some x → cs[j]? = some c → clsOk c x
theorem Fit2.cons {c k : Int} {cs ks : List Int} : Fit2 (c :: cs) (k :: ks) ↔ clsOk c k ∧ Fit2 cs ks := by
 constructor
 ·
  rintro ⟨h1, h2⟩
  exact ⟨h2 0 k c rfl rfl, by simpa using h1, fun j x d e1 e2 => h2 (j + 1) x d (by simpa using e1) (by simpa using e2)⟩
 rintro ⟨h0, h1, h2⟩
 refine ⟨by simp [h1], fun j x d e1 e2 => ?_⟩
 cases j with
 | zero => simp at e1 e2; subst e1; subst e2; exact h0
 | succ j => exact h2 j x d (by simpa using e1) (by simpa using e2)
theorem fit_map {cs : List Int} : ∀ {ks : List Int}, (∀ c ∈ cs, 1 ≤ c ∧ c ≤ 9) → (Fit2 cs ks ↔ ks.map rl = cs.map ltr) := by
 induction cs with
 | nil =>
  intro ks _
  cases ks with
  | nil => simp [Fit2]
  | cons k ks => simp [Fit2]
 | cons c cs ih =>
  intro ks h
  cases ks with
  | nil => simp [Fit2]
  | cons k ks =>
   have hc := h c (by simp)
   rw [Fit2.cons, clsOk_rl k c hc.1 hc.2, ih (fun d hd => h d (by simp [hd]))]
   simp
def KidsP (kind : Int) (ks : List Int) : Prop := Fit2 (shp kind ks.length) ks
theorem kids_const {kind : Int} (cs : List Int) {ks : List Int} (h : ∀ n, shp kind n = cs) (h9 : ∀ c ∈ cs, 1 ≤ c ∧ c ≤ 9) : KidsP kind ks ↔ ks.map rl = cs.map ltr := by
 unfold KidsP
 rw [h]
 exact fit_map h9
theorem all_rep {a : UInt8} {l : List UInt8} : l = List.replicate l.length a ↔ ∀ b ∈ l, b = a := by
 constructor
 ·
  intro h b hb
  rw [h] at hb
  exact (List.mem_replicate.1 hb).2
 intro h
 exact List.eq_replicate_iff.2 ⟨rfl, h⟩
theorem kids_rep {kind c : Int} {ks : List Int} (h : ∀ n, shp kind n = List.replicate n c) (h9 : 1 ≤ c ∧ c ≤ 9) : KidsP kind ks ↔ ∀ b ∈ ks.map rl, b = ltr c := by
 unfold KidsP
 rw [h, fit_map (fun d hd => by obtain rfl := (List.mem_replicate.1 hd).2; exact h9), ← all_rep]
 simp
theorem kids_pick {ks : List Int} : KidsP 11 ks ↔ ∃ r, ks.map rl = 101 :: 110 :: r ∧ ∀ b ∈ r, b = 110 := by
 have hs : ∀ n, shp 11 n = 1 :: 6 :: List.replicate (n - 2) 6 := fun n => by simp [shp]
 unfold KidsP
 rw [hs, fit_map (by
  intro c hc
  simp at hc
  rcases hc with rfl | rfl | ⟨_, rfl⟩ <;> decide)]
 have e1 : (1 :: 6 :: List.replicate (ks.length - 2) 6 : List Int).map ltr = 101 :: 110 :: List.replicate (ks.length - 2) 110 := by
  simp [List.map_replicate]
  refine ⟨by decide, by decide, Or.inr (by decide)⟩
 rw [e1]
 constructor
 ·
  intro h
  exact ⟨_, h, fun b hb => (List.mem_replicate.1 hb).2⟩
 rintro ⟨r, h1, h2⟩
 rw [h1]
 have hl : (ks.map rl).length = r.length + 2 := by rw [h1]; rfl
 rw [List.length_map] at hl
 have : ks.length - 2 = r.length := by omega
 rw [this, ← all_rep.2 h2]
theorem kids_if {ks : List Int} : KidsP 16 ks ↔ (ks.map rl = [101, 98] ∨ ks.map rl = [101, 98, 98]) := by
 unfold KidsP
 by_cases h : ks.length = 3
 ·
  have hs : shp 16 ks.length = [1, 3, 3] := by simp [shp, h]
  rw [hs, fit_map (by decide)]
  have e1 : ([1, 3, 3] : List Int).map ltr = [101, 98, 98] := by decide
  rw [e1]
  exact ⟨Or.inr, fun g => g.elim (fun g => by have := congrArg List.length g; simp [h] at this) id⟩
 have hs : shp 16 ks.length = [1, 3] := by simp [shp, h]
 rw [hs, fit_map (by decide)]
 have e1 : ([1, 3] : List Int).map ltr = [101, 98] := by decide
 rw [e1]
 exact ⟨Or.inl, fun g => g.elim id (fun g => by have := congrArg List.length g; simp at this; omega)⟩
theorem kids_with {ks : List Int} : KidsP 29 ks ↔ (¬ ks.map rl = [] ∧ ∀ b ∈ ks.map rl, b = 110) := by
 have hs : ∀ n, shp 29 n = 6 :: List.replicate (n - 1) 6 := fun n => by simp [shp]
 unfold KidsP
 rw [hs, fit_map (by
  intro c hc
  simp at hc
  rcases hc with rfl | ⟨_, rfl⟩ <;> decide)]
 have e1 : (6 :: List.replicate (ks.length - 1) 6 : List Int).map ltr = 110 :: List.replicate (ks.length - 1) 110 := by
  simp [List.map_replicate]
  refine ⟨by decide, Or.inr (by decide)⟩
 rw [e1]
 constructor
 ·
  intro h
  rw [h]
  exact ⟨by simp, fun b hb => by
   rcases List.mem_cons.1 hb with rfl | hb
   ·
    rfl
   exact (List.mem_replicate.1 hb).2⟩
 rintro ⟨h1, h2⟩
 cases hk : ks.map rl with
 | nil => exact absurd hk h1
 | cons a r =>
  rw [hk] at h2
  have hl := congrArg List.length hk
  simp at hl
  have : ks.length - 1 = r.length := by omega
  rw [this, ← all_rep.2 (fun b hb => h2 b (by simp [hb])), h2 a (by simp)]
theorem kids_fn {ks : List Int} : KidsP 33 ks ↔ ∃ r, ks.map rl = r ++ [98] ∧ ∀ b ∈ r, b = 112 := by
 have hs : ∀ n, shp 33 n = List.replicate (n - 1) 7 ++ [3] := fun n => by simp [shp]
 unfold KidsP
 rw [hs, fit_map (by
  intro c hc
  simp at hc
  rcases hc with ⟨_, rfl⟩ | rfl <;> decide)]
 have e1 : (List.replicate (ks.length - 1) 7 ++ [3] : List Int).map ltr = List.replicate (ks.length - 1) 112 ++ [98] := by
  simp [List.map_replicate]
  have h1 : ltr 7 = 112 := by decide
  have h2 : ltr 3 = 98 := by decide
  rw [h1, h2]
  exact ⟨Or.inr rfl, rfl⟩
 rw [e1]
 constructor
 ·
  intro h
  exact ⟨_, h, fun b hb => (List.mem_replicate.1 hb).2⟩
 rintro ⟨r, h1, h2⟩
 have hl := congrArg List.length h1
 simp at hl
 have : ks.length - 1 = r.length := by omega
 rw [this, ← all_rep.2 h2, h1]
theorem kids_do {ks : List Int} : KidsP 25 ks ↔ (ks.map rl = [101] ∧ ks[0]? = some 7) := by
 have hs : ∀ n, shp 25 n = [10] := fun n => by simp [shp]
 unfold KidsP
 rw [hs]
 cases ks with
 | nil => simp [Fit2]
 | cons k ks =>
  rw [Fit2.cons]
  cases ks with
  | nil =>
   have h1 : Fit2 [] [] := ⟨rfl, fun j x c e => by simp at e⟩
   constructor
   ·
    rintro ⟨h, _⟩
    simp [clsOk] at h
    subst h
    exact ⟨by decide, rfl⟩
   rintro ⟨_, h⟩
   simp at h
   exact ⟨by simp [clsOk, h], h1⟩
  | cons a b => simp [Fit2]
theorem kids_none {kind : Int} (h : kind < 1 ∨ 34 < kind) {ks : List Int} : KidsP kind ks ↔ ks.map rl = [] := kids_const [] (fun n => shp_none h n) (by simp)
def kkAt (t : Tre) (x : Int) : Int := ((t.nodes[x.toNat]?).map Nd.kind).getD 0
theorem okN_kids {t : Tre} {k : Nat} {nd : Nd} (hk : t.nodes[k]? = some nd) (hv : ∀ x ∈ nd.kids, ∃ m : Nat, x = m ∧ m < t.nodes.length) :
  okN t k ↔ (hasB nd.kind nd.text nd.num = true ∧ KidsP nd.kind (nd.kids.map (kkAt t))) := by
 unfold okN KidsP Fit2
 simp only [List.length_map]
 constructor
 ·
  rintro ⟨nd', e1, h1, h2, h3⟩
  rw [hk] at e1
  cases e1
  refine ⟨h1, h2, fun j x c e2 e3 => ?_⟩
  rw [List.getElem?_map] at e2
  cases hx : nd.kids[j]? with
  | none => simp [hx] at e2
  | some y =>
   simp [hx] at e2
   obtain ⟨m, nd', rfl, e5, e6⟩ := h3 j y c hx e3
   subst e2
   simp [kkAt, e5]
   exact e6
 rintro ⟨h1, h2, h3⟩
 refine ⟨nd, hk, h1, h2, fun j x c e2 e3 => ?_⟩
 obtain ⟨m, rfl, hm⟩ := hv x (List.mem_of_getElem? e2)
 have := h3 j (kkAt t m) c (by simp [List.getElem?_map, e2]) e3
 refine ⟨m, t.nodes[m], rfl, by simp [hm], ?_⟩
 simpa [kkAt, hm] using this
end
end Go.Proofs.YtjckoldjodjehaaGreatDoor
