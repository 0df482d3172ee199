import Derived.Test.YtmhiddepddgfgaaDoorVe
import Derived.Test.YtmhiddepddgfgaaDoorBk
import Derived.Deep.RegionHeld3
namespace Go.Proofs.YtmhiddepddgfgaaDoor
open Go.RowKit Ieee
set_option linter.unusedVariables false
set_option linter.unusedSimpArgs false

/-- a value as a text. -/
def textS (k i : Int) (x y : Nat) : ByteArray :=
  if okB k i x y = false then ⟨#[63]⟩ else if k = 1 then ⟨(Lib.itoa i).toArray⟩ else if k = 2 then ⟨(realS x).toArray⟩
  else if k = 3 then ⟨#[40]⟩ ++ ⟨(realS x).toArray⟩ ++ ⟨#[32]⟩ ++ ⟨(realS y).toArray⟩ ++ ⟨#[41]⟩ else if i = 1 then ⟨#[121, 101, 115]⟩ else ⟨#[110, 111]⟩
theorem realS_len (x : Nat) : (realS x).length ≤ 26 := by
  unfold realS
  split
  · simp
  · split
    · simp
    · split
      · simp
      · rename_i n1 n2 n3
        obtain ⟨r, _, _, b0, b1⟩ := realV_parts x (by simpa using n1) (by simpa using n2) (by simpa using n3)
        have := Lib.itoa_length_le _ b0 b1
        simp; omega
theorem four {w : World} {n : Nat} {a b c d : Value} {t : TypeId} (h : Blk w n #[a, b, c, d] t) : w.cell? ⟨n, 0, none⟩ = some a ∧ w.cell? ⟨n, 1, none⟩ = some b ∧ w.cell? ⟨n, 2, none⟩ = some c ∧ w.cell? ⟨n, 3, none⟩ = some d := ⟨h.cell 0, h.cell 1, h.cell 2, h.cell 3⟩
theorem cat_size (a b : ByteArray) : (a ++ b).size = a.size + b.size := by simp [ByteArray.size_append]

set_option maxRecDepth 100000 in
set_option maxHeartbeats 4000000 in
theorem specText_any (k i : Int) (x y : Nat) (w : World) (hx : x < 18446744073709551616) (hy : y < 18446744073709551616) (i0 : -9223372036854775808 ≤ i) (i1 : i ≤ 9223372036854775807) :
    Calls Tryd.prog 12 #[.agg #[.int .i64 k, .int .i64 i, .float .f64 x, .float .f64 y]] w fun e w' => e = .returned (.string (textS k i x y)) ∧ Below w.heap.size w w' := by
  have B0 := Blk.new w #[.int .i64 k, .int .i64 i, .float .f64 x, .float .f64 y] 26
  have L0 : Below w.heap.size w ((w.alloc (.cells #[.int .i64 k, .int .i64 i, .float .f64 x, .float .f64 y] 26)).alloc (.cells #[.int .i64 k, .int .i64 i, .float .f64 x, .float .f64 y] 26)) := by (repeat (first | with_reducible exact Below.refl _ _ | with_reducible refine bl_alloc ?_ _ | with_reducible refine bl_drewN ?_ _ | with_reducible refine bl_drew ?_ | with_reducible refine bl_setCell ?_ (by first | exact Nat.le_refl _ | (dsimp only; omega) | (simp <;> omega)) _ | with_reducible refine bl_trans ?_ (by with_reducible assumption)))
  have B1 := B0.alloc (.cells #[.int .i64 k, .int .i64 i, .float .f64 x, .float .f64 y] 26)
  obtain ⟨c0, c1, c2, c3⟩ := four B1
  go_enter Tryd.func12, Tryd.ntmps12
  go_wp2_with fail
  refine (specOk_any k i x y _ hx hy).mono ?_
  rintro e w1 ⟨rfl, rfl⟩
  generalize hX : ((w.alloc (.cells #[.int .i64 k, .int .i64 i, .float .f64 x, .float .f64 y] 26)).alloc (.cells #[.int .i64 k, .int .i64 i, .float .f64 x, .float .f64 y] 26)) = X at L0 B1 c0 c1 c2 c3 ⊢
  clear hX
  cases hok : okB k i x y
  · have hT : Hid (textS k i x y = ⟨#[63]⟩) := by simp [Hid, textS, hok]
    go_wp2_with fail
    go_ret
    exact ⟨ret_str hT.out.symm, L0⟩
  · by_cases k1 : k = 1
    · subst k1
      have hT : Hid (textS 1 i x y = ⟨(Lib.itoa i).toArray⟩) := by simp [Hid, textS, hok]
      go_wp2_with fail
      refine (l1Digits_any i _ i0 i1).mono ?_
      rintro e w2 ⟨rfl, hb⟩
      go_wp2_with fail
      go_ret
      exact ⟨ret_str hT.out.symm, bl_trans L0 hb⟩
    · have q1 : (k == 1) = false := by simp [k1]
      by_cases k2 : k = 2
      · subst k2
        have hT : Hid (textS 2 i x y = ⟨(realS x).toArray⟩) := by simp [Hid, textS, hok]
        go_wp2_with fail
        refine (specReal_any x _).mono ?_
        rintro e w2 ⟨rfl, hb⟩
        go_wp2_with fail
        go_ret
        exact ⟨ret_str hT.out.symm, bl_trans L0 hb⟩
      · have q2 : (k == 2) = false := by simp [k2]
        by_cases k3 : k = 3
        · subst k3
          have hT : Hid (textS 3 i x y = ⟨#[40]⟩ ++ ⟨(realS x).toArray⟩ ++ ⟨#[32]⟩ ++ ⟨(realS y).toArray⟩ ++ ⟨#[41]⟩) := by simp [Hid, textS, hok]
          go_wp2_with fail
          have r1 : (⟨(realS x).toArray⟩ : ByteArray).size ≤ 26 := by rw [ba_size]; exact realS_len x
          have r2 : (⟨(realS y).toArray⟩ : ByteArray).size ≤ 26 := by rw [ba_size]; exact realS_len y
          have r3 : (⟨#[40]⟩ ++ ⟨(realS x).toArray⟩ : ByteArray).size ≤ 27 := by rw [cat_size]; have : (⟨#[40]⟩ : ByteArray).size = 1 := rfl; omega
          have r4 : (⟨#[40]⟩ ++ ⟨(realS x).toArray⟩ ++ ⟨#[32]⟩ : ByteArray).size ≤ 28 := by rw [cat_size]; have : (⟨#[32]⟩ : ByteArray).size = 1 := rfl; omega
          have r5 : (⟨#[40]⟩ ++ ⟨(realS x).toArray⟩ ++ ⟨#[32]⟩ ++ ⟨(realS y).toArray⟩ : ByteArray).size ≤ 54 := by rw [cat_size]; omega
          have g1 : (⟨#[40]⟩ : ByteArray).size + (⟨(realS x).toArray⟩ : ByteArray).size ≤ 9223372036854775807 := by have : (⟨#[40]⟩ : ByteArray).size = 1 := rfl; omega
          have g2 : (⟨#[40]⟩ ++ ⟨(realS x).toArray⟩ : ByteArray).size + (⟨#[32]⟩ : ByteArray).size ≤ 9223372036854775807 := by have : (⟨#[32]⟩ : ByteArray).size = 1 := rfl; omega
          have g3 : (⟨#[40]⟩ ++ ⟨(realS x).toArray⟩ ++ ⟨#[32]⟩ : ByteArray).size + (⟨(realS y).toArray⟩ : ByteArray).size ≤ 9223372036854775807 := by omega
          have g4 : (⟨#[40]⟩ ++ ⟨(realS x).toArray⟩ ++ ⟨#[32]⟩ ++ ⟨(realS y).toArray⟩ : ByteArray).size + (⟨#[41]⟩ : ByteArray).size ≤ 9223372036854775807 := by have : (⟨#[41]⟩ : ByteArray).size = 1 := rfl; omega
          have f1 : ∀ w, (Op.stringOp .add ⟨#[40]⟩ ⟨(realS x).toArray⟩).run Tryd.prog w = .ok (.string (⟨#[40]⟩ ++ ⟨(realS x).toArray⟩)) w := fun w => run_string_add_sum w _ _ g1
          have f2 : ∀ w, (Op.stringOp .add (⟨#[40]⟩ ++ ⟨(realS x).toArray⟩) ⟨#[32]⟩).run Tryd.prog w = .ok (.string (⟨#[40]⟩ ++ ⟨(realS x).toArray⟩ ++ ⟨#[32]⟩)) w := fun w => run_string_add_sum w _ _ g2
          have f3 : ∀ w, (Op.stringOp .add (⟨#[40]⟩ ++ ⟨(realS x).toArray⟩ ++ ⟨#[32]⟩) ⟨(realS y).toArray⟩).run Tryd.prog w = .ok (.string (⟨#[40]⟩ ++ ⟨(realS x).toArray⟩ ++ ⟨#[32]⟩ ++ ⟨(realS y).toArray⟩)) w := fun w => run_string_add_sum w _ _ g3
          have f4 : ∀ w, (Op.stringOp .add (⟨#[40]⟩ ++ ⟨(realS x).toArray⟩ ++ ⟨#[32]⟩ ++ ⟨(realS y).toArray⟩) ⟨#[41]⟩).run Tryd.prog w = .ok (.string (⟨#[40]⟩ ++ ⟨(realS x).toArray⟩ ++ ⟨#[32]⟩ ++ ⟨(realS y).toArray⟩ ++ ⟨#[41]⟩)) w := fun w => run_string_add_sum w _ _ g4
          clear r1 r2 r3 r4 r5
          have BC : ∀ w', Below X.heap.size X w' → w'.cell? ⟨w.heap.size, 2, none⟩ = some (.float .f64 x) ∧ w'.cell? ⟨w.heap.size, 3, none⟩ = some (.float .f64 y) := fun w' hM => ⟨(hM.cell (p := ⟨w.heap.size, 2, none⟩) B1.lt).trans c2, (hM.cell (p := ⟨w.heap.size, 3, none⟩) B1.lt).trans c3⟩
          have M : Below X.heap.size X X.drew := bl_drew (Below.refl _ _)
          go_region_held3 (fun w' => w'.cell? ⟨w.heap.size, 2, none⟩ = some (.float .f64 x) ∧ w'.cell? ⟨w.heap.size, 3, none⟩ = some (.float .f64 y)) (exact BC _ M)
            (first | (go_at_call 32; refine (specReal_any _ _).mono ?_; rintro e wx ⟨rfl, hb⟩; have M := bl_trans M hb))
          all_goals
            go_wp2_with fail
            go_ret
            exact ⟨ret_str hT.out.symm, bl_trans L0 M⟩
        · have q3 : (k == 3) = false := by simp [k3]
          by_cases k4 : i = 1
          · subst k4
            have hT : Hid (textS k 1 x y = ⟨#[121, 101, 115]⟩) := by simp [Hid, textS, hok, k1, k2, k3]
            go_wp2_with fail
            go_ret
            exact ⟨ret_str hT.out.symm, L0⟩
          · have q4 : (i == 1) = false := by simp [k4]
            have hT : Hid (textS k i x y = ⟨#[110, 111]⟩) := by simp [Hid, textS, hok, k1, k2, k3, k4]
            go_wp2_with fail
            go_ret
            exact ⟨ret_str hT.out.symm, L0⟩
set_option maxRecDepth 100000 in
set_option maxHeartbeats 4000000 in
theorem implText_any (k i : Int) (x y : Nat) (w : World) (hx : x < 18446744073709551616) (hy : y < 18446744073709551616) (i0 : -9223372036854775808 ≤ i) (i1 : i ≤ 9223372036854775807) (htab : Lib.TabIs Tryd.prog w "internal/strconv.uint64pow10" .u64 Lib.pow10Tab) :
    Calls Tryd.prog 11 #[.agg #[.int .i64 k, .int .i64 i, .float .f64 x, .float .f64 y]] w fun e w' => e = .returned (.string (textS k i x y)) ∧ Below w.heap.size w w' := by
  have HT : Hid (Lib.TabIs Tryd.prog w "internal/strconv.uint64pow10" .u64 Lib.pow10Tab) := htab
  clear htab
  have B0 := Blk.new w #[.int .i64 k, .int .i64 i, .float .f64 x, .float .f64 y] 26
  have L0 : Below w.heap.size w ((w.alloc (.cells #[.int .i64 k, .int .i64 i, .float .f64 x, .float .f64 y] 26)).alloc (.cells #[.int .i64 k, .int .i64 i, .float .f64 x, .float .f64 y] 26)) := by (repeat (first | with_reducible exact Below.refl _ _ | with_reducible refine bl_alloc ?_ _ | with_reducible refine bl_drewN ?_ _ | with_reducible refine bl_drew ?_ | with_reducible refine bl_setCell ?_ (by first | exact Nat.le_refl _ | (dsimp only; omega) | (simp <;> omega)) _ | with_reducible refine bl_trans ?_ (by with_reducible assumption)))
  have B1 := B0.alloc (.cells #[.int .i64 k, .int .i64 i, .float .f64 x, .float .f64 y] 26)
  obtain ⟨c0, c1, c2, c3⟩ := four B1
  go_enter Tryd.func11, Tryd.ntmps11
  go_wp2_with fail
  refine (implOk_any k i x y _).mono ?_
  rintro e w1 ⟨rfl, rfl⟩
  generalize hX : ((w.alloc (.cells #[.int .i64 k, .int .i64 i, .float .f64 x, .float .f64 y] 26)).alloc (.cells #[.int .i64 k, .int .i64 i, .float .f64 x, .float .f64 y] 26)) = X at L0 B1 c0 c1 c2 c3 ⊢
  clear hX
  cases hok : okB k i x y
  · have hT : Hid (textS k i x y = ⟨#[63]⟩) := by simp [Hid, textS, hok]
    go_wp2_with fail
    go_ret
    exact ⟨ret_str hT.out.symm, L0⟩
  · by_cases k1 : k = 1
    · subst k1
      have hT : Hid (textS 1 i x y = ⟨(Lib.itoa i).toArray⟩) := by simp [Hid, textS, hok]
      go_wp2_with fail
      refine (itoa_bel i _ i0 i1 (Lib.tabBelow_of_tabIs HT.out _ L0)).mono ?_
      rintro e w2 ⟨rfl, hb⟩
      go_wp2_with fail
      go_ret
      exact ⟨ret_str hT.out.symm, bl_trans L0 hb⟩
    · have q1 : (k == 1) = false := by simp [k1]
      by_cases k2 : k = 2
      · subst k2
        have hT : Hid (textS 2 i x y = ⟨(realS x).toArray⟩) := by simp [Hid, textS, hok]
        go_wp2_with fail
        refine (implReal_any x _ (Lib.tabBelow_of_tabIs HT.out _ L0)).mono ?_
        rintro e w2 ⟨rfl, hb⟩
        go_wp2_with fail
        go_ret
        exact ⟨ret_str hT.out.symm, bl_trans L0 hb⟩
      · have q2 : (k == 2) = false := by simp [k2]
        by_cases k3 : k = 3
        · subst k3
          have hT : Hid (textS 3 i x y = ⟨#[40]⟩ ++ ⟨(realS x).toArray⟩ ++ ⟨#[32]⟩ ++ ⟨(realS y).toArray⟩ ++ ⟨#[41]⟩) := by simp [Hid, textS, hok]
          go_wp2_with fail
          have r1 : (⟨(realS x).toArray⟩ : ByteArray).size ≤ 26 := by rw [ba_size]; exact realS_len x
          have r2 : (⟨(realS y).toArray⟩ : ByteArray).size ≤ 26 := by rw [ba_size]; exact realS_len y
          have r3 : (⟨#[40]⟩ ++ ⟨(realS x).toArray⟩ : ByteArray).size ≤ 27 := by rw [cat_size]; have : (⟨#[40]⟩ : ByteArray).size = 1 := rfl; omega
          have r4 : (⟨#[40]⟩ ++ ⟨(realS x).toArray⟩ ++ ⟨#[32]⟩ : ByteArray).size ≤ 28 := by rw [cat_size]; have : (⟨#[32]⟩ : ByteArray).size = 1 := rfl; omega
          have r5 : (⟨#[40]⟩ ++ ⟨(realS x).toArray⟩ ++ ⟨#[32]⟩ ++ ⟨(realS y).toArray⟩ : ByteArray).size ≤ 54 := by rw [cat_size]; omega
          have g1 : (⟨#[40]⟩ : ByteArray).size + (⟨(realS x).toArray⟩ : ByteArray).size ≤ 9223372036854775807 := by have : (⟨#[40]⟩ : ByteArray).size = 1 := rfl; omega
          have g2 : (⟨#[40]⟩ ++ ⟨(realS x).toArray⟩ : ByteArray).size + (⟨#[32]⟩ : ByteArray).size ≤ 9223372036854775807 := by have : (⟨#[32]⟩ : ByteArray).size = 1 := rfl; omega
          have g3 : (⟨#[40]⟩ ++ ⟨(realS x).toArray⟩ ++ ⟨#[32]⟩ : ByteArray).size + (⟨(realS y).toArray⟩ : ByteArray).size ≤ 9223372036854775807 := by omega
          have g4 : (⟨#[40]⟩ ++ ⟨(realS x).toArray⟩ ++ ⟨#[32]⟩ ++ ⟨(realS y).toArray⟩ : ByteArray).size + (⟨#[41]⟩ : ByteArray).size ≤ 9223372036854775807 := by have : (⟨#[41]⟩ : ByteArray).size = 1 := rfl; omega
          have f1 : ∀ w, (Op.stringOp .add ⟨#[40]⟩ ⟨(realS x).toArray⟩).run Tryd.prog w = .ok (.string (⟨#[40]⟩ ++ ⟨(realS x).toArray⟩)) w := fun w => run_string_add_sum w _ _ g1
          have f2 : ∀ w, (Op.stringOp .add (⟨#[40]⟩ ++ ⟨(realS x).toArray⟩) ⟨#[32]⟩).run Tryd.prog w = .ok (.string (⟨#[40]⟩ ++ ⟨(realS x).toArray⟩ ++ ⟨#[32]⟩)) w := fun w => run_string_add_sum w _ _ g2
          have f3 : ∀ w, (Op.stringOp .add (⟨#[40]⟩ ++ ⟨(realS x).toArray⟩ ++ ⟨#[32]⟩) ⟨(realS y).toArray⟩).run Tryd.prog w = .ok (.string (⟨#[40]⟩ ++ ⟨(realS x).toArray⟩ ++ ⟨#[32]⟩ ++ ⟨(realS y).toArray⟩)) w := fun w => run_string_add_sum w _ _ g3
          have f4 : ∀ w, (Op.stringOp .add (⟨#[40]⟩ ++ ⟨(realS x).toArray⟩ ++ ⟨#[32]⟩ ++ ⟨(realS y).toArray⟩) ⟨#[41]⟩).run Tryd.prog w = .ok (.string (⟨#[40]⟩ ++ ⟨(realS x).toArray⟩ ++ ⟨#[32]⟩ ++ ⟨(realS y).toArray⟩ ++ ⟨#[41]⟩)) w := fun w => run_string_add_sum w _ _ g4
          clear r1 r2 r3 r4 r5
          have BC : ∀ w', Below X.heap.size X w' → w'.cell? ⟨w.heap.size, 2, none⟩ = some (.float .f64 x) ∧ w'.cell? ⟨w.heap.size, 3, none⟩ = some (.float .f64 y) := fun w' hM => ⟨(hM.cell (p := ⟨w.heap.size, 2, none⟩) B1.lt).trans c2, (hM.cell (p := ⟨w.heap.size, 3, none⟩) B1.lt).trans c3⟩
          have M : Below X.heap.size X X.drew := bl_drew (Below.refl _ _)
          go_region_held3 (fun w' => w'.cell? ⟨w.heap.size, 2, none⟩ = some (.float .f64 x) ∧ w'.cell? ⟨w.heap.size, 3, none⟩ = some (.float .f64 y)) (exact BC _ M)
            (first | (go_at_call 30; refine (implReal_any _ _ (Lib.tabBelow_of_tabIs HT.out _ (bl_trans L0 M))).mono ?_; rintro e wx ⟨rfl, hb⟩; have M := bl_trans M hb))
          all_goals
            go_wp2_with fail
            go_ret
            exact ⟨ret_str hT.out.symm, bl_trans L0 M⟩
        · have q3 : (k == 3) = false := by simp [k3]
          by_cases k4 : i = 1
          · subst k4
            have hT : Hid (textS k 1 x y = ⟨#[121, 101, 115]⟩) := by simp [Hid, textS, hok, k1, k2, k3]
            go_wp2_with fail
            go_ret
            exact ⟨ret_str hT.out.symm, L0⟩
          · have q4 : (i == 1) = false := by simp [k4]
            have hT : Hid (textS k i x y = ⟨#[110, 111]⟩) := by simp [Hid, textS, hok, k1, k2, k3, k4]
            go_wp2_with fail
            go_ret
            exact ⟨ret_str hT.out.symm, L0⟩
end Go.Proofs.YtmhiddepddgfgaaDoor
