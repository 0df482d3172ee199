import Derived.Test.YtpgcianhppihiaaDoorG11
import Derived.Test.YtpgcianhppihiaaDoorG8b
namespace Go.Proofs.YtpgcianhppihiaaDoor
open Go.RowKit
set_option linter.unusedVariables false
set_option linter.unusedSimpArgs false

def aheadB (n : Int) (L : List (Int × Int)) (a b : Int) : Bool := gOk n L && (decide (0 ≤ a ∧ a < n) && (decide (0 ≤ b ∧ b < n) && clo (eR L) 16 a.toNat b.toNat))

set_option maxHeartbeats 4000000 in
theorem specAhead_any (n a b : Int) (s : Option Addr) (c : Nat) (L : List (Int × Int)) (w : World) (hL : Eds w s L) (hl : L.length ≤ 1048576) :
    Calls Tryd.prog 19 #[.int .i64 n, .slice s L.length c, .int .i64 a, .int .i64 b] w fun e w' => e = .returned (.bool (aheadB n L a b)) ∧ Below w.heap.size w w' := by
  cases hg : gOk n L
  · have hA : Hid (aheadB n L a b = false) := by simp [Hid, aheadB, hg]
    go_enter Tryd.func19, Tryd.ntmps19
    go_wp2_with (go_at_call 13; refine (specGraphOk_any _ _ _ L _ hL hl).mono ?_; rintro e w' ⟨rfl, rfl⟩; rw [hg])
    go_ret
    exact ⟨ret_bool' hA.out.symm, Below.refl _ _⟩
  · obtain ⟨m, rfl, hm, hl2, hin, h16⟩ := gOk_open hg
    have tw : IntKind.i64.wrap ((m : Int) - 1) = (m : Int) - 1 := by rw [IntKind.wrap_i64]; omega
    cases ha : (decide (0 ≤ a) && decide (a ≤ (m : Int) - 1))
    · have hA : Hid (aheadB m L a b = false) := by rw [below_l1] at ha; simp only [Hid, aheadB, hg, ha]; rfl
      go_enter Tryd.func19, Tryd.ntmps19
      go_wp2_with (first
        | (go_at_call 13; refine (specGraphOk_any _ _ _ L _ hL hl).mono ?_; rintro e w' ⟨rfl, rfl⟩; rw [hg])
        | (go_at_call 38; refine (l1In_any _ _ _ _).mono ?_; rintro e w' ⟨rfl, rfl⟩; rw [ha]))
      go_ret
      exact ⟨ret_bool' hA.out.symm, Below.refl _ _⟩
    · cases hb : (decide (0 ≤ b) && decide (b ≤ (m : Int) - 1))
      · have hA : Hid (aheadB m L a b = false) := by rw [below_l1] at ha hb; simp only [Hid, aheadB, hg, ha, hb]; rfl
        go_enter Tryd.func19, Tryd.ntmps19
        go_wp2_with (first
          | (go_at_call 13; refine (specGraphOk_any _ _ _ L _ hL hl).mono ?_; rintro e w' ⟨rfl, rfl⟩; rw [hg])
          | (go_at_call 38; refine (l1In_any _ _ _ _).mono ?_; rintro e w' ⟨rfl, rfl⟩; (first | rw [ha] | rw [hb])))
        go_ret
        exact ⟨ret_bool' hA.out.symm, Below.refl _ _⟩
      · have ha' := ha
        have hb' := hb
        rw [below_l1] at ha' hb'
        simp only [decide_eq_true_eq] at ha' hb'
        obtain ⟨x, rfl⟩ : ∃ x : Nat, a = (x : Int) := ⟨a.toNat, by omega⟩
        obtain ⟨y, rfl⟩ : ∃ y : Nat, b = (y : Int) := ⟨b.toNat, by omega⟩
        have hx : x < m := by omega
        have hy : y < m := by omega
        have hA : Hid (aheadB m L x y = decide (0 < wayF (eR L) m x y)) := by
          have := way_clo hin.sup hm x y
          rw [show decide (0 < (wayF (eR L) m x y : Int)) = decide (0 < wayF (eR L) m x y) by simp] at this
          rw [this]
          simp [Hid, aheadB, hg, hx, hy]
        obtain ⟨W, hW⟩ : ∃ W, Hid (wayF (eR L) m x y = W) := ⟨_, rfl⟩
        rw [hW.out] at hA
        go_enter Tryd.func19, Tryd.ntmps19
        go_wp2_with (first
          | (go_at_call 13; refine (specGraphOk_any _ _ _ L _ hL hl).mono ?_; rintro e w' ⟨rfl, rfl⟩; rw [hg])
          | (go_at_call 38; refine (l1In_any _ _ _ _).mono ?_; rintro e w' ⟨rfl, rfl⟩; (first | rw [ha] | rw [hb]))
          | (go_at_call 42; refine (l14Way_any m x y _ _ L _ hL hl hin hm hx hy).mono ?_; rintro e w' ⟨rfl, hbl⟩; rw [hW.out]))
        go_ret
        exact ⟨ret_bool' hA.out.symm, hbl⟩

set_option maxHeartbeats 4000000 in
theorem implAhead_any (n a b : Int) (s : Option Addr) (c : Nat) (L : List (Int × Int)) (w : World) (hL : Eds w s L) (hl : L.length ≤ 1048576) :
    Calls Tryd.prog 17 #[.int .i64 n, .slice s L.length c, .int .i64 a, .int .i64 b] w fun e w' => e = .returned (.bool (aheadB n L a b)) ∧ Below w.heap.size w w' := by
  have hal := alloc_old
  have haf := alloc_oldf
  cases hg : gOk n L
  · have hA : Hid (aheadB n L a b = false) := by simp [Hid, aheadB, hg]
    go_enter Tryd.func17, Tryd.ntmps17
    go_wp2_with (go_at_call 29; refine (implGraphOk_any _ _ _ L _ hL hl).mono ?_; rintro e w' ⟨rfl, hb1⟩; rw [hg])
    go_ret
    exact ⟨ret_bool' hA.out.symm, hb1⟩
  · obtain ⟨m, rfl, hm, hl2, hin, h16⟩ := gOk_open hg
    cases ha : decide (0 ≤ a ∧ a < (m : Int))
    · have hA : Hid (aheadB m L a b = false) := by simp only [Hid, aheadB, hg, ha]; rfl
      go_enter Tryd.func17, Tryd.ntmps17
      go_wp2_with (first
        | (go_at_call 29; refine (implGraphOk_any _ _ _ L _ hL hl).mono ?_; rintro e w' ⟨rfl, hb1⟩; rw [hg])
        | (go_at_call 40; refine (isBelow_any _ _ _).mono ?_; rintro e w' ⟨rfl, rfl⟩; rw [ha]))
      go_ret
      exact ⟨ret_bool' hA.out.symm, hb1⟩
    · cases hb : decide (0 ≤ b ∧ b < (m : Int))
      · have hA : Hid (aheadB m L a b = false) := by simp only [Hid, aheadB, hg, ha, hb]; rfl
        go_enter Tryd.func17, Tryd.ntmps17
        go_wp2_with (first
          | (go_at_call 29; refine (implGraphOk_any _ _ _ L _ hL hl).mono ?_; rintro e w' ⟨rfl, hb1⟩; rw [hg])
          | (go_at_call 40; refine (isBelow_any _ _ _).mono ?_; rintro e w' ⟨rfl, rfl⟩; (first | rw [ha] | rw [hb])))
        go_ret
        exact ⟨ret_bool' hA.out.symm, hb1⟩
      · have ha' := ha
        have hb' := hb
        simp only [decide_eq_true_eq] at ha' hb'
        obtain ⟨x, rfl⟩ : ∃ x : Nat, a = (x : Int) := ⟨a.toNat, by omega⟩
        obtain ⟨y, rfl⟩ : ∃ y : Nat, b = (y : Int) := ⟨b.toNat, by omega⟩
        have hx : x < m := by omega
        have hy : y < m := by omega
        have hA : Hid (aheadB m L x y = clo (eR L) 16 x y) := by simp [Hid, aheadB, hg, hx, hy]
        clear ha' hb'
        go_enter Tryd.func17, Tryd.ntmps17
        go_upto_region 4 with (first
          | (go_at_call 29; refine (implGraphOk_any _ _ _ L _ hL hl).mono ?_; rintro e w1 ⟨rfl, hb1⟩; rw [hg])
          | (go_at_call 40; refine (isBelow_any _ _ _).mono ?_; rintro e w' ⟨rfl, hq⟩; subst hq; (first | rw [ha] | rw [hb]))
          | (go_at_call 30; refine (linksOf_any _ _ L _ (hL.later hb1) hl h16).mono ?_; rintro e w2 ⟨rfl, hb2⟩)
          | refine wpList_store_row rfl 51 (.tmp 9) (.tmp 30) rfl w2.heap.size (lk (eR L)) rfl rfl _ _ (blk2 w2 _ _ _ _).1 (by rw [Tryd.infoLk, lk_size]) (by rw [lk_size]; rfl) (lk_one _) ?_
          | refine wpList_store_row rfl 51 (.tmp 10) (.tmp 31) rfl (w2.heap.size + 1) (lk (eF L)) rfl rfl _ _ ((setRow_other _ _ _ _ (by omega)).trans (blk2 w2 _ _ _ _).2) (by rw [Tryd.infoLk, lk_size]) (by rw [lk_size]; rfl) (lk_one _) ?_)
        rw [← lk_zero]
        obtain ⟨k0, k1, l3⟩ := two_lk w2 (eR L) (eF L)
        have L3 : Hid (Below w.heap.size w (twoW w2 (eR L) (eF L))) := bl_trans (bl_trans hb1 hb2) l3
        clear hb1 hb2 l3
        change Code.wp _ _ _ _ (twoW w2 (eR L) (eF L))
        generalize twoW w2 (eR L) (eF L) = X at k0 k1 L3 ⊢
        have hix := idx_lk (clo (eR L) 16) x (by omega)
        go_wp2_with (first
          | refine wpList_load_row rfl 51 (.tmp 9) rfl w2.heap.size rfl _ _ _ _ k0 Tryd.underlying51 rfl (by rw [Tryd.infoLk, lk_size]) ?_
          | (go_at_call 41; refine (byAnyWay_any _ _).mono ?_; rintro e w4 ⟨rfl, hb4⟩)
          | (go_at_call 34; refine (has_any _ _ _ (by omega)).mono ?_; rintro e w5 ⟨rfl, hq⟩; subst hq))
        go_ret
        exact ⟨ret_bool' hA.out.symm, bl_trans L3.out hb4⟩
end Go.Proofs.YtpgcianhppihiaaDoor
