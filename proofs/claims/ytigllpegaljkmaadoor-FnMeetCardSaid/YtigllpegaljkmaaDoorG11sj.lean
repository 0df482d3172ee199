import Derived.Test.YtigllpegaljkmaaDoorG11j
namespace Go.Proofs.YtigllpegaljkmaaDoor
open Go.RowKit
set_option linter.unusedVariables false
set_option linter.unusedSimpArgs false

def aheadB (n : Int) (L : List (Int × Int)) (a b : Int) : Bool := gOk n L && (decide (0 ≤ a ∧ a < n) && (decide (0 ≤ b ∧ b < n) && clo (eR L) 16 a.toNat b.toNat))

set_option maxHeartbeats 4000000 in
theorem specAhead_any (n a b : Int) (s : Option Addr) (c : Nat) (L : List (Int × Int)) (w : World) (hL : Eds w s L) (hl : L.length ≤ 1048576) :
    Calls Tryd.prog 9 #[.int .i64 n, .slice s L.length c, .int .i64 a, .int .i64 b] w fun e w' => e = .returned (.bool (aheadB n L a b)) ∧ Below w.heap.size w w' := by
  cases hg : gOk n L
  · have hA : Hid (aheadB n L a b = false) := by simp [Hid, aheadB, hg]
    go_enter Tryd.func9, Tryd.ntmps9
    go_wp2_with (go_at_call 22; refine (specGraphOk_any _ _ _ L _ hL hl).mono ?_; rintro e w' ⟨rfl, rfl⟩; rw [hg])
    go_ret
    exact ⟨ret_bool' hA.out.symm, Below.refl _ _⟩
  · obtain ⟨m, rfl, hm, hl2, hin, h16⟩ := gOk_open hg
    have tw : IntKind.i64.wrap ((m : Int) - 1) = (m : Int) - 1 := by rw [IntKind.wrap_i64]; omega
    cases ha : (decide (0 ≤ a) && decide (a ≤ (m : Int) - 1))
    · have hA : Hid (aheadB m L a b = false) := by rw [below_l1] at ha; simp only [Hid, aheadB, hg, ha]; rfl
      go_enter Tryd.func9, Tryd.ntmps9
      go_wp2_with (first
        | (go_at_call 22; refine (specGraphOk_any _ _ _ L _ hL hl).mono ?_; rintro e w' ⟨rfl, rfl⟩; rw [hg])
        | (go_at_call 24; refine (l1In_any _ _ _ _).mono ?_; rintro e w' ⟨rfl, rfl⟩; rw [ha]))
      go_ret
      exact ⟨ret_bool' hA.out.symm, Below.refl _ _⟩
    · cases hb : (decide (0 ≤ b) && decide (b ≤ (m : Int) - 1))
      · have hA : Hid (aheadB m L a b = false) := by rw [below_l1] at ha hb; simp only [Hid, aheadB, hg, ha, hb]; rfl
        go_enter Tryd.func9, Tryd.ntmps9
        go_wp2_with (first
          | (go_at_call 22; refine (specGraphOk_any _ _ _ L _ hL hl).mono ?_; rintro e w' ⟨rfl, rfl⟩; rw [hg])
          | (go_at_call 24; refine (l1In_any _ _ _ _).mono ?_; rintro e w' ⟨rfl, rfl⟩; (first | rw [ha] | rw [hb])))
        go_ret
        exact ⟨ret_bool' hA.out.symm, Below.refl _ _⟩
      · have ha' := ha
        have hb' := hb
        rw [below_l1] at ha' hb'
        simp only [decide_eq_true_eq] at ha' hb'
        obtain ⟨x, rfl⟩ : ∃ x : Nat, a = (x : Int) := ⟨a.toNat, by omega⟩
        obtain ⟨y, rfl⟩ : ∃ y : Nat, b = (y : Int) := ⟨b.toNat, by omega⟩
        have hx : x < m := by omega
        have hy : y < m := by omega
        have hA : Hid (aheadB m L x y = decide (0 < wayF (eR L) m x y)) := by
          have := way_clo hin.sup hm x y
          rw [show decide (0 < (wayF (eR L) m x y : Int)) = decide (0 < wayF (eR L) m x y) by simp] at this
          rw [this]
          simp [Hid, aheadB, hg, hx, hy]
        obtain ⟨W, hW⟩ : ∃ W, Hid (wayF (eR L) m x y = W) := ⟨_, rfl⟩
        rw [hW.out] at hA
        go_enter Tryd.func9, Tryd.ntmps9
        go_wp2_with (first
          | (go_at_call 22; refine (specGraphOk_any _ _ _ L _ hL hl).mono ?_; rintro e w' ⟨rfl, rfl⟩; rw [hg])
          | (go_at_call 24; refine (l1In_any _ _ _ _).mono ?_; rintro e w' ⟨rfl, rfl⟩; (first | rw [ha] | rw [hb]))
          | (go_at_call 28; refine (l14Way_any m x y _ _ L _ hL hl hin hm hx hy).mono ?_; rintro e w' ⟨rfl, hbl⟩; rw [hW.out]))
        go_ret
        exact ⟨ret_bool' hA.out.symm, hbl⟩

end Go.Proofs.YtigllpegaljkmaaDoor
