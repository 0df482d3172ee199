import Derived.Test.YtnbckfeclfbafaaDoorG41
namespace Go.Proofs.YtnbckfeclfbafaaDoor
open Go.RowKit
set_option linter.unusedVariables false
set_option linter.unusedSimpArgs false

theorem Blk.edge {w : World} {n : Nat} {a b : Value} {t : TypeId} (h : Blk w n #[a, b] t) : w.cell? ⟨n, 0, none⟩ = some a ∧ w.cell? ⟨n, 1, none⟩ = some b := ⟨h.cell 0, h.cell 1⟩
/-- the numbers between, of the first k. -/
def btwK (R : Nat → Nat → Bool) (a b k : Nat) : Bool := (List.range k).any fun x => R a x && R x b
theorem btwK_succ (R : Nat → Nat → Bool) (a b k : Nat) : btwK R a b (k + 1) = (btwK R a b k || (R a k && R k b)) := by
  unfold btwK; rw [List.range_succ, List.any_append]; simp

set_option maxHeartbeats 4000000 in
theorem specReduced_any (n : Int) (s : Option Addr) (c : Nat) (L : List (Int × Int)) (w : World) (hL : Eds w s L) (hl : L.length ≤ 1048576) :
    Calls Tryd.prog 17 #[.int .i64 n, .slice s L.length c] w fun e w' => ∃ v, e = .returned v ∧ ERow w' w.heap.size v (redB n L) ∧ Below w.heap.size w w' := by
  have HL : Hid (Eds w s L) := hL
  clear hL
  have hrow : ERow (w.alloc (.cells #[] 40)) w.heap.size (.slice (some ⟨w.heap.size, 0, none⟩) 0 0) [] :=
    World.ownsRow_lit (base := w.heap.size) (e := 40) (size := 2) w #[] 0 (Nat.le_refl _) (by unfold maxLen; omega) (by simp)
  have hbb : Below w.heap.size w (w.alloc (.cells #[] 40)) := bl_alloc (Below.refl _ _) _
  cases hc : (canB n L).isSome
  · have hA : Hid (redB n L = []) := by simp [Hid, redB, hc]
    go_enter Tryd.func17, Tryd.ntmps17
    go_wp2_with (go_at_call 7; refine (specCanon_any _ _ _ L _ (HL.out.later hbb) hl).mono ?_; rintro e w1 ⟨cs, cc, rfl, hv1, hb1⟩; rw [hc])
    go_ret
    refine ⟨_, rfl, ?_, bl_trans hbb hb1⟩
    rw [hA.out]; exact hrow.later hb1
  · have hg : gOk n L = true := by
      cases hg : gOk n L
      · simp [canB, hg] at hc
      · rfl
    obtain ⟨m, rfl, hm, hl2, hin, h16⟩ := gOk_open hg
    have HA : Hid (redB m L = redP (clo (eR L) 16) m m 0) := by simp [Hid, redB, hc]
    have HI : Hid (Inn m L) := hin
    clear hin h16 hl2
    generalize hRd : clo (eR L) 16 = R at HA
    have HRd : Hid (clo (eR L) 16 = R) := hRd
    clear hRd
    go_enter Tryd.func17, Tryd.ntmps17
    go_wp2_with (first
      | (go_at_call 7; refine (specCanon_any _ _ _ L _ (HL.out.later hbb) hl).mono ?_; rintro e w1 ⟨cs, cc, rfl, hv1, hb1⟩; rw [hc])
      | (go_at_call 34; refine (l14All_any m _ _ L _ (HL.out.later (bl_trans hbb hb1)) hl HI.out hm).mono ?_; rintro e w2 ⟨va, rfl, hall, hb2⟩; rw [HRd.out] at hall))
    have hrow2 : Hid (ERow w2 w.heap.size (.slice (some ⟨w.heap.size, 0, none⟩) 0 0) (redP R m 0 0)) := (hrow.later hb1).later hb2
    have hb : Hid (Below w.heap.size w w2) := bl_trans (bl_trans hbb hb1) hb2
    have HAll : Hid (0 < m → AllR w2 va m R) := hall
    have hw2 : Hid (w2.heap.size ≤ w2.heap.size) := Nat.le_refl _
    clear hrow hbb hb1 hb2 hv1 hall
    go_loopw [5, 9] (fun ov av wr => ∃ a : Nat, a ≤ m ∧ av = .int .i64 a ∧ Hid (ERow wr w.heap.size ov (redP R m a 0)) ∧ Hid (0 < m → AllR wr va m R) ∧ Hid (Below w.heap.size w wr)) (fun _ av _ => m - (intOf av).toNat)
    case atStart => exact ⟨0, Nat.zero_le _, rfl, hrow2, HAll, hb⟩
    case round =>
      clear hrow2 hb HAll
      obtain ⟨a, ha, rfl, hrow, hall, hb⟩ := hrel
      by_cases hlt : a < m
      · have t0 : decide ((a : Int) < (m : Int)) = true := by simp; omega
        go_wp2_with fail
        go_loopw [5, 10] (fun ov bv wr => ∃ b : Nat, b ≤ m ∧ bv = .int .i64 b ∧ Hid (ERow wr w.heap.size ov (redP R m a b)) ∧ Hid (0 < m → AllR wr va m R) ∧ Hid (Below w.heap.size w wr)) (fun _ bv _ => m - (intOf bv).toNat)
        case atStart => exact ⟨0, Nat.zero_le _, rfl, hrow, hall, hb⟩
        case round =>
          clear hrow hb hall
          obtain ⟨b, hbn, rfl, hrow, hall, hb⟩ := hrel
          by_cases hbl : b < m
          · have t1 : decide ((b : Int) < (m : Int)) = true := by simp; omega
            obtain ⟨ga, ca, rfl, ha1, ha2⟩ := hall.out (by omega)
            obtain ⟨ra, ra1, ra2, ra3⟩ := ha2 a hlt
            have i1 : (a : Int) < (m : Int) := by omega
            have i2 : (b : Int) < (m : Int) := by omega
            have ca1 := ra3 b hbl
            have RA3 : Hid (∀ b, b < m → wr.cell? ⟨ra, b, none⟩ = some (.bool (R a b))) := ra3
            have HA2 : Hid (∀ a, a < m → ∃ r, BlkT wr r 4 ∧ wr.cell? ⟨ga, a, none⟩ = some (.slice (some ⟨r, 0, none⟩) m m) ∧ ∀ b, b < m → wr.cell? ⟨r, b, none⟩ = some (.bool (R a b))) := ha2
            clear ra3 ha2
            go_wp2_with fail
            go_loop [11, 12] (fun tv xv => ∃ x : Nat, x ≤ m ∧ xv = .int .i64 x ∧ tv = .bool (btwK R a b x)) (fun _ xv => m - (intOf xv).toNat)
            case atStart => exact ⟨0, Nat.zero_le _, rfl, rfl⟩
            case round =>
              obtain ⟨x, hx, rfl, rfl⟩ := hrel
              by_cases hxl : x < m
              · have hs := btwK_succ R a b x
                obtain ⟨rx, rx1, rx2, rx3⟩ := HA2.out x hxl
                have cx1 := RA3.out x hxl
                have cx2 := rx3 b hbl
                clear rx3
                have i3 : (x : Int) < (m : Int) := by omega
                obtain ⟨p0, hp0⟩ : ∃ z, Hid (btwK R a b x = z) := ⟨_, rfl⟩
                obtain ⟨p1, hp1⟩ : ∃ z, Hid (R a x = z) := ⟨_, rfl⟩
                obtain ⟨p2, hp2⟩ : ∃ z, Hid (R x b = z) := ⟨_, rfl⟩
                rw [hp0.out, hp1.out, hp2.out] at hs
                rw [hp1.out] at cx1
                rw [hp2.out] at cx2
                rw [hp0.out]
                have HS : Hid (btwK R a b (x + 1) = (p0 || (p1 && p2))) := hs
                clear hs
                cases p0
                · cases p1
                  · go_wp2_with fail
                    go_round
                    case rel => exact ⟨x + 1, by omega, by go_num, by rw [HS.out]; rfl⟩
                    case measure => simp [intOf]; omega
                  · go_wp2_with fail
                    go_round
                    case rel => exact ⟨x + 1, by omega, by go_num, by rw [HS.out]; simp⟩
                    case measure => simp [intOf]; omega
                · go_wp2_with fail
                  go_round
                  case rel => exact ⟨x + 1, by omega, by go_num, by rw [HS.out]; rfl⟩
                  case measure => simp [intOf]; omega
              · have hxm : x = m := by omega
                subst hxm
                have hbt : Hid (btwK R a b x = btw R x a b) := rfl
                rw [hbt.out]
                cases hq : (R a b && !btw R x a b)
                · have hmiss : Hid (redP R x a (b + 1) = redP R x a b) := redP_miss R x a b hq
                  have hrow' : Hid (ERow wr w.heap.size u5 (redP R x a (b + 1))) := by rw [hmiss.out]; exact hrow
                  cases h1 : R a b
                  · rw [h1] at ca1
                    clear hq
                    go_wp2_with fail
                    go_roundw
                    case rel => exact ⟨b + 1, by omega, by go_num, hrow', hall, hb⟩
                    case measure => simp [intOf]; omega
                  · rw [h1] at ca1 hq
                    have h2 : btw R x a b = true := by simpa using hq
                    rw [h2]
                    clear hq
                    go_wp2_with fail
                    go_roundw
                    case rel => exact ⟨b + 1, by omega, by go_num, hrow', hall, hb⟩
                    case measure => simp [intOf]; omega
                · have h1 : R a b = true := by simp at hq; exact hq.1
                  have h2 : btw R x a b = false := by simp at hq; exact hq.2
                  have hhit : Hid (redP R x a (b + 1) = redP R x a b ++ [((a : Int), (b : Int))]) := redP_hit R x a b h1 h2
                  rw [h1] at ca1
                  rw [h2]
                  have hlen := redP_len R x a b hm (by omega) (by omega)
                  clear hq h1 h2
                  go_upto_region 18 with fail
                  obtain ⟨hz0, hz1⟩ := (Blk.new wr #[.int .i64 (a : Int), .int .i64 (b : Int)] 40).edge
                  have Va := hrow.out.later (bl_alloc (Below.refl _ wr) (.cells #[.int .i64 (a : Int), .int .i64 (b : Int)] 40))
                  have hBs : w.heap.size ≤ (wr.alloc (.cells #[.int .i64 (a : Int), .int .i64 (b : Int)] 40)).heap.size := by simp; have := hb.out.size; omega
                  go_wp2_with (at_builtin; refine wpList_append_edge _ rfl (.tmp 71) (.tmp 75) rfl w.heap.size u5 _ rfl Va wr.heap.size (a : Int) (b : Int) rfl hz0 hz1 (by omega) hBs ?_)
                  intro v' w5 hv5 hg5
                  have hv5 : Hid (ERow w5 w.heap.size v' (redP R x a (b + 1))) := by rw [hhit.out]; exact hv5
                  have hb5 : Hid (Below w.heap.size w w5) := (bl_alloc hb.out _).grown hg5 hBs (fun k h => (hrow.out.lt k h).1)
                  have hall5 : Hid (0 < x → AllR w5 (.slice (some ⟨ga, 0, none⟩) x ca) x R) := by
                    intro _
                    refine AllR.kept ((hall.out (by omega)).later (bl_alloc (Below.refl _ wr) _)) hg5 fun m' t' hm' ht' => ?_
                    obtain ⟨cc, fr, hh⟩ := hm'
                    exact Va.apart hh (by rcases ht' with rfl | rfl <;> decide)
                  clear hz0 hz1 Va hg5 hBs hhit hlen hrow hall hb
                  go_wp2_with fail
                  go_roundw
                  case rel => exact ⟨b + 1, by omega, by go_num, hv5, hall5, hb5⟩
                  case measure => simp [intOf]; omega
          · have hbm : b = m := by omega
            subst hbm
            have hrow' : Hid (ERow wr w.heap.size u5 (redP R b (a + 1) 0)) := by rw [← redP_next]; exact hrow
            go_wp2_with fail
            go_roundw
            case rel => exact ⟨a + 1, by omega, by go_num, hrow', hall, hb⟩
            case measure => simp [intOf]; omega
      · have ham : a = m := by omega
        subst ham
        go_wp2_with fail
        go_ret
        refine ⟨u5, rfl, ?_, hb.out⟩
        rw [HA.out]; exact hrow.out
end Go.Proofs.YtnbckfeclfbafaaDoor
