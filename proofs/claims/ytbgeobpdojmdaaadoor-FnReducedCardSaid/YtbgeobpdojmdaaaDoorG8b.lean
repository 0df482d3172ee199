import Derived.Test.YtbgeobpdojmdaaaDoorG8
import Derived.Laws.CopyOwn
namespace Go.Proofs.YtbgeobpdojmdaaaDoor
open Go.RowKit
set_option linter.unusedVariables false
set_option linter.unusedSimpArgs false

set_option maxHeartbeats 4000000 in
theorem byAnyWay_any (R : Nat → Nat → Bool) (w : World) :
    Calls Tryd.prog 17 #[.agg (lk R)] w fun e w' => e = .returned (.agg (lk (clo R 16))) ∧ Below w.heap.size w w' := by
  have hal := alloc_old
  have haf := alloc_oldf
  go_enter Tryd.func17, Tryd.ntmps17
  go_wp2_with fail
  rw [← lk_zero]
  obtain ⟨b0, b1⟩ := blk2 w (lk R) (lk fun _ _ => false) 41 41
  have LX : Hid (Below w.heap.size w ((w.alloc (.cells (lk R) 41)).alloc (.cells (lk fun _ _ => false) 41))) := bl_alloc (bl_alloc (Below.refl _ _) _) _
  generalize (w.alloc (.cells (lk R) 41)).alloc (.cells (lk fun _ _ => false) 41) = X at b0 b1 LX ⊢
  go_loopw [5] (fun i wr => ∃ k : Nat, k ≤ 16 ∧ i = .int .i64 k ∧ Hid (Blk wr w.heap.size (lk (clo R k)) 41) ∧ Hid (Blk wr (w.heap.size + 1) (lk fun _ _ => false) 41) ∧ Hid (Below w.heap.size w wr)) (fun i _ => 16 - (intOf i).toNat)
  case atStart => exact ⟨0, Nat.zero_le _, rfl, b0, b1, LX⟩
  case round =>
    clear b0 b1 LX
    obtain ⟨k, hk, rfl, b0, b1, hb⟩ := hrel
    by_cases hlt : k < 16
    · have HN : Hid (clo R (k + 1) = stp (clo R k) k) := rfl
      generalize clo R k = Q at b0 HN
      have b0 : Hid (Blk wr w.heap.size (lk (half Q k 0)) 41) := by rw [half_zero]; exact b0
      have t0 : decide ((k : Int) < 16) = true := by simp; omega
      go_wp2_with fail
      go_loopw [8] (fun i wr => ∃ m : Nat, m ≤ 16 ∧ i = .int .i64 m ∧ Hid (Blk wr w.heap.size (lk (half Q k m)) 41) ∧ Hid (Blk wr (w.heap.size + 1) (lk fun _ _ => false) 41) ∧ Hid (Below w.heap.size w wr)) (fun i _ => 16 - (intOf i).toNat)
      case atStart => exact ⟨0, Nat.zero_le _, rfl, b0, b1, hb⟩
      case round =>
        clear b0 b1 hb
        obtain ⟨m, hm, rfl, b0, b1, hb⟩ := hrel
        by_cases hml : m < 16
        · have c1 := (b0.out.cell m).trans (lk_cell _ hml)
          have c2 := (b0.out.cell k).trans (lk_cell _ hlt)
          rw [half_at] at c1
          rw [half_k] at c2
          have f1 := b0.out.frozen m
          have t1 : decide ((m : Int) < 16) = true := by simp; omega
          have t2 : (m : Int) < 16 := by omega
          have t3 : (k : Int) < 16 := by omega
          cases hq : Q m k
          · have HB : Hid (Blk wr w.heap.size (lk (half Q k (m + 1))) 41) := by rw [← half_miss Q k m hq]; exact b0
            go_wp2_with (go_at_call 18; refine (has_any _ _ _ hlt).mono ?_; rintro e w' ⟨rfl, rfl⟩; rw [hq])
            go_roundw
            case rel => exact ⟨m + 1, by omega, by go_num, HB, b1, hb⟩
            case measure => simp [intOf]; omega
          · have g1 := or16 (Q m) (Q k)
            have HB : Hid (Blk (wr.setCell ⟨w.heap.size, m, none⟩ (.int .u16 (nb fun i => Q m i || Q k i))).drew w.heap.size (lk (half Q k (m + 1))) 41) := by
              have := b0.out.lkSet hml (fun i => Q m i || Q k i)
              rw [half_hit Q k m hq] at this
              exact this
            have B1 : Hid (Blk (wr.setCell ⟨w.heap.size, m, none⟩ (.int .u16 (nb fun i => Q m i || Q k i))).drew (w.heap.size + 1) (lk fun _ _ => false) 41) := b1.out.other (by omega) _ _
            have HL : Hid (Below w.heap.size w (wr.setCell ⟨w.heap.size, m, none⟩ (.int .u16 (nb fun i => Q m i || Q k i))).drew) := bl_drew (bl_setCell hb.out (Nat.le_refl _) _)
            go_wp2_with (go_at_call 18; refine (has_any _ _ _ hlt).mono ?_; rintro e w' ⟨rfl, rfl⟩; rw [hq])
            go_region
            all_goals
              go_wp2_with fail
              go_roundw
              case rel => exact ⟨m + 1, by omega, by go_num, HB, B1, HL⟩
              case measure => simp [intOf]; omega
        · have hm16 : m = 16 := by omega
          subst hm16
          have HB : Hid (Blk wr w.heap.size (lk (clo R (k + 1))) 41) := by rw [HN.out, ← half_all]; exact b0
          clear HN
          go_wp2_with fail
          go_roundw
          case rel => exact ⟨k + 1, by omega, by go_num, HB, b1, hb⟩
          case measure => simp [intOf]; omega
    · have hk16 : k = 16 := by omega
      subst hk16
      have B0 : Blk (wr.setRow (w.heap.size + 1) (lk (clo R 16))) (w.heap.size + 1) (lk (clo R 16)) 41 := setRow_heap _ _ _ _ _ _ b1.out
      have LC : Below w.heap.size w (wr.setRow (w.heap.size + 1) (lk (clo R 16))) := below_setRow hb.out (by omega) _
      go_wp2_with (first
        | refine wpList_load_row rfl 41 (.tmp 1) rfl w.heap.size rfl _ _ _ _ b0.out Tryd.underlying41 rfl (by rw [Tryd.infoLk, lk_size]) ?_
        | refine wpList_store_row rfl 41 (.tmp 2) (.tmp 26) rfl (w.heap.size + 1) (lk (clo R 16)) rfl rfl _ _ b1.out (by rw [Tryd.infoLk, lk_size]) (by rw [lk_size, lk_size]) (lk_one _) ?_)
      have r0 := load_lk _ _ _ B0
      refine bodyPost_ret (v := .agg (lk (clo R 16))) (by simp [results, Tryd.results17, asAddr, Act.put, r0]) rfl ⟨rfl, LC⟩
end Go.Proofs.YtbgeobpdojmdaaaDoor
