import Derived.Test.YtbgeobpdojmdaaaDoorG32
namespace Go.Proofs.YtbgeobpdojmdaaaDoor
open Go.RowKit
set_option linter.unusedVariables false
set_option linter.unusedSimpArgs false

set_option maxHeartbeats 4000000 in
theorem implLinears_any (n : Int) (s : Option Addr) (c : Nat) (L : List (Int × Int)) (w : World) (hL : Eds w s L) (hl : L.length ≤ 1048576) :
    Calls Tryd.prog 9 #[.int .i64 n, .slice s L.length c] w fun e w' => e = .returned (.int .i64 (linsB n L)) ∧ Below w.heap.size w w' := by
  have hal := alloc_old
  have haf := alloc_oldf
  cases hg : gOk n L
  · have hA : Hid (linsB n L = -1) := by simp [Hid, linsB, hg]
    go_enter Tryd.func9, Tryd.ntmps9
    go_wp2_with (go_at_call 23; refine (implGraphOk_any _ _ _ L _ hL hl).mono ?_; rintro e w' ⟨rfl, hb1⟩; rw [hg])
    go_ret
    exact ⟨by rw [hA.out]; rfl, hb1⟩
  · obtain ⟨m, rfl, hm, hl2, hin, h16⟩ := gOk_open hg
    by_cases h8 : m ≤ 8
    · have hA : Hid (linsB m L = (gE L m 0 : Int)) := by
        show linsB m L = _
        unfold linsB
        rw [if_pos ⟨hg, by omega⟩, gE_zero]; simp
      have t0 : decide ((8 : Int) < (m : Int)) = false := by simp; omega
      go_enter Tryd.func9, Tryd.ntmps9
      go_upto_region 4 with (first
        | (go_at_call 23; refine (implGraphOk_any _ _ _ L _ hL hl).mono ?_; rintro e w1 ⟨rfl, hb1⟩; rw [hg])
        | (go_at_call 16; refine (linksOf_any _ _ L _ (hL.later hb1) hl h16).mono ?_; rintro e w2 ⟨rfl, hb2⟩)
        | refine wpList_store_row rfl 41 (.tmp 5) (.tmp 18) rfl w2.heap.size (lk (eR L)) rfl rfl _ _ (blk2 w2 _ _ _ _).1 (by rw [Tryd.infoLk, lk_size]) (by rw [lk_size]; rfl) (lk_one _) ?_
        | refine wpList_store_row rfl 41 (.tmp 6) (.tmp 19) rfl (w2.heap.size + 1) (lk (eF L)) rfl rfl _ _ ((setRow_other _ _ _ _ (by omega)).trans (blk2 w2 _ _ _ _).2) (by rw [Tryd.infoLk, lk_size]) (by rw [lk_size]; rfl) (lk_one _) ?_)
      rw [← lk_zero]
      obtain ⟨k0, k1, l3⟩ := two_lk w2 (eR L) (eF L)
      have L3 : Hid (Below w.heap.size w (twoW w2 (eR L) (eF L))) := bl_trans (bl_trans hb1 hb2) l3
      clear hb1 hb2 l3 k0
      change Code.wp _ _ _ _ (twoW w2 (eR L) (eF L))
      generalize twoW w2 (eR L) (eF L) = X at k1 L3 ⊢
      go_wp2_with (first
        | refine wpList_load_row rfl 41 (.tmp 6) rfl (w2.heap.size + 1) rfl _ _ _ _ k1 Tryd.underlying41 rfl (by rw [Tryd.infoLk, lk_size]) ?_
        | (go_at_call 24; refine (endings_any L m _ h8).mono ?_; rintro e w4 ⟨⟨f, rfl, hf⟩, hb4⟩; have hix : ∀ W : World, (Instr.index 53 (.agg (ct f)) (.int .i64 0)).run Tryd.prog W = .ok (.int .i64 (f 0)) W := idx_ct f 0 (by omega); have hf0 : Hid (f 0 = (gE L m 0 : Int)) := hf 0 (Nat.two_pow_pos m); clear hf))
      go_ret
      exact ⟨by rw [hA.out, ← hf0.out]; rfl, bl_trans L3.out hb4⟩
    · have hA : Hid (linsB m L = -1) := by
        show linsB m L = _
        unfold linsB
        rw [if_neg (by omega)]
      have t0 : decide ((8 : Int) < (m : Int)) = true := by simp; omega
      go_enter Tryd.func9, Tryd.ntmps9
      go_wp2_with (go_at_call 23; refine (implGraphOk_any _ _ _ L _ hL hl).mono ?_; rintro e w' ⟨rfl, hb1⟩; rw [hg])
      go_ret
      exact ⟨by rw [hA.out]; rfl, hb1⟩

end Go.Proofs.YtbgeobpdojmdaaaDoor
