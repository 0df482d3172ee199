import Derived.Test.YtijgkpkakkjkgabEk
namespace Go.Proofs.Ytijgkpkakkjkgab
open Go.RowKit
set_option linter.unusedVariables false

set_option maxHeartbeats 4000000 in
theorem exactEntLive_any (s1 s2 : Option Addr) (c1 c2 : Nat) (G F : List Int) (a g : Int) (w : World) (h1 : Ints w s1 G) (h2 : Ints w s2 F) (m1 : G.length ≤ 9223372036854775807) (m2 : F.length ≤ 9223372036854775807) :
    Calls Try.prog 4 #[.agg #[.slice s1 G.length c1, .slice s2 F.length c2], .agg #[.int .i64 a, .int .i64 g]] w fun e w' => e = .returned (.bool true) ∧ Below w.heap.size w w' := by
  have hal := alloc_old
  have haf := alloc_oldf
  obtain ⟨k0, k1⟩ := blk2 w #[.slice s1 G.length c1, .slice s2 F.length c2] #[.int .i64 a, .int .i64 g] 24 32
  by_cases hs : G.length + F.length ≤ 1048576
  · go_enter Try.func4, Try.ntmps4
    go_wp2_with fail
    refine (szEnts_pos s1 s2 G.length F.length c1 c2 _ m1 m2 hs).mono ?_
    rintro e w1 ⟨⟨r, rfl, hr⟩, hb1⟩
    have K0 := k0.later hb1
    have K1 := k1.later hb1
    have L1 : Below w.heap.size w w1 := by (repeat (first | with_reducible exact Below.refl _ _ | with_reducible refine bl_alloc ?_ _ | with_reducible refine bl_drewN ?_ _ | with_reducible refine bl_drew ?_ | with_reducible refine bl_setCell ?_ (by first | exact Nat.le_refl _ | (dsimp only; omega) | (simp <;> omega)) _ | with_reducible refine bl_trans ?_ (by with_reducible assumption)))
    clear k0 k1 hb1
    obtain ⟨x0, x1, x2⟩ := K0.two
    obtain ⟨y0, y1, y2⟩ := K1.two
    go_wp2_with fail
    go_cut [6] (fun s wx => s = .bool (liveB G F a g) ∧ Below w.heap.size w wx ∧ Blk wx w.heap.size #[.slice s1 G.length c1, .slice s2 F.length c2] 24 ∧ Blk wx (w.heap.size + 1) #[.int .i64 a, .int .i64 g] 32)
    case first =>
      have K0 : Blk w1.drew w.heap.size #[.slice s1 G.length c1, .slice s2 F.length c2] 24 := K0
      have K1 : Blk w1.drew (w.heap.size + 1) #[.int .i64 a, .int .i64 g] 32 := K1
      have L := bl_drew L1
      go_region_with (first
        | (go_at_call 10; refine (toEnts_any s1 s2 c1 c2 G F _ (h1.later L) (h2.later L) (by omega) (by omega)).mono ?_; rintro e wa ⟨g2, f2, rfl, hR, hb⟩; have L := bl_trans L hb; have K0 := K0.later hb; have K1 := K1.later hb; obtain ⟨x0, x1, x2⟩ := K0.two; obtain ⟨y0, y1, y2⟩ := K1.two)
        | (go_at_call 14; refine (toEnt_any a g _).mono ?_; rintro e wb ⟨rfl, hb⟩; have L := bl_trans L hb; have K0 := K0.later hb; have K1 := K1.later hb; have hR := hR.later hb; obtain ⟨x0, x1, x2⟩ := K0.two; obtain ⟨y0, y1, y2⟩ := K1.two)
        | (go_at_call 13; refine (specLive_any _ _ _ _ G F a g _ hR.ints.1 hR.ints.2 (by omega) (by omega)).mono ?_; rintro e wc ⟨rfl, hb⟩; have L := bl_trans L hb; have K0 := K0.later hb; have K1 := K1.later hb))
      all_goals
        go_wp2_with fail
        go_meet
        exact ⟨rfl, L, K0, K1⟩
    case rest =>
      clear x0 x1 x2 y0 y1 y2 K0 K1 L1
      obtain ⟨rfl, L, K0, K1⟩ := hcut
      obtain ⟨x0, x1, x2⟩ := K0.two
      obtain ⟨y0, y1, y2⟩ := K1.two
      go_wp2_with fail
      refine (toEnts_any s1 s2 c1 c2 G F _ (h1.later L) (h2.later L) (by omega) (by omega)).mono ?_
      rintro e w4 ⟨g4, f4, rfl, hR4, hb4⟩
      have j0 := Blk.new w4 #[.slice (some ⟨g4, 0, none⟩) G.length G.length, .slice (some ⟨f4, 0, none⟩) F.length F.length] 27
      have L4 := bl_alloc (bl_trans L hb4) (.cells #[.slice (some ⟨g4, 0, none⟩) G.length G.length, .slice (some ⟨f4, 0, none⟩) F.length F.length] 27)
      have M0 := (K0.later hb4).alloc (.cells #[.slice (some ⟨g4, 0, none⟩) G.length G.length, .slice (some ⟨f4, 0, none⟩) F.length F.length] 27)
      have M1 := (K1.later hb4).alloc (.cells #[.slice (some ⟨g4, 0, none⟩) G.length G.length, .slice (some ⟨f4, 0, none⟩) F.length F.length] 27)
      have hR4' := hR4.later (bl_alloc (Below.refl _ w4) (.cells #[.slice (some ⟨g4, 0, none⟩) G.length G.length, .slice (some ⟨f4, 0, none⟩) F.length F.length] 27))
      clear x0 x1 x2 y0 y1 y2
      obtain ⟨x0, x1, x2⟩ := M0.two
      obtain ⟨y0, y1, y2⟩ := M1.two
      obtain ⟨z0, z1, z2⟩ := j0.two
      go_wp2_with fail
      go_cut [8] (fun s wx => s = .bool (liveB G F a g) ∧ Below w.heap.size w wx ∧ Blk wx w.heap.size #[.slice s1 G.length c1, .slice s2 F.length c2] 24 ∧ Blk wx w4.heap.size #[.slice (some ⟨g4, 0, none⟩) G.length G.length, .slice (some ⟨f4, 0, none⟩) F.length F.length] 27 ∧ Ints wx (some ⟨g4, 0, none⟩) G ∧ Ints wx (some ⟨f4, 0, none⟩) F)
      case first =>
        have M0 : Blk (w4.alloc (.cells #[.slice (some ⟨g4, 0, none⟩) G.length G.length, .slice (some ⟨f4, 0, none⟩) F.length F.length] 27)).drew w.heap.size #[.slice s1 G.length c1, .slice s2 F.length c2] 24 := M0
        have M1 : Blk (w4.alloc (.cells #[.slice (some ⟨g4, 0, none⟩) G.length G.length, .slice (some ⟨f4, 0, none⟩) F.length F.length] 27)).drew (w.heap.size + 1) #[.int .i64 a, .int .i64 g] 32 := M1
        have J : Blk (w4.alloc (.cells #[.slice (some ⟨g4, 0, none⟩) G.length G.length, .slice (some ⟨f4, 0, none⟩) F.length F.length] 27)).drew w4.heap.size #[.slice (some ⟨g4, 0, none⟩) G.length G.length, .slice (some ⟨f4, 0, none⟩) F.length F.length] 27 := j0
        have L := bl_drew L4
        have I1 : Ints (w4.alloc (.cells #[.slice (some ⟨g4, 0, none⟩) G.length G.length, .slice (some ⟨f4, 0, none⟩) F.length F.length] 27)).drew (some ⟨g4, 0, none⟩) G := hR4'.ints.1.later (bl_drew (Below.refl _ _))
        have I2 : Ints (w4.alloc (.cells #[.slice (some ⟨g4, 0, none⟩) G.length G.length, .slice (some ⟨f4, 0, none⟩) F.length F.length] 27)).drew (some ⟨f4, 0, none⟩) F := hR4'.ints.2.later (bl_drew (Below.refl _ _))
        go_region_with (first
          | (go_at_call 14; refine (toEnt_any a g _).mono ?_; rintro e wb ⟨rfl, hb⟩; have L := bl_trans L hb; have M0 := M0.later hb; have M1 := M1.later hb; have J := J.later hb; have I1 := I1.later hb; have I2 := I2.later hb; obtain ⟨x0, x1, x2⟩ := M0.two; obtain ⟨y0, y1, y2⟩ := M1.two; obtain ⟨z0, z1, z2⟩ := J.two)
          | (go_at_call 15; refine (implLive_any _ _ _ _ G F a g _ I1 I2 (by omega) (by omega)).mono ?_; rintro e wc ⟨rfl, hb⟩; have L := bl_trans L hb; have M0 := M0.later hb; have J := J.later hb; have I1 := I1.later hb; have I2 := I2.later hb))
        all_goals
          go_wp2_with fail
          go_meet
          exact ⟨rfl, L, M0, J, I1, I2⟩
      case rest =>
        clear x0 x1 x2 y0 y1 y2 z0 z1 z2 M0 M1 j0 L4 K0 K1 L hR4' hR4 hb4
        obtain ⟨rfl, l5, k5, j5, i51, i52⟩ := hcut
        obtain ⟨x0, x1, x2⟩ := k5.two
        obtain ⟨y0, y1, y2⟩ := j5.two
        go_wp2_with fail
        have K : Blk (World.drew _) w.heap.size #[.slice s1 G.length c1, .slice s2 F.length c2] 24 := k5
        have J : Blk (World.drew _) w4.heap.size #[.slice (some ⟨g4, 0, none⟩) G.length G.length, .slice (some ⟨f4, 0, none⟩) F.length F.length] 27 := j5
        have L := bl_drew l5
        have I1 := i51.later (bl_drew (Below.refl _ _))
        have I2 := i52.later (bl_drew (Below.refl _ _))
        go_region_with (first
          | (go_at_call 10; refine (toEnts_any s1 s2 c1 c2 G F _ (h1.later L) (h2.later L) (by omega) (by omega)).mono ?_; rintro e w6 ⟨g6, f6, rfl, hR6, hb⟩; have L := bl_trans L hb; have J := J.later hb; have I1 := I1.later hb; have I2 := I2.later hb; obtain ⟨z0, z1, z2⟩ := J.two)
          | (go_at_call 12; refine (eqEnts_any _ _ _ _ _ _ _ _ G F G F _ I1 I2 hR6.ints.1 hR6.ints.2 (by omega) (by omega)).mono ?_; rintro e w7 ⟨rfl, hb⟩; have L := bl_trans L hb; rw [show decide (G = G ∧ F = F) = true by simp]))
        all_goals
          go_wp2_with fail
          go_ret
          exact ⟨rfl, L⟩
  · go_enter Try.func4, Try.ntmps4
    go_wp2_with fail
    refine (szEnts_neg s1 s2 G.length F.length c1 c2 _ m1 m2 hs).mono ?_
    rintro e w1 ⟨rfl, hb1⟩
    go_wp2_with fail
    go_ret
    refine ⟨rfl, ?_⟩
    (repeat (first | with_reducible exact Below.refl _ _ | with_reducible refine bl_alloc ?_ _ | with_reducible refine bl_drewN ?_ _ | with_reducible refine bl_drew ?_ | with_reducible refine bl_setCell ?_ (by first | exact Nat.le_refl _ | (dsimp only; omega) | (simp <;> omega)) _ | with_reducible refine bl_trans ?_ (by with_reducible assumption)))
end Go.Proofs.Ytijgkpkakkjkgab
