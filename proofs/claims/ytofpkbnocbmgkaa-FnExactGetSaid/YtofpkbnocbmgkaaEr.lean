import Derived.Test.YtofpkbnocbmgkaaEq
import Derived.WalkMore
import Derived.Deep.LoopGhost
namespace Go.Proofs.Ytofpkbnocbmgkaa
open Go.RowKit
set_option linter.unusedVariables false

theorem mem_take_false {F : List Int} {k : Nat} {v : Int} (hk : k < F.length) (h : ¬ v ∈ F.take k) (hx : ¬ F[k]?.getD 0 = v) : ¬ v ∈ F.take (k + 1) := by
  rw [take_succ' F k hk, List.mem_append]
  rintro (h1 | h1)
  · exact h h1
  · simp at h1; exact hx h1.symm

set_option maxHeartbeats 4000000 in
theorem implList_any (s1 s2 : Option Addr) (c1 c2 : Nat) (G F : List Int) (w : World) (h1 : Ints w s1 G) (h2 : Ints w s2 F) (hl : F.length ≤ 1048576) :
    Calls Try.prog 84 #[.agg #[.slice s1 G.length c1, .slice s2 F.length c2]] w fun e w' => ∃ v, e = .returned v ∧ ERow w' w.heap.size v (listB G F) ∧ Below w.heap.size w w' := by
  have hal := alloc_old
  have haf := alloc_oldf
  have k0 := Blk.new w #[.slice s1 G.length c1, .slice s2 F.length c2] 45
  cases hk : okE G F
  · have hE : listB G F = [] := by simp [listB, hk]
    go_enter Try.func84, Try.ntmps84
    go_wp2_with fail
    go_step3
    go_wp2_with fail
    refine (implEntsOk_any s1 s2 c1 c2 G F _ (h1.later (by (repeat (first | with_reducible exact Below.refl _ _ | with_reducible refine bl_alloc ?_ _ | with_reducible refine bl_drewN ?_ _ | with_reducible refine bl_drew ?_ | with_reducible refine bl_setCell ?_ (by first | exact Nat.le_refl _ | (dsimp only; omega) | (simp <;> omega)) _ | with_reducible refine bl_trans ?_ (by with_reducible assumption))))) (h2.later (by (repeat (first | with_reducible exact Below.refl _ _ | with_reducible refine bl_alloc ?_ _ | with_reducible refine bl_drewN ?_ _ | with_reducible refine bl_drew ?_ | with_reducible refine bl_setCell ?_ (by first | exact Nat.le_refl _ | (dsimp only; omega) | (simp <;> omega)) _ | with_reducible refine bl_trans ?_ (by with_reducible assumption))))) hl).mono ?_
    rintro e w1 ⟨rfl, hb1⟩
    rw [hk]
    go_wp2_with fail
    rw [Exit.noGoto_ret]
    go_ret
    refine ⟨_, rfl, by rw [hE]; exact ERow.nil _ _, ?_⟩
    (repeat (first | with_reducible exact Below.refl _ _ | with_reducible refine bl_alloc ?_ _ | with_reducible refine bl_drewN ?_ _ | with_reducible refine bl_drew ?_ | with_reducible refine bl_setCell ?_ (by first | exact Nat.le_refl _ | (dsimp only; omega) | (simp <;> omega)) _ | with_reducible refine bl_trans ?_ (by with_reducible assumption)))
  · obtain ⟨hn, hf, hin⟩ := okE_parts hk
    have hE : Hid (listB G F = LK G F G.length) := by simp [Hid, listB, hk]
    clear hin
    obtain ⟨ie, hie, he0, he1, he2⟩ := info_parts Try.infoEnt
    go_enter Try.func84, Try.ntmps84
    go_wp2_with fail
    go_step3
    go_wp2_with fail
    refine (implEntsOk_any s1 s2 c1 c2 G F _ (h1.later (by (repeat (first | with_reducible exact Below.refl _ _ | with_reducible refine bl_alloc ?_ _ | with_reducible refine bl_drewN ?_ _ | with_reducible refine bl_drew ?_ | with_reducible refine bl_setCell ?_ (by first | exact Nat.le_refl _ | (dsimp only; omega) | (simp <;> omega)) _ | with_reducible refine bl_trans ?_ (by with_reducible assumption))))) (h2.later (by (repeat (first | with_reducible exact Below.refl _ _ | with_reducible refine bl_alloc ?_ _ | with_reducible refine bl_drewN ?_ _ | with_reducible refine bl_drew ?_ | with_reducible refine bl_setCell ?_ (by first | exact Nat.le_refl _ | (dsimp only; omega) | (simp <;> omega)) _ | with_reducible refine bl_trans ?_ (by with_reducible assumption))))) hl).mono ?_
    rintro e w1 ⟨rfl, hb1⟩
    rw [hk]
    have l1 : Below w.heap.size w w1 := by (repeat (first | with_reducible exact Below.refl _ _ | with_reducible refine bl_alloc ?_ _ | with_reducible refine bl_drewN ?_ _ | with_reducible refine bl_drew ?_ | with_reducible refine bl_setCell ?_ (by first | exact Nat.le_refl _ | (dsimp only; omega) | (simp <;> omega)) _ | with_reducible refine bl_trans ?_ (by with_reducible assumption)))
    have k1 := k0.later hb1
    clear k0 hb1
    obtain ⟨x0, x1, x2⟩ := k1.two
    go_wp2_with fail
    go_step3
    go_wp2_with fail
    go_loopg [3, 13] G.length (fun g v i wr => ∃ k : Nat, k + g = G.length ∧ i = .int .i64 k ∧ ERow wr w.heap.size v (LK G F k) ∧ Blk wr w.heap.size #[.slice s1 G.length c1, .slice s2 F.length c2] 45 ∧ Below w.heap.size w wr)
    case atStart => exact ⟨0, by omega, rfl, ERow.nil _ _, k1, l1⟩
    case round =>
      clear x0 x1 x2 k1 l1
      obtain ⟨j, hjg, rfl, hrow, k2, l2⟩ := hrel
      obtain ⟨x0, x1, x2⟩ := k2.two
      cases gk with
      | zero =>
        have hj' : Hid (j = G.length) := by show _ = _; omega
        have hjz : ¬ ((j : Int) < (G.length : Int)) := by omega
        go_wp2_with fail
        go_ret
        refine ⟨_, rfl, ?_, l2⟩
        rw [hE.out, ← hj'.out]
        exact hrow
      | succ g =>
        have hlt2 : j < G.length := by omega
        have hltI : (j : Int) < (G.length : Int) := by omega
        obtain ⟨z, hz⟩ : ∃ x, Hid (G[j]?.getD 0 = x) := ⟨_, rfl⟩
        have hle := LK_le G F j
        have L2 := l2
        have K2 := k2
        have HROW := hrow
        go_wp2_with fail
        go_loopg [19] F.length (fun g2 i wy => ∃ m : Nat, m + g2 = F.length ∧ i = .int .i64 m ∧ Hid (¬ (j : Int) ∈ F.take m) ∧ wy = wr)
        case atStart => exact ⟨0, by omega, rfl, by simp [Hid], rfl⟩
        case round =>
          obtain ⟨m, hmg, rfl, hno, hwr⟩ := hrel
          subst hwr
          cases gk with
          | zero =>
            have hmz : ¬ ((m : Int) < (F.length : Int)) := by omega
            have hmem : ¬ (j : Int) ∈ F := by
              have := hno.out
              rw [List.take_of_length_le (by omega)] at this
              exact this
            have hHit : Hid (LK G F (j + 1) = LK G F j ++ [((j : Int), z)]) := by
              show _ = _
              rw [LK_hit hmem, hz.out]
            clear hmem
            go_wp2_with fail
            refine (entAt_any s1 s2 c1 c2 G F j z _ (h1.later L2) hlt2 hz.out (by omega)).mono ?_
            rintro e w4 ⟨rfl, hb4⟩
            have hrow4 := HROW.later hb4
            have k4 := K2.later hb4
            have l4 := bl_trans L2 hb4
            have hap2 := hrow4.apartB k4 (by decide)
            have hlt3 := hrow4.lt
            clear x0 x1 x2
            go_wp2_with (at_builtin; refine wpList_append_own _ rfl _ _ 57 rfl w.heap.size 51 ie (.agg #[.int .i64 0, .int .i64 0]) 2 16 Try.underlying57 hie he0 he1 he2 rfl (by decide) _ _ _ rfl (World.ownsRow.alloc hrow4 _) ⟨w4.heap.size, 0, none⟩ 1 1 [.int .i64 (j : Int), .int .i64 z] rfl rfl ?c1 ?c2 ?c3 ?c4 ?c5 ?_)
            case c1 =>
              intro i u hi
              match i, hi with
              | 0, hi => simp at hi; subst hi; simp [Addr.add]
              | 1, hi => simp at hi; subst hi; simp [Addr.add]
            case c2 => intro u hu; simp at hu; rcases hu with rfl | rfl <;> rfl
            case c3 => unfold maxLen; omega
            case c4 => omega
            case c5 => have := l4.size; simp; omega
            intro v' w3 hown' hgrow _
            have ga := grown_of_below (bl_alloc (Below.refl _ w4) (.cells #[.int .i64 (j : Int), .int .i64 z] 51))
            have hr' : ERow w3 w.heap.size v' (LK G F (j + 1)) := by
              unfold ERow
              rw [hHit.out, ecells_app, List.length_append]
              exact hown'
            have kk' := (k4.kept' ga (by simp)).kept' hgrow hap2
            have ll' : Below w.heap.size w w3 := (l4.grown ga l4.size (fun k h => by cases h)).grown hgrow (Nat.le_trans l4.size ga.size) (fun k h => (hlt3 k h).1)
            clear hown' hgrow ga hap2 hlt3 hrow4 k4 l4
            go_wp2_with fail
            go_roundg g
            case measure => omega
            case rel => exact ⟨j + 1, by omega, by go_num, hr', kk', ll'⟩
          | succ g2 =>
            have hlt : m < F.length := by omega
            have hltm : (m : Int) < (F.length : Int) := by omega
            obtain ⟨qb, qo, rfl, hqb, hc⟩ := h2.get hlt
            obtain ⟨y, hy⟩ : ∃ x, Hid (F[m]?.getD 0 = x) := ⟨_, rfl⟩
            have d2 : wr.cell? ⟨qb, qo + m, none⟩ = some (.int .i64 y) := by rw [← hy.out]; exact (L2.cell (p := ⟨qb, qo + m, none⟩) hqb).trans (hc m hlt)
            clear hc
            by_cases he : y = (j : Int)
            · have gq : (y == (j : Int)) = true := by simp [he]
              have hmem : (j : Int) ∈ F := by rw [← he, ← hy.out]; exact getD_mem hlt
              have hr' := HROW
              rw [← LK_miss hmem] at hr'
              clear he hmem
              go_wp2_with fail
              go_roundg g
              case measure => omega
              case rel => exact ⟨j + 1, by omega, by go_num, hr', K2, L2⟩
            · have gq : (y == (j : Int)) = false := by simp [he]
              have hstep : Hid (¬ (j : Int) ∈ F.take (m + 1)) := mem_take_false hlt hno.out (by rw [hy.out]; exact he)
              clear he
              go_wp2_with fail
              go_roundg g2
              case measure => omega
              case rel => exact ⟨m + 1, by omega, by go_num, hstep, rfl⟩
end Go.Proofs.Ytofpkbnocbmgkaa
