import Derived.Test.YtcllkmdlheggkaaGd
import Derived.Test.YtcllkmdlheggkaaEf
import Derived.Deep.RegionHeld3
import Derived.Deep.AppendLies
namespace Go.Proofs.Ytcllkmdlheggkaa
open Go.RowKit
set_option linter.unusedVariables false
set_option linter.unusedSimpArgs false

set_option maxRecDepth 100000 in
set_option maxHeartbeats 8000000 in
theorem implAhead_no (s1 s2 : Option Addr) (c1 c2 : Nat) (G F : List Int) (n : Int) (w : World) (h1 : Ints w s1 G) (h2 : Ints w s2 F) (l2 : F.length ≤ 1048576) (hO0 : aheadOk G F n = false) :
    Calls Try.prog 18 #[.agg #[.slice s1 G.length c1, .slice s2 F.length c2], .int .i64 n] w fun e w' => ∃ v, e = .returned (.tuple #[v, .bool (aheadOk G F n)]) ∧ ERow w' w.heap.size v (aheadL G F n) ∧ Below w.heap.size w w' := by
  have hal := alloc_old
  have haf := alloc_oldf
  have hO : Hid (aheadOk G F n = false) := hO0
  have hL : Hid (aheadL G F n = []) := by simp [Hid, aheadL, hO.out]
  have k0 := Blk.new w #[.slice s1 G.length c1, .slice s2 F.length c2] 26
  cases hk : okE G F
  · clear hO0
    go_enter Try.func18, Try.ntmps18
    go_wp2_with fail
    refine (implEntsOk_any _ _ c1 c2 G F _ (h1.later (by (repeat (first | with_reducible exact Below.refl _ _ | with_reducible refine bl_alloc ?_ _ | with_reducible refine bl_drewN ?_ _ | with_reducible refine bl_drew ?_ | with_reducible refine bl_setCell ?_ (by first | exact Nat.le_refl _ | (dsimp only; omega) | (simp <;> omega)) _ | with_reducible refine bl_trans ?_ (by with_reducible assumption))))) (h2.later (by (repeat (first | with_reducible exact Below.refl _ _ | with_reducible refine bl_alloc ?_ _ | with_reducible refine bl_drewN ?_ _ | with_reducible refine bl_drew ?_ | with_reducible refine bl_setCell ?_ (by first | exact Nat.le_refl _ | (dsimp only; omega) | (simp <;> omega)) _ | with_reducible refine bl_trans ?_ (by with_reducible assumption))))) l2).mono ?_
    rintro e w1 ⟨rfl, hb1⟩
    rw [hk]
    go_wp2_with fail
    go_ret2
    refine ⟨.slice none 0 0, ret2_b hO.out.symm, by rw [hL.out]; exact ERow.nil _ _, ?_⟩
    (repeat (first | with_reducible exact Below.refl _ _ | with_reducible refine bl_alloc ?_ _ | with_reducible refine bl_drewN ?_ _ | with_reducible refine bl_drew ?_ | with_reducible refine bl_setCell ?_ (by first | exact Nat.le_refl _ | (dsimp only; omega) | (simp <;> omega)) _ | with_reducible refine bl_trans ?_ (by with_reducible assumption)))
  · obtain ⟨hg, hf, hin⟩ := okE_parts hk
    have hn : n < 0 ∨ ¬ n < 0 ∧ (F.length : Int) + 2000 - G.length < n := by
      simp [aheadOk, hk] at hO0
      omega
    clear hO0 hin
    rcases hn with hn | ⟨hn, hn2⟩
    · go_enter Try.func18, Try.ntmps18
      go_wp2_with fail
      refine (implEntsOk_any _ _ c1 c2 G F _ (h1.later (by (repeat (first | with_reducible exact Below.refl _ _ | with_reducible refine bl_alloc ?_ _ | with_reducible refine bl_drewN ?_ _ | with_reducible refine bl_drew ?_ | with_reducible refine bl_setCell ?_ (by first | exact Nat.le_refl _ | (dsimp only; omega) | (simp <;> omega)) _ | with_reducible refine bl_trans ?_ (by with_reducible assumption))))) (h2.later (by (repeat (first | with_reducible exact Below.refl _ _ | with_reducible refine bl_alloc ?_ _ | with_reducible refine bl_drewN ?_ _ | with_reducible refine bl_drew ?_ | with_reducible refine bl_setCell ?_ (by first | exact Nat.le_refl _ | (dsimp only; omega) | (simp <;> omega)) _ | with_reducible refine bl_trans ?_ (by with_reducible assumption))))) l2).mono ?_
      rintro e w1 ⟨rfl, hb1⟩
      rw [hk]
      go_wp2_with fail
      go_ret2
      refine ⟨.slice none 0 0, ret2_b hO.out.symm, by rw [hL.out]; exact ERow.nil _ _, ?_⟩
      (repeat (first | with_reducible exact Below.refl _ _ | with_reducible refine bl_alloc ?_ _ | with_reducible refine bl_drewN ?_ _ | with_reducible refine bl_drew ?_ | with_reducible refine bl_setCell ?_ (by first | exact Nat.le_refl _ | (dsimp only; omega) | (simp <;> omega)) _ | with_reducible refine bl_trans ?_ (by with_reducible assumption)))
    · go_enter Try.func18, Try.ntmps18
      go_wp2_with fail
      refine (implEntsOk_any _ _ c1 c2 G F _ (h1.later (by (repeat (first | with_reducible exact Below.refl _ _ | with_reducible refine bl_alloc ?_ _ | with_reducible refine bl_drewN ?_ _ | with_reducible refine bl_drew ?_ | with_reducible refine bl_setCell ?_ (by first | exact Nat.le_refl _ | (dsimp only; omega) | (simp <;> omega)) _ | with_reducible refine bl_trans ?_ (by with_reducible assumption))))) (h2.later (by (repeat (first | with_reducible exact Below.refl _ _ | with_reducible refine bl_alloc ?_ _ | with_reducible refine bl_drewN ?_ _ | with_reducible refine bl_drew ?_ | with_reducible refine bl_setCell ?_ (by first | exact Nat.le_refl _ | (dsimp only; omega) | (simp <;> omega)) _ | with_reducible refine bl_trans ?_ (by with_reducible assumption))))) l2).mono ?_
      rintro e w1 ⟨rfl, hb1⟩
      rw [hk]
      obtain ⟨x0, x1, x2⟩ := (k0.later hb1).two
      go_wp2_with fail
      go_ret2
      refine ⟨.slice none 0 0, ret2_b hO.out.symm, by rw [hL.out]; exact ERow.nil _ _, ?_⟩
      (repeat (first | with_reducible exact Below.refl _ _ | with_reducible refine bl_alloc ?_ _ | with_reducible refine bl_drewN ?_ _ | with_reducible refine bl_drew ?_ | with_reducible refine bl_setCell ?_ (by first | exact Nat.le_refl _ | (dsimp only; omega) | (simp <;> omega)) _ | with_reducible refine bl_trans ?_ (by with_reducible assumption)))

set_option maxRecDepth 100000 in
set_option maxHeartbeats 8000000 in
theorem implAhead_yes (s1 s2 : Option Addr) (c1 c2 : Nat) (G F : List Int) (N : Nat) (w : World) (h1 : Ints w s1 G) (h2 : Ints w s2 F) (hk : okE G F = true) (hN : N ≤ F.length + 2000 - G.length) :
    Calls Try.prog 18 #[.agg #[.slice s1 G.length c1, .slice s2 F.length c2], .int .i64 N] w fun e w' => ∃ v, e = .returned (.tuple #[v, .bool (aheadOk G F N)]) ∧ ERow w' w.heap.size v (aheadL G F N) ∧ Below w.heap.size w w' := by
  have hal := alloc_old
  have haf := alloc_oldf
  obtain ⟨hg, hf, hin0⟩ := okE_parts hk
  have hin : Hid (∀ f ∈ F, 0 ≤ f ∧ f < G.length) := hin0
  have hO : Hid (aheadOk G F (N : Int) = true) := by simp [Hid, aheadOk, hk]; omega
  have hL : Hid (aheadL G F (N : Int) = aheadK G F N) := by simp [Hid, aheadL, hO.out]
  have tN0 : ¬ (N : Int) < 0 := by omega
  have tN1 : ¬ (F.length : Int) + 2000 - G.length < (N : Int) := by omega
  clear hin0
  obtain ⟨ie, hie, he0, he1, he2⟩ := info_parts Try.infoEnt
  have k0 := Blk.new w #[.slice s1 G.length c1, .slice s2 F.length c2] 26
  go_enter Try.func18, Try.ntmps18
  go_wp2_with fail
  refine (implEntsOk_any _ _ c1 c2 G F _ (h1.later (by (repeat (first | with_reducible exact Below.refl _ _ | with_reducible refine bl_alloc ?_ _ | with_reducible refine bl_drewN ?_ _ | with_reducible refine bl_drew ?_ | with_reducible refine bl_setCell ?_ (by first | exact Nat.le_refl _ | (dsimp only; omega) | (simp <;> omega)) _ | with_reducible refine bl_trans ?_ (by with_reducible assumption))))) (h2.later (by (repeat (first | with_reducible exact Below.refl _ _ | with_reducible refine bl_alloc ?_ _ | with_reducible refine bl_drewN ?_ _ | with_reducible refine bl_drew ?_ | with_reducible refine bl_setCell ?_ (by first | exact Nat.le_refl _ | (dsimp only; omega) | (simp <;> omega)) _ | with_reducible refine bl_trans ?_ (by with_reducible assumption))))) (by omega)).mono ?_
  rintro e w1 ⟨rfl, hb1⟩
  rw [hk]
  have L1 : Below w.heap.size w w1 := by (repeat (first | with_reducible exact Below.refl _ _ | with_reducible refine bl_alloc ?_ _ | with_reducible refine bl_drewN ?_ _ | with_reducible refine bl_drew ?_ | with_reducible refine bl_setCell ?_ (by first | exact Nat.le_refl _ | (dsimp only; omega) | (simp <;> omega)) _ | with_reducible refine bl_trans ?_ (by with_reducible assumption)))
  have K1 := k0.later hb1
  clear k0 hb1
  obtain ⟨x0, x1, x2⟩ := K1.two
  go_wp2_with fail
  go_loopw [6, 28] (fun v i wr => ∃ k : Nat, k ≤ N ∧ i = .int .i64 k ∧ ERow wr w.heap.size v (aheadK G F k) ∧ Blk wr w.heap.size #[.slice s1 G.length c1, .slice s2 F.length c2] 26 ∧ Below w.heap.size w wr) (fun _ i _ => N - (intOf i).toNat)
  case atStart => exact ⟨0, Nat.zero_le _, rfl, ERow.nil _ _, K1, L1⟩
  case round =>
    clear K1 L1 x0 x1 x2
    obtain ⟨k, hkN, rfl, hrow, K, L⟩ := hrel
    obtain ⟨x0, x1, x2⟩ := K.two
    by_cases hlt : k < N
    · have hltI : (k : Int) < (N : Int) := by omega
      have hlA := aheadK_len G F k
      have hap0 := hrow.apartB K (by decide)
      have hlt3 := hrow.lt
      by_cases hkF : k < F.length
      · obtain ⟨m, hm⟩ : ∃ m, Hid (F.length = m + 1 + k) := ⟨F.length - 1 - k, by show _ = _; omega⟩
        have t1 : (F.length : Int) - 1 - (k : Int) = (m : Int) := by have := hm.out; omega
        have hmF : m < F.length := by have := hm.out; omega
        have hmI : (m : Int) < (F.length : Int) := by omega
        have hkI : (k : Int) < (F.length : Int) := by omega
        obtain ⟨qb, qo, rfl, hqb, hc⟩ := h2.get hmF
        have hin1 := hin.out _ (getD_mem hmF)
        obtain ⟨q, hq⟩ : ∃ q : Nat, Hid (F[m]?.getD 0 = (q : Int)) := ⟨(F[m]?.getD 0).toNat, by show _ = _; omega⟩
        rw [hq.out] at hin1
        have hqG : q < G.length := by omega
        obtain ⟨x, hx⟩ : ∃ x, Hid (G[q]?.getD 0 = x) := ⟨_, rfl⟩
        have hA : Hid (aheadK G F (k + 1) = aheadK G F k ++ [((q : Int), x)]) := by
          show _ = _
          rw [aheadK_succ, takeAt, if_pos hkF, show F.length - 1 - k = m by have := hm.out; omega, hq.out]
          simp [hx.out]
        have d2 : wr.cell? ⟨qb, qo + m, none⟩ = some (.int .i64 q) := by rw [← hq.out]; exact (L.cell (p := ⟨qb, qo + m, none⟩) hqb).trans (hc m hmF)
        have hq9 : qb < w.heap.size := hqb
        clear hc hin1
        go_wp2_with fail
        have tw1 : IntKind.i64.wrap ((F.length : Int) - 1) = (F.length : Int) - 1 := by rw [IntKind.wrap_i64]; omega
        have twm : IntKind.i64.wrap (m : Int) = (m : Int) := by rw [IntKind.wrap_i64]; omega
        have apq : ¬ u6.ownBlock = some qb := fun h => by have := (hlt3 qb h).1; omega
        go_region_held3 (fun w' => w'.cell? ⟨w.heap.size, 0, none⟩ = some (.slice s1 G.length c1) ∧ w'.cell? ⟨w.heap.size, 1, none⟩ = some (.slice (some ⟨qb, qo, none⟩) F.length c2) ∧ w'.cell? ⟨qb, qo + m, none⟩ = some (.int .i64 q))
          (first
            | go_keep
            | (go_split_ands
               refine ⟨?_, ?_, ?_⟩
               · (rw [hgrow.cell_far _ (by simp; omega) (Ne.symm hap0)]; assumption)
               · (rw [hgrow.cell_far _ (by simp; omega) (Ne.symm hap0)]; assumption)
               · (rw [hgrow.cell_far _ (by simp; omega) (Ne.symm apq)]; assumption)))
          ((first
            | (go_at_call 34; refine (entAt_any s1 (some ⟨qb, qo, none⟩) c1 c2 G F q x _ (h1.later (bl_drew L)) hqG hx.out (by omega)).mono ?_; rintro e wa ⟨rfl, hb⟩; have Ka : Blk wa w.heap.size _ _ := K.later (by (repeat (first | with_reducible exact Below.refl _ _ | with_reducible refine bl_alloc ?_ _ | with_reducible refine bl_drewN ?_ _ | with_reducible refine bl_drew ?_ | with_reducible refine bl_setCell ?_ (by first | exact Nat.le_refl _ | (dsimp only; omega) | (simp <;> omega)) _ | with_reducible refine bl_trans ?_ (by with_reducible assumption)))); have Ra : ERow wa w.heap.size _ _ := hrow.later (by (repeat (first | with_reducible exact Below.refl _ _ | with_reducible refine bl_alloc ?_ _ | with_reducible refine bl_drewN ?_ _ | with_reducible refine bl_drew ?_ | with_reducible refine bl_setCell ?_ (by first | exact Nat.le_refl _ | (dsimp only; omega) | (simp <;> omega)) _ | with_reducible refine bl_trans ?_ (by with_reducible assumption)))); have La : Below w.heap.size w wa := (by (repeat (first | with_reducible exact Below.refl _ _ | with_reducible refine bl_alloc ?_ _ | with_reducible refine bl_drewN ?_ _ | with_reducible refine bl_drew ?_ | with_reducible refine bl_setCell ?_ (by first | exact Nat.le_refl _ | (dsimp only; omega) | (simp <;> omega)) _ | with_reducible refine bl_trans ?_ (by with_reducible assumption)))); have da : wa.cell? ⟨qb, qo + m, none⟩ = some (.int .i64 q) := (Below.cell (p := ⟨qb, qo + m, none⟩) La hqb).trans ((L.cell (p := ⟨qb, qo + m, none⟩) hqb).symm.trans d2); have sa := Ka.lt; obtain ⟨xa0, xa1, xa2⟩ := Ka.two)
            | (refine step_append_lies _ (by rfl) _ _ _ (by rfl) w.heap.size 29 ie (.agg #[.int .i64 0, .int .i64 0]) 2 16 Try.underlying36 hie he0 he1 he2 rfl (by decide) _ _ _ (by rfl) (World.ownsRow.alloc Ra _) ⟨wa.heap.size, 0, none⟩ 1 1 [.int .i64 (q : Int), .int .i64 x] (by rfl) (by rfl) (World.news_of_block (cs := #[.int .i64 (q : Int), .int .i64 x]) (t := 29) (fr := (0, 0)) (heap_alloc_new wa _)) (by simp [Value.oneCell']) (by omega) (by unfold maxLen; omega) (by omega) (by have := La.size; simp; omega) (wa.heap.size + 1) (by simp) ?_; intro gg cap w5 hown' hgrow hat hltg)))
        have ga := grown_of_below (bl_alloc (Below.refl _ wa) (.cells #[.int .i64 (q : Int), .int .i64 x] 29))
        have hr' : ERow w5 w.heap.size (.slice (some ⟨gg, 0, none⟩) (k + 1) cap) (aheadK G F (k + 1)) := by
          unfold ERow
          rw [hA.out, ecells_app, List.length_append, aheadK_len]
          rw [aheadK_len] at hown'
          exact hown'
        have K5 := (Ka.kept' ga (by simp)).kept' hgrow hap0
        have L5 : Below w.heap.size w w5 := (La.grown ga La.size (fun k h => by cases h)).grown hgrow (Nat.le_trans La.size ga.size) (fun k h => (hlt3 k h).1)
        clear hown' hgrow ga hap0 hlt3 hrow K L Ka Ra La x0 x1 x2 xa0 xa1 xa2 d2 da t1 twm tw1 hat hltg
        go_wp2_with fail
        go_roundw
        case rel => exact ⟨k + 1, by omega, by go_num, hr', K5, L5⟩
        case measure => simp [intOf]; omega
      · have hkI : ¬ (k : Int) < (F.length : Int) := by omega
        have hA : Hid (aheadK G F (k + 1) = aheadK G F k ++ [((G.length : Int) + k - F.length, 0)]) := by
          show _ = _
          rw [aheadK_succ, takeAt, if_neg hkF]
        go_wp2_with (at_builtin; refine wpList_append_own _ rfl _ _ 36 rfl w.heap.size 29 ie (.agg #[.int .i64 0, .int .i64 0]) 2 16 Try.underlying36 hie he0 he1 he2 rfl (by decide) _ _ _ rfl (World.ownsRow.alloc hrow _) ⟨wr.heap.size, 0, none⟩ 1 1 [.int .i64 ((G.length : Int) + k - F.length), .int .i64 0] rfl rfl ?c1 ?c2 ?c3 ?c4 ?c5 ?_)
        case c2 => exact ⟨rfl, rfl⟩
        case c3 => unfold maxLen; omega
        case c4 => omega
        case c5 => have := L.size; simp; omega
        intro v' w5 hown' hgrow _
        have ga := grown_of_below (bl_alloc (Below.refl _ wr) (.cells #[.int .i64 ((G.length : Int) + k - F.length), .int .i64 0] 29))
        have hr' : ERow w5 w.heap.size v' (aheadK G F (k + 1)) := by
          unfold ERow
          rw [hA.out, ecells_app, List.length_append, aheadK_len]
          exact hown'
        have K5 := (K.kept' ga (by simp)).kept' hgrow hap0
        have L5 : Below w.heap.size w w5 := (L.grown ga L.size (fun k h => by cases h)).grown hgrow (Nat.le_trans L.size ga.size) (fun k h => (hlt3 k h).1)
        clear hown' hgrow ga hap0 hlt3 hrow K L x0 x1 x2
        go_wp2_with fail
        go_roundw
        case rel => exact ⟨k + 1, by omega, by go_num, hr', K5, L5⟩
        case measure => simp [intOf]; omega
    · have hkN' : k = N := by omega
      subst hkN'
      go_wp2_with fail
      go_ret2
      exact ⟨_, ret2_b hO.out.symm, by rw [hL.out]; exact hrow, L⟩

theorem implAhead_any (s1 s2 : Option Addr) (c1 c2 : Nat) (G F : List Int) (n : Int) (w : World) (h1 : Ints w s1 G) (h2 : Ints w s2 F) (l2 : F.length ≤ 1048576) :
    Calls Try.prog 18 #[.agg #[.slice s1 G.length c1, .slice s2 F.length c2], .int .i64 n] w fun e w' => ∃ v, e = .returned (.tuple #[v, .bool (aheadOk G F n)]) ∧ ERow w' w.heap.size v (aheadL G F n) ∧ Below w.heap.size w w' := by
  cases hO : aheadOk G F n
  · rw [← hO]; exact implAhead_no s1 s2 c1 c2 G F n w h1 h2 l2 hO
  · have h := hO
    simp [aheadOk] at h
    obtain ⟨N, rfl⟩ : ∃ N : Nat, n = N := ⟨n.toNat, by omega⟩
    rw [← hO]; exact implAhead_yes s1 s2 c1 c2 G F N w h1 h2 h.1 (by omega)
end Go.Proofs.Ytcllkmdlheggkaa
