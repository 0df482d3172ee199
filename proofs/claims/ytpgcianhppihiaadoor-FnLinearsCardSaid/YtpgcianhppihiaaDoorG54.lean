import Derived.Test.YtpgcianhppihiaaDoorG53
import Derived.Test.YtpgcianhppihiaaDoorG51
import Derived.Test.YtpgcianhppihiaaDoorSk
import Derived.Deep.RegionHeld3
namespace Go.Proofs.YtpgcianhppihiaaDoor
open Go.RowKit
set_option linter.unusedVariables false
set_option linter.unusedSimpArgs false

theorem nx_least {L : List (Int × Int)} {n x left lm y z : Nat} (hin : Inn n L) (h16 : In16 L) (hn : n ≤ 16) (hl : left = lm + 1) (h : nxC (eR L) n x left y = some z) : Least (fun i => eR L y i && bk L lm x i) z := by
  have hR := hin.sup
  have key : ∀ i, bk L lm x i = rch (eR L) n i left x := by
    intro i
    rw [Bool.eq_iff_iff, bk_iff h16, rch_iff hR, hl]
  unfold nxC at h
  rw [List.find?_range_eq_some] at h
  obtain ⟨h1, h2, h3⟩ := h
  have h2 : z < n := by simpa using h2
  refine ⟨by omega, by show (eR L y z && bk L lm x z) = true; rw [key]; exact h1, fun i hi => ?_⟩
  have := h3 i hi
  show (eR L y i && bk L lm x i) = false
  rw [key]
  cases hh : (eR L y i && rch (eR L) n i left x)
  · rfl
  · simp only [hh] at this
    cases this

set_option maxRecDepth 100000 in
set_option maxHeartbeats 8000000 in
theorem circleFrom_any (L : List (Int × Int)) (n D x g cap : Nat) (w : World) (hin : Inn n L) (h16 : In16 L) (hn : n ≤ 16) (hm : MinC (eR L) n D x) (hg : g < w.heap.size) (hc : ∀ d i, d < D → i < 16 → w.cell? ⟨g, d * 16 + i, none⟩ = some (.int .u16 (nb (bk L d i)))) (hT : DbT w) :
    Calls Tryd.prog 35 #[.int .i64 x, .agg (lk (eR L)), .slice (some ⟨g, 0, none⟩) D cap] w fun e w' => ∃ so co, e = .returned (.slice so (cSq (eR L) n D x (D - 1)).1.length co) ∧ VRow w' w.heap.size (.slice so (cSq (eR L) n D x (D - 1)).1.length co) (cSq (eR L) n D x (D - 1)).1 ∧ Below w.heap.size w w' := by
  have hal := alloc_old
  have haf := alloc_oldf
  have HI : Hid (Inn n L) := hin
  have H16 : Hid (In16 L) := h16
  have HM : Hid (MinC (eR L) n D x) := hm
  have HC : Hid (∀ d i, d < D → i < 16 → w.cell? ⟨g, d * 16 + i, none⟩ = some (.int .u16 (nb (bk L d i)))) := hc
  have HT : Hid (DbT w) := hT
  have hD1 : 1 ≤ D := hm.1
  have hDn : D ≤ n := hm.2.1
  have hxn : x < n := hm.2.2.1
  clear hin h16 hc hT
  have hCI : Hid (CI (eR L) n D x 0 [(x : Int)] x) := CI.start hm
  clear hm
  have tD : IntKind.i64.wrap ((D : Int) - 1) = (D : Int) - 1 := by rw [IntKind.wrap_i64]; omega
  go_enter Tryd.func35, Tryd.ntmps35
  go_upto_region 2 with fail
  have b0 : Hid (Blk ((w.alloc (.cells (lk (eR L)) 51)).alloc (.cells #[.int .i64 (x : Int)] 3)) w.heap.size (lk (eR L)) 51) := (Blk.new w _ _).alloc _
  have v0 : Hid (VRow ((w.alloc (.cells (lk (eR L)) 51)).alloc (.cells #[.int .i64 (x : Int)] 3)) w.heap.size (.slice (some ⟨w.heap.size + 1, 0, none⟩) 1 1) [(x : Int)]) := by
    have := World.ownsRow_lit (base := w.heap.size) (e := 3) (size := 1) (w.alloc (.cells (lk (eR L)) 51)) #[.int .i64 (x : Int)] 1 (by simp) (by unfold maxLen; omega) (by simp)
    rw [World.size_alloc] at this
    exact this
  have hb : Hid (Below w.heap.size w ((w.alloc (.cells (lk (eR L)) 51)).alloc (.cells #[.int .i64 (x : Int)] 3))) := bl_alloc (bl_alloc (Below.refl _ _) _) _
  generalize (w.alloc (.cells (lk (eR L)) 51)).alloc (.cells #[.int .i64 (x : Int)] 3) = X at b0 v0 hb ⊢
  go_wp2_with fail
  go_loopw [7, 8, 9] (fun ov av lv wr => ∃ (k y left : Nat) (O : List Int) (so : Option Addr) (co : Nat), k + left + 1 = D ∧ O.length = k + 1 ∧ ov = .slice so O.length co ∧ av = .int .i64 y ∧ lv = .int .i64 left ∧ Hid (CI (eR L) n D x k O y) ∧ Hid (VRow wr w.heap.size (.slice so O.length co) O) ∧ Hid (Blk wr w.heap.size (lk (eR L)) 51) ∧ Hid (Below w.heap.size w wr)) (fun _ _ lv _ => (intOf lv).toNat)
  case atStart => exact ⟨0, x, D - 1, [(x : Int)], _, _, by omega, rfl, rfl, rfl, by congr 1; omega, hCI, v0, b0, hb⟩
  case round =>
    clear hCI v0 b0 hb
    obtain ⟨k, y, left, O, so, co, hsum, hOl, rfl, rfl, rfl, hCI, hrow, b0, hb⟩ := hrel
    have HOl : Hid (O.length = k + 1) := hOl
    have HSum : Hid (k + left + 1 = D) := hsum
    have hO16 : O.length ≤ 17 := by omega
    have hl16 : left ≤ 16 := by omega
    clear hOl hsum
    by_cases hlt : 0 < left
    · obtain ⟨lm, hlm⟩ : ∃ lm, Hid (left = lm + 1) := ⟨left - 1, by show _ = _; omega⟩
      have t3 : IntKind.i64.wrap ((left : Int) - 1) = (lm : Int) := by rw [IntKind.wrap_i64]; have := hlm.out; omega
      have hkD : k + 1 < D := by have := HSum.out; omega
      have hle : D - 1 - k = left := by have := HSum.out; omega
      obtain ⟨zz, hz1, hz2⟩ := hCI.out.2.2.2.next HI.out.sup hkD
      have hCI' : Hid (CI (eR L) n D x (k + 1) (O ++ [(zz : Int)]) zz) := hCI.out.step hz1 hz2
      rw [hle] at hz1
      have HLe : Hid (Least (fun i => eR L y i && bk L lm x i) zz) := nx_least HI.out H16.out hn hlm.out hz1
      have hyn : y < n := hCI.out.2.2.2.1
      have c1 := (b0.out.cell y).trans (lk_cell (eR L) (show y < 16 by omega))
      have c2 := (hb.out.cell (p := ⟨g, lm * 16 + x, none⟩) hg).trans (HC.out lm x (by have := HSum.out; have := hlm.out; omega) (by omega))
      have g1 := and16 (eR L y) (bk L lm x)
      have i1 : (y : Int) < 16 := by omega
      have i2 : (x : Int) < 16 := by omega
      have i3 : (lm : Int) < (D : Int) := by have := HSum.out; have := hlm.out; omega
      have i3n : lm < D := by omega
      have zz16 : zz < 16 := HLe.out.1
      have hrowd : Hid (VRow wr.drew w.heap.size (.slice so O.length co) O) := hrow
      have b0d : Hid (Blk wr.drew w.heap.size (lk (eR L)) 51) := b0
      have hbd : Hid (Below w.heap.size w wr.drew) := bl_drew hb.out
      clear hz1 hz2 hle hkD
      go_wp2_with fail
      refine wp_region_held_drew (S := (fun W => W.cell? ⟨w.heap.size, y, none⟩ = some (.int .u16 (nb (eR L y))) ∧ W.cell? ⟨g, lm * 16 + x, none⟩ = some (.int .u16 (nb (bk L lm x))))) (by kernel_rfl) ?_ (fun hHeld => ?_)
      · exact ⟨c1, c2⟩
      refine wpAnyH_one (i := 0) (d := 20) (v := ?_) rfl rfl (by kernel_rfl) (by kernel_rfl) (by kernel_rfl) (fun _ _ _ h => h) (by rfl) (by assumption) ?_ ?_
      rotate_left 1
      · intro w hSw; (try dsimp only at hSw); go_simp <;> with_reducible rfl
      simp only [List.foldl, Act.put, List.setIfInBounds_toArray, List.set_cons_zero, List.set_cons_succ]
      refine wpAnyH_one (i := 1) (d := 21) (v := ?_) rfl rfl (by kernel_rfl) (by kernel_rfl) (by kernel_rfl) (fun _ _ _ h => h) (by rfl) (by assumption) ?_ ?_
      rotate_left 1
      · intro w hSw; (try dsimp only at hSw); go_simp <;> with_reducible rfl
      simp only [List.foldl, Act.put, List.setIfInBounds_toArray, List.set_cons_zero, List.set_cons_succ]
      refine wpAnyH_one (i := 2) (d := 22) (v := ?_) rfl rfl (by kernel_rfl) (by kernel_rfl) (by kernel_rfl) (fun _ _ _ h => h) (by rfl) (by assumption) ?_ ?_
      rotate_left 1
      · intro w hSw; (try dsimp only at hSw); go_simp <;> with_reducible rfl
      simp only [List.foldl, Act.put, List.setIfInBounds_toArray, List.set_cons_zero, List.set_cons_succ]
      refine wpAnyH_one (i := 3) (d := 23) (v := ?_) rfl rfl (by kernel_rfl) (by kernel_rfl) (by kernel_rfl) (fun _ _ _ h => h) (by rfl) (by assumption) ?_ ?_
      rotate_left 1
      · intro w hSw; (try dsimp only at hSw); go_simp <;> with_reducible rfl
      simp only [List.foldl, Act.put, List.setIfInBounds_toArray, List.set_cons_zero, List.set_cons_succ]
      refine wpAnyH_one (i := 4) (d := 24) (v := ?_) rfl rfl (by kernel_rfl) (by kernel_rfl) (by kernel_rfl) (fun _ _ _ h => h) (by rfl) (by assumption) ?_ ?_
      rotate_left 1
      · intro w hSw; (try dsimp only at hSw); go_simp <;> with_reducible rfl
      simp only [List.foldl, Act.put, List.setIfInBounds_toArray, List.set_cons_zero, List.set_cons_succ]
      refine wpAnyH_one (i := 5) (d := 25) (v := ?_) rfl rfl (by kernel_rfl) (by kernel_rfl) (by kernel_rfl) (fun _ _ _ h => h) (by rfl) (by assumption) ?_ ?_
      rotate_left 1
      · intro w hSw; (try dsimp only at hSw); go_simp <;> with_reducible rfl
      simp only [List.foldl, Act.put, List.setIfInBounds_toArray, List.set_cons_zero, List.set_cons_succ]
      refine wpAnyH_one (i := 6) (d := 26) (v := ?_) rfl rfl (by kernel_rfl) (by kernel_rfl) (by kernel_rfl) (fun _ _ _ h => h) (by rfl) (by assumption) ?_ ?_
      rotate_left 1
      · intro w hSw; (try dsimp only at hSw); go_simp <;> with_reducible rfl
      simp only [List.foldl, Act.put, List.setIfInBounds_toArray, List.set_cons_zero, List.set_cons_succ]
      refine wpAnyH_one (i := 7) (d := 27) (v := ?_) rfl rfl (by kernel_rfl) (by kernel_rfl) (by kernel_rfl) (fun _ _ _ h => h) (by rfl) (by assumption) ?_ ?_
      rotate_left 1
      · intro w hSw; (try dsimp only at hSw); go_simp <;> with_reducible rfl
      simp only [List.foldl, Act.put, List.setIfInBounds_toArray, List.set_cons_zero, List.set_cons_succ]
      refine wpAnyH_one (i := 8) (d := 28) (v := ?_) rfl rfl (by kernel_rfl) (by kernel_rfl) (by kernel_rfl) (fun _ _ _ h => h) (by rfl) (by assumption) ?_ ?_
      rotate_left 1
      · intro w hSw; (try dsimp only at hSw); go_simp <;> with_reducible rfl
      simp only [List.foldl, Act.put, List.setIfInBounds_toArray, List.set_cons_zero, List.set_cons_succ]
      refine wpAnyH_one (i := 9) (d := 29) (v := ?_) rfl rfl (by kernel_rfl) (by kernel_rfl) (by kernel_rfl) (fun _ _ _ h => h) (by rfl) (by assumption) ?_ ?_
      rotate_left 1
      · intro w hSw; (try dsimp only at hSw); go_simp <;> with_reducible rfl
      simp only [List.foldl, Act.put, List.setIfInBounds_toArray, List.set_cons_zero, List.set_cons_succ]
      refine wpAnyH_one (i := 10) (d := 30) (v := ?_) rfl rfl (by kernel_rfl) (by kernel_rfl) (by kernel_rfl) (fun _ _ _ h => h) (by rfl) (by assumption) ?_ ?_
      rotate_left 1
      · intro w hSw; (try dsimp only at hSw); go_simp <;> with_reducible rfl
      simp only [List.foldl, Act.put, List.setIfInBounds_toArray, List.set_cons_zero, List.set_cons_succ]
      refine wpAnyH_ready (rs := [11]) (by kernel_rfl) (by simp) ?_
      refine AllReadyH.cons rfl (fun K hK => ?_) AllReadyH.nil
      go_simp
      refine (least_any _ zz _ HLe.out (HT.out.later (bl_drew hb.out))).mono ?_
      rintro e w' ⟨rfl, hq⟩
      subst hq
      refine hK.out _ _ ?_ (fun hHeld => ?_)
      · exact ⟨c1, c2⟩
      clear hK K
      try simp only [List.foldl, Act.put, List.setIfInBounds_toArray, List.set_cons_zero, List.set_cons_succ]
      refine wpAnyH_one (i := 12) (d := 8) (v := ?_) rfl rfl (by kernel_rfl) (by kernel_rfl) (by kernel_rfl) (fun _ _ _ h => h) (by rfl) (by assumption) ?_ ?_
      rotate_left 1
      · intro w hSw; (try dsimp only at hSw); go_simp <;> with_reducible rfl
      simp only [List.foldl, Act.put, List.setIfInBounds_toArray, List.set_cons_zero, List.set_cons_succ]
      refine wpAnyH_done (by kernel_rfl) ?_ _
      generalize wr.drew = Y at hrowd b0d hbd ⊢
      go_upto_region 7 with fail
      have hap : ¬ (Value.slice so O.length co).ownBlock = some w.heap.size := hrowd.out.apart b0d.out (by decide)
      have hz := (Blk.new Y #[.int .i64 (zz : Int)] 3).cell 0
      have Va := hrowd.out.later (bl_alloc (Below.refl _ Y) (.cells #[.int .i64 (zz : Int)] 3))
      go_wp2_with (at_builtin; refine wpList_append_one _ rfl (.tmp 32) (.tmp 34) rfl w.heap.size (.slice so O.length co) O rfl Va Y.heap.size (zz : Int) rfl hz (by omega) ?_)
      intro g1' d1' w6 hv6 hg6 ho6 hl6
      have hB : w.heap.size ≤ g1' := by
        rcases ho6 with h | h
        · exact (hrowd.out.lt _ h).1
        · have := hbd.out.size; (try simp at h); omega
      have hv6 : Hid (VRow w6 w.heap.size (.slice (some ⟨g1', 0, none⟩) (O.length + 1) d1') (O ++ [(zz : Int)])) := hv6.up hB
      have hb6 : Hid (Below w.heap.size w w6) := (bl_alloc hbd.out _).grown hg6 (by simp; have := hbd.out.size; omega) (fun k h => (hrowd.out.lt k h).1)
      have b6 : Hid (Blk w6 w.heap.size (lk (eR L)) 51) := by
        have h0 := b0d.out.alloc (.cells #[.int .i64 (zz : Int)] 3)
        show _ = _
        rw [hg6.block w.heap.size h0.lt (fun e => hap e.symm)]; exact h0
      clear hz Va hg6 ho6 hl6 hB hrowd hbd b0d hrow hb b0 c1 c2 g1
      obtain ⟨O', hO'⟩ : ∃ O', Hid (O ++ [(zz : Int)] = O') := ⟨_, rfl⟩
      have hlen : Hid (O.length + 1 = O'.length) := by rw [← hO'.out]; simp [Hid]
      rw [hO'.out] at hv6 hCI'
      rw [hlen.out] at hv6 ⊢
      have hO2 : Hid (O'.length = k + 1 + 1) := by have := hlen.out; have := HOl.out; show _ = _; omega
      have hS2 : Hid (k + 1 + lm + 1 = D) := by have := HSum.out; have := hlm.out; show _ = _; omega
      have hlml : lm < left := by have := hlm.out; omega
      go_wp2_with fail
      go_roundw
      case rel => exact ⟨k + 1, zz, lm, O', _, _, hS2.out, hO2.out, rfl, rfl, rfl, hCI', hv6, b6, hb6⟩
      case measure => simp [intOf]; omega
    · have hkD : k = D - 1 := by have := HSum.out; omega
      have hA : Hid ((cSq (eR L) n D x (D - 1)).1 = O) := by
        have := hCI.out.1
        rw [hkD] at this
        show _ = _
        rw [this]
      clear hkD
      go_wp2_with fail
      go_ret
      rw [hA.out]
      exact ⟨so, co, rfl, hrow.out, hb.out⟩
end Go.Proofs.YtpgcianhppihiaaDoor
