import Derived.Test.YtgiclehfhjjalaaRi
import Derived.Test.YtgiclehfhjjalaaSk
import Derived.Deep.RegionHeld3
namespace Go.Proofs.Ytgiclehfhjjalaa
open Go.RowKit
set_option linter.unusedVariables false
set_option linter.unusedSimpArgs false

/-- a stream in its box, its lists its own, made since X. -/
structure SR (X : World) (f : Int) (O M : List V4) (kz a c b d : Nat) (wx : World) : Prop where
  k : Blk wx kz #[.int .i64 f, .slice (some ⟨a, 0, none⟩) O.length c, .slice (some ⟨b, 0, none⟩) M.length d] 26
  o : OV wx X.heap.size (.slice (some ⟨a, 0, none⟩) O.length c) O
  n : OV wx X.heap.size (.slice (some ⟨b, 0, none⟩) M.length d) M
  ab : ¬ a = b
  ak : ¬ a = kz
  bk : ¬ b = kz
  z : X.heap.size ≤ kz
  l : Below X.heap.size X wx
theorem sr_leaf {X C : World} {f : Int} {O M : List V4} {kz a c b d : Nat} (hk : Blk C kz #[.int .i64 0, .slice none 0 0, .slice none 0 0] 26) (ho : OV C X.heap.size (.slice (some ⟨a, 0, none⟩) O.length c) O) (hn : OV C X.heap.size (.slice (some ⟨b, 0, none⟩) M.length d) M) (hab : ¬ a = b) (hak : ¬ a = kz) (hbk : ¬ b = kz) (hz : X.heap.size ≤ kz) (hl : Below X.heap.size X C) :
    SR X f O M kz a c b d (((C.setCell ⟨kz, 0, none⟩ (.int .i64 f)).setCell ⟨kz, 1, none⟩ (.slice (some ⟨a, 0, none⟩) O.length c)).setCell ⟨kz, 2, none⟩ (.slice (some ⟨b, 0, none⟩) M.length d)) := by
  have h1 : ¬ (Value.slice (some ⟨a, 0, none⟩) O.length c).ownBlock = some kz := ne_own (fun e => hak e.symm)
  have h2 : ¬ (Value.slice (some ⟨b, 0, none⟩) M.length d).ownBlock = some kz := ne_own (fun e => hbk e.symm)
  exact ⟨((hk.set 0 (.int .i64 f)).set 1 (.slice (some ⟨a, 0, none⟩) O.length c)).set 2 (.slice (some ⟨b, 0, none⟩) M.length d), ((ho.other h1 0 _).other h1 1 _).other h1 2 _, ((hn.other h2 0 _).other h2 1 _).other h2 2 _, hab, hak, hbk, hz, ((hl.setCell hz _).setCell hz _).setCell hz _⟩

set_option maxRecDepth 100000 in
set_option maxHeartbeats 8000000 in
theorem exactSend_any (k : Int) (f : Int) (s1 s2 : Option Addr) (c1 c2 : Nat) (O N : List V4) (y : V4) (w : World) (bk : -9223372036854775808 ≤ k ∧ k ≤ 9223372036854775807) (bf : -9223372036854775808 ≤ f ∧ f ≤ 9223372036854775807) (hO : Els 4 cVal w 0 s1 O) (hN : Els 4 cVal w 0 s2 N) (mO : O.length ≤ 9223372036854775807) (mN : N.length ≤ 9223372036854775807) (oy : okV y) :
    Calls Try.prog 6 #[.int .i64 k, .agg #[.int .i64 f, .slice s1 O.length c1, .slice s2 N.length c2], .agg #[.int .i64 y.1, .int .i64 y.2.1, .float .f64 y.2.2.1, .float .f64 y.2.2.2]] w fun e w' => e = .returned (.bool true) ∧ Below w.heap.size w w' := by
  have hal := alloc_old
  have haf := alloc_oldf
  have okO := els_ok hO
  have okN := els_ok hN
  obtain ⟨KA, KB, L⟩ := boxTwo w #[.int .i64 f, .slice s1 O.length c1, .slice s2 N.length c2] #[.int .i64 y.1, .int .i64 y.2.1, .float .f64 y.2.2.1, .float .f64 y.2.2.2] 41 47
  obtain ⟨x0, x1, x2, x3⟩ := KA.three'
  go_enter Try.func6, Try.ntmps6
  go_wp2_with fail
  refine (szStream_gen f s1 s2 O.length N.length c1 c2 1048576 _ (by omega) (by omega) mO mN).mono ?_
  rintro e w1 ⟨⟨r, rfl, hr⟩, hb1⟩
  replace L := bl_trans L hb1
  replace KA := KA.later hb1
  replace KB := KB.later hb1
  clear x0 x1 x2 x3
  clear hb1
  rcases hr with rfl | ⟨r0, r1, lO, lN⟩
  · go_wp2_with fail
    go_ret
    exact ⟨rfl, L⟩
  have t2 : decide (r < 0) = false := by simp; omega
  have tr : ¬ r < 0 := by omega
  clear mO mN
  obtain ⟨ok, HOK⟩ : ∃ ok, Hid (ok = snB k f O N y) := ⟨_, rfl⟩
  obtain ⟨M, HM⟩ : ∃ M, Hid (M = snL ok N y) := ⟨_, rfl⟩
  have lM : M.length ≤ 1048576 := by
    rw [HM.out]
    cases e : ok
    · exact lN
    · have hs : snB k f O N y = true := by rw [← HOK.out]; exact e
      have : N.length ≤ 200 := by simp [snB, stB] at hs; omega
      simp [snL]; omega
  have okM : ∀ v ∈ M, okV v := by
    intro v hv
    rw [HM.out] at hv
    unfold snL at hv
    split at hv
    · exact (List.mem_append.1 hv).elim (okN v) (fun e => by simp at e; subst e; exact oy)
    · exact okN v hv
  have ltX := KB.lt
  obtain ⟨x0, x1, x2, x3⟩ := KA.three'
  obtain ⟨v0, v1, v2, v3, v4⟩ := KB.four'
  go_wp2_with fail
  go_cut [8, 9] (fun p0 p1 wx => ∃ (kz a c b d : Nat), p0 = .pointer (some ⟨kz, 0, none⟩) ∧ p1 = .bool ok ∧ SR w1 f O M kz a c b d wx)
  case first =>
    refine wp_region_held_drew (S := (fun w' => w'.cell? ⟨w.heap.size, 0, none⟩ = some (.int .i64 f) ∧ w'.cell? ⟨w.heap.size, 1, none⟩ = some (.slice s1 O.length c1) ∧ w'.cell? ⟨w.heap.size, 2, none⟩ = some (.slice s2 N.length c2) ∧ w'.cell? ⟨w.heap.size + 1, 0, none⟩ = some (.int .i64 y.1) ∧ w'.cell? ⟨w.heap.size + 1, 1, none⟩ = some (.int .i64 y.2.1) ∧ w'.cell? ⟨w.heap.size + 1, 2, none⟩ = some (.float .f64 y.2.2.1) ∧ w'.cell? ⟨w.heap.size + 1, 3, none⟩ = some (.float .f64 y.2.2.2))) (by kernel_rfl) ?_ (fun hHeld => ?_)
    · exact ⟨x0, x1, x2, v0, v1, v2, v3⟩
    have LX : Hid (Below w1.heap.size w1 w1) := Below.refl _ _
    refine wpAnyH_one (i := 0) (d := 24) (v := ?_) rfl rfl (by kernel_rfl) (by kernel_rfl) (by kernel_rfl) (fun _ _ _ h => h) (by rfl) (by assumption) ?_ ?_
    rotate_left 1
    · intro w hSw; (try dsimp only at hSw); go_simp <;> with_reducible rfl
    simp only [List.foldl, Act.put, List.setIfInBounds_toArray, List.set_cons_zero, List.set_cons_succ]
    refine wpAnyH_one (i := 1) (d := 25) (v := ?_) rfl rfl (by kernel_rfl) (by kernel_rfl) (by kernel_rfl) (fun _ _ _ h => h) (by rfl) (by assumption) ?_ ?_
    rotate_left 1
    · intro w hSw; (try dsimp only at hSw); go_simp <;> with_reducible rfl
    simp only [List.foldl, Act.put, List.setIfInBounds_toArray, List.set_cons_zero, List.set_cons_succ]
    refine wpAnyH_one (i := 3) (d := 27) (v := ?_) rfl rfl (by kernel_rfl) (by kernel_rfl) (by kernel_rfl) (fun _ _ _ h => h) (by rfl) (by assumption) ?_ ?_
    rotate_left 1
    · intro w hSw; (try dsimp only at hSw); go_simp <;> with_reducible rfl
    simp only [List.foldl, Act.put, List.setIfInBounds_toArray, List.set_cons_zero, List.set_cons_succ]
    refine wpAnyH_ready (rs := [2, 9]) (by kernel_rfl) (by simp) ?_
    refine AllReadyH.cons rfl (fun K hK => ?_) ?_
    · skip
      go_simp
      refine (toStream_own f s1 s2 c1 c2 O N 0 _ (hO.later cVal_keeps (bl_trans L (bl_drew (Below.refl _ _)))) (hN.later cVal_keeps (bl_trans L (bl_drew (Below.refl _ _)))) lO lN).mono ?_
      rintro r0 ww1 ⟨⟨a2, e2, b2, d2, rfl, oA2, oB2, n2⟩, hb⟩
      have hc : Below w1.heap.size w1 ww1 := bl_trans (bl_drew (Below.refl _ _)) hb
      have LX0 : Below w1.heap.size w1 w1 := LX.out
      have LX : Hid (Below w1.heap.size w1 ww1) := bl_trans LX.out hc
      have x0 := kcell hc x0
      have x1 := kcell hc x1
      have x2 := kcell hc x2
      have v0 := kcell hc v0
      have v1 := kcell hc v1
      have v2 := kcell hc v2
      have v3 := kcell hc v3
      have OA : Hid (OV ww1 w1.heap.size (.slice (some ⟨a2, 0, none⟩) O.length e2) O) := oA2.mono LX0.size
      have OB : Hid (OV ww1 w1.heap.size (.slice (some ⟨b2, 0, none⟩) N.length d2) N) := oB2.mono LX0.size
      clear oA2 oB2 n2
      clear hb hc LX0
      refine hK.out _ _ ?_ (fun hHeld => ?_)
      · exact ⟨x0, x1, x2, v0, v1, v2, v3⟩
      clear hK K
      try simp only [List.foldl, Act.put, List.setIfInBounds_toArray, List.set_cons_zero, List.set_cons_succ]
      refine wpAnyH_ready (rs := [4, 9]) (by kernel_rfl) (by simp) ?_
      refine AllReadyH.cons rfl (fun K hK => ?_) ?_
      · skip
        go_simp
        refine (toVal_any y.1 y.2.1 y.2.2.1 y.2.2.2 _).mono ?_
        rintro r0 ww2 ⟨rfl, hb⟩
        have hc : Below ww1.heap.size ww1 ww2 := hb
        have LX0 : Below w1.heap.size w1 ww1 := LX.out
        have LX : Hid (Below w1.heap.size w1 ww2) := bl_trans LX.out hc
        have OA : Hid (OV ww2 w1.heap.size (.slice (some ⟨a2, 0, none⟩) O.length e2) O) := OA.out.later hc
        have OB : Hid (OV ww2 w1.heap.size (.slice (some ⟨b2, 0, none⟩) N.length d2) N) := OB.out.later hc
        have x0 := kcell hc x0
        have x1 := kcell hc x1
        have x2 := kcell hc x2
        have v0 := kcell hc v0
        have v1 := kcell hc v1
        have v2 := kcell hc v2
        have v3 := kcell hc v3
        clear hb hc LX0
        refine hK.out _ _ ?_ (fun hHeld => ?_)
        · exact ⟨x0, x1, x2, v0, v1, v2, v3⟩
        clear hK K
        try simp only [List.foldl, Act.put, List.setIfInBounds_toArray, List.set_cons_zero, List.set_cons_succ]
        refine wpAnyH_ready (rs := [5, 9]) (by kernel_rfl) (by simp) ?_
        refine AllReadyH.cons rfl (fun K hK => ?_) ?_
        · skip
          go_simp
          refine (specSend_any k f a2 0 b2 0 e2 d2 O N y _ _ (OA.out.els okO) (OB.out.els okN) oy lO lN).mono ?_
          rintro r0 ww3 ⟨aw, cw, bw, dw, rfl, ro, rn, rab, hb⟩
          have hc : Below ww2.heap.size ww2 ww3 := hb
          have LX0 : Below w1.heap.size w1 ww2 := LX.out
          have LX : Hid (Below w1.heap.size w1 ww3) := bl_trans LX.out hc
          have x0 := kcell hc x0
          have x1 := kcell hc x1
          have x2 := kcell hc x2
          have v0 := kcell hc v0
          have v1 := kcell hc v1
          have v2 := kcell hc v2
          have v3 := kcell hc v3
          rw [← HOK.out, ← HM.out] at rn
          rw [← HOK.out, ← HM.out]
          have RO : Hid (OV ww3 w1.heap.size (.slice (some ⟨aw, 0, none⟩) O.length cw) O) := ro.mono LX0.size
          have RN : Hid (OV ww3 w1.heap.size (.slice (some ⟨bw, 0, none⟩) M.length dw) M) := rn.mono LX0.size
          have NAB : Hid (¬ aw = bw) := rab
          clear ro rn rab
          clear hb hc LX0
          refine hK.out _ _ ?_ (fun hHeld => ?_)
          · exact ⟨x0, x1, x2, v0, v1, v2, v3⟩
          clear hK K
          try simp only [List.foldl, Act.put, List.setIfInBounds_toArray, List.set_cons_zero, List.set_cons_succ]
          refine wpAnyH_one (i := 6) (d := 23) (v := ?_) rfl rfl (by kernel_rfl) (by kernel_rfl) (by kernel_rfl) (fun _ _ _ h => h) (by rfl) (by assumption) ?_ ?_
          rotate_left 1
          · intro w hSw; (try dsimp only at hSw); go_simp <;> with_reducible rfl
          simp only [List.foldl, Act.put, List.setIfInBounds_toArray, List.set_cons_zero, List.set_cons_succ]
          refine wpAnyH_one (i := 7) (d := 30) (v := ?_) rfl rfl (by kernel_rfl) (by kernel_rfl) (by kernel_rfl) (fun _ _ _ h => h) (by rfl) (by assumption) ?_ ?_
          rotate_left 1
          · intro w hSw; (try dsimp only at hSw); go_simp <;> with_reducible rfl
          simp only [List.foldl, Act.put, List.setIfInBounds_toArray, List.set_cons_zero, List.set_cons_succ]
          refine wpAnyH_one (i := 8) (d := 31) (v := ?_) rfl rfl (by kernel_rfl) (by kernel_rfl) (by kernel_rfl) (fun _ _ _ h => h) (by rfl) (by assumption) ?_ ?_
          rotate_left 1
          · intro w hSw; (try dsimp only at hSw); go_simp <;> with_reducible rfl
          simp only [List.foldl, Act.put, List.setIfInBounds_toArray, List.set_cons_zero, List.set_cons_succ]
          refine wpAnyH_ready (rs := [9]) (by kernel_rfl) (by simp) ?_
          refine AllReadyH.cons rfl (fun K hK => ?_) AllReadyH.nil
          go_simp
          have hg : Below ww3.heap.size ww3 (ww3.alloc (.cells #[.int .i64 0, .slice none 0 0, .slice none 0 0] 26)) := bl_alloc (Below.refl _ _) _
          have KZ : Hid (Blk (ww3.alloc (.cells #[.int .i64 0, .slice none 0 0, .slice none 0 0] 26)) ww3.heap.size #[.int .i64 0, .slice none 0 0, .slice none 0 0] 26) := Blk.new _ _ _
          have hxs : w1.heap.size ≤ ww3.heap.size := LX.out.size
          have NZ : Hid (¬ aw = ww3.heap.size ∧ ¬ bw = ww3.heap.size) := by have h1 := (RO.out.lt aw rfl).2; have h2 := (RN.out.lt bw rfl).2; exact ⟨by omega, by omega⟩
          have LX : Hid (Below w1.heap.size w1 (ww3.alloc (.cells #[.int .i64 0, .slice none 0 0, .slice none 0 0] 26))) := bl_trans LX.out hg
          have RO : Hid (OV (ww3.alloc (.cells #[.int .i64 0, .slice none 0 0, .slice none 0 0] 26)) w1.heap.size (.slice (some ⟨aw, 0, none⟩) O.length cw) O) := RO.out.later hg
          have RN : Hid (OV (ww3.alloc (.cells #[.int .i64 0, .slice none 0 0, .slice none 0 0] 26)) w1.heap.size (.slice (some ⟨bw, 0, none⟩) M.length dw) M) := RN.out.later hg
          have x0 := kcell hg x0
          have x1 := kcell hg x1
          have x2 := kcell hg x2
          have v0 := kcell hg v0
          have v1 := kcell hg v1
          have v2 := kcell hg v2
          have v3 := kcell hg v3
          clear hg
          refine hK.out _ _ ?_ (fun hHeld => ?_)
          · exact ⟨x0, x1, x2, v0, v1, v2, v3⟩
          clear hK K
          try simp only [List.foldl, Act.put, List.setIfInBounds_toArray, List.set_cons_zero, List.set_cons_succ]
          generalize hGe : (ww3.alloc (.cells #[.int .i64 0, .slice none 0 0, .slice none 0 0] 26)) = ww4 at KZ hHeld x0 x1 x2 v0 v1 v2 v3 LX RO RN ⊢
          obtain ⟨kz, hkz⟩ : ∃ kz, ww3.heap.size = kz := ⟨_, rfl⟩
          have HKZ : Hid (w1.heap.size ≤ kz) := Nat.le_trans hxs (Nat.le_of_eq hkz)
          clear hxs
          rw [hkz] at KZ NZ
          try rw [hkz]
          clear hGe hkz
          obtain ⟨k0z, k1z, k2z, k3z⟩ := KZ.out.three'
          have hkz2 := HKZ.out
          refine wpAnyH_ready (rs := [10]) (by kernel_rfl) (by simp) ?_
          refine AllReadyH.cons rfl (fun K hK => ?_) AllReadyH.nil
          go_simp
          refine hK.out _ _ ?_ (fun hHeld => ?_)
          · exact ⟨(setThree_far _ _ _ (by omega)).trans x0, (setThree_far _ _ _ (by omega)).trans x1, (setThree_far _ _ _ (by omega)).trans x2, (setThree_far _ _ _ (by omega)).trans v0, (setThree_far _ _ _ (by omega)).trans v1, (setThree_far _ _ _ (by omega)).trans v2, (setThree_far _ _ _ (by omega)).trans v3⟩
          clear hK K
          try simp only [List.foldl, Act.put, List.setIfInBounds_toArray, List.set_cons_zero, List.set_cons_succ]
          refine wpAnyH_one (i := 11) (d := 9) (v := ?_) rfl rfl (by kernel_rfl) (by kernel_rfl) (by kernel_rfl) (fun _ _ _ h => h) (by rfl) (by assumption) ?_ ?_
          rotate_left 1
          · intro w hSw; (try dsimp only at hSw); go_simp <;> with_reducible rfl
          simp only [List.foldl, Act.put, List.setIfInBounds_toArray, List.set_cons_zero, List.set_cons_succ]
          refine wpAnyH_done (by kernel_rfl) ?_ _
          go_wp2_with fail
          go_meet
          exact ⟨kz, aw, cw, bw, dw, rfl, rfl, sr_leaf KZ.out RO.out RN.out NAB.out NZ.out.1 NZ.out.2 HKZ.out LX.out⟩
        · refine AllReadyH.cons rfl (fun K hK => ?_) AllReadyH.nil
          go_simp
          have hg : Below ww2.heap.size ww2 (ww2.alloc (.cells #[.int .i64 0, .slice none 0 0, .slice none 0 0] 26)) := bl_alloc (Below.refl _ _) _
          have KZ : Hid (Blk (ww2.alloc (.cells #[.int .i64 0, .slice none 0 0, .slice none 0 0] 26)) ww2.heap.size #[.int .i64 0, .slice none 0 0, .slice none 0 0] 26) := Blk.new _ _ _
          have hxs : w1.heap.size ≤ ww2.heap.size := LX.out.size
          have LX : Hid (Below w1.heap.size w1 (ww2.alloc (.cells #[.int .i64 0, .slice none 0 0, .slice none 0 0] 26))) := bl_trans LX.out hg
          have OA : Hid (OV (ww2.alloc (.cells #[.int .i64 0, .slice none 0 0, .slice none 0 0] 26)) w1.heap.size (.slice (some ⟨a2, 0, none⟩) O.length e2) O) := OA.out.later hg
          have OB : Hid (OV (ww2.alloc (.cells #[.int .i64 0, .slice none 0 0, .slice none 0 0] 26)) w1.heap.size (.slice (some ⟨b2, 0, none⟩) N.length d2) N) := OB.out.later hg
          have x0 := kcell hg x0
          have x1 := kcell hg x1
          have x2 := kcell hg x2
          have v0 := kcell hg v0
          have v1 := kcell hg v1
          have v2 := kcell hg v2
          have v3 := kcell hg v3
          clear hg
          refine hK.out _ _ ?_ (fun hHeld => ?_)
          · exact ⟨x0, x1, x2, v0, v1, v2, v3⟩
          clear hK K
          try simp only [List.foldl, Act.put, List.setIfInBounds_toArray, List.set_cons_zero, List.set_cons_succ]
          generalize hGe : (ww2.alloc (.cells #[.int .i64 0, .slice none 0 0, .slice none 0 0] 26)) = ww5 at KZ hHeld x0 x1 x2 v0 v1 v2 v3 LX OA OB ⊢
          obtain ⟨kz, hkz⟩ : ∃ kz, ww2.heap.size = kz := ⟨_, rfl⟩
          have HKZ : Hid (w1.heap.size ≤ kz) := Nat.le_trans hxs (Nat.le_of_eq hkz)
          clear hxs
          rw [hkz] at KZ
          try rw [hkz]
          clear hGe hkz
          refine wpAnyH_ready (rs := [5]) (by kernel_rfl) (by simp) ?_
          refine AllReadyH.cons rfl (fun K hK => ?_) AllReadyH.nil
          go_simp
          refine (specSend_any k f a2 0 b2 0 e2 d2 O N y _ _ (OA.out.els okO) (OB.out.els okN) oy lO lN).mono ?_
          rintro r0 ww6 ⟨aw, cw, bw, dw, rfl, ro, rn, rab, hb⟩
          have hc : Below ww5.heap.size ww5 ww6 := hb
          have LX0 : Below w1.heap.size w1 ww5 := LX.out
          have KZ0 : Blk ww5 kz #[.int .i64 0, .slice none 0 0, .slice none 0 0] 26 := KZ.out
          have LX : Hid (Below w1.heap.size w1 ww6) := bl_trans LX.out hc
          have KZ : Hid (Blk ww6 kz #[.int .i64 0, .slice none 0 0, .slice none 0 0] 26) := KZ.out.later hc
          have x0 := kcell hc x0
          have x1 := kcell hc x1
          have x2 := kcell hc x2
          have v0 := kcell hc v0
          have v1 := kcell hc v1
          have v2 := kcell hc v2
          have v3 := kcell hc v3
          rw [← HOK.out, ← HM.out] at rn
          rw [← HOK.out, ← HM.out]
          have NZ : Hid (¬ aw = kz ∧ ¬ bw = kz) := by have h1 := (ro.lt aw rfl).1; have h2 := (rn.lt bw rfl).1; have h3 := KZ0.lt; exact ⟨by (try simp only [World.size_drew] at h1 h3); omega, by (try simp only [World.size_drew] at h2 h3); omega⟩
          have RO : Hid (OV ww6 w1.heap.size (.slice (some ⟨aw, 0, none⟩) O.length cw) O) := ro.mono LX0.size
          have RN : Hid (OV ww6 w1.heap.size (.slice (some ⟨bw, 0, none⟩) M.length dw) M) := rn.mono LX0.size
          have NAB : Hid (¬ aw = bw) := rab
          clear ro rn rab
          clear hb hc LX0 KZ0
          refine hK.out _ _ ?_ (fun hHeld => ?_)
          · exact ⟨x0, x1, x2, v0, v1, v2, v3⟩
          clear hK K
          try simp only [List.foldl, Act.put, List.setIfInBounds_toArray, List.set_cons_zero, List.set_cons_succ]
          refine wpAnyH_one (i := 6) (d := 23) (v := ?_) rfl rfl (by kernel_rfl) (by kernel_rfl) (by kernel_rfl) (fun _ _ _ h => h) (by rfl) (by assumption) ?_ ?_
          rotate_left 1
          · intro w hSw; (try dsimp only at hSw); go_simp <;> with_reducible rfl
          simp only [List.foldl, Act.put, List.setIfInBounds_toArray, List.set_cons_zero, List.set_cons_succ]
          refine wpAnyH_one (i := 7) (d := 30) (v := ?_) rfl rfl (by kernel_rfl) (by kernel_rfl) (by kernel_rfl) (fun _ _ _ h => h) (by rfl) (by assumption) ?_ ?_
          rotate_left 1
          · intro w hSw; (try dsimp only at hSw); go_simp <;> with_reducible rfl
          simp only [List.foldl, Act.put, List.setIfInBounds_toArray, List.set_cons_zero, List.set_cons_succ]
          refine wpAnyH_one (i := 8) (d := 31) (v := ?_) rfl rfl (by kernel_rfl) (by kernel_rfl) (by kernel_rfl) (fun _ _ _ h => h) (by rfl) (by assumption) ?_ ?_
          rotate_left 1
          · intro w hSw; (try dsimp only at hSw); go_simp <;> with_reducible rfl
          simp only [List.foldl, Act.put, List.setIfInBounds_toArray, List.set_cons_zero, List.set_cons_succ]
          obtain ⟨k0z, k1z, k2z, k3z⟩ := KZ.out.three'
          have hkz2 := HKZ.out
          refine wpAnyH_ready (rs := [10]) (by kernel_rfl) (by simp) ?_
          refine AllReadyH.cons rfl (fun K hK => ?_) AllReadyH.nil
          go_simp
          refine hK.out _ _ ?_ (fun hHeld => ?_)
          · exact ⟨(setThree_far _ _ _ (by omega)).trans x0, (setThree_far _ _ _ (by omega)).trans x1, (setThree_far _ _ _ (by omega)).trans x2, (setThree_far _ _ _ (by omega)).trans v0, (setThree_far _ _ _ (by omega)).trans v1, (setThree_far _ _ _ (by omega)).trans v2, (setThree_far _ _ _ (by omega)).trans v3⟩
          clear hK K
          try simp only [List.foldl, Act.put, List.setIfInBounds_toArray, List.set_cons_zero, List.set_cons_succ]
          refine wpAnyH_one (i := 11) (d := 9) (v := ?_) rfl rfl (by kernel_rfl) (by kernel_rfl) (by kernel_rfl) (fun _ _ _ h => h) (by rfl) (by assumption) ?_ ?_
          rotate_left 1
          · intro w hSw; (try dsimp only at hSw); go_simp <;> with_reducible rfl
          simp only [List.foldl, Act.put, List.setIfInBounds_toArray, List.set_cons_zero, List.set_cons_succ]
          refine wpAnyH_done (by kernel_rfl) ?_ _
          go_wp2_with fail
          go_meet
          exact ⟨kz, aw, cw, bw, dw, rfl, rfl, sr_leaf KZ.out RO.out RN.out NAB.out NZ.out.1 NZ.out.2 HKZ.out LX.out⟩
      · refine AllReadyH.cons rfl (fun K hK => ?_) AllReadyH.nil
        go_simp
        have hg : Below ww1.heap.size ww1 (ww1.alloc (.cells #[.int .i64 0, .slice none 0 0, .slice none 0 0] 26)) := bl_alloc (Below.refl _ _) _
        have KZ : Hid (Blk (ww1.alloc (.cells #[.int .i64 0, .slice none 0 0, .slice none 0 0] 26)) ww1.heap.size #[.int .i64 0, .slice none 0 0, .slice none 0 0] 26) := Blk.new _ _ _
        have hxs : w1.heap.size ≤ ww1.heap.size := LX.out.size
        have LX : Hid (Below w1.heap.size w1 (ww1.alloc (.cells #[.int .i64 0, .slice none 0 0, .slice none 0 0] 26))) := bl_trans LX.out hg
        have OA : Hid (OV (ww1.alloc (.cells #[.int .i64 0, .slice none 0 0, .slice none 0 0] 26)) w1.heap.size (.slice (some ⟨a2, 0, none⟩) O.length e2) O) := OA.out.later hg
        have OB : Hid (OV (ww1.alloc (.cells #[.int .i64 0, .slice none 0 0, .slice none 0 0] 26)) w1.heap.size (.slice (some ⟨b2, 0, none⟩) N.length d2) N) := OB.out.later hg
        have x0 := kcell hg x0
        have x1 := kcell hg x1
        have x2 := kcell hg x2
        have v0 := kcell hg v0
        have v1 := kcell hg v1
        have v2 := kcell hg v2
        have v3 := kcell hg v3
        clear hg
        refine hK.out _ _ ?_ (fun hHeld => ?_)
        · exact ⟨x0, x1, x2, v0, v1, v2, v3⟩
        clear hK K
        try simp only [List.foldl, Act.put, List.setIfInBounds_toArray, List.set_cons_zero, List.set_cons_succ]
        generalize hGe : (ww1.alloc (.cells #[.int .i64 0, .slice none 0 0, .slice none 0 0] 26)) = ww7 at KZ hHeld x0 x1 x2 v0 v1 v2 v3 LX OA OB ⊢
        obtain ⟨kz, hkz⟩ : ∃ kz, ww1.heap.size = kz := ⟨_, rfl⟩
        have HKZ : Hid (w1.heap.size ≤ kz) := Nat.le_trans hxs (Nat.le_of_eq hkz)
        clear hxs
        rw [hkz] at KZ
        try rw [hkz]
        clear hGe hkz
        refine wpAnyH_ready (rs := [4]) (by kernel_rfl) (by simp) ?_
        refine AllReadyH.cons rfl (fun K hK => ?_) AllReadyH.nil
        go_simp
        refine (toVal_any y.1 y.2.1 y.2.2.1 y.2.2.2 _).mono ?_
        rintro r0 ww8 ⟨rfl, hb⟩
        have hc : Below ww7.heap.size ww7 ww8 := hb
        have LX0 : Below w1.heap.size w1 ww7 := LX.out
        have KZ0 : Blk ww7 kz #[.int .i64 0, .slice none 0 0, .slice none 0 0] 26 := KZ.out
        have LX : Hid (Below w1.heap.size w1 ww8) := bl_trans LX.out hc
        have OA : Hid (OV ww8 w1.heap.size (.slice (some ⟨a2, 0, none⟩) O.length e2) O) := OA.out.later hc
        have OB : Hid (OV ww8 w1.heap.size (.slice (some ⟨b2, 0, none⟩) N.length d2) N) := OB.out.later hc
        have KZ : Hid (Blk ww8 kz #[.int .i64 0, .slice none 0 0, .slice none 0 0] 26) := KZ.out.later hc
        have x0 := kcell hc x0
        have x1 := kcell hc x1
        have x2 := kcell hc x2
        have v0 := kcell hc v0
        have v1 := kcell hc v1
        have v2 := kcell hc v2
        have v3 := kcell hc v3
        clear hb hc LX0 KZ0
        refine hK.out _ _ ?_ (fun hHeld => ?_)
        · exact ⟨x0, x1, x2, v0, v1, v2, v3⟩
        clear hK K
        try simp only [List.foldl, Act.put, List.setIfInBounds_toArray, List.set_cons_zero, List.set_cons_succ]
        refine wpAnyH_ready (rs := [5]) (by kernel_rfl) (by simp) ?_
        refine AllReadyH.cons rfl (fun K hK => ?_) AllReadyH.nil
        go_simp
        refine (specSend_any k f a2 0 b2 0 e2 d2 O N y _ _ (OA.out.els okO) (OB.out.els okN) oy lO lN).mono ?_
        rintro r0 ww9 ⟨aw, cw, bw, dw, rfl, ro, rn, rab, hb⟩
        have hc : Below ww8.heap.size ww8 ww9 := hb
        have LX0 : Below w1.heap.size w1 ww8 := LX.out
        have KZ0 : Blk ww8 kz #[.int .i64 0, .slice none 0 0, .slice none 0 0] 26 := KZ.out
        have LX : Hid (Below w1.heap.size w1 ww9) := bl_trans LX.out hc
        have KZ : Hid (Blk ww9 kz #[.int .i64 0, .slice none 0 0, .slice none 0 0] 26) := KZ.out.later hc
        have x0 := kcell hc x0
        have x1 := kcell hc x1
        have x2 := kcell hc x2
        have v0 := kcell hc v0
        have v1 := kcell hc v1
        have v2 := kcell hc v2
        have v3 := kcell hc v3
        rw [← HOK.out, ← HM.out] at rn
        rw [← HOK.out, ← HM.out]
        have NZ : Hid (¬ aw = kz ∧ ¬ bw = kz) := by have h1 := (ro.lt aw rfl).1; have h2 := (rn.lt bw rfl).1; have h3 := KZ0.lt; exact ⟨by (try simp only [World.size_drew] at h1 h3); omega, by (try simp only [World.size_drew] at h2 h3); omega⟩
        have RO : Hid (OV ww9 w1.heap.size (.slice (some ⟨aw, 0, none⟩) O.length cw) O) := ro.mono LX0.size
        have RN : Hid (OV ww9 w1.heap.size (.slice (some ⟨bw, 0, none⟩) M.length dw) M) := rn.mono LX0.size
        have NAB : Hid (¬ aw = bw) := rab
        clear ro rn rab
        clear hb hc LX0 KZ0
        refine hK.out _ _ ?_ (fun hHeld => ?_)
        · exact ⟨x0, x1, x2, v0, v1, v2, v3⟩
        clear hK K
        try simp only [List.foldl, Act.put, List.setIfInBounds_toArray, List.set_cons_zero, List.set_cons_succ]
        refine wpAnyH_one (i := 6) (d := 23) (v := ?_) rfl rfl (by kernel_rfl) (by kernel_rfl) (by kernel_rfl) (fun _ _ _ h => h) (by rfl) (by assumption) ?_ ?_
        rotate_left 1
        · intro w hSw; (try dsimp only at hSw); go_simp <;> with_reducible rfl
        simp only [List.foldl, Act.put, List.setIfInBounds_toArray, List.set_cons_zero, List.set_cons_succ]
        refine wpAnyH_one (i := 7) (d := 30) (v := ?_) rfl rfl (by kernel_rfl) (by kernel_rfl) (by kernel_rfl) (fun _ _ _ h => h) (by rfl) (by assumption) ?_ ?_
        rotate_left 1
        · intro w hSw; (try dsimp only at hSw); go_simp <;> with_reducible rfl
        simp only [List.foldl, Act.put, List.setIfInBounds_toArray, List.set_cons_zero, List.set_cons_succ]
        refine wpAnyH_one (i := 8) (d := 31) (v := ?_) rfl rfl (by kernel_rfl) (by kernel_rfl) (by kernel_rfl) (fun _ _ _ h => h) (by rfl) (by assumption) ?_ ?_
        rotate_left 1
        · intro w hSw; (try dsimp only at hSw); go_simp <;> with_reducible rfl
        simp only [List.foldl, Act.put, List.setIfInBounds_toArray, List.set_cons_zero, List.set_cons_succ]
        obtain ⟨k0z, k1z, k2z, k3z⟩ := KZ.out.three'
        have hkz2 := HKZ.out
        refine wpAnyH_ready (rs := [10]) (by kernel_rfl) (by simp) ?_
        refine AllReadyH.cons rfl (fun K hK => ?_) AllReadyH.nil
        go_simp
        refine hK.out _ _ ?_ (fun hHeld => ?_)
        · exact ⟨(setThree_far _ _ _ (by omega)).trans x0, (setThree_far _ _ _ (by omega)).trans x1, (setThree_far _ _ _ (by omega)).trans x2, (setThree_far _ _ _ (by omega)).trans v0, (setThree_far _ _ _ (by omega)).trans v1, (setThree_far _ _ _ (by omega)).trans v2, (setThree_far _ _ _ (by omega)).trans v3⟩
        clear hK K
        try simp only [List.foldl, Act.put, List.setIfInBounds_toArray, List.set_cons_zero, List.set_cons_succ]
        refine wpAnyH_one (i := 11) (d := 9) (v := ?_) rfl rfl (by kernel_rfl) (by kernel_rfl) (by kernel_rfl) (fun _ _ _ h => h) (by rfl) (by assumption) ?_ ?_
        rotate_left 1
        · intro w hSw; (try dsimp only at hSw); go_simp <;> with_reducible rfl
        simp only [List.foldl, Act.put, List.setIfInBounds_toArray, List.set_cons_zero, List.set_cons_succ]
        refine wpAnyH_done (by kernel_rfl) ?_ _
        go_wp2_with fail
        go_meet
        exact ⟨kz, aw, cw, bw, dw, rfl, rfl, sr_leaf KZ.out RO.out RN.out NAB.out NZ.out.1 NZ.out.2 HKZ.out LX.out⟩
    · refine AllReadyH.cons rfl (fun K hK => ?_) AllReadyH.nil
      go_simp
      have hg : Below w1.heap.size w1 (w1.alloc (.cells #[.int .i64 0, .slice none 0 0, .slice none 0 0] 26)).drew := bl_drew (bl_alloc (Below.refl _ _) _)
      have KZ : Hid (Blk (w1.alloc (.cells #[.int .i64 0, .slice none 0 0, .slice none 0 0] 26)).drew w1.heap.size #[.int .i64 0, .slice none 0 0, .slice none 0 0] 26) := Blk.new _ _ _
      have hxs : w1.heap.size ≤ w1.heap.size := LX.out.size
      have LX : Hid (Below w1.heap.size w1 (w1.alloc (.cells #[.int .i64 0, .slice none 0 0, .slice none 0 0] 26)).drew) := bl_trans LX.out hg
      have x0 := kcell hg x0
      have x1 := kcell hg x1
      have x2 := kcell hg x2
      have v0 := kcell hg v0
      have v1 := kcell hg v1
      have v2 := kcell hg v2
      have v3 := kcell hg v3
      clear hg
      refine hK.out _ _ ?_ (fun hHeld => ?_)
      · exact ⟨x0, x1, x2, v0, v1, v2, v3⟩
      clear hK K
      try simp only [List.foldl, Act.put, List.setIfInBounds_toArray, List.set_cons_zero, List.set_cons_succ]
      generalize hGe : (w1.alloc (.cells #[.int .i64 0, .slice none 0 0, .slice none 0 0] 26)).drew = ww10 at KZ hHeld x0 x1 x2 v0 v1 v2 v3 LX ⊢
      obtain ⟨kz, hkz⟩ : ∃ kz, w1.heap.size = kz := ⟨_, rfl⟩
      have HKZ : Hid (w1.heap.size ≤ kz) := Nat.le_trans hxs (Nat.le_of_eq hkz)
      clear hxs
      rw [hkz] at KZ
      try rw [hkz]
      clear hGe hkz
      refine wpAnyH_ready (rs := [2]) (by kernel_rfl) (by simp) ?_
      refine AllReadyH.cons rfl (fun K hK => ?_) AllReadyH.nil
      go_simp
      refine (toStream_own f s1 s2 c1 c2 O N 0 _ (hO.later cVal_keeps (bl_trans L LX.out)) (hN.later cVal_keeps (bl_trans L LX.out)) lO lN).mono ?_
      rintro r0 ww11 ⟨⟨a2, e2, b2, d2, rfl, oA2, oB2, n2⟩, hb⟩
      have hc : Below ww10.heap.size ww10 ww11 := hb
      have LX0 : Below w1.heap.size w1 ww10 := LX.out
      have KZ0 : Blk ww10 kz #[.int .i64 0, .slice none 0 0, .slice none 0 0] 26 := KZ.out
      have LX : Hid (Below w1.heap.size w1 ww11) := bl_trans LX.out hc
      have KZ : Hid (Blk ww11 kz #[.int .i64 0, .slice none 0 0, .slice none 0 0] 26) := KZ.out.later hc
      have x0 := kcell hc x0
      have x1 := kcell hc x1
      have x2 := kcell hc x2
      have v0 := kcell hc v0
      have v1 := kcell hc v1
      have v2 := kcell hc v2
      have v3 := kcell hc v3
      have OA : Hid (OV ww11 w1.heap.size (.slice (some ⟨a2, 0, none⟩) O.length e2) O) := oA2.mono LX0.size
      have OB : Hid (OV ww11 w1.heap.size (.slice (some ⟨b2, 0, none⟩) N.length d2) N) := oB2.mono LX0.size
      clear oA2 oB2 n2
      clear hb hc LX0 KZ0
      refine hK.out _ _ ?_ (fun hHeld => ?_)
      · exact ⟨x0, x1, x2, v0, v1, v2, v3⟩
      clear hK K
      try simp only [List.foldl, Act.put, List.setIfInBounds_toArray, List.set_cons_zero, List.set_cons_succ]
      refine wpAnyH_ready (rs := [4]) (by kernel_rfl) (by simp) ?_
      refine AllReadyH.cons rfl (fun K hK => ?_) AllReadyH.nil
      go_simp
      refine (toVal_any y.1 y.2.1 y.2.2.1 y.2.2.2 _).mono ?_
      rintro r0 ww12 ⟨rfl, hb⟩
      have hc : Below ww11.heap.size ww11 ww12 := hb
      have LX0 : Below w1.heap.size w1 ww11 := LX.out
      have KZ0 : Blk ww11 kz #[.int .i64 0, .slice none 0 0, .slice none 0 0] 26 := KZ.out
      have LX : Hid (Below w1.heap.size w1 ww12) := bl_trans LX.out hc
      have OA : Hid (OV ww12 w1.heap.size (.slice (some ⟨a2, 0, none⟩) O.length e2) O) := OA.out.later hc
      have OB : Hid (OV ww12 w1.heap.size (.slice (some ⟨b2, 0, none⟩) N.length d2) N) := OB.out.later hc
      have KZ : Hid (Blk ww12 kz #[.int .i64 0, .slice none 0 0, .slice none 0 0] 26) := KZ.out.later hc
      have x0 := kcell hc x0
      have x1 := kcell hc x1
      have x2 := kcell hc x2
      have v0 := kcell hc v0
      have v1 := kcell hc v1
      have v2 := kcell hc v2
      have v3 := kcell hc v3
      clear hb hc LX0 KZ0
      refine hK.out _ _ ?_ (fun hHeld => ?_)
      · exact ⟨x0, x1, x2, v0, v1, v2, v3⟩
      clear hK K
      try simp only [List.foldl, Act.put, List.setIfInBounds_toArray, List.set_cons_zero, List.set_cons_succ]
      refine wpAnyH_ready (rs := [5]) (by kernel_rfl) (by simp) ?_
      refine AllReadyH.cons rfl (fun K hK => ?_) AllReadyH.nil
      go_simp
      refine (specSend_any k f a2 0 b2 0 e2 d2 O N y _ _ (OA.out.els okO) (OB.out.els okN) oy lO lN).mono ?_
      rintro r0 ww13 ⟨aw, cw, bw, dw, rfl, ro, rn, rab, hb⟩
      have hc : Below ww12.heap.size ww12 ww13 := hb
      have LX0 : Below w1.heap.size w1 ww12 := LX.out
      have KZ0 : Blk ww12 kz #[.int .i64 0, .slice none 0 0, .slice none 0 0] 26 := KZ.out
      have LX : Hid (Below w1.heap.size w1 ww13) := bl_trans LX.out hc
      have KZ : Hid (Blk ww13 kz #[.int .i64 0, .slice none 0 0, .slice none 0 0] 26) := KZ.out.later hc
      have x0 := kcell hc x0
      have x1 := kcell hc x1
      have x2 := kcell hc x2
      have v0 := kcell hc v0
      have v1 := kcell hc v1
      have v2 := kcell hc v2
      have v3 := kcell hc v3
      rw [← HOK.out, ← HM.out] at rn
      rw [← HOK.out, ← HM.out]
      have NZ : Hid (¬ aw = kz ∧ ¬ bw = kz) := by have h1 := (ro.lt aw rfl).1; have h2 := (rn.lt bw rfl).1; have h3 := KZ0.lt; exact ⟨by (try simp only [World.size_drew] at h1 h3); omega, by (try simp only [World.size_drew] at h2 h3); omega⟩
      have RO : Hid (OV ww13 w1.heap.size (.slice (some ⟨aw, 0, none⟩) O.length cw) O) := ro.mono LX0.size
      have RN : Hid (OV ww13 w1.heap.size (.slice (some ⟨bw, 0, none⟩) M.length dw) M) := rn.mono LX0.size
      have NAB : Hid (¬ aw = bw) := rab
      clear ro rn rab
      clear hb hc LX0 KZ0
      refine hK.out _ _ ?_ (fun hHeld => ?_)
      · exact ⟨x0, x1, x2, v0, v1, v2, v3⟩
      clear hK K
      try simp only [List.foldl, Act.put, List.setIfInBounds_toArray, List.set_cons_zero, List.set_cons_succ]
      refine wpAnyH_one (i := 6) (d := 23) (v := ?_) rfl rfl (by kernel_rfl) (by kernel_rfl) (by kernel_rfl) (fun _ _ _ h => h) (by rfl) (by assumption) ?_ ?_
      rotate_left 1
      · intro w hSw; (try dsimp only at hSw); go_simp <;> with_reducible rfl
      simp only [List.foldl, Act.put, List.setIfInBounds_toArray, List.set_cons_zero, List.set_cons_succ]
      refine wpAnyH_one (i := 7) (d := 30) (v := ?_) rfl rfl (by kernel_rfl) (by kernel_rfl) (by kernel_rfl) (fun _ _ _ h => h) (by rfl) (by assumption) ?_ ?_
      rotate_left 1
      · intro w hSw; (try dsimp only at hSw); go_simp <;> with_reducible rfl
      simp only [List.foldl, Act.put, List.setIfInBounds_toArray, List.set_cons_zero, List.set_cons_succ]
      refine wpAnyH_one (i := 8) (d := 31) (v := ?_) rfl rfl (by kernel_rfl) (by kernel_rfl) (by kernel_rfl) (fun _ _ _ h => h) (by rfl) (by assumption) ?_ ?_
      rotate_left 1
      · intro w hSw; (try dsimp only at hSw); go_simp <;> with_reducible rfl
      simp only [List.foldl, Act.put, List.setIfInBounds_toArray, List.set_cons_zero, List.set_cons_succ]
      obtain ⟨k0z, k1z, k2z, k3z⟩ := KZ.out.three'
      have hkz2 := HKZ.out
      refine wpAnyH_ready (rs := [10]) (by kernel_rfl) (by simp) ?_
      refine AllReadyH.cons rfl (fun K hK => ?_) AllReadyH.nil
      go_simp
      refine hK.out _ _ ?_ (fun hHeld => ?_)
      · exact ⟨(setThree_far _ _ _ (by omega)).trans x0, (setThree_far _ _ _ (by omega)).trans x1, (setThree_far _ _ _ (by omega)).trans x2, (setThree_far _ _ _ (by omega)).trans v0, (setThree_far _ _ _ (by omega)).trans v1, (setThree_far _ _ _ (by omega)).trans v2, (setThree_far _ _ _ (by omega)).trans v3⟩
      clear hK K
      try simp only [List.foldl, Act.put, List.setIfInBounds_toArray, List.set_cons_zero, List.set_cons_succ]
      refine wpAnyH_one (i := 11) (d := 9) (v := ?_) rfl rfl (by kernel_rfl) (by kernel_rfl) (by kernel_rfl) (fun _ _ _ h => h) (by rfl) (by assumption) ?_ ?_
      rotate_left 1
      · intro w hSw; (try dsimp only at hSw); go_simp <;> with_reducible rfl
      simp only [List.foldl, Act.put, List.setIfInBounds_toArray, List.set_cons_zero, List.set_cons_succ]
      refine wpAnyH_done (by kernel_rfl) ?_ _
      go_wp2_with fail
      go_meet
      exact ⟨kz, aw, cw, bw, dw, rfl, rfl, sr_leaf KZ.out RO.out RN.out NAB.out NZ.out.1 NZ.out.2 HKZ.out LX.out⟩
  case rest =>
    clear x0 x1 x2 x3 v0 v1 v2 v3 v4
    obtain ⟨kw, aw, cw, bw, dw, rfl, rfl, Sw⟩ := hcut
    have hS := Sw.l
    replace L := bl_trans L hS
    replace KA := KA.later hS
    replace KB := KB.later hS
    have sz1 := hS.size
    have KW := Sw.k
    have OWo := Sw.o
    have OWn := Sw.n
    obtain ⟨W1, hW1⟩ : ∃ W1, wc = W1 := ⟨_, rfl⟩
    rw [hW1] at hS L KA KB KW OWo OWn ⊢
    clear Sw hS hW1
    have owo := OWo.lt aw rfl
    have own := OWn.lt bw rfl
    have kwl := KW.lt
    obtain ⟨x0, x1, x2, x3⟩ := KA.three'
    go_wp2_with fail
    have ltP := KA.lt
    refine (toStream_own f s1 s2 c1 c2 O N 0 _ (hO.later cVal_keeps L) (hN.later cVal_keeps L) lO lN).mono ?_
    rintro e w5 ⟨⟨a, c, b, d, rfl, OXo, OXn, nab⟩, hb5⟩
    replace L := bl_trans L hb5
    replace KA := KA.later hb5
    replace KB := KB.later hb5
    replace KW := KW.later hb5
    replace OWo := OWo.later hb5
    replace OWn := OWn.later hb5
    clear x0 x1 x2 x3
    have pa := OXo.lt a rfl
    have pb := OXn.lt b rfl
    have s5 := hb5.size
    clear hb5
    have hB : Below w5.heap.size w5 (w5.alloc (.cells #[.int .i64 f, .slice (some ⟨a, 0, none⟩) O.length c, .slice (some ⟨b, 0, none⟩) N.length d] 26)) := bl_alloc (Below.refl _ _) _
    have sz : (w5.alloc (.cells #[.int .i64 f, .slice (some ⟨a, 0, none⟩) O.length c, .slice (some ⟨b, 0, none⟩) N.length d] 26)).heap.size = w5.heap.size + 1 := by simp
    replace L := bl_trans L hB
    replace KA := KA.later hB
    replace KB := KB.later hB
    replace KW := KW.later hB
    replace OWo := OWo.later hB
    replace OWn := OWn.later hB
    replace OXo := OXo.later hB
    replace OXn := OXn.later hB
    have KX := Blk.new w5 #[.int .i64 f, .slice (some ⟨a, 0, none⟩) O.length c, .slice (some ⟨b, 0, none⟩) N.length d] 26
    obtain ⟨x0, x1, x2, x3⟩ := KX.three'
    obtain ⟨v0, v1, v2, v3, v4⟩ := KB.four'
    go_wp2_with fail
    generalize hX : w5.alloc (.cells #[.int .i64 f, .slice (some ⟨a, 0, none⟩) O.length c, .slice (some ⟨b, 0, none⟩) N.length d] 26) = Q at sz L KA KB KW OWo OWn OXo OXn KX x0 x1 x2 x3 v0 v1 v2 v3 v4 ⊢
    clear hX hB
    have sQ := sz
    clear sz
    have HsQ : Hid (Q.heap.size = w5.heap.size + 1) := sQ
    have ltQ : w5.heap.size < Q.heap.size := KX.lt
    have ltQ2 := KB.lt
    clear sQ
    go_cut [11, 12] (fun p0 p1 wx => ∃ (kz a c b d : Nat), p0 = .pointer (some ⟨kz, 0, none⟩) ∧ p1 = .bool ok ∧ SR Q f O M kz a c b d wx)
    case first =>
      refine wp_region_held_drew (S := (fun w' => w'.cell? ⟨w5.heap.size, 0, none⟩ = some (.int .i64 f) ∧ w'.cell? ⟨w5.heap.size, 1, none⟩ = some (.slice (some ⟨a, 0, none⟩) O.length c) ∧ w'.cell? ⟨w5.heap.size, 2, none⟩ = some (.slice (some ⟨b, 0, none⟩) N.length d) ∧ w'.cell? ⟨w.heap.size + 1, 0, none⟩ = some (.int .i64 y.1) ∧ w'.cell? ⟨w.heap.size + 1, 1, none⟩ = some (.int .i64 y.2.1) ∧ w'.cell? ⟨w.heap.size + 1, 2, none⟩ = some (.float .f64 y.2.2.1) ∧ w'.cell? ⟨w.heap.size + 1, 3, none⟩ = some (.float .f64 y.2.2.2))) (by kernel_rfl) ?_ (fun hHeld => ?_)
      · exact ⟨x0, x1, x2, v0, v1, v2, v3⟩
      have LX : Hid (Below Q.heap.size Q Q) := Below.refl _ _
      refine wpAnyH_one (i := 0) (d := 35) (v := ?_) rfl rfl (by kernel_rfl) (by kernel_rfl) (by kernel_rfl) (fun _ _ _ h => h) (by rfl) (by assumption) ?_ ?_
      rotate_left 1
      · intro w hSw; (try dsimp only at hSw); go_simp <;> with_reducible rfl
      simp only [List.foldl, Act.put, List.setIfInBounds_toArray, List.set_cons_zero, List.set_cons_succ]
      refine wpAnyH_one (i := 1) (d := 36) (v := ?_) rfl rfl (by kernel_rfl) (by kernel_rfl) (by kernel_rfl) (fun _ _ _ h => h) (by rfl) (by assumption) ?_ ?_
      rotate_left 1
      · intro w hSw; (try dsimp only at hSw); go_simp <;> with_reducible rfl
      simp only [List.foldl, Act.put, List.setIfInBounds_toArray, List.set_cons_zero, List.set_cons_succ]
      refine wpAnyH_one (i := 2) (d := 37) (v := ?_) rfl rfl (by kernel_rfl) (by kernel_rfl) (by kernel_rfl) (fun _ _ _ h => h) (by rfl) (by assumption) ?_ ?_
      rotate_left 1
      · intro w hSw; (try dsimp only at hSw); go_simp <;> with_reducible rfl
      simp only [List.foldl, Act.put, List.setIfInBounds_toArray, List.set_cons_zero, List.set_cons_succ]
      refine wpAnyH_ready (rs := [3, 8]) (by kernel_rfl) (by simp) ?_
      refine AllReadyH.cons rfl (fun K hK => ?_) ?_
      · skip
        go_simp
        refine (toVal_any y.1 y.2.1 y.2.2.1 y.2.2.2 _).mono ?_
        rintro r0 wg1 ⟨rfl, hb⟩
        have hc : Below Q.heap.size Q wg1 := bl_trans (bl_drew (Below.refl _ _)) hb
        have LX0 : Below Q.heap.size Q Q := LX.out
        have LX : Hid (Below Q.heap.size Q wg1) := bl_trans LX.out hc
        have x0 := kcell hc x0
        have x1 := kcell hc x1
        have x2 := kcell hc x2
        have v0 := kcell hc v0
        have v1 := kcell hc v1
        have v2 := kcell hc v2
        have v3 := kcell hc v3
        clear hb hc LX0
        refine hK.out _ _ ?_ (fun hHeld => ?_)
        · exact ⟨x0, x1, x2, v0, v1, v2, v3⟩
        clear hK K
        try simp only [List.foldl, Act.put, List.setIfInBounds_toArray, List.set_cons_zero, List.set_cons_succ]
        refine wpAnyH_ready (rs := [4, 8]) (by kernel_rfl) (by simp) ?_
        refine AllReadyH.cons rfl (fun K hK => ?_) ?_
        · skip
          go_simp
          refine (implSend_any k f a 0 b 0 c d O N y _ _ ((OXo.later LX.out).els okO) ((OXn.later LX.out).els okN) oy lO lN).mono ?_
          rintro r0 wg2 ⟨ag, cg, bg, dg, rfl, ro, rn, rab, hb⟩
          have hc : Below wg1.heap.size wg1 wg2 := hb
          have LX0 : Below Q.heap.size Q wg1 := LX.out
          have LX : Hid (Below Q.heap.size Q wg2) := bl_trans LX.out hc
          have x0 := kcell hc x0
          have x1 := kcell hc x1
          have x2 := kcell hc x2
          have v0 := kcell hc v0
          have v1 := kcell hc v1
          have v2 := kcell hc v2
          have v3 := kcell hc v3
          rw [← HOK.out, ← HM.out] at rn
          rw [← HOK.out, ← HM.out]
          have RO : Hid (OV wg2 Q.heap.size (.slice (some ⟨ag, 0, none⟩) O.length cg) O) := ro.mono LX0.size
          have RN : Hid (OV wg2 Q.heap.size (.slice (some ⟨bg, 0, none⟩) M.length dg) M) := rn.mono LX0.size
          have NAB : Hid (¬ ag = bg) := rab
          clear ro rn rab
          clear hb hc LX0
          refine hK.out _ _ ?_ (fun hHeld => ?_)
          · exact ⟨x0, x1, x2, v0, v1, v2, v3⟩
          clear hK K
          try simp only [List.foldl, Act.put, List.setIfInBounds_toArray, List.set_cons_zero, List.set_cons_succ]
          refine wpAnyH_one (i := 5) (d := 34) (v := ?_) rfl rfl (by kernel_rfl) (by kernel_rfl) (by kernel_rfl) (fun _ _ _ h => h) (by rfl) (by assumption) ?_ ?_
          rotate_left 1
          · intro w hSw; (try dsimp only at hSw); go_simp <;> with_reducible rfl
          simp only [List.foldl, Act.put, List.setIfInBounds_toArray, List.set_cons_zero, List.set_cons_succ]
          refine wpAnyH_one (i := 6) (d := 40) (v := ?_) rfl rfl (by kernel_rfl) (by kernel_rfl) (by kernel_rfl) (fun _ _ _ h => h) (by rfl) (by assumption) ?_ ?_
          rotate_left 1
          · intro w hSw; (try dsimp only at hSw); go_simp <;> with_reducible rfl
          simp only [List.foldl, Act.put, List.setIfInBounds_toArray, List.set_cons_zero, List.set_cons_succ]
          refine wpAnyH_one (i := 7) (d := 41) (v := ?_) rfl rfl (by kernel_rfl) (by kernel_rfl) (by kernel_rfl) (fun _ _ _ h => h) (by rfl) (by assumption) ?_ ?_
          rotate_left 1
          · intro w hSw; (try dsimp only at hSw); go_simp <;> with_reducible rfl
          simp only [List.foldl, Act.put, List.setIfInBounds_toArray, List.set_cons_zero, List.set_cons_succ]
          refine wpAnyH_ready (rs := [8]) (by kernel_rfl) (by simp) ?_
          refine AllReadyH.cons rfl (fun K hK => ?_) AllReadyH.nil
          go_simp
          have hg : Below wg2.heap.size wg2 (wg2.alloc (.cells #[.int .i64 0, .slice none 0 0, .slice none 0 0] 26)) := bl_alloc (Below.refl _ _) _
          have KZ : Hid (Blk (wg2.alloc (.cells #[.int .i64 0, .slice none 0 0, .slice none 0 0] 26)) wg2.heap.size #[.int .i64 0, .slice none 0 0, .slice none 0 0] 26) := Blk.new _ _ _
          have hxs : Q.heap.size ≤ wg2.heap.size := LX.out.size
          have NZ : Hid (¬ ag = wg2.heap.size ∧ ¬ bg = wg2.heap.size) := by have h1 := (RO.out.lt ag rfl).2; have h2 := (RN.out.lt bg rfl).2; exact ⟨by omega, by omega⟩
          have LX : Hid (Below Q.heap.size Q (wg2.alloc (.cells #[.int .i64 0, .slice none 0 0, .slice none 0 0] 26))) := bl_trans LX.out hg
          have RO : Hid (OV (wg2.alloc (.cells #[.int .i64 0, .slice none 0 0, .slice none 0 0] 26)) Q.heap.size (.slice (some ⟨ag, 0, none⟩) O.length cg) O) := RO.out.later hg
          have RN : Hid (OV (wg2.alloc (.cells #[.int .i64 0, .slice none 0 0, .slice none 0 0] 26)) Q.heap.size (.slice (some ⟨bg, 0, none⟩) M.length dg) M) := RN.out.later hg
          have x0 := kcell hg x0
          have x1 := kcell hg x1
          have x2 := kcell hg x2
          have v0 := kcell hg v0
          have v1 := kcell hg v1
          have v2 := kcell hg v2
          have v3 := kcell hg v3
          clear hg
          refine hK.out _ _ ?_ (fun hHeld => ?_)
          · exact ⟨x0, x1, x2, v0, v1, v2, v3⟩
          clear hK K
          try simp only [List.foldl, Act.put, List.setIfInBounds_toArray, List.set_cons_zero, List.set_cons_succ]
          generalize hGe : (wg2.alloc (.cells #[.int .i64 0, .slice none 0 0, .slice none 0 0] 26)) = wg3 at KZ hHeld x0 x1 x2 v0 v1 v2 v3 LX RO RN ⊢
          obtain ⟨kz, hkz⟩ : ∃ kz, wg2.heap.size = kz := ⟨_, rfl⟩
          have HKZ : Hid (Q.heap.size ≤ kz) := Nat.le_trans hxs (Nat.le_of_eq hkz)
          clear hxs
          rw [hkz] at KZ NZ
          try rw [hkz]
          clear hGe hkz
          obtain ⟨k0z, k1z, k2z, k3z⟩ := KZ.out.three'
          have hkz2 := HKZ.out
          refine wpAnyH_ready (rs := [9]) (by kernel_rfl) (by simp) ?_
          refine AllReadyH.cons rfl (fun K hK => ?_) AllReadyH.nil
          go_simp
          refine hK.out _ _ ?_ (fun hHeld => ?_)
          · exact ⟨(setThree_far _ _ _ (by omega)).trans x0, (setThree_far _ _ _ (by omega)).trans x1, (setThree_far _ _ _ (by omega)).trans x2, (setThree_far _ _ _ (by omega)).trans v0, (setThree_far _ _ _ (by omega)).trans v1, (setThree_far _ _ _ (by omega)).trans v2, (setThree_far _ _ _ (by omega)).trans v3⟩
          clear hK K
          try simp only [List.foldl, Act.put, List.setIfInBounds_toArray, List.set_cons_zero, List.set_cons_succ]
          refine wpAnyH_one (i := 10) (d := 12) (v := ?_) rfl rfl (by kernel_rfl) (by kernel_rfl) (by kernel_rfl) (fun _ _ _ h => h) (by rfl) (by assumption) ?_ ?_
          rotate_left 1
          · intro w hSw; (try dsimp only at hSw); go_simp <;> with_reducible rfl
          simp only [List.foldl, Act.put, List.setIfInBounds_toArray, List.set_cons_zero, List.set_cons_succ]
          refine wpAnyH_done (by kernel_rfl) ?_ _
          go_wp2_with fail
          go_meet
          exact ⟨kz, ag, cg, bg, dg, rfl, rfl, sr_leaf KZ.out RO.out RN.out NAB.out NZ.out.1 NZ.out.2 HKZ.out LX.out⟩
        · refine AllReadyH.cons rfl (fun K hK => ?_) AllReadyH.nil
          go_simp
          have hg : Below wg1.heap.size wg1 (wg1.alloc (.cells #[.int .i64 0, .slice none 0 0, .slice none 0 0] 26)) := bl_alloc (Below.refl _ _) _
          have KZ : Hid (Blk (wg1.alloc (.cells #[.int .i64 0, .slice none 0 0, .slice none 0 0] 26)) wg1.heap.size #[.int .i64 0, .slice none 0 0, .slice none 0 0] 26) := Blk.new _ _ _
          have hxs : Q.heap.size ≤ wg1.heap.size := LX.out.size
          have LX : Hid (Below Q.heap.size Q (wg1.alloc (.cells #[.int .i64 0, .slice none 0 0, .slice none 0 0] 26))) := bl_trans LX.out hg
          have x0 := kcell hg x0
          have x1 := kcell hg x1
          have x2 := kcell hg x2
          have v0 := kcell hg v0
          have v1 := kcell hg v1
          have v2 := kcell hg v2
          have v3 := kcell hg v3
          clear hg
          refine hK.out _ _ ?_ (fun hHeld => ?_)
          · exact ⟨x0, x1, x2, v0, v1, v2, v3⟩
          clear hK K
          try simp only [List.foldl, Act.put, List.setIfInBounds_toArray, List.set_cons_zero, List.set_cons_succ]
          generalize hGe : (wg1.alloc (.cells #[.int .i64 0, .slice none 0 0, .slice none 0 0] 26)) = wg4 at KZ hHeld x0 x1 x2 v0 v1 v2 v3 LX ⊢
          obtain ⟨kz, hkz⟩ : ∃ kz, wg1.heap.size = kz := ⟨_, rfl⟩
          have HKZ : Hid (Q.heap.size ≤ kz) := Nat.le_trans hxs (Nat.le_of_eq hkz)
          clear hxs
          rw [hkz] at KZ
          try rw [hkz]
          clear hGe hkz
          refine wpAnyH_ready (rs := [4]) (by kernel_rfl) (by simp) ?_
          refine AllReadyH.cons rfl (fun K hK => ?_) AllReadyH.nil
          go_simp
          refine (implSend_any k f a 0 b 0 c d O N y _ _ ((OXo.later LX.out).els okO) ((OXn.later LX.out).els okN) oy lO lN).mono ?_
          rintro r0 wg5 ⟨ag, cg, bg, dg, rfl, ro, rn, rab, hb⟩
          have hc : Below wg4.heap.size wg4 wg5 := hb
          have LX0 : Below Q.heap.size Q wg4 := LX.out
          have KZ0 : Blk wg4 kz #[.int .i64 0, .slice none 0 0, .slice none 0 0] 26 := KZ.out
          have LX : Hid (Below Q.heap.size Q wg5) := bl_trans LX.out hc
          have KZ : Hid (Blk wg5 kz #[.int .i64 0, .slice none 0 0, .slice none 0 0] 26) := KZ.out.later hc
          have x0 := kcell hc x0
          have x1 := kcell hc x1
          have x2 := kcell hc x2
          have v0 := kcell hc v0
          have v1 := kcell hc v1
          have v2 := kcell hc v2
          have v3 := kcell hc v3
          rw [← HOK.out, ← HM.out] at rn
          rw [← HOK.out, ← HM.out]
          have NZ : Hid (¬ ag = kz ∧ ¬ bg = kz) := by have h1 := (ro.lt ag rfl).1; have h2 := (rn.lt bg rfl).1; have h3 := KZ0.lt; exact ⟨by (try simp only [World.size_drew] at h1 h3); omega, by (try simp only [World.size_drew] at h2 h3); omega⟩
          have RO : Hid (OV wg5 Q.heap.size (.slice (some ⟨ag, 0, none⟩) O.length cg) O) := ro.mono LX0.size
          have RN : Hid (OV wg5 Q.heap.size (.slice (some ⟨bg, 0, none⟩) M.length dg) M) := rn.mono LX0.size
          have NAB : Hid (¬ ag = bg) := rab
          clear ro rn rab
          clear hb hc LX0 KZ0
          refine hK.out _ _ ?_ (fun hHeld => ?_)
          · exact ⟨x0, x1, x2, v0, v1, v2, v3⟩
          clear hK K
          try simp only [List.foldl, Act.put, List.setIfInBounds_toArray, List.set_cons_zero, List.set_cons_succ]
          refine wpAnyH_one (i := 5) (d := 34) (v := ?_) rfl rfl (by kernel_rfl) (by kernel_rfl) (by kernel_rfl) (fun _ _ _ h => h) (by rfl) (by assumption) ?_ ?_
          rotate_left 1
          · intro w hSw; (try dsimp only at hSw); go_simp <;> with_reducible rfl
          simp only [List.foldl, Act.put, List.setIfInBounds_toArray, List.set_cons_zero, List.set_cons_succ]
          refine wpAnyH_one (i := 6) (d := 40) (v := ?_) rfl rfl (by kernel_rfl) (by kernel_rfl) (by kernel_rfl) (fun _ _ _ h => h) (by rfl) (by assumption) ?_ ?_
          rotate_left 1
          · intro w hSw; (try dsimp only at hSw); go_simp <;> with_reducible rfl
          simp only [List.foldl, Act.put, List.setIfInBounds_toArray, List.set_cons_zero, List.set_cons_succ]
          refine wpAnyH_one (i := 7) (d := 41) (v := ?_) rfl rfl (by kernel_rfl) (by kernel_rfl) (by kernel_rfl) (fun _ _ _ h => h) (by rfl) (by assumption) ?_ ?_
          rotate_left 1
          · intro w hSw; (try dsimp only at hSw); go_simp <;> with_reducible rfl
          simp only [List.foldl, Act.put, List.setIfInBounds_toArray, List.set_cons_zero, List.set_cons_succ]
          obtain ⟨k0z, k1z, k2z, k3z⟩ := KZ.out.three'
          have hkz2 := HKZ.out
          refine wpAnyH_ready (rs := [9]) (by kernel_rfl) (by simp) ?_
          refine AllReadyH.cons rfl (fun K hK => ?_) AllReadyH.nil
          go_simp
          refine hK.out _ _ ?_ (fun hHeld => ?_)
          · exact ⟨(setThree_far _ _ _ (by omega)).trans x0, (setThree_far _ _ _ (by omega)).trans x1, (setThree_far _ _ _ (by omega)).trans x2, (setThree_far _ _ _ (by omega)).trans v0, (setThree_far _ _ _ (by omega)).trans v1, (setThree_far _ _ _ (by omega)).trans v2, (setThree_far _ _ _ (by omega)).trans v3⟩
          clear hK K
          try simp only [List.foldl, Act.put, List.setIfInBounds_toArray, List.set_cons_zero, List.set_cons_succ]
          refine wpAnyH_one (i := 10) (d := 12) (v := ?_) rfl rfl (by kernel_rfl) (by kernel_rfl) (by kernel_rfl) (fun _ _ _ h => h) (by rfl) (by assumption) ?_ ?_
          rotate_left 1
          · intro w hSw; (try dsimp only at hSw); go_simp <;> with_reducible rfl
          simp only [List.foldl, Act.put, List.setIfInBounds_toArray, List.set_cons_zero, List.set_cons_succ]
          refine wpAnyH_done (by kernel_rfl) ?_ _
          go_wp2_with fail
          go_meet
          exact ⟨kz, ag, cg, bg, dg, rfl, rfl, sr_leaf KZ.out RO.out RN.out NAB.out NZ.out.1 NZ.out.2 HKZ.out LX.out⟩
      · refine AllReadyH.cons rfl (fun K hK => ?_) AllReadyH.nil
        go_simp
        have hg : Below Q.heap.size Q (Q.alloc (.cells #[.int .i64 0, .slice none 0 0, .slice none 0 0] 26)).drew := bl_drew (bl_alloc (Below.refl _ _) _)
        have KZ : Hid (Blk (Q.alloc (.cells #[.int .i64 0, .slice none 0 0, .slice none 0 0] 26)).drew Q.heap.size #[.int .i64 0, .slice none 0 0, .slice none 0 0] 26) := Blk.new _ _ _
        have hxs : Q.heap.size ≤ Q.heap.size := LX.out.size
        have LX : Hid (Below Q.heap.size Q (Q.alloc (.cells #[.int .i64 0, .slice none 0 0, .slice none 0 0] 26)).drew) := bl_trans LX.out hg
        have x0 := kcell hg x0
        have x1 := kcell hg x1
        have x2 := kcell hg x2
        have v0 := kcell hg v0
        have v1 := kcell hg v1
        have v2 := kcell hg v2
        have v3 := kcell hg v3
        clear hg
        refine hK.out _ _ ?_ (fun hHeld => ?_)
        · exact ⟨x0, x1, x2, v0, v1, v2, v3⟩
        clear hK K
        try simp only [List.foldl, Act.put, List.setIfInBounds_toArray, List.set_cons_zero, List.set_cons_succ]
        generalize hGe : (Q.alloc (.cells #[.int .i64 0, .slice none 0 0, .slice none 0 0] 26)).drew = wg6 at KZ hHeld x0 x1 x2 v0 v1 v2 v3 LX ⊢
        obtain ⟨kz, hkz⟩ : ∃ kz, Q.heap.size = kz := ⟨_, rfl⟩
        have HKZ : Hid (Q.heap.size ≤ kz) := Nat.le_trans hxs (Nat.le_of_eq hkz)
        clear hxs
        rw [hkz] at KZ
        try rw [hkz]
        clear hGe hkz
        refine wpAnyH_ready (rs := [3]) (by kernel_rfl) (by simp) ?_
        refine AllReadyH.cons rfl (fun K hK => ?_) AllReadyH.nil
        go_simp
        refine (toVal_any y.1 y.2.1 y.2.2.1 y.2.2.2 _).mono ?_
        rintro r0 wg7 ⟨rfl, hb⟩
        have hc : Below wg6.heap.size wg6 wg7 := hb
        have LX0 : Below Q.heap.size Q wg6 := LX.out
        have KZ0 : Blk wg6 kz #[.int .i64 0, .slice none 0 0, .slice none 0 0] 26 := KZ.out
        have LX : Hid (Below Q.heap.size Q wg7) := bl_trans LX.out hc
        have KZ : Hid (Blk wg7 kz #[.int .i64 0, .slice none 0 0, .slice none 0 0] 26) := KZ.out.later hc
        have x0 := kcell hc x0
        have x1 := kcell hc x1
        have x2 := kcell hc x2
        have v0 := kcell hc v0
        have v1 := kcell hc v1
        have v2 := kcell hc v2
        have v3 := kcell hc v3
        clear hb hc LX0 KZ0
        refine hK.out _ _ ?_ (fun hHeld => ?_)
        · exact ⟨x0, x1, x2, v0, v1, v2, v3⟩
        clear hK K
        try simp only [List.foldl, Act.put, List.setIfInBounds_toArray, List.set_cons_zero, List.set_cons_succ]
        refine wpAnyH_ready (rs := [4]) (by kernel_rfl) (by simp) ?_
        refine AllReadyH.cons rfl (fun K hK => ?_) AllReadyH.nil
        go_simp
        refine (implSend_any k f a 0 b 0 c d O N y _ _ ((OXo.later LX.out).els okO) ((OXn.later LX.out).els okN) oy lO lN).mono ?_
        rintro r0 wg8 ⟨ag, cg, bg, dg, rfl, ro, rn, rab, hb⟩
        have hc : Below wg7.heap.size wg7 wg8 := hb
        have LX0 : Below Q.heap.size Q wg7 := LX.out
        have KZ0 : Blk wg7 kz #[.int .i64 0, .slice none 0 0, .slice none 0 0] 26 := KZ.out
        have LX : Hid (Below Q.heap.size Q wg8) := bl_trans LX.out hc
        have KZ : Hid (Blk wg8 kz #[.int .i64 0, .slice none 0 0, .slice none 0 0] 26) := KZ.out.later hc
        have x0 := kcell hc x0
        have x1 := kcell hc x1
        have x2 := kcell hc x2
        have v0 := kcell hc v0
        have v1 := kcell hc v1
        have v2 := kcell hc v2
        have v3 := kcell hc v3
        rw [← HOK.out, ← HM.out] at rn
        rw [← HOK.out, ← HM.out]
        have NZ : Hid (¬ ag = kz ∧ ¬ bg = kz) := by have h1 := (ro.lt ag rfl).1; have h2 := (rn.lt bg rfl).1; have h3 := KZ0.lt; exact ⟨by (try simp only [World.size_drew] at h1 h3); omega, by (try simp only [World.size_drew] at h2 h3); omega⟩
        have RO : Hid (OV wg8 Q.heap.size (.slice (some ⟨ag, 0, none⟩) O.length cg) O) := ro.mono LX0.size
        have RN : Hid (OV wg8 Q.heap.size (.slice (some ⟨bg, 0, none⟩) M.length dg) M) := rn.mono LX0.size
        have NAB : Hid (¬ ag = bg) := rab
        clear ro rn rab
        clear hb hc LX0 KZ0
        refine hK.out _ _ ?_ (fun hHeld => ?_)
        · exact ⟨x0, x1, x2, v0, v1, v2, v3⟩
        clear hK K
        try simp only [List.foldl, Act.put, List.setIfInBounds_toArray, List.set_cons_zero, List.set_cons_succ]
        refine wpAnyH_one (i := 5) (d := 34) (v := ?_) rfl rfl (by kernel_rfl) (by kernel_rfl) (by kernel_rfl) (fun _ _ _ h => h) (by rfl) (by assumption) ?_ ?_
        rotate_left 1
        · intro w hSw; (try dsimp only at hSw); go_simp <;> with_reducible rfl
        simp only [List.foldl, Act.put, List.setIfInBounds_toArray, List.set_cons_zero, List.set_cons_succ]
        refine wpAnyH_one (i := 6) (d := 40) (v := ?_) rfl rfl (by kernel_rfl) (by kernel_rfl) (by kernel_rfl) (fun _ _ _ h => h) (by rfl) (by assumption) ?_ ?_
        rotate_left 1
        · intro w hSw; (try dsimp only at hSw); go_simp <;> with_reducible rfl
        simp only [List.foldl, Act.put, List.setIfInBounds_toArray, List.set_cons_zero, List.set_cons_succ]
        refine wpAnyH_one (i := 7) (d := 41) (v := ?_) rfl rfl (by kernel_rfl) (by kernel_rfl) (by kernel_rfl) (fun _ _ _ h => h) (by rfl) (by assumption) ?_ ?_
        rotate_left 1
        · intro w hSw; (try dsimp only at hSw); go_simp <;> with_reducible rfl
        simp only [List.foldl, Act.put, List.setIfInBounds_toArray, List.set_cons_zero, List.set_cons_succ]
        obtain ⟨k0z, k1z, k2z, k3z⟩ := KZ.out.three'
        have hkz2 := HKZ.out
        refine wpAnyH_ready (rs := [9]) (by kernel_rfl) (by simp) ?_
        refine AllReadyH.cons rfl (fun K hK => ?_) AllReadyH.nil
        go_simp
        refine hK.out _ _ ?_ (fun hHeld => ?_)
        · exact ⟨(setThree_far _ _ _ (by omega)).trans x0, (setThree_far _ _ _ (by omega)).trans x1, (setThree_far _ _ _ (by omega)).trans x2, (setThree_far _ _ _ (by omega)).trans v0, (setThree_far _ _ _ (by omega)).trans v1, (setThree_far _ _ _ (by omega)).trans v2, (setThree_far _ _ _ (by omega)).trans v3⟩
        clear hK K
        try simp only [List.foldl, Act.put, List.setIfInBounds_toArray, List.set_cons_zero, List.set_cons_succ]
        refine wpAnyH_one (i := 10) (d := 12) (v := ?_) rfl rfl (by kernel_rfl) (by kernel_rfl) (by kernel_rfl) (fun _ _ _ h => h) (by rfl) (by assumption) ?_ ?_
        rotate_left 1
        · intro w hSw; (try dsimp only at hSw); go_simp <;> with_reducible rfl
        simp only [List.foldl, Act.put, List.setIfInBounds_toArray, List.set_cons_zero, List.set_cons_succ]
        refine wpAnyH_done (by kernel_rfl) ?_ _
        go_wp2_with fail
        go_meet
        exact ⟨kz, ag, cg, bg, dg, rfl, rfl, sr_leaf KZ.out RO.out RN.out NAB.out NZ.out.1 NZ.out.2 HKZ.out LX.out⟩
    case rest =>
      clear x0 x1 x2 x3 v0 v1 v2 v3 v4
      obtain ⟨kg, ag, cg, bg, dg, rfl, rfl, Sg⟩ := hcut
      have hS := Sg.l
      replace L := bl_trans L hS
      replace KA := KA.later hS
      replace KB := KB.later hS
      replace KW := KW.later hS
      replace OWo := OWo.later hS
      replace OWn := OWn.later hS
      replace OXo := OXo.later hS
      replace OXn := OXn.later hS
      replace KX := KX.later hS
      have s7 := hS.size
      have KG := Sg.k
      have OGo := Sg.o
      have OGn := Sg.n
      have gab := Sg.ab
      have gak := Sg.ak
      have gbk := Sg.bk
      have gz := Sg.z
      obtain ⟨R, hR⟩ : ∃ R, wc = R := ⟨_, rfl⟩
      rw [hR] at hS L KA KB KW OWo OWn OXo OXn KX s7 KG OGo OGn ⊢
      clear Sg hS hR
      have ogo := OGo.lt ag rfl
      have ogn := OGn.lt bg rfl
      obtain ⟨x0, x1, x2, x3⟩ := KG.three'
      obtain ⟨y0, y1, y2, y3⟩ := KW.three'
      go_wp2_with fail
      refine (eqStream_gen f (some ⟨ag, 0, none⟩) (some ⟨bg, 0, none⟩) (some ⟨aw, 0, none⟩) (some ⟨bw, 0, none⟩) cg dg cw dw O M _ _ _ (OGo.els okO) (OGn.els okM) (OWo.els okO) (OWn.els okM) lO lM).mono ?_
      rintro e w9 ⟨rfl, hb9⟩
      replace L := bl_trans L hb9
      replace KA := KA.later hb9
      replace KB := KB.later hb9
      replace KW := KW.later hb9
      replace OWo := OWo.later hb9
      replace OWn := OWn.later hb9
      replace OXo := OXo.later hb9
      replace OXn := OXn.later hb9
      replace KX := KX.later hb9
      replace KG := KG.later hb9
      replace OGo := OGo.later hb9
      replace OGn := OGn.later hb9
      have s9 := hb9.size
      clear hb9
      clear x0 x1 x2 x3
      clear y0 y1 y2 y3
      obtain ⟨x0, x1, x2, x3⟩ := KX.three'
      obtain ⟨y0, y1, y2, y3⟩ := KA.three'
      have KXH : Hid (Blk w9 w5.heap.size #[.int .i64 f, .slice (some ⟨a, 0, none⟩) O.length c, .slice (some ⟨b, 0, none⟩) N.length d] 26) := KX
      have KAH : Hid (Blk w9 w.heap.size #[.int .i64 f, .slice s1 O.length c1, .slice s2 N.length c2] 41) := KA
      go_wp2_with fail
      go_region_held3 (fun w' => w'.cell? ⟨w5.heap.size, 0, none⟩ = some (.int .i64 f) ∧ w'.cell? ⟨w5.heap.size, 1, none⟩ = some (.slice (some ⟨a, 0, none⟩) O.length c) ∧ w'.cell? ⟨w5.heap.size, 2, none⟩ = some (.slice (some ⟨b, 0, none⟩) N.length d) ∧ w'.cell? ⟨w.heap.size, 0, none⟩ = some (.int .i64 f) ∧ w'.cell? ⟨w.heap.size, 1, none⟩ = some (.slice s1 O.length c1) ∧ w'.cell? ⟨w.heap.size, 2, none⟩ = some (.slice s2 N.length c2)) (simp [x0, x1, x2, y0, y1, y2])
        (first
          | (go_at_call 19; refine (toStream_own f s1 s2 c1 c2 O N 0 _ (hO.later cVal_keeps (bl_trans L (bl_drew (Below.refl _ _)))) (hN.later cVal_keeps (bl_trans L (bl_drew (Below.refl _ _)))) lO lN).mono ?_; rintro e wa ⟨⟨a3, e3, b3, d3, rfl, oA3, oB3, n3⟩, hba⟩; have hwa : Below w9.heap.size w9 wa := bl_trans (bl_drew (Below.refl _ _)) hba; obtain ⟨x0, x1, x2, x3⟩ := (KXH.out.later hwa).three'; obtain ⟨y0, y1, y2, y3⟩ := (KAH.out.later hwa).three')
          | (go_at_call 21; refine (eqStream_gen f _ _ _ _ _ _ _ _ O N _ _ wa ((OXo.later hwa).els okO) ((OXn.later hwa).els okN) (oA3.els okO) (oB3.els okN) lO lN).mono ?_; rintro e wb ⟨rfl, hbb⟩; have hwb : Below w9.heap.size w9 wb := bl_trans hwa hbb; obtain ⟨x0, x1, x2, x3⟩ := (KXH.out.later hwb).three'; obtain ⟨y0, y1, y2, y3⟩ := (KAH.out.later hwb).three'))
      replace L := bl_trans L hwb
      replace KA := KA.later hwb
      replace KB := KB.later hwb
      replace KW := KW.later hwb
      replace OWo := OWo.later hwb
      replace OWn := OWn.later hwb
      replace OXo := OXo.later hwb
      replace OXn := OXn.later hwb
      replace KX := KX.later hwb
      replace KG := KG.later hwb
      replace OGo := OGo.later hwb
      replace OGn := OGn.later hwb
      have sb := hwb.size
      clear hwa hwb hba hbb oA3 oB3 n3 KXH KAH
      clear x0 x1 x2 x3
      clear y0 y1 y2 y3
      obtain ⟨x0, x1, x2, x3⟩ := KX.three'
      go_wp2_with fail
      refine (markStream_one f W1.heap.size (some ⟨a, 0, none⟩) (some ⟨b, 0, none⟩) c d O N _ OXo OXn (ap_of nab) (by omega) lO lN).mono ?_
      rintro e wc2 ⟨rfl, _, _, J⟩
      have kneg : decide (mk O.length N.length < 0) = false := by simp; exact mk_pos _ _
      have klt : ¬ mk O.length N.length < 0 := Int.not_lt.2 (mk_pos _ _)
      have sc := J.1.size
      replace L := L.trans (J.1.mono (by omega))
      replace KA := KA.same (J.1.block _ (by omega))
      replace KB := KB.same (J.1.block _ (by omega))
      replace KW := KW.same (J.1.block _ (by omega))
      replace KG := KG.same (J.2 _ (ne_own (by omega)) (ne_own (by omega)) KG.lt)
      replace OWo := OWo.sameS (fun hl => J.1.block _ (by omega))
      replace OWn := OWn.sameS (fun hl => J.1.block _ (by omega))
      replace OGo := OGo.sameS (fun hl => J.2 _ (ne_own (by omega)) (ne_own (by omega)) hl)
      replace OGn := OGn.sameS (fun hl => J.2 _ (ne_own (by omega)) (ne_own (by omega)) hl)
      clear OXo OXn J KX
      clear x0 x1 x2 x3
      obtain ⟨x0, x1, x2, x3⟩ := KG.three'
      obtain ⟨y0, y1, y2, y3⟩ := KW.three'
      go_wp2_with fail
      refine (eqStream_gen f (some ⟨ag, 0, none⟩) (some ⟨bg, 0, none⟩) (some ⟨aw, 0, none⟩) (some ⟨bw, 0, none⟩) cg dg cw dw O M _ _ _ (OGo.els okO) (OGn.els okM) (OWo.els okO) (OWn.els okM) lO lM).mono ?_
      rintro e wd ⟨rfl, hbd⟩
      replace L := bl_trans L hbd
      replace KA := KA.later hbd
      replace KB := KB.later hbd
      replace KW := KW.later hbd
      replace OWo := OWo.later hbd
      replace OWn := OWn.later hbd
      replace KG := KG.later hbd
      replace OGo := OGo.later hbd
      replace OGn := OGn.later hbd
      have sd := hbd.size
      clear hbd
      clear x0 x1 x2 x3
      clear y0 y1 y2 y3
      obtain ⟨x0, x1, x2, x3⟩ := KG.three'
      go_wp2_with fail
      refine (markStream_one f Q.heap.size (some ⟨ag, 0, none⟩) (some ⟨bg, 0, none⟩) cg dg O M _ OGo OGn (ap_of gab) (by omega) lO lM).mono ?_
      rintro e we ⟨rfl, OG1, OG2, J⟩
      have se := J.1.size
      replace L := L.trans (J.1.mono (by omega))
      replace KA := KA.same (J.1.block _ (by omega))
      replace KB := KB.same (J.1.block _ (by omega))
      replace KW := KW.same (J.1.block _ (by omega))
      replace KG := KG.same (J.2 _ (ne_own (by omega)) (ne_own (by omega)) KG.lt)
      replace OWo := OWo.sameS (fun hl => J.1.block _ (by omega))
      replace OWn := OWn.sameS (fun hl => J.1.block _ (by omega))
      clear OGo OGn J
      have OGo : OV we Q.heap.size (.slice (some ⟨ag, 0, none⟩) O.length cg) (mVs 1 O.length) := OG1
      have OGn : OV we Q.heap.size (.slice (some ⟨bg, 0, none⟩) M.length dg) (mVs (1 + 4 * (O.length : Int)) M.length) := OG2
      clear OG1 OG2
      have hneg : decide (mk O.length M.length < 0) = false := by simp; exact mk_pos _ _
      have hneg' : ¬ mk O.length M.length < 0 := Int.not_lt.2 (mk_pos _ _)
      clear x0 x1 x2 x3
      obtain ⟨x0, x1, x2, x3⟩ := KG.three'
      go_wp2_with fail
      refine (heldStream_one f Q.heap.size (some ⟨ag, 0, none⟩) (some ⟨bg, 0, none⟩) O.length M.length cg dg _ OGo OGn lO lM).mono ?_
      rintro e wf ⟨rfl, hbf⟩
      replace L := bl_trans L hbf
      replace KA := KA.later hbf
      replace KB := KB.later hbf
      replace KW := KW.later hbf
      replace OWo := OWo.later hbf
      replace OWn := OWn.later hbf
      replace KG := KG.later hbf
      replace OGo := OGo.later hbf
      replace OGn := OGn.later hbf
      have sf := hbf.size
      clear hbf
      clear x0 x1 x2 x3
      have ltF := KB.lt
      obtain ⟨x0, x1, x2, x3⟩ := KA.three'
      obtain ⟨v0, v1, v2, v3, v4⟩ := KB.four'
      go_wp2_with fail
      go_cut [16, 17] (fun p0 p1 wx => ∃ (kz a c b d : Nat), p0 = .pointer (some ⟨kz, 0, none⟩) ∧ p1 = .bool ok ∧ SR wf f O M kz a c b d wx)
      case first =>
        refine wp_region_held_drew (S := (fun w' => w'.cell? ⟨w.heap.size, 0, none⟩ = some (.int .i64 f) ∧ w'.cell? ⟨w.heap.size, 1, none⟩ = some (.slice s1 O.length c1) ∧ w'.cell? ⟨w.heap.size, 2, none⟩ = some (.slice s2 N.length c2) ∧ w'.cell? ⟨w.heap.size + 1, 0, none⟩ = some (.int .i64 y.1) ∧ w'.cell? ⟨w.heap.size + 1, 1, none⟩ = some (.int .i64 y.2.1) ∧ w'.cell? ⟨w.heap.size + 1, 2, none⟩ = some (.float .f64 y.2.2.1) ∧ w'.cell? ⟨w.heap.size + 1, 3, none⟩ = some (.float .f64 y.2.2.2))) (by kernel_rfl) ?_ (fun hHeld => ?_)
        · exact ⟨x0, x1, x2, v0, v1, v2, v3⟩
        have LX : Hid (Below wf.heap.size wf wf) := Below.refl _ _
        refine wpAnyH_one (i := 0) (d := 84) (v := ?_) rfl rfl (by kernel_rfl) (by kernel_rfl) (by kernel_rfl) (fun _ _ _ h => h) (by rfl) (by assumption) ?_ ?_
        rotate_left 1
        · intro w hSw; (try dsimp only at hSw); go_simp <;> with_reducible rfl
        simp only [List.foldl, Act.put, List.setIfInBounds_toArray, List.set_cons_zero, List.set_cons_succ]
        refine wpAnyH_one (i := 1) (d := 85) (v := ?_) rfl rfl (by kernel_rfl) (by kernel_rfl) (by kernel_rfl) (fun _ _ _ h => h) (by rfl) (by assumption) ?_ ?_
        rotate_left 1
        · intro w hSw; (try dsimp only at hSw); go_simp <;> with_reducible rfl
        simp only [List.foldl, Act.put, List.setIfInBounds_toArray, List.set_cons_zero, List.set_cons_succ]
        refine wpAnyH_one (i := 3) (d := 87) (v := ?_) rfl rfl (by kernel_rfl) (by kernel_rfl) (by kernel_rfl) (fun _ _ _ h => h) (by rfl) (by assumption) ?_ ?_
        rotate_left 1
        · intro w hSw; (try dsimp only at hSw); go_simp <;> with_reducible rfl
        simp only [List.foldl, Act.put, List.setIfInBounds_toArray, List.set_cons_zero, List.set_cons_succ]
        refine wpAnyH_ready (rs := [2, 9]) (by kernel_rfl) (by simp) ?_
        refine AllReadyH.cons rfl (fun K hK => ?_) ?_
        · skip
          go_simp
          refine (toStream_own f s1 s2 c1 c2 O N 0 _ (hO.later cVal_keeps (bl_trans L (bl_drew (Below.refl _ _)))) (hN.later cVal_keeps (bl_trans L (bl_drew (Below.refl _ _)))) lO lN).mono ?_
          rintro r0 wh1 ⟨⟨a2, e2, b2, d2, rfl, oA2, oB2, n2⟩, hb⟩
          have hc : Below wf.heap.size wf wh1 := bl_trans (bl_drew (Below.refl _ _)) hb
          have LX0 : Below wf.heap.size wf wf := LX.out
          have LX : Hid (Below wf.heap.size wf wh1) := bl_trans LX.out hc
          have x0 := kcell hc x0
          have x1 := kcell hc x1
          have x2 := kcell hc x2
          have v0 := kcell hc v0
          have v1 := kcell hc v1
          have v2 := kcell hc v2
          have v3 := kcell hc v3
          have OA : Hid (OV wh1 wf.heap.size (.slice (some ⟨a2, 0, none⟩) O.length e2) O) := oA2.mono LX0.size
          have OB : Hid (OV wh1 wf.heap.size (.slice (some ⟨b2, 0, none⟩) N.length d2) N) := oB2.mono LX0.size
          clear oA2 oB2 n2
          clear hb hc LX0
          refine hK.out _ _ ?_ (fun hHeld => ?_)
          · exact ⟨x0, x1, x2, v0, v1, v2, v3⟩
          clear hK K
          try simp only [List.foldl, Act.put, List.setIfInBounds_toArray, List.set_cons_zero, List.set_cons_succ]
          refine wpAnyH_ready (rs := [4, 9]) (by kernel_rfl) (by simp) ?_
          refine AllReadyH.cons rfl (fun K hK => ?_) ?_
          · skip
            go_simp
            refine (toVal_any y.1 y.2.1 y.2.2.1 y.2.2.2 _).mono ?_
            rintro r0 wh2 ⟨rfl, hb⟩
            have hc : Below wh1.heap.size wh1 wh2 := hb
            have LX0 : Below wf.heap.size wf wh1 := LX.out
            have LX : Hid (Below wf.heap.size wf wh2) := bl_trans LX.out hc
            have OA : Hid (OV wh2 wf.heap.size (.slice (some ⟨a2, 0, none⟩) O.length e2) O) := OA.out.later hc
            have OB : Hid (OV wh2 wf.heap.size (.slice (some ⟨b2, 0, none⟩) N.length d2) N) := OB.out.later hc
            have x0 := kcell hc x0
            have x1 := kcell hc x1
            have x2 := kcell hc x2
            have v0 := kcell hc v0
            have v1 := kcell hc v1
            have v2 := kcell hc v2
            have v3 := kcell hc v3
            clear hb hc LX0
            refine hK.out _ _ ?_ (fun hHeld => ?_)
            · exact ⟨x0, x1, x2, v0, v1, v2, v3⟩
            clear hK K
            try simp only [List.foldl, Act.put, List.setIfInBounds_toArray, List.set_cons_zero, List.set_cons_succ]
            refine wpAnyH_ready (rs := [5, 9]) (by kernel_rfl) (by simp) ?_
            refine AllReadyH.cons rfl (fun K hK => ?_) ?_
            · skip
              go_simp
              refine (implSend_any k f a2 0 b2 0 e2 d2 O N y _ _ (OA.out.els okO) (OB.out.els okN) oy lO lN).mono ?_
              rintro r0 wh3 ⟨ah, ch, bh, dh, rfl, ro, rn, rab, hb⟩
              have hc : Below wh2.heap.size wh2 wh3 := hb
              have LX0 : Below wf.heap.size wf wh2 := LX.out
              have LX : Hid (Below wf.heap.size wf wh3) := bl_trans LX.out hc
              have x0 := kcell hc x0
              have x1 := kcell hc x1
              have x2 := kcell hc x2
              have v0 := kcell hc v0
              have v1 := kcell hc v1
              have v2 := kcell hc v2
              have v3 := kcell hc v3
              rw [← HOK.out, ← HM.out] at rn
              rw [← HOK.out, ← HM.out]
              have RO : Hid (OV wh3 wf.heap.size (.slice (some ⟨ah, 0, none⟩) O.length ch) O) := ro.mono LX0.size
              have RN : Hid (OV wh3 wf.heap.size (.slice (some ⟨bh, 0, none⟩) M.length dh) M) := rn.mono LX0.size
              have NAB : Hid (¬ ah = bh) := rab
              clear ro rn rab
              clear hb hc LX0
              refine hK.out _ _ ?_ (fun hHeld => ?_)
              · exact ⟨x0, x1, x2, v0, v1, v2, v3⟩
              clear hK K
              try simp only [List.foldl, Act.put, List.setIfInBounds_toArray, List.set_cons_zero, List.set_cons_succ]
              refine wpAnyH_one (i := 6) (d := 83) (v := ?_) rfl rfl (by kernel_rfl) (by kernel_rfl) (by kernel_rfl) (fun _ _ _ h => h) (by rfl) (by assumption) ?_ ?_
              rotate_left 1
              · intro w hSw; (try dsimp only at hSw); go_simp <;> with_reducible rfl
              simp only [List.foldl, Act.put, List.setIfInBounds_toArray, List.set_cons_zero, List.set_cons_succ]
              refine wpAnyH_one (i := 7) (d := 90) (v := ?_) rfl rfl (by kernel_rfl) (by kernel_rfl) (by kernel_rfl) (fun _ _ _ h => h) (by rfl) (by assumption) ?_ ?_
              rotate_left 1
              · intro w hSw; (try dsimp only at hSw); go_simp <;> with_reducible rfl
              simp only [List.foldl, Act.put, List.setIfInBounds_toArray, List.set_cons_zero, List.set_cons_succ]
              refine wpAnyH_one (i := 8) (d := 91) (v := ?_) rfl rfl (by kernel_rfl) (by kernel_rfl) (by kernel_rfl) (fun _ _ _ h => h) (by rfl) (by assumption) ?_ ?_
              rotate_left 1
              · intro w hSw; (try dsimp only at hSw); go_simp <;> with_reducible rfl
              simp only [List.foldl, Act.put, List.setIfInBounds_toArray, List.set_cons_zero, List.set_cons_succ]
              refine wpAnyH_ready (rs := [9]) (by kernel_rfl) (by simp) ?_
              refine AllReadyH.cons rfl (fun K hK => ?_) AllReadyH.nil
              go_simp
              have hg : Below wh3.heap.size wh3 (wh3.alloc (.cells #[.int .i64 0, .slice none 0 0, .slice none 0 0] 26)) := bl_alloc (Below.refl _ _) _
              have KZ : Hid (Blk (wh3.alloc (.cells #[.int .i64 0, .slice none 0 0, .slice none 0 0] 26)) wh3.heap.size #[.int .i64 0, .slice none 0 0, .slice none 0 0] 26) := Blk.new _ _ _
              have hxs : wf.heap.size ≤ wh3.heap.size := LX.out.size
              have NZ : Hid (¬ ah = wh3.heap.size ∧ ¬ bh = wh3.heap.size) := by have h1 := (RO.out.lt ah rfl).2; have h2 := (RN.out.lt bh rfl).2; exact ⟨by omega, by omega⟩
              have LX : Hid (Below wf.heap.size wf (wh3.alloc (.cells #[.int .i64 0, .slice none 0 0, .slice none 0 0] 26))) := bl_trans LX.out hg
              have RO : Hid (OV (wh3.alloc (.cells #[.int .i64 0, .slice none 0 0, .slice none 0 0] 26)) wf.heap.size (.slice (some ⟨ah, 0, none⟩) O.length ch) O) := RO.out.later hg
              have RN : Hid (OV (wh3.alloc (.cells #[.int .i64 0, .slice none 0 0, .slice none 0 0] 26)) wf.heap.size (.slice (some ⟨bh, 0, none⟩) M.length dh) M) := RN.out.later hg
              have x0 := kcell hg x0
              have x1 := kcell hg x1
              have x2 := kcell hg x2
              have v0 := kcell hg v0
              have v1 := kcell hg v1
              have v2 := kcell hg v2
              have v3 := kcell hg v3
              clear hg
              refine hK.out _ _ ?_ (fun hHeld => ?_)
              · exact ⟨x0, x1, x2, v0, v1, v2, v3⟩
              clear hK K
              try simp only [List.foldl, Act.put, List.setIfInBounds_toArray, List.set_cons_zero, List.set_cons_succ]
              generalize hGe : (wh3.alloc (.cells #[.int .i64 0, .slice none 0 0, .slice none 0 0] 26)) = wh4 at KZ hHeld x0 x1 x2 v0 v1 v2 v3 LX RO RN ⊢
              obtain ⟨kz, hkz⟩ : ∃ kz, wh3.heap.size = kz := ⟨_, rfl⟩
              have HKZ : Hid (wf.heap.size ≤ kz) := Nat.le_trans hxs (Nat.le_of_eq hkz)
              clear hxs
              rw [hkz] at KZ NZ
              try rw [hkz]
              clear hGe hkz
              obtain ⟨k0z, k1z, k2z, k3z⟩ := KZ.out.three'
              have hkz2 := HKZ.out
              refine wpAnyH_ready (rs := [10]) (by kernel_rfl) (by simp) ?_
              refine AllReadyH.cons rfl (fun K hK => ?_) AllReadyH.nil
              go_simp
              refine hK.out _ _ ?_ (fun hHeld => ?_)
              · exact ⟨(setThree_far _ _ _ (by omega)).trans x0, (setThree_far _ _ _ (by omega)).trans x1, (setThree_far _ _ _ (by omega)).trans x2, (setThree_far _ _ _ (by omega)).trans v0, (setThree_far _ _ _ (by omega)).trans v1, (setThree_far _ _ _ (by omega)).trans v2, (setThree_far _ _ _ (by omega)).trans v3⟩
              clear hK K
              try simp only [List.foldl, Act.put, List.setIfInBounds_toArray, List.set_cons_zero, List.set_cons_succ]
              refine wpAnyH_one (i := 11) (d := 17) (v := ?_) rfl rfl (by kernel_rfl) (by kernel_rfl) (by kernel_rfl) (fun _ _ _ h => h) (by rfl) (by assumption) ?_ ?_
              rotate_left 1
              · intro w hSw; (try dsimp only at hSw); go_simp <;> with_reducible rfl
              simp only [List.foldl, Act.put, List.setIfInBounds_toArray, List.set_cons_zero, List.set_cons_succ]
              refine wpAnyH_done (by kernel_rfl) ?_ _
              go_wp2_with fail
              go_meet
              exact ⟨kz, ah, ch, bh, dh, rfl, rfl, sr_leaf KZ.out RO.out RN.out NAB.out NZ.out.1 NZ.out.2 HKZ.out LX.out⟩
            · refine AllReadyH.cons rfl (fun K hK => ?_) AllReadyH.nil
              go_simp
              have hg : Below wh2.heap.size wh2 (wh2.alloc (.cells #[.int .i64 0, .slice none 0 0, .slice none 0 0] 26)) := bl_alloc (Below.refl _ _) _
              have KZ : Hid (Blk (wh2.alloc (.cells #[.int .i64 0, .slice none 0 0, .slice none 0 0] 26)) wh2.heap.size #[.int .i64 0, .slice none 0 0, .slice none 0 0] 26) := Blk.new _ _ _
              have hxs : wf.heap.size ≤ wh2.heap.size := LX.out.size
              have LX : Hid (Below wf.heap.size wf (wh2.alloc (.cells #[.int .i64 0, .slice none 0 0, .slice none 0 0] 26))) := bl_trans LX.out hg
              have OA : Hid (OV (wh2.alloc (.cells #[.int .i64 0, .slice none 0 0, .slice none 0 0] 26)) wf.heap.size (.slice (some ⟨a2, 0, none⟩) O.length e2) O) := OA.out.later hg
              have OB : Hid (OV (wh2.alloc (.cells #[.int .i64 0, .slice none 0 0, .slice none 0 0] 26)) wf.heap.size (.slice (some ⟨b2, 0, none⟩) N.length d2) N) := OB.out.later hg
              have x0 := kcell hg x0
              have x1 := kcell hg x1
              have x2 := kcell hg x2
              have v0 := kcell hg v0
              have v1 := kcell hg v1
              have v2 := kcell hg v2
              have v3 := kcell hg v3
              clear hg
              refine hK.out _ _ ?_ (fun hHeld => ?_)
              · exact ⟨x0, x1, x2, v0, v1, v2, v3⟩
              clear hK K
              try simp only [List.foldl, Act.put, List.setIfInBounds_toArray, List.set_cons_zero, List.set_cons_succ]
              generalize hGe : (wh2.alloc (.cells #[.int .i64 0, .slice none 0 0, .slice none 0 0] 26)) = wh5 at KZ hHeld x0 x1 x2 v0 v1 v2 v3 LX OA OB ⊢
              obtain ⟨kz, hkz⟩ : ∃ kz, wh2.heap.size = kz := ⟨_, rfl⟩
              have HKZ : Hid (wf.heap.size ≤ kz) := Nat.le_trans hxs (Nat.le_of_eq hkz)
              clear hxs
              rw [hkz] at KZ
              try rw [hkz]
              clear hGe hkz
              refine wpAnyH_ready (rs := [5]) (by kernel_rfl) (by simp) ?_
              refine AllReadyH.cons rfl (fun K hK => ?_) AllReadyH.nil
              go_simp
              refine (implSend_any k f a2 0 b2 0 e2 d2 O N y _ _ (OA.out.els okO) (OB.out.els okN) oy lO lN).mono ?_
              rintro r0 wh6 ⟨ah, ch, bh, dh, rfl, ro, rn, rab, hb⟩
              have hc : Below wh5.heap.size wh5 wh6 := hb
              have LX0 : Below wf.heap.size wf wh5 := LX.out
              have KZ0 : Blk wh5 kz #[.int .i64 0, .slice none 0 0, .slice none 0 0] 26 := KZ.out
              have LX : Hid (Below wf.heap.size wf wh6) := bl_trans LX.out hc
              have KZ : Hid (Blk wh6 kz #[.int .i64 0, .slice none 0 0, .slice none 0 0] 26) := KZ.out.later hc
              have x0 := kcell hc x0
              have x1 := kcell hc x1
              have x2 := kcell hc x2
              have v0 := kcell hc v0
              have v1 := kcell hc v1
              have v2 := kcell hc v2
              have v3 := kcell hc v3
              rw [← HOK.out, ← HM.out] at rn
              rw [← HOK.out, ← HM.out]
              have NZ : Hid (¬ ah = kz ∧ ¬ bh = kz) := by have h1 := (ro.lt ah rfl).1; have h2 := (rn.lt bh rfl).1; have h3 := KZ0.lt; exact ⟨by (try simp only [World.size_drew] at h1 h3); omega, by (try simp only [World.size_drew] at h2 h3); omega⟩
              have RO : Hid (OV wh6 wf.heap.size (.slice (some ⟨ah, 0, none⟩) O.length ch) O) := ro.mono LX0.size
              have RN : Hid (OV wh6 wf.heap.size (.slice (some ⟨bh, 0, none⟩) M.length dh) M) := rn.mono LX0.size
              have NAB : Hid (¬ ah = bh) := rab
              clear ro rn rab
              clear hb hc LX0 KZ0
              refine hK.out _ _ ?_ (fun hHeld => ?_)
              · exact ⟨x0, x1, x2, v0, v1, v2, v3⟩
              clear hK K
              try simp only [List.foldl, Act.put, List.setIfInBounds_toArray, List.set_cons_zero, List.set_cons_succ]
              refine wpAnyH_one (i := 6) (d := 83) (v := ?_) rfl rfl (by kernel_rfl) (by kernel_rfl) (by kernel_rfl) (fun _ _ _ h => h) (by rfl) (by assumption) ?_ ?_
              rotate_left 1
              · intro w hSw; (try dsimp only at hSw); go_simp <;> with_reducible rfl
              simp only [List.foldl, Act.put, List.setIfInBounds_toArray, List.set_cons_zero, List.set_cons_succ]
              refine wpAnyH_one (i := 7) (d := 90) (v := ?_) rfl rfl (by kernel_rfl) (by kernel_rfl) (by kernel_rfl) (fun _ _ _ h => h) (by rfl) (by assumption) ?_ ?_
              rotate_left 1
              · intro w hSw; (try dsimp only at hSw); go_simp <;> with_reducible rfl
              simp only [List.foldl, Act.put, List.setIfInBounds_toArray, List.set_cons_zero, List.set_cons_succ]
              refine wpAnyH_one (i := 8) (d := 91) (v := ?_) rfl rfl (by kernel_rfl) (by kernel_rfl) (by kernel_rfl) (fun _ _ _ h => h) (by rfl) (by assumption) ?_ ?_
              rotate_left 1
              · intro w hSw; (try dsimp only at hSw); go_simp <;> with_reducible rfl
              simp only [List.foldl, Act.put, List.setIfInBounds_toArray, List.set_cons_zero, List.set_cons_succ]
              obtain ⟨k0z, k1z, k2z, k3z⟩ := KZ.out.three'
              have hkz2 := HKZ.out
              refine wpAnyH_ready (rs := [10]) (by kernel_rfl) (by simp) ?_
              refine AllReadyH.cons rfl (fun K hK => ?_) AllReadyH.nil
              go_simp
              refine hK.out _ _ ?_ (fun hHeld => ?_)
              · exact ⟨(setThree_far _ _ _ (by omega)).trans x0, (setThree_far _ _ _ (by omega)).trans x1, (setThree_far _ _ _ (by omega)).trans x2, (setThree_far _ _ _ (by omega)).trans v0, (setThree_far _ _ _ (by omega)).trans v1, (setThree_far _ _ _ (by omega)).trans v2, (setThree_far _ _ _ (by omega)).trans v3⟩
              clear hK K
              try simp only [List.foldl, Act.put, List.setIfInBounds_toArray, List.set_cons_zero, List.set_cons_succ]
              refine wpAnyH_one (i := 11) (d := 17) (v := ?_) rfl rfl (by kernel_rfl) (by kernel_rfl) (by kernel_rfl) (fun _ _ _ h => h) (by rfl) (by assumption) ?_ ?_
              rotate_left 1
              · intro w hSw; (try dsimp only at hSw); go_simp <;> with_reducible rfl
              simp only [List.foldl, Act.put, List.setIfInBounds_toArray, List.set_cons_zero, List.set_cons_succ]
              refine wpAnyH_done (by kernel_rfl) ?_ _
              go_wp2_with fail
              go_meet
              exact ⟨kz, ah, ch, bh, dh, rfl, rfl, sr_leaf KZ.out RO.out RN.out NAB.out NZ.out.1 NZ.out.2 HKZ.out LX.out⟩
          · refine AllReadyH.cons rfl (fun K hK => ?_) AllReadyH.nil
            go_simp
            have hg : Below wh1.heap.size wh1 (wh1.alloc (.cells #[.int .i64 0, .slice none 0 0, .slice none 0 0] 26)) := bl_alloc (Below.refl _ _) _
            have KZ : Hid (Blk (wh1.alloc (.cells #[.int .i64 0, .slice none 0 0, .slice none 0 0] 26)) wh1.heap.size #[.int .i64 0, .slice none 0 0, .slice none 0 0] 26) := Blk.new _ _ _
            have hxs : wf.heap.size ≤ wh1.heap.size := LX.out.size
            have LX : Hid (Below wf.heap.size wf (wh1.alloc (.cells #[.int .i64 0, .slice none 0 0, .slice none 0 0] 26))) := bl_trans LX.out hg
            have OA : Hid (OV (wh1.alloc (.cells #[.int .i64 0, .slice none 0 0, .slice none 0 0] 26)) wf.heap.size (.slice (some ⟨a2, 0, none⟩) O.length e2) O) := OA.out.later hg
            have OB : Hid (OV (wh1.alloc (.cells #[.int .i64 0, .slice none 0 0, .slice none 0 0] 26)) wf.heap.size (.slice (some ⟨b2, 0, none⟩) N.length d2) N) := OB.out.later hg
            have x0 := kcell hg x0
            have x1 := kcell hg x1
            have x2 := kcell hg x2
            have v0 := kcell hg v0
            have v1 := kcell hg v1
            have v2 := kcell hg v2
            have v3 := kcell hg v3
            clear hg
            refine hK.out _ _ ?_ (fun hHeld => ?_)
            · exact ⟨x0, x1, x2, v0, v1, v2, v3⟩
            clear hK K
            try simp only [List.foldl, Act.put, List.setIfInBounds_toArray, List.set_cons_zero, List.set_cons_succ]
            generalize hGe : (wh1.alloc (.cells #[.int .i64 0, .slice none 0 0, .slice none 0 0] 26)) = wh7 at KZ hHeld x0 x1 x2 v0 v1 v2 v3 LX OA OB ⊢
            obtain ⟨kz, hkz⟩ : ∃ kz, wh1.heap.size = kz := ⟨_, rfl⟩
            have HKZ : Hid (wf.heap.size ≤ kz) := Nat.le_trans hxs (Nat.le_of_eq hkz)
            clear hxs
            rw [hkz] at KZ
            try rw [hkz]
            clear hGe hkz
            refine wpAnyH_ready (rs := [4]) (by kernel_rfl) (by simp) ?_
            refine AllReadyH.cons rfl (fun K hK => ?_) AllReadyH.nil
            go_simp
            refine (toVal_any y.1 y.2.1 y.2.2.1 y.2.2.2 _).mono ?_
            rintro r0 wh8 ⟨rfl, hb⟩
            have hc : Below wh7.heap.size wh7 wh8 := hb
            have LX0 : Below wf.heap.size wf wh7 := LX.out
            have KZ0 : Blk wh7 kz #[.int .i64 0, .slice none 0 0, .slice none 0 0] 26 := KZ.out
            have LX : Hid (Below wf.heap.size wf wh8) := bl_trans LX.out hc
            have OA : Hid (OV wh8 wf.heap.size (.slice (some ⟨a2, 0, none⟩) O.length e2) O) := OA.out.later hc
            have OB : Hid (OV wh8 wf.heap.size (.slice (some ⟨b2, 0, none⟩) N.length d2) N) := OB.out.later hc
            have KZ : Hid (Blk wh8 kz #[.int .i64 0, .slice none 0 0, .slice none 0 0] 26) := KZ.out.later hc
            have x0 := kcell hc x0
            have x1 := kcell hc x1
            have x2 := kcell hc x2
            have v0 := kcell hc v0
            have v1 := kcell hc v1
            have v2 := kcell hc v2
            have v3 := kcell hc v3
            clear hb hc LX0 KZ0
            refine hK.out _ _ ?_ (fun hHeld => ?_)
            · exact ⟨x0, x1, x2, v0, v1, v2, v3⟩
            clear hK K
            try simp only [List.foldl, Act.put, List.setIfInBounds_toArray, List.set_cons_zero, List.set_cons_succ]
            refine wpAnyH_ready (rs := [5]) (by kernel_rfl) (by simp) ?_
            refine AllReadyH.cons rfl (fun K hK => ?_) AllReadyH.nil
            go_simp
            refine (implSend_any k f a2 0 b2 0 e2 d2 O N y _ _ (OA.out.els okO) (OB.out.els okN) oy lO lN).mono ?_
            rintro r0 wh9 ⟨ah, ch, bh, dh, rfl, ro, rn, rab, hb⟩
            have hc : Below wh8.heap.size wh8 wh9 := hb
            have LX0 : Below wf.heap.size wf wh8 := LX.out
            have KZ0 : Blk wh8 kz #[.int .i64 0, .slice none 0 0, .slice none 0 0] 26 := KZ.out
            have LX : Hid (Below wf.heap.size wf wh9) := bl_trans LX.out hc
            have KZ : Hid (Blk wh9 kz #[.int .i64 0, .slice none 0 0, .slice none 0 0] 26) := KZ.out.later hc
            have x0 := kcell hc x0
            have x1 := kcell hc x1
            have x2 := kcell hc x2
            have v0 := kcell hc v0
            have v1 := kcell hc v1
            have v2 := kcell hc v2
            have v3 := kcell hc v3
            rw [← HOK.out, ← HM.out] at rn
            rw [← HOK.out, ← HM.out]
            have NZ : Hid (¬ ah = kz ∧ ¬ bh = kz) := by have h1 := (ro.lt ah rfl).1; have h2 := (rn.lt bh rfl).1; have h3 := KZ0.lt; exact ⟨by (try simp only [World.size_drew] at h1 h3); omega, by (try simp only [World.size_drew] at h2 h3); omega⟩
            have RO : Hid (OV wh9 wf.heap.size (.slice (some ⟨ah, 0, none⟩) O.length ch) O) := ro.mono LX0.size
            have RN : Hid (OV wh9 wf.heap.size (.slice (some ⟨bh, 0, none⟩) M.length dh) M) := rn.mono LX0.size
            have NAB : Hid (¬ ah = bh) := rab
            clear ro rn rab
            clear hb hc LX0 KZ0
            refine hK.out _ _ ?_ (fun hHeld => ?_)
            · exact ⟨x0, x1, x2, v0, v1, v2, v3⟩
            clear hK K
            try simp only [List.foldl, Act.put, List.setIfInBounds_toArray, List.set_cons_zero, List.set_cons_succ]
            refine wpAnyH_one (i := 6) (d := 83) (v := ?_) rfl rfl (by kernel_rfl) (by kernel_rfl) (by kernel_rfl) (fun _ _ _ h => h) (by rfl) (by assumption) ?_ ?_
            rotate_left 1
            · intro w hSw; (try dsimp only at hSw); go_simp <;> with_reducible rfl
            simp only [List.foldl, Act.put, List.setIfInBounds_toArray, List.set_cons_zero, List.set_cons_succ]
            refine wpAnyH_one (i := 7) (d := 90) (v := ?_) rfl rfl (by kernel_rfl) (by kernel_rfl) (by kernel_rfl) (fun _ _ _ h => h) (by rfl) (by assumption) ?_ ?_
            rotate_left 1
            · intro w hSw; (try dsimp only at hSw); go_simp <;> with_reducible rfl
            simp only [List.foldl, Act.put, List.setIfInBounds_toArray, List.set_cons_zero, List.set_cons_succ]
            refine wpAnyH_one (i := 8) (d := 91) (v := ?_) rfl rfl (by kernel_rfl) (by kernel_rfl) (by kernel_rfl) (fun _ _ _ h => h) (by rfl) (by assumption) ?_ ?_
            rotate_left 1
            · intro w hSw; (try dsimp only at hSw); go_simp <;> with_reducible rfl
            simp only [List.foldl, Act.put, List.setIfInBounds_toArray, List.set_cons_zero, List.set_cons_succ]
            obtain ⟨k0z, k1z, k2z, k3z⟩ := KZ.out.three'
            have hkz2 := HKZ.out
            refine wpAnyH_ready (rs := [10]) (by kernel_rfl) (by simp) ?_
            refine AllReadyH.cons rfl (fun K hK => ?_) AllReadyH.nil
            go_simp
            refine hK.out _ _ ?_ (fun hHeld => ?_)
            · exact ⟨(setThree_far _ _ _ (by omega)).trans x0, (setThree_far _ _ _ (by omega)).trans x1, (setThree_far _ _ _ (by omega)).trans x2, (setThree_far _ _ _ (by omega)).trans v0, (setThree_far _ _ _ (by omega)).trans v1, (setThree_far _ _ _ (by omega)).trans v2, (setThree_far _ _ _ (by omega)).trans v3⟩
            clear hK K
            try simp only [List.foldl, Act.put, List.setIfInBounds_toArray, List.set_cons_zero, List.set_cons_succ]
            refine wpAnyH_one (i := 11) (d := 17) (v := ?_) rfl rfl (by kernel_rfl) (by kernel_rfl) (by kernel_rfl) (fun _ _ _ h => h) (by rfl) (by assumption) ?_ ?_
            rotate_left 1
            · intro w hSw; (try dsimp only at hSw); go_simp <;> with_reducible rfl
            simp only [List.foldl, Act.put, List.setIfInBounds_toArray, List.set_cons_zero, List.set_cons_succ]
            refine wpAnyH_done (by kernel_rfl) ?_ _
            go_wp2_with fail
            go_meet
            exact ⟨kz, ah, ch, bh, dh, rfl, rfl, sr_leaf KZ.out RO.out RN.out NAB.out NZ.out.1 NZ.out.2 HKZ.out LX.out⟩
        · refine AllReadyH.cons rfl (fun K hK => ?_) AllReadyH.nil
          go_simp
          have hg : Below wf.heap.size wf (wf.alloc (.cells #[.int .i64 0, .slice none 0 0, .slice none 0 0] 26)).drew := bl_drew (bl_alloc (Below.refl _ _) _)
          have KZ : Hid (Blk (wf.alloc (.cells #[.int .i64 0, .slice none 0 0, .slice none 0 0] 26)).drew wf.heap.size #[.int .i64 0, .slice none 0 0, .slice none 0 0] 26) := Blk.new _ _ _
          have hxs : wf.heap.size ≤ wf.heap.size := LX.out.size
          have LX : Hid (Below wf.heap.size wf (wf.alloc (.cells #[.int .i64 0, .slice none 0 0, .slice none 0 0] 26)).drew) := bl_trans LX.out hg
          have x0 := kcell hg x0
          have x1 := kcell hg x1
          have x2 := kcell hg x2
          have v0 := kcell hg v0
          have v1 := kcell hg v1
          have v2 := kcell hg v2
          have v3 := kcell hg v3
          clear hg
          refine hK.out _ _ ?_ (fun hHeld => ?_)
          · exact ⟨x0, x1, x2, v0, v1, v2, v3⟩
          clear hK K
          try simp only [List.foldl, Act.put, List.setIfInBounds_toArray, List.set_cons_zero, List.set_cons_succ]
          generalize hGe : (wf.alloc (.cells #[.int .i64 0, .slice none 0 0, .slice none 0 0] 26)).drew = wh10 at KZ hHeld x0 x1 x2 v0 v1 v2 v3 LX ⊢
          obtain ⟨kz, hkz⟩ : ∃ kz, wf.heap.size = kz := ⟨_, rfl⟩
          have HKZ : Hid (wf.heap.size ≤ kz) := Nat.le_trans hxs (Nat.le_of_eq hkz)
          clear hxs
          rw [hkz] at KZ
          try rw [hkz]
          clear hGe hkz
          refine wpAnyH_ready (rs := [2]) (by kernel_rfl) (by simp) ?_
          refine AllReadyH.cons rfl (fun K hK => ?_) AllReadyH.nil
          go_simp
          refine (toStream_own f s1 s2 c1 c2 O N 0 _ (hO.later cVal_keeps (bl_trans L LX.out)) (hN.later cVal_keeps (bl_trans L LX.out)) lO lN).mono ?_
          rintro r0 wh11 ⟨⟨a2, e2, b2, d2, rfl, oA2, oB2, n2⟩, hb⟩
          have hc : Below wh10.heap.size wh10 wh11 := hb
          have LX0 : Below wf.heap.size wf wh10 := LX.out
          have KZ0 : Blk wh10 kz #[.int .i64 0, .slice none 0 0, .slice none 0 0] 26 := KZ.out
          have LX : Hid (Below wf.heap.size wf wh11) := bl_trans LX.out hc
          have KZ : Hid (Blk wh11 kz #[.int .i64 0, .slice none 0 0, .slice none 0 0] 26) := KZ.out.later hc
          have x0 := kcell hc x0
          have x1 := kcell hc x1
          have x2 := kcell hc x2
          have v0 := kcell hc v0
          have v1 := kcell hc v1
          have v2 := kcell hc v2
          have v3 := kcell hc v3
          have OA : Hid (OV wh11 wf.heap.size (.slice (some ⟨a2, 0, none⟩) O.length e2) O) := oA2.mono LX0.size
          have OB : Hid (OV wh11 wf.heap.size (.slice (some ⟨b2, 0, none⟩) N.length d2) N) := oB2.mono LX0.size
          clear oA2 oB2 n2
          clear hb hc LX0 KZ0
          refine hK.out _ _ ?_ (fun hHeld => ?_)
          · exact ⟨x0, x1, x2, v0, v1, v2, v3⟩
          clear hK K
          try simp only [List.foldl, Act.put, List.setIfInBounds_toArray, List.set_cons_zero, List.set_cons_succ]
          refine wpAnyH_ready (rs := [4]) (by kernel_rfl) (by simp) ?_
          refine AllReadyH.cons rfl (fun K hK => ?_) AllReadyH.nil
          go_simp
          refine (toVal_any y.1 y.2.1 y.2.2.1 y.2.2.2 _).mono ?_
          rintro r0 wh12 ⟨rfl, hb⟩
          have hc : Below wh11.heap.size wh11 wh12 := hb
          have LX0 : Below wf.heap.size wf wh11 := LX.out
          have KZ0 : Blk wh11 kz #[.int .i64 0, .slice none 0 0, .slice none 0 0] 26 := KZ.out
          have LX : Hid (Below wf.heap.size wf wh12) := bl_trans LX.out hc
          have OA : Hid (OV wh12 wf.heap.size (.slice (some ⟨a2, 0, none⟩) O.length e2) O) := OA.out.later hc
          have OB : Hid (OV wh12 wf.heap.size (.slice (some ⟨b2, 0, none⟩) N.length d2) N) := OB.out.later hc
          have KZ : Hid (Blk wh12 kz #[.int .i64 0, .slice none 0 0, .slice none 0 0] 26) := KZ.out.later hc
          have x0 := kcell hc x0
          have x1 := kcell hc x1
          have x2 := kcell hc x2
          have v0 := kcell hc v0
          have v1 := kcell hc v1
          have v2 := kcell hc v2
          have v3 := kcell hc v3
          clear hb hc LX0 KZ0
          refine hK.out _ _ ?_ (fun hHeld => ?_)
          · exact ⟨x0, x1, x2, v0, v1, v2, v3⟩
          clear hK K
          try simp only [List.foldl, Act.put, List.setIfInBounds_toArray, List.set_cons_zero, List.set_cons_succ]
          refine wpAnyH_ready (rs := [5]) (by kernel_rfl) (by simp) ?_
          refine AllReadyH.cons rfl (fun K hK => ?_) AllReadyH.nil
          go_simp
          refine (implSend_any k f a2 0 b2 0 e2 d2 O N y _ _ (OA.out.els okO) (OB.out.els okN) oy lO lN).mono ?_
          rintro r0 wh13 ⟨ah, ch, bh, dh, rfl, ro, rn, rab, hb⟩
          have hc : Below wh12.heap.size wh12 wh13 := hb
          have LX0 : Below wf.heap.size wf wh12 := LX.out
          have KZ0 : Blk wh12 kz #[.int .i64 0, .slice none 0 0, .slice none 0 0] 26 := KZ.out
          have LX : Hid (Below wf.heap.size wf wh13) := bl_trans LX.out hc
          have KZ : Hid (Blk wh13 kz #[.int .i64 0, .slice none 0 0, .slice none 0 0] 26) := KZ.out.later hc
          have x0 := kcell hc x0
          have x1 := kcell hc x1
          have x2 := kcell hc x2
          have v0 := kcell hc v0
          have v1 := kcell hc v1
          have v2 := kcell hc v2
          have v3 := kcell hc v3
          rw [← HOK.out, ← HM.out] at rn
          rw [← HOK.out, ← HM.out]
          have NZ : Hid (¬ ah = kz ∧ ¬ bh = kz) := by have h1 := (ro.lt ah rfl).1; have h2 := (rn.lt bh rfl).1; have h3 := KZ0.lt; exact ⟨by (try simp only [World.size_drew] at h1 h3); omega, by (try simp only [World.size_drew] at h2 h3); omega⟩
          have RO : Hid (OV wh13 wf.heap.size (.slice (some ⟨ah, 0, none⟩) O.length ch) O) := ro.mono LX0.size
          have RN : Hid (OV wh13 wf.heap.size (.slice (some ⟨bh, 0, none⟩) M.length dh) M) := rn.mono LX0.size
          have NAB : Hid (¬ ah = bh) := rab
          clear ro rn rab
          clear hb hc LX0 KZ0
          refine hK.out _ _ ?_ (fun hHeld => ?_)
          · exact ⟨x0, x1, x2, v0, v1, v2, v3⟩
          clear hK K
          try simp only [List.foldl, Act.put, List.setIfInBounds_toArray, List.set_cons_zero, List.set_cons_succ]
          refine wpAnyH_one (i := 6) (d := 83) (v := ?_) rfl rfl (by kernel_rfl) (by kernel_rfl) (by kernel_rfl) (fun _ _ _ h => h) (by rfl) (by assumption) ?_ ?_
          rotate_left 1
          · intro w hSw; (try dsimp only at hSw); go_simp <;> with_reducible rfl
          simp only [List.foldl, Act.put, List.setIfInBounds_toArray, List.set_cons_zero, List.set_cons_succ]
          refine wpAnyH_one (i := 7) (d := 90) (v := ?_) rfl rfl (by kernel_rfl) (by kernel_rfl) (by kernel_rfl) (fun _ _ _ h => h) (by rfl) (by assumption) ?_ ?_
          rotate_left 1
          · intro w hSw; (try dsimp only at hSw); go_simp <;> with_reducible rfl
          simp only [List.foldl, Act.put, List.setIfInBounds_toArray, List.set_cons_zero, List.set_cons_succ]
          refine wpAnyH_one (i := 8) (d := 91) (v := ?_) rfl rfl (by kernel_rfl) (by kernel_rfl) (by kernel_rfl) (fun _ _ _ h => h) (by rfl) (by assumption) ?_ ?_
          rotate_left 1
          · intro w hSw; (try dsimp only at hSw); go_simp <;> with_reducible rfl
          simp only [List.foldl, Act.put, List.setIfInBounds_toArray, List.set_cons_zero, List.set_cons_succ]
          obtain ⟨k0z, k1z, k2z, k3z⟩ := KZ.out.three'
          have hkz2 := HKZ.out
          refine wpAnyH_ready (rs := [10]) (by kernel_rfl) (by simp) ?_
          refine AllReadyH.cons rfl (fun K hK => ?_) AllReadyH.nil
          go_simp
          refine hK.out _ _ ?_ (fun hHeld => ?_)
          · exact ⟨(setThree_far _ _ _ (by omega)).trans x0, (setThree_far _ _ _ (by omega)).trans x1, (setThree_far _ _ _ (by omega)).trans x2, (setThree_far _ _ _ (by omega)).trans v0, (setThree_far _ _ _ (by omega)).trans v1, (setThree_far _ _ _ (by omega)).trans v2, (setThree_far _ _ _ (by omega)).trans v3⟩
          clear hK K
          try simp only [List.foldl, Act.put, List.setIfInBounds_toArray, List.set_cons_zero, List.set_cons_succ]
          refine wpAnyH_one (i := 11) (d := 17) (v := ?_) rfl rfl (by kernel_rfl) (by kernel_rfl) (by kernel_rfl) (fun _ _ _ h => h) (by rfl) (by assumption) ?_ ?_
          rotate_left 1
          · intro w hSw; (try dsimp only at hSw); go_simp <;> with_reducible rfl
          simp only [List.foldl, Act.put, List.setIfInBounds_toArray, List.set_cons_zero, List.set_cons_succ]
          refine wpAnyH_done (by kernel_rfl) ?_ _
          go_wp2_with fail
          go_meet
          exact ⟨kz, ah, ch, bh, dh, rfl, rfl, sr_leaf KZ.out RO.out RN.out NAB.out NZ.out.1 NZ.out.2 HKZ.out LX.out⟩
      case rest =>
        clear x0 x1 x2 x3 v0 v1 v2 v3 v4
        obtain ⟨kh, ah, ch, bh, dh, rfl, rfl, Sh⟩ := hcut
        have hS := Sh.l
        replace L := bl_trans L hS
        replace KA := KA.later hS
        replace KB := KB.later hS
        replace KW := KW.later hS
        replace OWo := OWo.later hS
        replace OWn := OWn.later hS
        replace KG := KG.later hS
        replace OGo := OGo.later hS
        replace OGn := OGn.later hS
        have KH := Sh.k
        have OHo := Sh.o
        have OHn := Sh.n
        obtain ⟨S, hR⟩ : ∃ S, wc = S := ⟨_, rfl⟩
        rw [hR] at hS L KA KB KW OWo OWn KG OGo OGn KH OHo OHn ⊢
        clear Sh hS hR
        obtain ⟨x0, x1, x2, x3⟩ := KH.three'
        obtain ⟨y0, y1, y2, y3⟩ := KW.three'
        go_wp2_with fail
        refine (eqStream_gen f (some ⟨ah, 0, none⟩) (some ⟨bh, 0, none⟩) (some ⟨aw, 0, none⟩) (some ⟨bw, 0, none⟩) ch dh cw dw O M _ _ _ (OHo.els okO) (OHn.els okM) (OWo.els okO) (OWn.els okM) lO lM).mono ?_
        rintro e wi ⟨rfl, hbi⟩
        replace L := bl_trans L hbi
        replace KA := KA.later hbi
        replace KB := KB.later hbi
        replace KW := KW.later hbi
        replace OWo := OWo.later hbi
        replace OWn := OWn.later hbi
        replace KG := KG.later hbi
        replace OGo := OGo.later hbi
        replace OGn := OGn.later hbi
        replace KH := KH.later hbi
        replace OHo := OHo.later hbi
        replace OHn := OHn.later hbi
        clear hbi
        clear x0 x1 x2 x3
        clear y0 y1 y2 y3
        obtain ⟨x0, x1, x2, x3⟩ := KG.three'
        go_wp2_with fail
        refine (heldStream_one f Q.heap.size (some ⟨ag, 0, none⟩) (some ⟨bg, 0, none⟩) O.length M.length cg dg _ OGo OGn lO lM).mono ?_
        rintro e wj ⟨rfl, hbj⟩
        go_wp2_with fail
        go_ret
        exact ⟨rfl, bl_trans L hbj⟩
end Go.Proofs.Ytgiclehfhjjalaa
