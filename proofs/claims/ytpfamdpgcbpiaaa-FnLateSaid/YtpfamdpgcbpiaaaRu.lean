import Derived.Test.YtpfamdpgcbpiaaaRt
import Derived.Test.YtpfamdpgcbpiaaaRp
namespace Go.Proofs.Ytpfamdpgcbpiaaa
open Go.RowKit
set_option linter.unusedVariables false
set_option linter.unusedSimpArgs false

theorem Code.alloc {w : World} {sl : Option Addr} {len : Nat} (h : Code w sl len) (o : Obj) : Code (w.alloc o) sl len := by
  rcases h with h0 | ⟨pb, po, h0, h1, h2⟩
  · exact Or.inl h0
  · refine Or.inr ⟨pb, po, h0, by simp; omega, fun j hj => ?_⟩
    obtain ⟨c, a1, a2, a3⟩ := h2 j hj
    exact ⟨c, a1, a2, cell_later (bl_alloc (Below.refl _ w) _) a3⟩
theorem ints_four {w : World} {pb : Nat} {a b c d : Int} (h : Blk w pb #[.int .i64 a, .int .i64 b, .int .i64 c, .int .i64 d] 3) : Ints w (some ⟨pb, 0, none⟩) [a, b, c, d] := by
  right
  refine ⟨pb, 0, rfl, h.lt, fun j hj => ?_⟩
  match j, hj with
  | 0, _ => exact h.cell 0
  | 1, _ => exact h.cell 1
  | 2, _ => exact h.cell 2
  | 3, _ => exact h.cell 3

set_option maxRecDepth 100000 in
set_option maxHeartbeats 8000000 in
theorem drawUnread_any (sl : Option Addr) (len cap : Nat) (w : World) (hl : len ≤ 1048576) (hC : Code w sl len) :
    Calls Try.prog 9 #[.slice sl len cap] w fun e w' => DrawnU w e w' := by
  have hal := alloc_old
  have haf := alloc_oldf
  have k0 := Blk.new w #[.int .i64 0, .slice none 0 0, .slice none 0 0] 26
  have B0 := bl_alloc (Below.refl _ w) (.cells #[.int .i64 0, .slice none 0 0, .slice none 0 0] 26)
  go_enter Try.func9, Try.ntmps9
  go_wp2_with fail
  refine (l1New_any sl len cap _ hl (hC.alloc _)).mono ?_
  rintro e w1 ⟨n, rfl, hn, hb1, C1⟩
  have B1 := bl_trans B0 hb1
  have K1 := k0.later hb1
  have hrl : w.heap.size < w1.heap.size := K1.lt
  have hnr : w.heap.size < n := by simp at hn; omega
  clear hn hb1 k0 B0
  go_wp2_with fail
  refine (l6Some_any n _ C1).mono ?_
  rintro e w2 ⟨k, f, s1, c1, s2, c2, O, N, rfl, oO, oN, ap, okO, okN, lO, lN, bf, hk2, hc2⟩
  have HD : Hid (Dt n w1 (w2.alloc (.cells #[.int .i64 f, .slice s1 O.length c1, .slice s2 N.length c2] 26)) w2.heap.size f s1 c1 s2 c2 O N) := by
    have s3' := hk2.1.size
    exact ⟨hk2.alloc (Nat.le_of_lt hc2.lt) _, hc2.alloc _, C1.lt, by omega, Blk.new _ _ _, oO.alloc _, oN.alloc _, fun e => by have := (oO.lt _ e).2; omega, fun e => by have := (oN.lt _ e).2; omega, ap, okO, okN⟩
  clear oO oN ap okO okN
  have KP : Hid (Blk w1 w.heap.size #[.int .i64 0, .slice none 0 0, .slice none 0 0] 26) := K1
  have BW : Hid (Below w.heap.size w w1) := B1
  clear K1 B1 C1
  go_wp2_with fail
  generalize hX : w2.alloc (.cells #[.int .i64 f, .slice s1 O.length c1, .slice s2 N.length c2] 26) = X at HD ⊢
  generalize hSb : w2.heap.size = sb at HD ⊢
  clear hX hSb hk2 hc2 w2
  refine wp_region_held_drew (S := fun _ => True) (by kernel_rfl) trivial (fun hHeld => ?_)
  refine wpAnyH_one (i := 0) (d := 15) (v := ?_) rfl rfl (by kernel_rfl) (by kernel_rfl) (by kernel_rfl) (fun _ _ _ h => h) (by rfl) (by assumption) ?_ ?_
  rotate_left 1
  · intro w hSw; go_simp <;> with_reducible rfl
  simp only [List.foldl, Act.put, List.setIfInBounds_toArray, List.set_cons_zero, List.set_cons_succ]
  refine wpAnyH_one (i := 2) (d := 17) (v := ?_) rfl rfl (by kernel_rfl) (by kernel_rfl) (by kernel_rfl) (fun _ _ _ h => h) (by rfl) (by assumption) ?_ ?_
  rotate_left 1
  · intro w hSw; go_simp <;> with_reducible rfl
  simp only [List.foldl, Act.put, List.setIfInBounds_toArray, List.set_cons_zero, List.set_cons_succ]
  refine wpAnyH_ready (rs := [1, 3]) (by kernel_rfl) (by simp) ?_
  refine AllReadyH.cons rfl (fun K hK => ?_) ?_
  · skip
    obtain ⟨x0, x1, x2, x3⟩ := HD.out.k.three'
    go_simp
    clear x0 x1 x2 x3
    refine hK.out _ _ trivial (fun hHeld => ?_)
    clear hK K
    try simp only [List.foldl, Act.put, List.setIfInBounds_toArray, List.set_cons_zero, List.set_cons_succ]
    have HD : Hid (Dt n w1 X.drew sb f s1 c1 s2 c2 O N) := HD.out.drew
    refine wpAnyH_ready (rs := [3]) (by kernel_rfl) (by simp) ?_
    refine AllReadyH.cons rfl (fun K hK => ?_) AllReadyH.nil
    go_simp
    refine (l1Below_any n 9 _ HD.out.cu (by omega)).mono ?_
    rintro e w3 ⟨r, rfl, r0, r1, hk3, hc3⟩
    have HD : Hid (Dt n w1 w3 sb f s1 c1 s2 c2 O N) := HD.out.call hk3 hc3
    clear hk3 hc3
    refine hK.out _ _ trivial (fun hHeld => ?_)
    clear hK K
    try simp only [List.foldl, Act.put, List.setIfInBounds_toArray, List.set_cons_zero, List.set_cons_succ]
    obtain ⟨cur, hcur⟩ : ∃ cur, IntKind.i64.wrap (IntKind.i64.wrap (f + r) - 3) = cur := ⟨_, rfl⟩
    have bc : -9223372036854775808 ≤ cur ∧ cur ≤ 9223372036854775807 := by rw [← hcur, IntKind.wrap_i64]; omega
    refine wpAnyH_one (i := 4) (d := 19) (v := ?_) rfl rfl (by kernel_rfl) (by kernel_rfl) (by kernel_rfl) (fun _ _ _ h => h) (by rfl) (by assumption) ?_ ?_
    rotate_left 1
    · intro w hSw; go_simp <;> with_reducible rfl
    simp only [List.foldl, Act.put, List.setIfInBounds_toArray, List.set_cons_zero, List.set_cons_succ]
    refine wpAnyH_one (i := 5) (d := 20) (v := ?_) rfl rfl (by kernel_rfl) (by kernel_rfl) (by kernel_rfl) (fun _ _ _ h => h) (by rfl) (by assumption) ?_ ?_
    rotate_left 1
    · intro w hSw; go_simp <;> with_reducible rfl
    simp only [List.foldl, Act.put, List.setIfInBounds_toArray, List.set_cons_zero, List.set_cons_succ]
    refine wpAnyH_one (i := 6) (d := 7) (v := ?_) rfl rfl (by kernel_rfl) (by kernel_rfl) (by kernel_rfl) (fun _ _ _ h => h) (by rfl) (by assumption) ?_ ?_
    rotate_left 1
    · intro w hSw; go_simp <;> with_reducible rfl
    simp only [List.foldl, Act.put, List.setIfInBounds_toArray, List.set_cons_zero, List.set_cons_succ]
    refine wpAnyH_done (by kernel_rfl) ?_ _
    try rw [hcur]
    clear hcur
    have hnr' : ¬ w.heap.size = n := by omega
    go_wp2_with fail
    refine (l1Once_any n 6 _ HD.out.cu (by omega)).mono ?_
    rintro e w4 ⟨bb, rfl, hk4, hc4⟩
    have HD : Hid (Dt n w1 w4 sb f s1 c1 s2 c2 O N) := HD.out.call hk4 hc4
    clear hk4 hc4
    cases bb
    · skip
      have KR := KP.out.same (HD.out.kp.block hnr' hrl)
      obtain ⟨x0, x1, x2, x3⟩ := HD.out.k.three'
      obtain ⟨z0, z1, z2, z3⟩ := KR.three'
      have hsb : ¬ w.heap.size = sb := by have := HD.out.sw; omega
      have HFIN : Hid (DrawnU w (.returned (.tuple #[.agg #[.int .i64 f, .slice s1 O.length c1, .slice s2 N.length c2], .int .i64 cur])) (((w4.setCell ⟨w.heap.size, 0, none⟩ (.int .i64 f)).setCell ⟨w.heap.size, 1, none⟩ (.slice s1 O.length c1)).setCell ⟨w.heap.size, 2, none⟩ (.slice s2 N.length c2))) := by
        have h1 := KR.lt
        have h2 := HD.out.sw
        have k9 := keptUnder h1 (.int .i64 f) (.slice s1 O.length c1) (.slice s2 N.length c2)
        have bw : Below w.heap.size w w4 := HD.out.kp.below BW.out (by omega)
        exact ⟨f, cur, s1, c1, s2, c2, O, N, rfl, ((HD.out.o.mono (B' := w.heap.size + 1) (by omega)).kept k9).mono (by omega), ((HD.out.m.mono (B' := w.heap.size + 1) (by omega)).kept k9).mono (by omega), HD.out.okO, HD.out.okN, by omega, by omega, by omega, bc, bl_setCell (bl_setCell (bl_setCell bw (by simp) _) (by simp) _) (by simp) _⟩
      clear HD KR
      go_wp2_with fail
      exact bodyPost_ret (v := .tuple #[.agg #[.int .i64 f, .slice s1 O.length c1, .slice s2 N.length c2], .int .i64 cur]) (by simp [results, Try.results9, go_sem, z0, z1, z2]) rfl HFIN.out
    · have hn4 := HD.out.cu.lt
      have kb := Blk.new w4 #[.int .i64 (-5), .int .i64 0, .int .i64 9223372036854775807, .int .i64 (-9223372036854775808)] 3
      have HD : Hid (Dt n w1 (w4.alloc (.cells #[.int .i64 (-5), .int .i64 0, .int .i64 9223372036854775807, .int .i64 (-9223372036854775808)] 3)) sb f s1 c1 s2 c2 O N) := HD.out.alloc _
      clear bc
      go_wp2_with fail
      refine (l1PickInt_any n w4.heap.size 0 4 [-5, 0, 9223372036854775807, -9223372036854775808] _ HD.out.cu (ints_four kb) (by simp) (by simp) (by omega)).mono ?_
      rintro e w5 ⟨g, rfl, hg, hk5, hc5⟩
      have bc : -9223372036854775808 ≤ g ∧ g ≤ 9223372036854775807 := by simp at hg; omega
      have HD : Hid (Dt n w1 w5 sb f s1 c1 s2 c2 O N) := HD.out.call hk5 hc5
      clear hk5 hc5 kb hg
      have KR := KP.out.same (HD.out.kp.block hnr' hrl)
      obtain ⟨x0, x1, x2, x3⟩ := HD.out.k.three'
      obtain ⟨z0, z1, z2, z3⟩ := KR.three'
      have hsb : ¬ w.heap.size = sb := by have := HD.out.sw; omega
      have HFIN : Hid (DrawnU w (.returned (.tuple #[.agg #[.int .i64 f, .slice s1 O.length c1, .slice s2 N.length c2], .int .i64 g])) (((w5.setCell ⟨w.heap.size, 0, none⟩ (.int .i64 f)).setCell ⟨w.heap.size, 1, none⟩ (.slice s1 O.length c1)).setCell ⟨w.heap.size, 2, none⟩ (.slice s2 N.length c2))) := by
        have h1 := KR.lt
        have h2 := HD.out.sw
        have k9 := keptUnder h1 (.int .i64 f) (.slice s1 O.length c1) (.slice s2 N.length c2)
        have bw : Below w.heap.size w w5 := HD.out.kp.below BW.out (by omega)
        exact ⟨f, g, s1, c1, s2, c2, O, N, rfl, ((HD.out.o.mono (B' := w.heap.size + 1) (by omega)).kept k9).mono (by omega), ((HD.out.m.mono (B' := w.heap.size + 1) (by omega)).kept k9).mono (by omega), HD.out.okO, HD.out.okN, by omega, by omega, by omega, bc, bl_setCell (bl_setCell (bl_setCell bw (by simp) _) (by simp) _) (by simp) _⟩
      clear HD KR
      go_wp2_with fail
      exact bodyPost_ret (v := .tuple #[.agg #[.int .i64 f, .slice s1 O.length c1, .slice s2 N.length c2], .int .i64 g]) (by simp [results, Try.results9, go_sem, z0, z1, z2]) rfl HFIN.out
  refine AllReadyH.cons rfl (fun K hK => ?_) AllReadyH.nil
  go_simp
  refine (l1Below_any n 9 _ HD.out.cu.drew (by omega)).mono ?_
  rintro e w3 ⟨r, rfl, r0, r1, hk3, hc3⟩
  have HD : Hid (Dt n w1 w3 sb f s1 c1 s2 c2 O N) := HD.out.drew.call hk3 hc3
  clear hk3 hc3
  refine hK.out _ _ trivial (fun hHeld => ?_)
  clear hK K
  try simp only [List.foldl, Act.put, List.setIfInBounds_toArray, List.set_cons_zero, List.set_cons_succ]
  refine wpAnyH_ready (rs := [1]) (by kernel_rfl) (by simp) ?_
  refine AllReadyH.cons rfl (fun K hK => ?_) AllReadyH.nil
  obtain ⟨x0, x1, x2, x3⟩ := HD.out.k.three'
  go_simp
  clear x0 x1 x2 x3
  refine hK.out _ _ trivial (fun hHeld => ?_)
  clear hK K
  try simp only [List.foldl, Act.put, List.setIfInBounds_toArray, List.set_cons_zero, List.set_cons_succ]
  obtain ⟨cur, hcur⟩ : ∃ cur, IntKind.i64.wrap (IntKind.i64.wrap (f + r) - 3) = cur := ⟨_, rfl⟩
  have bc : -9223372036854775808 ≤ cur ∧ cur ≤ 9223372036854775807 := by rw [← hcur, IntKind.wrap_i64]; omega
  refine wpAnyH_one (i := 4) (d := 19) (v := ?_) rfl rfl (by kernel_rfl) (by kernel_rfl) (by kernel_rfl) (fun _ _ _ h => h) (by rfl) (by assumption) ?_ ?_
  rotate_left 1
  · intro w hSw; go_simp <;> with_reducible rfl
  simp only [List.foldl, Act.put, List.setIfInBounds_toArray, List.set_cons_zero, List.set_cons_succ]
  refine wpAnyH_one (i := 5) (d := 20) (v := ?_) rfl rfl (by kernel_rfl) (by kernel_rfl) (by kernel_rfl) (fun _ _ _ h => h) (by rfl) (by assumption) ?_ ?_
  rotate_left 1
  · intro w hSw; go_simp <;> with_reducible rfl
  simp only [List.foldl, Act.put, List.setIfInBounds_toArray, List.set_cons_zero, List.set_cons_succ]
  refine wpAnyH_one (i := 6) (d := 7) (v := ?_) rfl rfl (by kernel_rfl) (by kernel_rfl) (by kernel_rfl) (fun _ _ _ h => h) (by rfl) (by assumption) ?_ ?_
  rotate_left 1
  · intro w hSw; go_simp <;> with_reducible rfl
  simp only [List.foldl, Act.put, List.setIfInBounds_toArray, List.set_cons_zero, List.set_cons_succ]
  refine wpAnyH_done (by kernel_rfl) ?_ _
  try rw [hcur]
  clear hcur
  have hnr' : ¬ w.heap.size = n := by omega
  go_wp2_with fail
  refine (l1Once_any n 6 _ HD.out.cu (by omega)).mono ?_
  rintro e w4 ⟨bb, rfl, hk4, hc4⟩
  have HD : Hid (Dt n w1 w4 sb f s1 c1 s2 c2 O N) := HD.out.call hk4 hc4
  clear hk4 hc4
  cases bb
  · skip
    have KR := KP.out.same (HD.out.kp.block hnr' hrl)
    obtain ⟨x0, x1, x2, x3⟩ := HD.out.k.three'
    obtain ⟨z0, z1, z2, z3⟩ := KR.three'
    have hsb : ¬ w.heap.size = sb := by have := HD.out.sw; omega
    have HFIN : Hid (DrawnU w (.returned (.tuple #[.agg #[.int .i64 f, .slice s1 O.length c1, .slice s2 N.length c2], .int .i64 cur])) (((w4.setCell ⟨w.heap.size, 0, none⟩ (.int .i64 f)).setCell ⟨w.heap.size, 1, none⟩ (.slice s1 O.length c1)).setCell ⟨w.heap.size, 2, none⟩ (.slice s2 N.length c2))) := by
      have h1 := KR.lt
      have h2 := HD.out.sw
      have k9 := keptUnder h1 (.int .i64 f) (.slice s1 O.length c1) (.slice s2 N.length c2)
      have bw : Below w.heap.size w w4 := HD.out.kp.below BW.out (by omega)
      exact ⟨f, cur, s1, c1, s2, c2, O, N, rfl, ((HD.out.o.mono (B' := w.heap.size + 1) (by omega)).kept k9).mono (by omega), ((HD.out.m.mono (B' := w.heap.size + 1) (by omega)).kept k9).mono (by omega), HD.out.okO, HD.out.okN, by omega, by omega, by omega, bc, bl_setCell (bl_setCell (bl_setCell bw (by simp) _) (by simp) _) (by simp) _⟩
    clear HD KR
    go_wp2_with fail
    exact bodyPost_ret (v := .tuple #[.agg #[.int .i64 f, .slice s1 O.length c1, .slice s2 N.length c2], .int .i64 cur]) (by simp [results, Try.results9, go_sem, z0, z1, z2]) rfl HFIN.out
  · have hn4 := HD.out.cu.lt
    have kb := Blk.new w4 #[.int .i64 (-5), .int .i64 0, .int .i64 9223372036854775807, .int .i64 (-9223372036854775808)] 3
    have HD : Hid (Dt n w1 (w4.alloc (.cells #[.int .i64 (-5), .int .i64 0, .int .i64 9223372036854775807, .int .i64 (-9223372036854775808)] 3)) sb f s1 c1 s2 c2 O N) := HD.out.alloc _
    clear bc
    go_wp2_with fail
    refine (l1PickInt_any n w4.heap.size 0 4 [-5, 0, 9223372036854775807, -9223372036854775808] _ HD.out.cu (ints_four kb) (by simp) (by simp) (by omega)).mono ?_
    rintro e w5 ⟨g, rfl, hg, hk5, hc5⟩
    have bc : -9223372036854775808 ≤ g ∧ g ≤ 9223372036854775807 := by simp at hg; omega
    have HD : Hid (Dt n w1 w5 sb f s1 c1 s2 c2 O N) := HD.out.call hk5 hc5
    clear hk5 hc5 kb hg
    have KR := KP.out.same (HD.out.kp.block hnr' hrl)
    obtain ⟨x0, x1, x2, x3⟩ := HD.out.k.three'
    obtain ⟨z0, z1, z2, z3⟩ := KR.three'
    have hsb : ¬ w.heap.size = sb := by have := HD.out.sw; omega
    have HFIN : Hid (DrawnU w (.returned (.tuple #[.agg #[.int .i64 f, .slice s1 O.length c1, .slice s2 N.length c2], .int .i64 g])) (((w5.setCell ⟨w.heap.size, 0, none⟩ (.int .i64 f)).setCell ⟨w.heap.size, 1, none⟩ (.slice s1 O.length c1)).setCell ⟨w.heap.size, 2, none⟩ (.slice s2 N.length c2))) := by
      have h1 := KR.lt
      have h2 := HD.out.sw
      have k9 := keptUnder h1 (.int .i64 f) (.slice s1 O.length c1) (.slice s2 N.length c2)
      have bw : Below w.heap.size w w5 := HD.out.kp.below BW.out (by omega)
      exact ⟨f, g, s1, c1, s2, c2, O, N, rfl, ((HD.out.o.mono (B' := w.heap.size + 1) (by omega)).kept k9).mono (by omega), ((HD.out.m.mono (B' := w.heap.size + 1) (by omega)).kept k9).mono (by omega), HD.out.okO, HD.out.okN, by omega, by omega, by omega, bc, bl_setCell (bl_setCell (bl_setCell bw (by simp) _) (by simp) _) (by simp) _⟩
    clear HD KR
    go_wp2_with fail
    exact bodyPost_ret (v := .tuple #[.agg #[.int .i64 f, .slice s1 O.length c1, .slice s2 N.length c2], .int .i64 g]) (by simp [results, Try.results9, go_sem, z0, z1, z2]) rfl HFIN.out
/-- FnLate answers true, whatever is drawn. -/
theorem late_any (sl : Option Addr) (len cap : Nat) (w : World) (hC : Code w sl len) :
    Calls Try.prog 3 #[.slice sl len cap] w fun e w' => e = .returned (.bool true) ∧ Below w.heap.size w w' := late_of sl len cap w hC (fun hl => drawUnread_any sl len cap w hl hC)
end Go.Proofs.Ytpfamdpgcbpiaaa
