import Derived.Test.YtigllpegaljkmaaDoorN22j
import Derived.Test.YtigllpegaljkmaaDoorSkj
import Derived.Deep.RegionHeld3
namespace Go.Proofs.YtigllpegaljkmaaDoor
open Go.RowKit
set_option linter.unusedVariables false
set_option linter.unusedSimpArgs false

/-- what DrawMeet leaves. -/
def DrawnM (w : World) (e : Ending) (w' : World) : Prop :=
  ∃ (x : Int) (s : Option Addr) (c : Nat) (L : List (Int × Int)) (wk a b : Int), e = .returned (.tuple #[.int .i64 x, .slice s L.length c, .int .i64 wk, .int .i64 a, .int .i64 b]) ∧ L.length ≤ 300 ∧ ERow w' w.heap.size (.slice s L.length c) L ∧ Below w.heap.size w w'
theorem DrawnM.mk {w w0 w' : World} {n : Nat} {x wk a b : Int} {s : Option Addr} {c : Nat} {L : List (Int × Int)} (h0 : Below w.heap.size w w0) (hn : w.heap.size ≤ n) (hE : Dge n w0 w' (.slice s L.length c) L) (hL : L.length ≤ 300) : DrawnM w (.returned (.tuple #[.int .i64 x, .slice s L.length c, .int .i64 wk, .int .i64 a, .int .i64 b])) w' :=
  ⟨x, s, c, L, wk, a, b, rfl, hL, hE.o.mono h0.size, hE.kp.below h0 hn⟩

set_option maxHeartbeats 8000000 in
theorem drawMeet_any (sl : Option Addr) (len cap : Nat) (w : World) (hl : len ≤ 1048576) (hC : Code w sl len) :
    Calls Tryd.prog 5 #[.slice sl len cap] w fun e w' => DrawnM w e w' := by
  go_enter Tryd.func5, Tryd.ntmps5
  go_wp2_with fail
  refine (l1New_any sl len cap _ hl hC).mono ?_
  rintro e w1 ⟨n, rfl, hn, hb, hc⟩
  have HB : Hid (Below w.heap.size w w1) := hb
  clear hb
  go_wp2_with fail
  refine (l14Some_any n 6 _ hc (by omega)).mono ?_
  rintro e w2 ⟨x, v, L, rfl, hx, hL, hD⟩
  obtain ⟨s, c, rfl⟩ := hD.slice
  have HD : Hid (Dge n w1 w2 (.slice s L.length c) L) := hD
  clear hD hc
  go_wp2_with fail
  refine (l18Workers_any n _ HD.out.cu).mono ?_
  rintro e w3 ⟨wk, rfl, hk3, hc3⟩
  have HD : Hid (Dge n w1 w3 (.slice s L.length c) L) := HD.out.call hk3 hc3
  clear hk3 hc3
  have tx1 : IntKind.i64.wrap (x + 1) = x + 1 := by rw [IntKind.wrap_i64]; omega
  have tx2 : IntKind.i64.wrap (x + 2) = x + 2 := by rw [IntKind.wrap_i64]; omega
  go_wp2_with fail
  refine (l1Below_any n (x + 1) _ HD.out.cu (by omega)).mono ?_
  rintro e w4 ⟨a, rfl, a0, a1, hk4, hc4⟩
  have HD : Hid (Dge n w1 w4 (.slice s L.length c) L) := HD.out.call hk4 hc4
  clear hk4 hc4
  go_wp2_with fail
  refine (l1Once_any n 5 _ HD.out.cu (by omega)).mono ?_
  rintro e w5 ⟨bb, rfl, hk5, hc5⟩
  have HD : Hid (Dge n w1 w5 (.slice s L.length c) L) := HD.out.call hk5 hc5
  clear hk5 hc5
  cases bb
  · clear tx1 tx2 a0 a1
    go_wp2_with fail
    refine (l1Below_any n 4 _ HD.out.cu (by omega)).mono ?_
    rintro e w6 ⟨x1, rfl, x10, x11, hk6, hc6⟩
    have HD : Hid (Dge n w1 w6 (.slice s L.length c) L) := HD.out.call hk6 hc6
    have hD0 := Dge.new HD.out.kp HD.out.cu HD.out.nw
    have HD : Hid (Dge n w1 (w6.alloc (.cells #[] 45)) (.slice (some ⟨w6.heap.size, 0, none⟩) 0 0) []) := hD0
    clear hk6 hc6 hD0
    have t3 : IntKind.i64.wrap (3 + x1) = 3 + x1 := by rw [IntKind.wrap_i64]; omega
    have t4 : IntKind.i64.wrap (3 + x1 - 1) = 3 + x1 - 1 := by rw [IntKind.wrap_i64]; omega
    go_wp2_with fail
    refine (l1Below_any n 5 _ HD.out.cu (by omega)).mono ?_
    rintro e w7 ⟨m, rfl, m0, m1, hk7, hc7⟩
    have HD : Hid (Dge n w1 w7 (.slice (some ⟨w6.heap.size, 0, none⟩) 0 0) []) := HD.out.call hk7 hc7
    clear hk7 hc7
    go_wp2_with fail
    go_loopw [9, 13] (fun ev iv wr => ∃ (k : Nat) (M : List (Int × Int)), (k : Int) ≤ m ∧ iv = .int .i64 k ∧ Hid (M.length = k) ∧ Hid (Dge n w1 wr ev M)) (fun _ iv _ => 6 - (intOf iv).toNat)
    case atStart => exact ⟨0, [], m0, rfl, rfl, HD⟩
    case round =>
      clear HD
      obtain ⟨k, M, hkm, rfl, hMk, HD⟩ := hrel
      obtain ⟨s2, c2, rfl⟩ := HD.out.slice
      have hM5 : M.length ≤ 5 := by have := hMk.out; omega
      by_cases hlt : (k : Int) < m
      · have d0 : decide ((k : Int) < m) = true := by simpa using hlt
        go_wp2_with fail
        refine (l1Below_any n (3 + x1 - 1) _ HD.out.cu (by omega)).mono ?_
        rintro e w8 ⟨b1, rfl, b10, b11, hk8, hc8⟩
        have HD : Hid (Dge n w1 w8 (.slice s2 M.length c2) M) := HD.out.call hk8 hc8
        clear hk8 hc8
        have t5 : IntKind.i64.wrap (b1 + 1) = b1 + 1 := by rw [IntKind.wrap_i64]; omega
        have t6 : IntKind.i64.wrap (3 + x1 - b1) = 3 + x1 - b1 := by rw [IntKind.wrap_i64]; omega
        have t7 : IntKind.i64.wrap (3 + x1 - b1 - 1) = 3 + x1 - b1 - 1 := by rw [IntKind.wrap_i64]; omega
        go_wp2_with fail
        refine (l1Below_any n (3 + x1 - b1 - 1) _ HD.out.cu (by omega)).mono ?_
        rintro e w9 ⟨r1, rfl, r10, r11, hk9, hc9⟩
        have HD : Hid (Dge n w1 w9 (.slice s2 M.length c2) M) := HD.out.call hk9 hc9
        clear hk9 hc9
        have t8 : IntKind.i64.wrap (b1 + 1 + r1) = b1 + 1 + r1 := by rw [IntKind.wrap_i64]; omega
        go_wp2_with (at_builtin; refine wpList_draw_edge HD.out b1 (b1 + 1 + r1) (by omega) rfl (.tmp 54) (.tmp 66) rfl rfl rfl ?_)
        intro v' w10 hD9
        obtain ⟨s', c', rfl⟩ := hD9.slice
        have HD : Hid (Dge n w1 w10 (.slice s' (M ++ [(b1, b1 + 1 + r1)]).length c') (M ++ [(b1, b1 + 1 + r1)])) := hD9
        clear hD9
        go_wp2_with fail
        go_roundw
        case rel => exact ⟨k + 1, M ++ [(b1, b1 + 1 + r1)], by omega, by go_num, by show _ = _; simp [hMk.out], HD⟩
        case measure => simp [intOf]; omega
      · have d0 : decide ((k : Int) < m) = false := by simpa using hlt
        go_wp2_with fail
        refine (l1Below_any n (3 + x1) _ HD.out.cu (by omega)).mono ?_
        rintro e w8 ⟨a, rfl, a0, a1, hk8, hc8⟩
        have HD : Hid (Dge n w1 w8 (.slice s2 M.length c2) M) := HD.out.call hk8 hc8
        clear hk8 hc8
        have ta : IntKind.i64.wrap (a + 1) = a + 1 := by rw [IntKind.wrap_i64]; omega
        go_wp2_with fail
        refine wp_region_held_drew (S := fun _ => True) (by kernel_rfl) trivial (fun hHeld => ?_)
        have HD : Hid (Dge n w1 w8.drew (.slice s2 M.length c2) M) := HD.out.drew
        refine wpAnyH_one (i := 0) (d := 71) (v := ?_) rfl rfl (by kernel_rfl) (by kernel_rfl) (by kernel_rfl) (fun _ _ _ h => h) (by rfl) (by assumption) ?_ ?_
        rotate_left 1
        · intro w hSw; clear hSw; go_simp <;> with_reducible rfl
        simp only [List.foldl, Act.put, List.setIfInBounds_toArray, List.set_cons_zero, List.set_cons_succ]
        refine wpAnyH_one (i := 1) (d := 72) (v := ?_) rfl rfl (by kernel_rfl) (by kernel_rfl) (by kernel_rfl) (fun _ _ _ h => h) (by rfl) (by assumption) ?_ ?_
        rotate_left 1
        · intro w hSw; clear hSw; go_simp <;> with_reducible rfl
        simp only [List.foldl, Act.put, List.setIfInBounds_toArray, List.set_cons_zero, List.set_cons_succ]
        refine wpAnyH_one (i := 2) (d := 73) (v := ?_) rfl rfl (by kernel_rfl) (by kernel_rfl) (by kernel_rfl) (fun _ _ _ h => h) (by rfl) (by assumption) ?_ ?_
        rotate_left 1
        · intro w hSw; clear hSw; go_simp <;> with_reducible rfl
        simp only [List.foldl, Act.put, List.setIfInBounds_toArray, List.set_cons_zero, List.set_cons_succ]
        refine wpAnyH_one (i := 5) (d := 76) (v := ?_) rfl rfl (by kernel_rfl) (by kernel_rfl) (by kernel_rfl) (fun _ _ _ h => h) (by rfl) (by assumption) ?_ ?_
        rotate_left 1
        · intro w hSw; clear hSw; go_simp <;> with_reducible rfl
        simp only [List.foldl, Act.put, List.setIfInBounds_toArray, List.set_cons_zero, List.set_cons_succ]
        refine wpAnyH_one (i := 6) (d := 77) (v := ?_) rfl rfl (by kernel_rfl) (by kernel_rfl) (by kernel_rfl) (fun _ _ _ h => h) (by rfl) (by assumption) ?_ ?_
        rotate_left 1
        · intro w hSw; clear hSw; go_simp <;> with_reducible rfl
        simp only [List.foldl, Act.put, List.setIfInBounds_toArray, List.set_cons_zero, List.set_cons_succ]
        refine wpAnyH_one (i := 7) (d := 78) (v := ?_) rfl rfl (by kernel_rfl) (by kernel_rfl) (by kernel_rfl) (fun _ _ _ h => h) (by rfl) (by assumption) ?_ ?_
        rotate_left 1
        · intro w hSw; clear hSw; go_simp <;> with_reducible rfl
        simp only [List.foldl, Act.put, List.setIfInBounds_toArray, List.set_cons_zero, List.set_cons_succ]
        refine wpAnyH_one (i := 8) (d := 79) (v := ?_) rfl rfl (by kernel_rfl) (by kernel_rfl) (by kernel_rfl) (fun _ _ _ h => h) (by rfl) (by assumption) ?_ ?_
        rotate_left 1
        · intro w hSw; clear hSw; go_simp <;> with_reducible rfl
        simp only [List.foldl, Act.put, List.setIfInBounds_toArray, List.set_cons_zero, List.set_cons_succ]
        refine wpAnyH_one (i := 9) (d := 80) (v := ?_) rfl rfl (by kernel_rfl) (by kernel_rfl) (by kernel_rfl) (fun _ _ _ h => h) (by rfl) (by assumption) ?_ ?_
        rotate_left 1
        · intro w hSw; clear hSw; go_simp <;> with_reducible rfl
        simp only [List.foldl, Act.put, List.setIfInBounds_toArray, List.set_cons_zero, List.set_cons_succ]
        refine wpAnyH_one (i := 10) (d := 81) (v := ?_) rfl rfl (by kernel_rfl) (by kernel_rfl) (by kernel_rfl) (fun _ _ _ h => h) (by rfl) (by assumption) ?_ ?_
        rotate_left 1
        · intro w hSw; clear hSw; go_simp <;> with_reducible rfl
        simp only [List.foldl, Act.put, List.setIfInBounds_toArray, List.set_cons_zero, List.set_cons_succ]
        refine wpAnyH_one (i := 13) (d := 84) (v := ?_) rfl rfl (by kernel_rfl) (by kernel_rfl) (by kernel_rfl) (fun _ _ _ h => h) (by rfl) (by assumption) ?_ ?_
        rotate_left 1
        · intro w hSw; clear hSw; go_simp <;> with_reducible rfl
        simp only [List.foldl, Act.put, List.setIfInBounds_toArray, List.set_cons_zero, List.set_cons_succ]
        refine wpAnyH_ready (rs := [3]) (by kernel_rfl) (by simp) ?_
        refine AllReadyH.cons rfl (fun K hK => ?_) AllReadyH.nil
        go_simp
        refine (l1Below_any n 4 _ HD.out.cu (by omega)).mono ?_
        rintro z w9 ⟨r2, rfl, r20, r21, hk9, hc9⟩
        have HD : Hid (Dge n w1 w9 (.slice s2 M.length c2) M) := HD.out.call hk9 hc9
        have tr2 : IntKind.i64.wrap (2 + r2) = 2 + r2 := by rw [IntKind.wrap_i64]; omega
        clear hk9 hc9
        refine hK.out _ _ trivial (fun hHeld => ?_)
        clear hK K
        try simp only [List.foldl, Act.put, List.setIfInBounds_toArray, List.set_cons_zero, List.set_cons_succ]
        refine wpAnyH_one (i := 4) (d := 75) (v := ?_) rfl rfl (by kernel_rfl) (by kernel_rfl) (by kernel_rfl) (fun _ _ _ h => h) (by rfl) (by assumption) ?_ ?_
        rotate_left 1
        · intro w hSw; clear hSw; go_simp <;> with_reducible rfl
        simp only [List.foldl, Act.put, List.setIfInBounds_toArray, List.set_cons_zero, List.set_cons_succ]
        refine wpAnyH_ready (rs := [11]) (by kernel_rfl) (by simp) ?_
        refine AllReadyH.cons rfl (fun K hK => ?_) AllReadyH.nil
        go_simp
        refine (l1Below_any n ((3 : Int) + x1 - 1) _ HD.out.cu (by omega)).mono ?_
        rintro z w10 ⟨r3, rfl, r30, r31, hk10, hc10⟩
        have HD : Hid (Dge n w1 w10 (.slice s2 M.length c2) M) := HD.out.call hk10 hc10
        have tr3 : IntKind.i64.wrap (a + 1 + r3) = a + 1 + r3 := by rw [IntKind.wrap_i64]; omega
        have tr4 : ¬ (3 : Int) + x1 = 0 := by omega
        have tr6 : IntKind.i64.wrap ((a + 1 + r3).tmod (3 + x1)) = (a + 1 + r3).tmod (3 + x1) := by rw [IntKind.wrap_i64]; have h1 := Int.tmod_nonneg (3 + x1) (show 0 ≤ a + 1 + r3 by omega); have h2 := Int.tmod_lt_of_pos (a + 1 + r3) (show 0 < 3 + x1 by omega); omega
        clear hk10 hc10
        refine hK.out _ _ trivial (fun hHeld => ?_)
        clear hK K
        try simp only [List.foldl, Act.put, List.setIfInBounds_toArray, List.set_cons_zero, List.set_cons_succ]
        refine wpAnyH_one (i := 12) (d := 83) (v := ?_) rfl rfl (by kernel_rfl) (by kernel_rfl) (by kernel_rfl) (fun _ _ _ h => h) (by rfl) (by assumption) ?_ ?_
        rotate_left 1
        · intro w hSw; clear hSw; go_simp <;> with_reducible rfl
        simp only [List.foldl, Act.put, List.setIfInBounds_toArray, List.set_cons_zero, List.set_cons_succ]
        refine wpAnyH_one (i := 14) (d := 85) (v := ?_) rfl rfl (by kernel_rfl) (by kernel_rfl) (by kernel_rfl) (fun _ _ _ h => h) (by rfl) (by assumption) ?_ ?_
        rotate_left 1
        · intro w hSw; clear hSw; go_simp <;> with_reducible rfl
        simp only [List.foldl, Act.put, List.setIfInBounds_toArray, List.set_cons_zero, List.set_cons_succ]
        refine wpAnyH_one (i := 15) (d := 2) (v := ?_) rfl rfl (by kernel_rfl) (by kernel_rfl) (by kernel_rfl) (fun _ _ _ h => h) (by rfl) (by assumption) ?_ ?_
        rotate_left 1
        · intro w hSw; clear hSw; go_simp <;> with_reducible rfl
        simp only [List.foldl, Act.put, List.setIfInBounds_toArray, List.set_cons_zero, List.set_cons_succ]
        refine wpAnyH_one (i := 16) (d := 3) (v := ?_) rfl rfl (by kernel_rfl) (by kernel_rfl) (by kernel_rfl) (fun _ _ _ h => h) (by rfl) (by assumption) ?_ ?_
        rotate_left 1
        · intro w hSw; clear hSw; go_simp <;> with_reducible rfl
        simp only [List.foldl, Act.put, List.setIfInBounds_toArray, List.set_cons_zero, List.set_cons_succ]
        refine wpAnyH_one (i := 17) (d := 4) (v := ?_) rfl rfl (by kernel_rfl) (by kernel_rfl) (by kernel_rfl) (fun _ _ _ h => h) (by rfl) (by assumption) ?_ ?_
        rotate_left 1
        · intro w hSw; clear hSw; go_simp <;> with_reducible rfl
        simp only [List.foldl, Act.put, List.setIfInBounds_toArray, List.set_cons_zero, List.set_cons_succ]
        refine wpAnyH_one (i := 18) (d := 5) (v := ?_) rfl rfl (by kernel_rfl) (by kernel_rfl) (by kernel_rfl) (fun _ _ _ h => h) (by rfl) (by assumption) ?_ ?_
        rotate_left 1
        · intro w hSw; clear hSw; go_simp <;> with_reducible rfl
        simp only [List.foldl, Act.put, List.setIfInBounds_toArray, List.set_cons_zero, List.set_cons_succ]
        refine wpAnyH_one (i := 19) (d := 6) (v := ?_) rfl rfl (by kernel_rfl) (by kernel_rfl) (by kernel_rfl) (fun _ _ _ h => h) (by rfl) (by assumption) ?_ ?_
        rotate_left 1
        · intro w hSw; clear hSw; go_simp <;> with_reducible rfl
        simp only [List.foldl, Act.put, List.setIfInBounds_toArray, List.set_cons_zero, List.set_cons_succ]
        refine wpAnyH_done (by kernel_rfl) ?_ _
        go_wp2_with fail
        exact bodyPost_ret (v := .tuple #[.int .i64 (3 + x1), .slice s2 M.length c2, .int .i64 (2 + r2), .int .i64 a, .int .i64 ((a + 1 + r3).tmod (3 + x1))]) (by simp [results, Tryd.results5]) rfl (DrawnM.mk HB.out hn HD.out (by omega))
  · go_wp2_with fail
    refine (l1Below_any n (x + 2) _ HD.out.cu (by omega)).mono ?_
    rintro e w6 ⟨r, rfl, r0, r1, hk6, hc6⟩
    have HD : Hid (Dge n w1 w6 (.slice s L.length c) L) := HD.out.call hk6 hc6
    have tr : IntKind.i64.wrap (r - 1) = r - 1 := by rw [IntKind.wrap_i64]; omega
    go_wp2_with fail
    exact bodyPost_ret (v := .tuple #[.int .i64 x, .slice s L.length c, .int .i64 wk, .int .i64 a, .int .i64 (r - 1)]) (by simp [results, Tryd.results5]) rfl (DrawnM.mk HB.out hn HD.out hL)
end Go.Proofs.YtigllpegaljkmaaDoor
