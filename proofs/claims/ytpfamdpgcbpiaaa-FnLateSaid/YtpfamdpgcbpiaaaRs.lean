import Derived.Test.YtpfamdpgcbpiaaaRr
import Derived.Test.YtpfamdpgcbpiaaaSk
namespace Go.Proofs.Ytpfamdpgcbpiaaa
open Go.RowKit
set_option linter.unusedVariables false
set_option linter.unusedSimpArgs false

theorem ov_one1 {w : World} {b : Nat} {v : V4} (h : Blk w b #[.int .i64 v.1, .int .i64 v.2.1, .float .f64 v.2.2.1, .float .f64 v.2.2.2] 64) : OV w b (.slice (some ⟨b, 0, none⟩) 1 1) [v] :=
  ⟨rfl, Or.inr ⟨b, 1, _, rfl, Nat.le_refl _, h, Nat.le_refl _, by unfold maxLen; omega, rfl, rfl⟩⟩
/-- a drawn stream. -/
def DrawnS (n : Nat) (w : World) (e : Ending) (w' : World) : Prop :=
  ∃ (f : Int) (s1 : Option Addr) (c1 : Nat) (s2 : Option Addr) (c2 : Nat) (O N : List V4), e = .returned (.agg #[.int .i64 f, .slice s1 O.length c1, .slice s2 N.length c2]) ∧ OV w' w.heap.size (.slice s1 O.length c1) O ∧ OV w' w.heap.size (.slice s2 N.length c2) N ∧ Ap (.slice s1 O.length c1) (.slice s2 N.length c2) ∧ (∀ v ∈ O, okV v) ∧ (∀ v ∈ N, okV v) ∧ O.length ≤ 10 ∧ N.length ≤ 300 ∧ (0 ≤ f ∧ f ≤ 1000000000000) ∧ Keep n w w' ∧ Cur n w'

theorem ints_seven {w : World} {pb : Nat} {a b c d e f g : Int} (h : Blk w pb #[.int .i64 a, .int .i64 b, .int .i64 c, .int .i64 d, .int .i64 e, .int .i64 f, .int .i64 g] 3) : Ints w (some ⟨pb, 0, none⟩) [a, b, c, d, e, f, g] := by
  right
  refine ⟨pb, 0, rfl, h.lt, fun j hj => ?_⟩
  match j, hj with
  | 0, _ => exact h.cell 0
  | 1, _ => exact h.cell 1
  | 2, _ => exact h.cell 2
  | 3, _ => exact h.cell 3
  | 4, _ => exact h.cell 4
  | 5, _ => exact h.cell 5
  | 6, _ => exact h.cell 6

set_option maxRecDepth 100000 in
set_option maxHeartbeats 8000000 in
theorem l6Stream_any (n : Nat) (k : Int) (w : World) (hC : Cur n w) :
    Calls Try.prog 45 #[.pointer (some ⟨n, 0, none⟩), .int .i64 k] w fun e w' => DrawnS n w e w' := by
  have hal := alloc_old
  have haf := alloc_oldf
  have hl := hC.lt
  have k0 := Blk.new w #[.int .i64 0, .slice none 0 0, .slice none 0 0] 26
  have k1 := Blk.new' (w.alloc (.cells #[.int .i64 0, .slice none 0 0, .slice none 0 0] 26)) #[.int .i64 0, .int .i64 0, .int .i64 3, .int .i64 17, .int .i64 1000, .int .i64 1000000000000, .int .i64 999999999999] 3 (n := w.heap.size + 1) (by simp)
  have C1 := (hC.alloc (.cells #[.int .i64 0, .slice none 0 0, .slice none 0 0] 26)).alloc (.cells #[.int .i64 0, .int .i64 0, .int .i64 3, .int .i64 17, .int .i64 1000, .int .i64 1000000000000, .int .i64 999999999999] 3)
  have P1 := ((Keep.refl n w).alloc (Nat.le_of_lt hl) (.cells #[.int .i64 0, .slice none 0 0, .slice none 0 0] 26)).alloc (by simp; omega) (.cells #[.int .i64 0, .int .i64 0, .int .i64 3, .int .i64 17, .int .i64 1000, .int .i64 1000000000000, .int .i64 999999999999] 3)
  have k0' := k0.alloc (.cells #[.int .i64 0, .int .i64 0, .int .i64 3, .int .i64 17, .int .i64 1000, .int .i64 1000000000000, .int .i64 999999999999] 3)
  go_enter Try.func45, Try.ntmps45
  go_wp2_with fail
  refine (l1PickInt_any n (w.heap.size + 1) 0 7 [0, 0, 3, 17, 1000, 1000000000000, 999999999999] _ C1 (ints_seven k1) (by simp) (by simp) (by omega)).mono ?_
  rintro e w1 ⟨f, rfl, hf, hk, hc⟩
  have bf : 0 ≤ f ∧ f ≤ 1000000000000 := by simp at hf; omega
  generalize hP : (w.alloc (.cells #[.int .i64 0, .slice none 0 0, .slice none 0 0] 26)).alloc (.cells #[.int .i64 0, .int .i64 0, .int .i64 3, .int .i64 17, .int .i64 1000, .int .i64 1000000000000, .int .i64 999999999999] 3) = W at *
  have KP : Hid (Blk W w.heap.size #[.int .i64 0, .slice none 0 0, .slice none 0 0] 26) := k0'
  have PW : Hid (Keep n w W) := P1
  have hrl : w.heap.size < W.heap.size := k0'.lt
  have hnr : ¬ w.heap.size = n := by omega
  have hnW := C1.lt
  have sKW := hk.1.size
  have HD : Hid (Ds n W (w1.alloc (.cells #[.int .i64 f, .slice none 0 0, .slice none 0 0] 26)) w1.heap.size f none 0 none 0 [] []) :=
    ⟨hk.alloc (Nat.le_of_lt hc.lt) _, hc.alloc _, hnW, sKW, Blk.new _ _ _, World.ownsRow_nil _ _ _ _, World.ownsRow_nil _ _ _ _, fun q e => by simp [Value.ownBlock] at e, fun v hv => by simp at hv, fun v hv => by simp at hv⟩
  clear hP k0 k1 k0' C1 P1 hk hf hC
  go_wp2_with fail
  generalize hX : w1.alloc (.cells #[.int .i64 f, .slice none 0 0, .slice none 0 0] 26) = X at HD ⊢
  generalize hSb : w1.heap.size = sb at HD ⊢
  clear hX hSb hc sKW w1
  refine (l1Below_any n 5 _ HD.out.cu (by omega)).mono ?_
  rintro e w2 ⟨r, rfl, r0, r1, hk2, hc2⟩
  have HD : Hid (Ds n W w2 sb f none 0 none 0 [] []) := HD.out.call hk2 hc2
  clear hk2 hc2
  have r5 : r < 5 := by omega
  go_wp2_with fail
  go_loopw [7] (fun iv wr => ∃ (q : Nat) (s1 : Option Addr) (c1 : Nat) (O : List V4), (q : Int) ≤ r ∧ O.length ≤ q ∧ iv = .int .i64 q ∧ Hid (Ds n W wr sb f s1 c1 none 0 O [])) (fun iv _ => 300 - (intOf iv).toNat)
  case atStart => exact ⟨0, none, 0, [], by omega, by simp, rfl, HD⟩
  case round =>
    clear HD
    obtain ⟨q, s1, c1, O, hq, lOq, rfl, HD⟩ := hrel
    by_cases hlt : (q : Int) < r
    · go_wp2_with fail
      refine wp_region_held_drew (S := fun _ => True) (by kernel_rfl) trivial (fun hHeld => ?_)
      refine wpAnyH_one (i := 0) (d := 21) (v := ?_) rfl rfl (by kernel_rfl) (by kernel_rfl) (by kernel_rfl) (fun _ _ _ h => h) (by rfl) (by assumption) ?_ ?_
      rotate_left 1
      · intro w hSw; go_simp <;> with_reducible rfl
      simp only [List.foldl, Act.put, List.setIfInBounds_toArray, List.set_cons_zero, List.set_cons_succ]
      refine wpAnyH_one (i := 2) (d := 23) (v := ?_) rfl rfl (by kernel_rfl) (by kernel_rfl) (by kernel_rfl) (fun _ _ _ h => h) (by rfl) (by assumption) ?_ ?_
      rotate_left 1
      · intro w hSw; go_simp <;> with_reducible rfl
      simp only [List.foldl, Act.put, List.setIfInBounds_toArray, List.set_cons_zero, List.set_cons_succ]
      refine wpAnyH_one (i := 3) (d := 24) (v := ?_) rfl rfl (by kernel_rfl) (by kernel_rfl) (by kernel_rfl) (fun _ _ _ h => h) (by rfl) (by assumption) ?_ ?_
      rotate_left 1
      · intro w hSw; go_simp <;> with_reducible rfl
      simp only [List.foldl, Act.put, List.setIfInBounds_toArray, List.set_cons_zero, List.set_cons_succ]
      refine wpAnyH_ready (rs := [1, 4]) (by kernel_rfl) (by simp) ?_
      refine AllReadyH.cons rfl (fun K hK => ?_) ?_
      · skip
        obtain ⟨x0, x1, x2, x3⟩ := HD.out.k.three'
        go_simp
        clear x0 x1 x2 x3
        refine hK.out _ _ trivial (fun hHeld => ?_)
        clear hK K
        try simp only [List.foldl, Act.put, List.setIfInBounds_toArray, List.set_cons_zero, List.set_cons_succ]
        have HD := HD.out.drew
        have HD : Hid (Ds n W wr.drew sb f s1 c1 none 0 O []) := HD
        refine wpAnyH_ready (rs := [4]) (by kernel_rfl) (by simp) ?_
        refine AllReadyH.cons rfl (fun K hK => ?_) AllReadyH.nil
        go_simp
        refine (l1Val_any n k _ HD.out.cu).mono ?_
        rintro e wa6 ⟨i, x, y, rfl, bi, bx, by_, hk, hc⟩
        have HD : Hid (Ds n W wa6 sb f s1 c1 none 0 O []) := HD.out.call hk hc
        have OKX : Hid (okV (k, i, x, y)) := ⟨bi, bx, by_⟩
        clear hk hc
        refine hK.out _ _ trivial (fun hHeld => ?_)
        clear hK K
        try simp only [List.foldl, Act.put, List.setIfInBounds_toArray, List.set_cons_zero, List.set_cons_succ]
        refine wpAnyH_ready (rs := [5]) (by kernel_rfl) (by simp) ?_
        refine AllReadyH.cons rfl (fun K hK => ?_) AllReadyH.nil
        go_simp
        have HD : Hid (Ds n W (wa6.alloc (.cells #[.int .i64 k, .int .i64 i, .float .f64 x, .float .f64 y] 64)) sb f s1 c1 none 0 O []) := HD.out.alloc _
        have BT : Hid (Blk (wa6.alloc (.cells #[.int .i64 k, .int .i64 i, .float .f64 x, .float .f64 y] 64)) wa6.heap.size #[.int .i64 k, .int .i64 i, .float .f64 x, .float .f64 y] 64) := Blk.new _ _ _
        refine hK.out _ _ trivial (fun hHeld => ?_)
        clear hK K
        try simp only [List.foldl, Act.put, List.setIfInBounds_toArray, List.set_cons_zero, List.set_cons_succ]
        generalize hGe : wa6.alloc (.cells #[.int .i64 k, .int .i64 i, .float .f64 x, .float .f64 y] 64) = wb7 at HD BT ⊢
        generalize hTb : wa6.heap.size = tb at BT ⊢
        clear hGe hTb
        refine wpAnyH_ready (rs := [6]) (by kernel_rfl) (by simp) ?_
        refine AllReadyH.cons rfl (fun K hK => ?_) AllReadyH.nil
        refine step_append_near rfl (.tmp 22) (.tmp 26) rfl (sb + 1) s1 c1 O rfl HD.out.o _ (some ⟨tb, 0, none⟩) 1 [(k, i, x, y)] rfl (ov_one1 (v := (k, i, x, y)) BT.out) (fun v hv => by simp at hv; subst hv; exact OKX.out) (O ++ [(k, i, x, y)]) rfl (by simp; omega) HD.out.k.lt ?_
        intro s' c' Y hO hgr hnr
        have HE : Hid (Ds n W (Y.setCell ⟨sb, 1, none⟩ (.slice s' (O ++ [(k, i, x, y)]).length c')) sb f s' c' none 0 (O ++ [(k, i, x, y)]) []) := HD.out.old hO hgr hnr (fun v hv => (List.mem_append.1 hv).elim (HD.out.okO v) (fun e => by simp at e; subst e; exact OKX.out))
        obtain ⟨x0, x1, x2, x3⟩ := (HD.out.k.kept' hgr (fun e => by have := (HD.out.o.lt _ e).1; omega)).three'
        clear hO hgr hnr HD BT
        refine hK.out _ _ trivial (fun hHeld => ?_)
        clear hK K
        try simp only [List.foldl, Act.put, List.setIfInBounds_toArray, List.set_cons_zero, List.set_cons_succ]
        refine wpAnyH_one (i := 7) (d := 28) (v := ?_) rfl rfl (by kernel_rfl) (by kernel_rfl) (by kernel_rfl) (fun _ _ _ h => h) (by rfl) (by assumption) ?_ ?_
        rotate_left 1
        · intro w hSw; go_simp <;> with_reducible rfl
        simp only [List.foldl, Act.put, List.setIfInBounds_toArray, List.set_cons_zero, List.set_cons_succ]
        refine wpAnyH_ready (rs := [8]) (by kernel_rfl) (by simp) ?_
        refine AllReadyH.cons rfl (fun K hK => ?_) AllReadyH.nil
        go_simp
        clear x0 x1 x2 x3
        refine hK.out _ _ trivial (fun hHeld => ?_)
        clear hK K
        try simp only [List.foldl, Act.put, List.setIfInBounds_toArray, List.set_cons_zero, List.set_cons_succ]
        refine wpAnyH_done (by kernel_rfl) ?_ _
        go_wp2_with fail
        go_roundw
        case rel => exact ⟨q + 1, s', c', O ++ [(k, i, x, y)], by omega, by simp; omega, by go_num, (by rw [show (O ++ [(k, i, x, y)]).length = O.length + 1 by simp] at HE; exact HE)⟩
        case measure => simp [intOf]; omega
      refine AllReadyH.cons rfl (fun K hK => ?_) AllReadyH.nil
      go_simp
      refine (l1Val_any n k _ HD.out.cu.drew).mono ?_
      rintro e wa8 ⟨i, x, y, rfl, bi, bx, by_, hk, hc⟩
      have HD : Hid (Ds n W wa8 sb f s1 c1 none 0 O []) := HD.out.drew.call hk hc
      have OKX : Hid (okV (k, i, x, y)) := ⟨bi, bx, by_⟩
      clear hk hc
      refine hK.out _ _ trivial (fun hHeld => ?_)
      clear hK K
      try simp only [List.foldl, Act.put, List.setIfInBounds_toArray, List.set_cons_zero, List.set_cons_succ]
      refine wpAnyH_ready (rs := [1, 5]) (by kernel_rfl) (by simp) ?_
      refine AllReadyH.cons rfl (fun K hK => ?_) ?_
      · skip
        obtain ⟨x0, x1, x2, x3⟩ := HD.out.k.three'
        go_simp
        clear x0 x1 x2 x3
        refine hK.out _ _ trivial (fun hHeld => ?_)
        clear hK K
        try simp only [List.foldl, Act.put, List.setIfInBounds_toArray, List.set_cons_zero, List.set_cons_succ]
        refine wpAnyH_ready (rs := [5]) (by kernel_rfl) (by simp) ?_
        refine AllReadyH.cons rfl (fun K hK => ?_) AllReadyH.nil
        go_simp
        have HD : Hid (Ds n W (wa8.alloc (.cells #[.int .i64 k, .int .i64 i, .float .f64 x, .float .f64 y] 64)) sb f s1 c1 none 0 O []) := HD.out.alloc _
        have BT : Hid (Blk (wa8.alloc (.cells #[.int .i64 k, .int .i64 i, .float .f64 x, .float .f64 y] 64)) wa8.heap.size #[.int .i64 k, .int .i64 i, .float .f64 x, .float .f64 y] 64) := Blk.new _ _ _
        refine hK.out _ _ trivial (fun hHeld => ?_)
        clear hK K
        try simp only [List.foldl, Act.put, List.setIfInBounds_toArray, List.set_cons_zero, List.set_cons_succ]
        generalize hGe : wa8.alloc (.cells #[.int .i64 k, .int .i64 i, .float .f64 x, .float .f64 y] 64) = wb9 at HD BT ⊢
        generalize hTb : wa8.heap.size = tb at BT ⊢
        clear hGe hTb
        refine wpAnyH_ready (rs := [6]) (by kernel_rfl) (by simp) ?_
        refine AllReadyH.cons rfl (fun K hK => ?_) AllReadyH.nil
        refine step_append_near rfl (.tmp 22) (.tmp 26) rfl (sb + 1) s1 c1 O rfl HD.out.o _ (some ⟨tb, 0, none⟩) 1 [(k, i, x, y)] rfl (ov_one1 (v := (k, i, x, y)) BT.out) (fun v hv => by simp at hv; subst hv; exact OKX.out) (O ++ [(k, i, x, y)]) rfl (by simp; omega) HD.out.k.lt ?_
        intro s' c' Y hO hgr hnr
        have HE : Hid (Ds n W (Y.setCell ⟨sb, 1, none⟩ (.slice s' (O ++ [(k, i, x, y)]).length c')) sb f s' c' none 0 (O ++ [(k, i, x, y)]) []) := HD.out.old hO hgr hnr (fun v hv => (List.mem_append.1 hv).elim (HD.out.okO v) (fun e => by simp at e; subst e; exact OKX.out))
        obtain ⟨x0, x1, x2, x3⟩ := (HD.out.k.kept' hgr (fun e => by have := (HD.out.o.lt _ e).1; omega)).three'
        clear hO hgr hnr HD BT
        refine hK.out _ _ trivial (fun hHeld => ?_)
        clear hK K
        try simp only [List.foldl, Act.put, List.setIfInBounds_toArray, List.set_cons_zero, List.set_cons_succ]
        refine wpAnyH_one (i := 7) (d := 28) (v := ?_) rfl rfl (by kernel_rfl) (by kernel_rfl) (by kernel_rfl) (fun _ _ _ h => h) (by rfl) (by assumption) ?_ ?_
        rotate_left 1
        · intro w hSw; go_simp <;> with_reducible rfl
        simp only [List.foldl, Act.put, List.setIfInBounds_toArray, List.set_cons_zero, List.set_cons_succ]
        refine wpAnyH_ready (rs := [8]) (by kernel_rfl) (by simp) ?_
        refine AllReadyH.cons rfl (fun K hK => ?_) AllReadyH.nil
        go_simp
        clear x0 x1 x2 x3
        refine hK.out _ _ trivial (fun hHeld => ?_)
        clear hK K
        try simp only [List.foldl, Act.put, List.setIfInBounds_toArray, List.set_cons_zero, List.set_cons_succ]
        refine wpAnyH_done (by kernel_rfl) ?_ _
        go_wp2_with fail
        go_roundw
        case rel => exact ⟨q + 1, s', c', O ++ [(k, i, x, y)], by omega, by simp; omega, by go_num, (by rw [show (O ++ [(k, i, x, y)]).length = O.length + 1 by simp] at HE; exact HE)⟩
        case measure => simp [intOf]; omega
      refine AllReadyH.cons rfl (fun K hK => ?_) AllReadyH.nil
      go_simp
      have HD : Hid (Ds n W (wa8.alloc (.cells #[.int .i64 k, .int .i64 i, .float .f64 x, .float .f64 y] 64)) sb f s1 c1 none 0 O []) := HD.out.alloc _
      have BT : Hid (Blk (wa8.alloc (.cells #[.int .i64 k, .int .i64 i, .float .f64 x, .float .f64 y] 64)) wa8.heap.size #[.int .i64 k, .int .i64 i, .float .f64 x, .float .f64 y] 64) := Blk.new _ _ _
      refine hK.out _ _ trivial (fun hHeld => ?_)
      clear hK K
      try simp only [List.foldl, Act.put, List.setIfInBounds_toArray, List.set_cons_zero, List.set_cons_succ]
      generalize hGe : wa8.alloc (.cells #[.int .i64 k, .int .i64 i, .float .f64 x, .float .f64 y] 64) = wb10 at HD BT ⊢
      generalize hTb : wa8.heap.size = tb at BT ⊢
      clear hGe hTb
      refine wpAnyH_ready (rs := [1]) (by kernel_rfl) (by simp) ?_
      refine AllReadyH.cons rfl (fun K hK => ?_) AllReadyH.nil
      obtain ⟨x0, x1, x2, x3⟩ := HD.out.k.three'
      go_simp
      clear x0 x1 x2 x3
      refine hK.out _ _ trivial (fun hHeld => ?_)
      clear hK K
      try simp only [List.foldl, Act.put, List.setIfInBounds_toArray, List.set_cons_zero, List.set_cons_succ]
      refine wpAnyH_ready (rs := [6]) (by kernel_rfl) (by simp) ?_
      refine AllReadyH.cons rfl (fun K hK => ?_) AllReadyH.nil
      refine step_append_near rfl (.tmp 22) (.tmp 26) rfl (sb + 1) s1 c1 O rfl HD.out.o _ (some ⟨tb, 0, none⟩) 1 [(k, i, x, y)] rfl (ov_one1 (v := (k, i, x, y)) BT.out) (fun v hv => by simp at hv; subst hv; exact OKX.out) (O ++ [(k, i, x, y)]) rfl (by simp; omega) HD.out.k.lt ?_
      intro s' c' Y hO hgr hnr
      have HE : Hid (Ds n W (Y.setCell ⟨sb, 1, none⟩ (.slice s' (O ++ [(k, i, x, y)]).length c')) sb f s' c' none 0 (O ++ [(k, i, x, y)]) []) := HD.out.old hO hgr hnr (fun v hv => (List.mem_append.1 hv).elim (HD.out.okO v) (fun e => by simp at e; subst e; exact OKX.out))
      obtain ⟨x0, x1, x2, x3⟩ := (HD.out.k.kept' hgr (fun e => by have := (HD.out.o.lt _ e).1; omega)).three'
      clear hO hgr hnr HD BT
      refine hK.out _ _ trivial (fun hHeld => ?_)
      clear hK K
      try simp only [List.foldl, Act.put, List.setIfInBounds_toArray, List.set_cons_zero, List.set_cons_succ]
      refine wpAnyH_one (i := 7) (d := 28) (v := ?_) rfl rfl (by kernel_rfl) (by kernel_rfl) (by kernel_rfl) (fun _ _ _ h => h) (by rfl) (by assumption) ?_ ?_
      rotate_left 1
      · intro w hSw; go_simp <;> with_reducible rfl
      simp only [List.foldl, Act.put, List.setIfInBounds_toArray, List.set_cons_zero, List.set_cons_succ]
      refine wpAnyH_ready (rs := [8]) (by kernel_rfl) (by simp) ?_
      refine AllReadyH.cons rfl (fun K hK => ?_) AllReadyH.nil
      go_simp
      clear x0 x1 x2 x3
      refine hK.out _ _ trivial (fun hHeld => ?_)
      clear hK K
      try simp only [List.foldl, Act.put, List.setIfInBounds_toArray, List.set_cons_zero, List.set_cons_succ]
      refine wpAnyH_done (by kernel_rfl) ?_ _
      go_wp2_with fail
      go_roundw
      case rel => exact ⟨q + 1, s', c', O ++ [(k, i, x, y)], by omega, by simp; omega, by go_num, (by rw [show (O ++ [(k, i, x, y)]).length = O.length + 1 by simp] at HE; exact HE)⟩
      case measure => simp [intOf]; omega
    · have lO : O.length ≤ 10 := by omega
      go_wp2_with fail
      refine (l1Below_any n 5 _ HD.out.cu (by omega)).mono ?_
      rintro e w3 ⟨m, rfl, m0, m1, hk3, hc3⟩
      have HD : Hid (Ds n W w3 sb f s1 c1 none 0 O []) := HD.out.call hk3 hc3
      clear hk3 hc3
      go_wp2_with fail
      refine (l1Once_any n 12 _ HD.out.cu (by omega)).mono ?_
      rintro e w4 ⟨bb, rfl, hk4, hc4⟩
      have HD : Hid (Ds n W w4 sb f s1 c1 none 0 O []) := HD.out.call hk4 hc4
      clear hk4 hc4
      cases bb
      · have hm2 : m ≤ 200 := by omega
        obtain ⟨wz, hwz⟩ : ∃ wz, w4 = wz := ⟨_, rfl⟩
        rw [hwz] at HD ⊢
        clear hwz
        have HZ := HD
        clear HD
        obtain ⟨s1, c1, O, HD, lO⟩ : ∃ s1 c1 O, Hid (Ds n W wz sb f s1 c1 none 0 O []) ∧ O.length ≤ 10 := ⟨s1, c1, O, HZ, lO⟩
        go_wp2_with fail
        go_loopw [9] (fun iv wr => ∃ (q : Nat) (s2 : Option Addr) (c2 : Nat) (N : List V4), (q : Int) ≤ m ∧ N.length ≤ q ∧ iv = .int .i64 q ∧ Hid (Ds n W wr sb f s1 c1 s2 c2 O N)) (fun iv _ => 300 - (intOf iv).toNat)
        case atStart => exact ⟨0, none, 0, [], by omega, by simp, rfl, HD⟩
        case round =>
          clear HD
          obtain ⟨q, s2, c2, N, hq, lN, rfl, HD⟩ := hrel
          have lqi : q ≤ 200 := by omega
          by_cases hlt : (q : Int) < m
          · go_wp2_with fail
            refine wp_region_held_drew (S := fun _ => True) (by kernel_rfl) trivial (fun hHeld => ?_)
            refine wpAnyH_one (i := 0) (d := 41) (v := ?_) rfl rfl (by kernel_rfl) (by kernel_rfl) (by kernel_rfl) (fun _ _ _ h => h) (by rfl) (by assumption) ?_ ?_
            rotate_left 1
            · intro w hSw; go_simp <;> with_reducible rfl
            simp only [List.foldl, Act.put, List.setIfInBounds_toArray, List.set_cons_zero, List.set_cons_succ]
            refine wpAnyH_one (i := 2) (d := 43) (v := ?_) rfl rfl (by kernel_rfl) (by kernel_rfl) (by kernel_rfl) (fun _ _ _ h => h) (by rfl) (by assumption) ?_ ?_
            rotate_left 1
            · intro w hSw; go_simp <;> with_reducible rfl
            simp only [List.foldl, Act.put, List.setIfInBounds_toArray, List.set_cons_zero, List.set_cons_succ]
            refine wpAnyH_one (i := 3) (d := 44) (v := ?_) rfl rfl (by kernel_rfl) (by kernel_rfl) (by kernel_rfl) (fun _ _ _ h => h) (by rfl) (by assumption) ?_ ?_
            rotate_left 1
            · intro w hSw; go_simp <;> with_reducible rfl
            simp only [List.foldl, Act.put, List.setIfInBounds_toArray, List.set_cons_zero, List.set_cons_succ]
            refine wpAnyH_ready (rs := [1, 4]) (by kernel_rfl) (by simp) ?_
            refine AllReadyH.cons rfl (fun K hK => ?_) ?_
            · skip
              obtain ⟨x0, x1, x2, x3⟩ := HD.out.k.three'
              go_simp
              clear x0 x1 x2 x3
              refine hK.out _ _ trivial (fun hHeld => ?_)
              clear hK K
              try simp only [List.foldl, Act.put, List.setIfInBounds_toArray, List.set_cons_zero, List.set_cons_succ]
              have HD := HD.out.drew
              have HD : Hid (Ds n W wr.drew sb f s1 c1 s2 c2 O N) := HD
              refine wpAnyH_ready (rs := [4]) (by kernel_rfl) (by simp) ?_
              refine AllReadyH.cons rfl (fun K hK => ?_) AllReadyH.nil
              go_simp
              refine (l1Val_any n k _ HD.out.cu).mono ?_
              rintro e wa6 ⟨i, x, y, rfl, bi, bx, by_, hk, hc⟩
              have HD : Hid (Ds n W wa6 sb f s1 c1 s2 c2 O N) := HD.out.call hk hc
              have OKX : Hid (okV (k, i, x, y)) := ⟨bi, bx, by_⟩
              clear hk hc
              refine hK.out _ _ trivial (fun hHeld => ?_)
              clear hK K
              try simp only [List.foldl, Act.put, List.setIfInBounds_toArray, List.set_cons_zero, List.set_cons_succ]
              refine wpAnyH_ready (rs := [5]) (by kernel_rfl) (by simp) ?_
              refine AllReadyH.cons rfl (fun K hK => ?_) AllReadyH.nil
              go_simp
              have HD : Hid (Ds n W (wa6.alloc (.cells #[.int .i64 k, .int .i64 i, .float .f64 x, .float .f64 y] 64)) sb f s1 c1 s2 c2 O N) := HD.out.alloc _
              have BT : Hid (Blk (wa6.alloc (.cells #[.int .i64 k, .int .i64 i, .float .f64 x, .float .f64 y] 64)) wa6.heap.size #[.int .i64 k, .int .i64 i, .float .f64 x, .float .f64 y] 64) := Blk.new _ _ _
              refine hK.out _ _ trivial (fun hHeld => ?_)
              clear hK K
              try simp only [List.foldl, Act.put, List.setIfInBounds_toArray, List.set_cons_zero, List.set_cons_succ]
              generalize hGe : wa6.alloc (.cells #[.int .i64 k, .int .i64 i, .float .f64 x, .float .f64 y] 64) = wb7 at HD BT ⊢
              generalize hTb : wa6.heap.size = tb at BT ⊢
              clear hGe hTb
              refine wpAnyH_ready (rs := [6]) (by kernel_rfl) (by simp) ?_
              refine AllReadyH.cons rfl (fun K hK => ?_) AllReadyH.nil
              refine step_append_near rfl (.tmp 42) (.tmp 46) rfl (sb + 1) s2 c2 N rfl HD.out.m _ (some ⟨tb, 0, none⟩) 1 [(k, i, x, y)] rfl (ov_one1 (v := (k, i, x, y)) BT.out) (fun v hv => by simp at hv; subst hv; exact OKX.out) (N ++ [(k, i, x, y)]) rfl (by simp; omega) HD.out.k.lt ?_
              intro s' c' Y hO hgr hnr
              have HE : Hid (Ds n W (Y.setCell ⟨sb, 2, none⟩ (.slice s' (N ++ [(k, i, x, y)]).length c')) sb f s1 c1 s' c' O (N ++ [(k, i, x, y)])) := HD.out.new hO hgr hnr (fun v hv => (List.mem_append.1 hv).elim (HD.out.okN v) (fun e => by simp at e; subst e; exact OKX.out))
              obtain ⟨x0, x1, x2, x3⟩ := (HD.out.k.kept' hgr (fun e => by have := (HD.out.m.lt _ e).1; omega)).three'
              clear hO hgr hnr HD BT
              refine hK.out _ _ trivial (fun hHeld => ?_)
              clear hK K
              try simp only [List.foldl, Act.put, List.setIfInBounds_toArray, List.set_cons_zero, List.set_cons_succ]
              refine wpAnyH_one (i := 7) (d := 48) (v := ?_) rfl rfl (by kernel_rfl) (by kernel_rfl) (by kernel_rfl) (fun _ _ _ h => h) (by rfl) (by assumption) ?_ ?_
              rotate_left 1
              · intro w hSw; go_simp <;> with_reducible rfl
              simp only [List.foldl, Act.put, List.setIfInBounds_toArray, List.set_cons_zero, List.set_cons_succ]
              refine wpAnyH_ready (rs := [8]) (by kernel_rfl) (by simp) ?_
              refine AllReadyH.cons rfl (fun K hK => ?_) AllReadyH.nil
              go_simp
              clear x0 x1 x2 x3
              refine hK.out _ _ trivial (fun hHeld => ?_)
              clear hK K
              try simp only [List.foldl, Act.put, List.setIfInBounds_toArray, List.set_cons_zero, List.set_cons_succ]
              refine wpAnyH_done (by kernel_rfl) ?_ _
              go_wp2_with fail
              go_roundw
              case rel => exact ⟨q + 1, s', c', N ++ [(k, i, x, y)], by omega, by simp; omega, by go_num, (by rw [show (N ++ [(k, i, x, y)]).length = N.length + 1 by simp] at HE; exact HE)⟩
              case measure => simp [intOf]; omega
            refine AllReadyH.cons rfl (fun K hK => ?_) AllReadyH.nil
            go_simp
            refine (l1Val_any n k _ HD.out.cu.drew).mono ?_
            rintro e wa8 ⟨i, x, y, rfl, bi, bx, by_, hk, hc⟩
            have HD : Hid (Ds n W wa8 sb f s1 c1 s2 c2 O N) := HD.out.drew.call hk hc
            have OKX : Hid (okV (k, i, x, y)) := ⟨bi, bx, by_⟩
            clear hk hc
            refine hK.out _ _ trivial (fun hHeld => ?_)
            clear hK K
            try simp only [List.foldl, Act.put, List.setIfInBounds_toArray, List.set_cons_zero, List.set_cons_succ]
            refine wpAnyH_ready (rs := [1, 5]) (by kernel_rfl) (by simp) ?_
            refine AllReadyH.cons rfl (fun K hK => ?_) ?_
            · skip
              obtain ⟨x0, x1, x2, x3⟩ := HD.out.k.three'
              go_simp
              clear x0 x1 x2 x3
              refine hK.out _ _ trivial (fun hHeld => ?_)
              clear hK K
              try simp only [List.foldl, Act.put, List.setIfInBounds_toArray, List.set_cons_zero, List.set_cons_succ]
              refine wpAnyH_ready (rs := [5]) (by kernel_rfl) (by simp) ?_
              refine AllReadyH.cons rfl (fun K hK => ?_) AllReadyH.nil
              go_simp
              have HD : Hid (Ds n W (wa8.alloc (.cells #[.int .i64 k, .int .i64 i, .float .f64 x, .float .f64 y] 64)) sb f s1 c1 s2 c2 O N) := HD.out.alloc _
              have BT : Hid (Blk (wa8.alloc (.cells #[.int .i64 k, .int .i64 i, .float .f64 x, .float .f64 y] 64)) wa8.heap.size #[.int .i64 k, .int .i64 i, .float .f64 x, .float .f64 y] 64) := Blk.new _ _ _
              refine hK.out _ _ trivial (fun hHeld => ?_)
              clear hK K
              try simp only [List.foldl, Act.put, List.setIfInBounds_toArray, List.set_cons_zero, List.set_cons_succ]
              generalize hGe : wa8.alloc (.cells #[.int .i64 k, .int .i64 i, .float .f64 x, .float .f64 y] 64) = wb9 at HD BT ⊢
              generalize hTb : wa8.heap.size = tb at BT ⊢
              clear hGe hTb
              refine wpAnyH_ready (rs := [6]) (by kernel_rfl) (by simp) ?_
              refine AllReadyH.cons rfl (fun K hK => ?_) AllReadyH.nil
              refine step_append_near rfl (.tmp 42) (.tmp 46) rfl (sb + 1) s2 c2 N rfl HD.out.m _ (some ⟨tb, 0, none⟩) 1 [(k, i, x, y)] rfl (ov_one1 (v := (k, i, x, y)) BT.out) (fun v hv => by simp at hv; subst hv; exact OKX.out) (N ++ [(k, i, x, y)]) rfl (by simp; omega) HD.out.k.lt ?_
              intro s' c' Y hO hgr hnr
              have HE : Hid (Ds n W (Y.setCell ⟨sb, 2, none⟩ (.slice s' (N ++ [(k, i, x, y)]).length c')) sb f s1 c1 s' c' O (N ++ [(k, i, x, y)])) := HD.out.new hO hgr hnr (fun v hv => (List.mem_append.1 hv).elim (HD.out.okN v) (fun e => by simp at e; subst e; exact OKX.out))
              obtain ⟨x0, x1, x2, x3⟩ := (HD.out.k.kept' hgr (fun e => by have := (HD.out.m.lt _ e).1; omega)).three'
              clear hO hgr hnr HD BT
              refine hK.out _ _ trivial (fun hHeld => ?_)
              clear hK K
              try simp only [List.foldl, Act.put, List.setIfInBounds_toArray, List.set_cons_zero, List.set_cons_succ]
              refine wpAnyH_one (i := 7) (d := 48) (v := ?_) rfl rfl (by kernel_rfl) (by kernel_rfl) (by kernel_rfl) (fun _ _ _ h => h) (by rfl) (by assumption) ?_ ?_
              rotate_left 1
              · intro w hSw; go_simp <;> with_reducible rfl
              simp only [List.foldl, Act.put, List.setIfInBounds_toArray, List.set_cons_zero, List.set_cons_succ]
              refine wpAnyH_ready (rs := [8]) (by kernel_rfl) (by simp) ?_
              refine AllReadyH.cons rfl (fun K hK => ?_) AllReadyH.nil
              go_simp
              clear x0 x1 x2 x3
              refine hK.out _ _ trivial (fun hHeld => ?_)
              clear hK K
              try simp only [List.foldl, Act.put, List.setIfInBounds_toArray, List.set_cons_zero, List.set_cons_succ]
              refine wpAnyH_done (by kernel_rfl) ?_ _
              go_wp2_with fail
              go_roundw
              case rel => exact ⟨q + 1, s', c', N ++ [(k, i, x, y)], by omega, by simp; omega, by go_num, (by rw [show (N ++ [(k, i, x, y)]).length = N.length + 1 by simp] at HE; exact HE)⟩
              case measure => simp [intOf]; omega
            refine AllReadyH.cons rfl (fun K hK => ?_) AllReadyH.nil
            go_simp
            have HD : Hid (Ds n W (wa8.alloc (.cells #[.int .i64 k, .int .i64 i, .float .f64 x, .float .f64 y] 64)) sb f s1 c1 s2 c2 O N) := HD.out.alloc _
            have BT : Hid (Blk (wa8.alloc (.cells #[.int .i64 k, .int .i64 i, .float .f64 x, .float .f64 y] 64)) wa8.heap.size #[.int .i64 k, .int .i64 i, .float .f64 x, .float .f64 y] 64) := Blk.new _ _ _
            refine hK.out _ _ trivial (fun hHeld => ?_)
            clear hK K
            try simp only [List.foldl, Act.put, List.setIfInBounds_toArray, List.set_cons_zero, List.set_cons_succ]
            generalize hGe : wa8.alloc (.cells #[.int .i64 k, .int .i64 i, .float .f64 x, .float .f64 y] 64) = wb10 at HD BT ⊢
            generalize hTb : wa8.heap.size = tb at BT ⊢
            clear hGe hTb
            refine wpAnyH_ready (rs := [1]) (by kernel_rfl) (by simp) ?_
            refine AllReadyH.cons rfl (fun K hK => ?_) AllReadyH.nil
            obtain ⟨x0, x1, x2, x3⟩ := HD.out.k.three'
            go_simp
            clear x0 x1 x2 x3
            refine hK.out _ _ trivial (fun hHeld => ?_)
            clear hK K
            try simp only [List.foldl, Act.put, List.setIfInBounds_toArray, List.set_cons_zero, List.set_cons_succ]
            refine wpAnyH_ready (rs := [6]) (by kernel_rfl) (by simp) ?_
            refine AllReadyH.cons rfl (fun K hK => ?_) AllReadyH.nil
            refine step_append_near rfl (.tmp 42) (.tmp 46) rfl (sb + 1) s2 c2 N rfl HD.out.m _ (some ⟨tb, 0, none⟩) 1 [(k, i, x, y)] rfl (ov_one1 (v := (k, i, x, y)) BT.out) (fun v hv => by simp at hv; subst hv; exact OKX.out) (N ++ [(k, i, x, y)]) rfl (by simp; omega) HD.out.k.lt ?_
            intro s' c' Y hO hgr hnr
            have HE : Hid (Ds n W (Y.setCell ⟨sb, 2, none⟩ (.slice s' (N ++ [(k, i, x, y)]).length c')) sb f s1 c1 s' c' O (N ++ [(k, i, x, y)])) := HD.out.new hO hgr hnr (fun v hv => (List.mem_append.1 hv).elim (HD.out.okN v) (fun e => by simp at e; subst e; exact OKX.out))
            obtain ⟨x0, x1, x2, x3⟩ := (HD.out.k.kept' hgr (fun e => by have := (HD.out.m.lt _ e).1; omega)).three'
            clear hO hgr hnr HD BT
            refine hK.out _ _ trivial (fun hHeld => ?_)
            clear hK K
            try simp only [List.foldl, Act.put, List.setIfInBounds_toArray, List.set_cons_zero, List.set_cons_succ]
            refine wpAnyH_one (i := 7) (d := 48) (v := ?_) rfl rfl (by kernel_rfl) (by kernel_rfl) (by kernel_rfl) (fun _ _ _ h => h) (by rfl) (by assumption) ?_ ?_
            rotate_left 1
            · intro w hSw; go_simp <;> with_reducible rfl
            simp only [List.foldl, Act.put, List.setIfInBounds_toArray, List.set_cons_zero, List.set_cons_succ]
            refine wpAnyH_ready (rs := [8]) (by kernel_rfl) (by simp) ?_
            refine AllReadyH.cons rfl (fun K hK => ?_) AllReadyH.nil
            go_simp
            clear x0 x1 x2 x3
            refine hK.out _ _ trivial (fun hHeld => ?_)
            clear hK K
            try simp only [List.foldl, Act.put, List.setIfInBounds_toArray, List.set_cons_zero, List.set_cons_succ]
            refine wpAnyH_done (by kernel_rfl) ?_ _
            go_wp2_with fail
            go_roundw
            case rel => exact ⟨q + 1, s', c', N ++ [(k, i, x, y)], by omega, by simp; omega, by go_num, (by rw [show (N ++ [(k, i, x, y)]).length = N.length + 1 by simp] at HE; exact HE)⟩
            case measure => simp [intOf]; omega
          · have KR := KP.out.same (HD.out.kp.block hnr hrl)
            obtain ⟨x0, x1, x2, x3⟩ := HD.out.k.three'
            obtain ⟨z0, z1, z2, z3⟩ := KR.three'
            have HF := HD
            have hsb : ¬ w.heap.size = sb := by have := HD.out.sw; omega
            have HFIN : DrawnS n w (.returned (.agg #[.int .i64 f, .slice s1 O.length c1, .slice s2 N.length c2])) (((wr.setCell ⟨w.heap.size, 0, none⟩ (.int .i64 f)).setCell ⟨w.heap.size, 1, none⟩ (.slice s1 O.length c1)).setCell ⟨w.heap.size, 2, none⟩ (.slice s2 N.length c2)) := by
              have h1 := KR.lt
              have h2 := HD.out.sw
              have k9 := keptUnder h1 (.int .i64 f) (.slice s1 O.length c1) (.slice s2 N.length c2)
              have kw : Keep n w wr := PW.out.trans HD.out.kp
              exact ⟨f, s1, c1, s2, c2, O, N, rfl, ((HD.out.o.mono (B' := w.heap.size + 1) (by omega)).kept k9).mono (by omega), ((HD.out.m.mono (B' := w.heap.size + 1) (by omega)).kept k9).mono (by omega), HD.out.ap, HD.out.okO, HD.out.okN, lO, by omega, bf, ((kw.setNew (by simp) (by simp; omega) _).setNew (by simp) (by simp; omega) _).setNew (by simp) (by simp; omega) _, ((HD.out.cu.set (by simp; omega) _).set (by simp; omega) _).set (by simp; omega) _⟩
            have HFH : Hid (DrawnS n w (.returned (.agg #[.int .i64 f, .slice s1 O.length c1, .slice s2 N.length c2])) (((wr.setCell ⟨w.heap.size, 0, none⟩ (.int .i64 f)).setCell ⟨w.heap.size, 1, none⟩ (.slice s1 O.length c1)).setCell ⟨w.heap.size, 2, none⟩ (.slice s2 N.length c2))) := HFIN
            clear HFIN HF HD KR
            go_wp2_with fail
            exact bodyPost_ret (v := .agg #[.int .i64 f, .slice s1 O.length c1, .slice s2 N.length c2]) (by simp [results, Try.results45, go_sem, z0, z1, z2]) rfl HFH.out
      · go_wp2_with fail
        refine (l1Below_any n 2 _ HD.out.cu (by omega)).mono ?_
        rintro e w5 ⟨m2, rfl, m20, m21, hk5, hc5⟩
        have HD : Hid (Ds n W w5 sb f s1 c1 none 0 O []) := HD.out.call hk5 hc5
        clear hk5 hc5
        have twm : IntKind.i64.wrap (200 - m2) = 200 - m2 := by rw [IntKind.wrap_i64]; omega
        clear m0 m1
        go_wp2_with fail
        obtain ⟨m, hm⟩ : ∃ m, 200 - m2 = m := ⟨_, rfl⟩
        have m0 : 0 ≤ m := by omega
        have hm2 : m ≤ 200 := by omega
        rw [hm] at *
        clear hm twm m21 m20
        obtain ⟨wz, hwz⟩ : ∃ wz, w5 = wz := ⟨_, rfl⟩
        rw [hwz] at HD ⊢
        clear hwz
        have HZ := HD
        clear HD
        obtain ⟨s1, c1, O, HD, lO⟩ : ∃ s1 c1 O, Hid (Ds n W wz sb f s1 c1 none 0 O []) ∧ O.length ≤ 10 := ⟨s1, c1, O, HZ, lO⟩
        go_wp2_with fail
        go_loopw [9] (fun iv wr => ∃ (q : Nat) (s2 : Option Addr) (c2 : Nat) (N : List V4), (q : Int) ≤ m ∧ N.length ≤ q ∧ iv = .int .i64 q ∧ Hid (Ds n W wr sb f s1 c1 s2 c2 O N)) (fun iv _ => 300 - (intOf iv).toNat)
        case atStart => exact ⟨0, none, 0, [], by omega, by simp, rfl, HD⟩
        case round =>
          clear HD
          obtain ⟨q, s2, c2, N, hq, lN, rfl, HD⟩ := hrel
          have lqi : q ≤ 200 := by omega
          by_cases hlt : (q : Int) < m
          · go_wp2_with fail
            refine wp_region_held_drew (S := fun _ => True) (by kernel_rfl) trivial (fun hHeld => ?_)
            refine wpAnyH_one (i := 0) (d := 41) (v := ?_) rfl rfl (by kernel_rfl) (by kernel_rfl) (by kernel_rfl) (fun _ _ _ h => h) (by rfl) (by assumption) ?_ ?_
            rotate_left 1
            · intro w hSw; go_simp <;> with_reducible rfl
            simp only [List.foldl, Act.put, List.setIfInBounds_toArray, List.set_cons_zero, List.set_cons_succ]
            refine wpAnyH_one (i := 2) (d := 43) (v := ?_) rfl rfl (by kernel_rfl) (by kernel_rfl) (by kernel_rfl) (fun _ _ _ h => h) (by rfl) (by assumption) ?_ ?_
            rotate_left 1
            · intro w hSw; go_simp <;> with_reducible rfl
            simp only [List.foldl, Act.put, List.setIfInBounds_toArray, List.set_cons_zero, List.set_cons_succ]
            refine wpAnyH_one (i := 3) (d := 44) (v := ?_) rfl rfl (by kernel_rfl) (by kernel_rfl) (by kernel_rfl) (fun _ _ _ h => h) (by rfl) (by assumption) ?_ ?_
            rotate_left 1
            · intro w hSw; go_simp <;> with_reducible rfl
            simp only [List.foldl, Act.put, List.setIfInBounds_toArray, List.set_cons_zero, List.set_cons_succ]
            refine wpAnyH_ready (rs := [1, 4]) (by kernel_rfl) (by simp) ?_
            refine AllReadyH.cons rfl (fun K hK => ?_) ?_
            · skip
              obtain ⟨x0, x1, x2, x3⟩ := HD.out.k.three'
              go_simp
              clear x0 x1 x2 x3
              refine hK.out _ _ trivial (fun hHeld => ?_)
              clear hK K
              try simp only [List.foldl, Act.put, List.setIfInBounds_toArray, List.set_cons_zero, List.set_cons_succ]
              have HD := HD.out.drew
              have HD : Hid (Ds n W wr.drew sb f s1 c1 s2 c2 O N) := HD
              refine wpAnyH_ready (rs := [4]) (by kernel_rfl) (by simp) ?_
              refine AllReadyH.cons rfl (fun K hK => ?_) AllReadyH.nil
              go_simp
              refine (l1Val_any n k _ HD.out.cu).mono ?_
              rintro e wa6 ⟨i, x, y, rfl, bi, bx, by_, hk, hc⟩
              have HD : Hid (Ds n W wa6 sb f s1 c1 s2 c2 O N) := HD.out.call hk hc
              have OKX : Hid (okV (k, i, x, y)) := ⟨bi, bx, by_⟩
              clear hk hc
              refine hK.out _ _ trivial (fun hHeld => ?_)
              clear hK K
              try simp only [List.foldl, Act.put, List.setIfInBounds_toArray, List.set_cons_zero, List.set_cons_succ]
              refine wpAnyH_ready (rs := [5]) (by kernel_rfl) (by simp) ?_
              refine AllReadyH.cons rfl (fun K hK => ?_) AllReadyH.nil
              go_simp
              have HD : Hid (Ds n W (wa6.alloc (.cells #[.int .i64 k, .int .i64 i, .float .f64 x, .float .f64 y] 64)) sb f s1 c1 s2 c2 O N) := HD.out.alloc _
              have BT : Hid (Blk (wa6.alloc (.cells #[.int .i64 k, .int .i64 i, .float .f64 x, .float .f64 y] 64)) wa6.heap.size #[.int .i64 k, .int .i64 i, .float .f64 x, .float .f64 y] 64) := Blk.new _ _ _
              refine hK.out _ _ trivial (fun hHeld => ?_)
              clear hK K
              try simp only [List.foldl, Act.put, List.setIfInBounds_toArray, List.set_cons_zero, List.set_cons_succ]
              generalize hGe : wa6.alloc (.cells #[.int .i64 k, .int .i64 i, .float .f64 x, .float .f64 y] 64) = wb7 at HD BT ⊢
              generalize hTb : wa6.heap.size = tb at BT ⊢
              clear hGe hTb
              refine wpAnyH_ready (rs := [6]) (by kernel_rfl) (by simp) ?_
              refine AllReadyH.cons rfl (fun K hK => ?_) AllReadyH.nil
              refine step_append_near rfl (.tmp 42) (.tmp 46) rfl (sb + 1) s2 c2 N rfl HD.out.m _ (some ⟨tb, 0, none⟩) 1 [(k, i, x, y)] rfl (ov_one1 (v := (k, i, x, y)) BT.out) (fun v hv => by simp at hv; subst hv; exact OKX.out) (N ++ [(k, i, x, y)]) rfl (by simp; omega) HD.out.k.lt ?_
              intro s' c' Y hO hgr hnr
              have HE : Hid (Ds n W (Y.setCell ⟨sb, 2, none⟩ (.slice s' (N ++ [(k, i, x, y)]).length c')) sb f s1 c1 s' c' O (N ++ [(k, i, x, y)])) := HD.out.new hO hgr hnr (fun v hv => (List.mem_append.1 hv).elim (HD.out.okN v) (fun e => by simp at e; subst e; exact OKX.out))
              obtain ⟨x0, x1, x2, x3⟩ := (HD.out.k.kept' hgr (fun e => by have := (HD.out.m.lt _ e).1; omega)).three'
              clear hO hgr hnr HD BT
              refine hK.out _ _ trivial (fun hHeld => ?_)
              clear hK K
              try simp only [List.foldl, Act.put, List.setIfInBounds_toArray, List.set_cons_zero, List.set_cons_succ]
              refine wpAnyH_one (i := 7) (d := 48) (v := ?_) rfl rfl (by kernel_rfl) (by kernel_rfl) (by kernel_rfl) (fun _ _ _ h => h) (by rfl) (by assumption) ?_ ?_
              rotate_left 1
              · intro w hSw; go_simp <;> with_reducible rfl
              simp only [List.foldl, Act.put, List.setIfInBounds_toArray, List.set_cons_zero, List.set_cons_succ]
              refine wpAnyH_ready (rs := [8]) (by kernel_rfl) (by simp) ?_
              refine AllReadyH.cons rfl (fun K hK => ?_) AllReadyH.nil
              go_simp
              clear x0 x1 x2 x3
              refine hK.out _ _ trivial (fun hHeld => ?_)
              clear hK K
              try simp only [List.foldl, Act.put, List.setIfInBounds_toArray, List.set_cons_zero, List.set_cons_succ]
              refine wpAnyH_done (by kernel_rfl) ?_ _
              go_wp2_with fail
              go_roundw
              case rel => exact ⟨q + 1, s', c', N ++ [(k, i, x, y)], by omega, by simp; omega, by go_num, (by rw [show (N ++ [(k, i, x, y)]).length = N.length + 1 by simp] at HE; exact HE)⟩
              case measure => simp [intOf]; omega
            refine AllReadyH.cons rfl (fun K hK => ?_) AllReadyH.nil
            go_simp
            refine (l1Val_any n k _ HD.out.cu.drew).mono ?_
            rintro e wa8 ⟨i, x, y, rfl, bi, bx, by_, hk, hc⟩
            have HD : Hid (Ds n W wa8 sb f s1 c1 s2 c2 O N) := HD.out.drew.call hk hc
            have OKX : Hid (okV (k, i, x, y)) := ⟨bi, bx, by_⟩
            clear hk hc
            refine hK.out _ _ trivial (fun hHeld => ?_)
            clear hK K
            try simp only [List.foldl, Act.put, List.setIfInBounds_toArray, List.set_cons_zero, List.set_cons_succ]
            refine wpAnyH_ready (rs := [1, 5]) (by kernel_rfl) (by simp) ?_
            refine AllReadyH.cons rfl (fun K hK => ?_) ?_
            · skip
              obtain ⟨x0, x1, x2, x3⟩ := HD.out.k.three'
              go_simp
              clear x0 x1 x2 x3
              refine hK.out _ _ trivial (fun hHeld => ?_)
              clear hK K
              try simp only [List.foldl, Act.put, List.setIfInBounds_toArray, List.set_cons_zero, List.set_cons_succ]
              refine wpAnyH_ready (rs := [5]) (by kernel_rfl) (by simp) ?_
              refine AllReadyH.cons rfl (fun K hK => ?_) AllReadyH.nil
              go_simp
              have HD : Hid (Ds n W (wa8.alloc (.cells #[.int .i64 k, .int .i64 i, .float .f64 x, .float .f64 y] 64)) sb f s1 c1 s2 c2 O N) := HD.out.alloc _
              have BT : Hid (Blk (wa8.alloc (.cells #[.int .i64 k, .int .i64 i, .float .f64 x, .float .f64 y] 64)) wa8.heap.size #[.int .i64 k, .int .i64 i, .float .f64 x, .float .f64 y] 64) := Blk.new _ _ _
              refine hK.out _ _ trivial (fun hHeld => ?_)
              clear hK K
              try simp only [List.foldl, Act.put, List.setIfInBounds_toArray, List.set_cons_zero, List.set_cons_succ]
              generalize hGe : wa8.alloc (.cells #[.int .i64 k, .int .i64 i, .float .f64 x, .float .f64 y] 64) = wb9 at HD BT ⊢
              generalize hTb : wa8.heap.size = tb at BT ⊢
              clear hGe hTb
              refine wpAnyH_ready (rs := [6]) (by kernel_rfl) (by simp) ?_
              refine AllReadyH.cons rfl (fun K hK => ?_) AllReadyH.nil
              refine step_append_near rfl (.tmp 42) (.tmp 46) rfl (sb + 1) s2 c2 N rfl HD.out.m _ (some ⟨tb, 0, none⟩) 1 [(k, i, x, y)] rfl (ov_one1 (v := (k, i, x, y)) BT.out) (fun v hv => by simp at hv; subst hv; exact OKX.out) (N ++ [(k, i, x, y)]) rfl (by simp; omega) HD.out.k.lt ?_
              intro s' c' Y hO hgr hnr
              have HE : Hid (Ds n W (Y.setCell ⟨sb, 2, none⟩ (.slice s' (N ++ [(k, i, x, y)]).length c')) sb f s1 c1 s' c' O (N ++ [(k, i, x, y)])) := HD.out.new hO hgr hnr (fun v hv => (List.mem_append.1 hv).elim (HD.out.okN v) (fun e => by simp at e; subst e; exact OKX.out))
              obtain ⟨x0, x1, x2, x3⟩ := (HD.out.k.kept' hgr (fun e => by have := (HD.out.m.lt _ e).1; omega)).three'
              clear hO hgr hnr HD BT
              refine hK.out _ _ trivial (fun hHeld => ?_)
              clear hK K
              try simp only [List.foldl, Act.put, List.setIfInBounds_toArray, List.set_cons_zero, List.set_cons_succ]
              refine wpAnyH_one (i := 7) (d := 48) (v := ?_) rfl rfl (by kernel_rfl) (by kernel_rfl) (by kernel_rfl) (fun _ _ _ h => h) (by rfl) (by assumption) ?_ ?_
              rotate_left 1
              · intro w hSw; go_simp <;> with_reducible rfl
              simp only [List.foldl, Act.put, List.setIfInBounds_toArray, List.set_cons_zero, List.set_cons_succ]
              refine wpAnyH_ready (rs := [8]) (by kernel_rfl) (by simp) ?_
              refine AllReadyH.cons rfl (fun K hK => ?_) AllReadyH.nil
              go_simp
              clear x0 x1 x2 x3
              refine hK.out _ _ trivial (fun hHeld => ?_)
              clear hK K
              try simp only [List.foldl, Act.put, List.setIfInBounds_toArray, List.set_cons_zero, List.set_cons_succ]
              refine wpAnyH_done (by kernel_rfl) ?_ _
              go_wp2_with fail
              go_roundw
              case rel => exact ⟨q + 1, s', c', N ++ [(k, i, x, y)], by omega, by simp; omega, by go_num, (by rw [show (N ++ [(k, i, x, y)]).length = N.length + 1 by simp] at HE; exact HE)⟩
              case measure => simp [intOf]; omega
            refine AllReadyH.cons rfl (fun K hK => ?_) AllReadyH.nil
            go_simp
            have HD : Hid (Ds n W (wa8.alloc (.cells #[.int .i64 k, .int .i64 i, .float .f64 x, .float .f64 y] 64)) sb f s1 c1 s2 c2 O N) := HD.out.alloc _
            have BT : Hid (Blk (wa8.alloc (.cells #[.int .i64 k, .int .i64 i, .float .f64 x, .float .f64 y] 64)) wa8.heap.size #[.int .i64 k, .int .i64 i, .float .f64 x, .float .f64 y] 64) := Blk.new _ _ _
            refine hK.out _ _ trivial (fun hHeld => ?_)
            clear hK K
            try simp only [List.foldl, Act.put, List.setIfInBounds_toArray, List.set_cons_zero, List.set_cons_succ]
            generalize hGe : wa8.alloc (.cells #[.int .i64 k, .int .i64 i, .float .f64 x, .float .f64 y] 64) = wb10 at HD BT ⊢
            generalize hTb : wa8.heap.size = tb at BT ⊢
            clear hGe hTb
            refine wpAnyH_ready (rs := [1]) (by kernel_rfl) (by simp) ?_
            refine AllReadyH.cons rfl (fun K hK => ?_) AllReadyH.nil
            obtain ⟨x0, x1, x2, x3⟩ := HD.out.k.three'
            go_simp
            clear x0 x1 x2 x3
            refine hK.out _ _ trivial (fun hHeld => ?_)
            clear hK K
            try simp only [List.foldl, Act.put, List.setIfInBounds_toArray, List.set_cons_zero, List.set_cons_succ]
            refine wpAnyH_ready (rs := [6]) (by kernel_rfl) (by simp) ?_
            refine AllReadyH.cons rfl (fun K hK => ?_) AllReadyH.nil
            refine step_append_near rfl (.tmp 42) (.tmp 46) rfl (sb + 1) s2 c2 N rfl HD.out.m _ (some ⟨tb, 0, none⟩) 1 [(k, i, x, y)] rfl (ov_one1 (v := (k, i, x, y)) BT.out) (fun v hv => by simp at hv; subst hv; exact OKX.out) (N ++ [(k, i, x, y)]) rfl (by simp; omega) HD.out.k.lt ?_
            intro s' c' Y hO hgr hnr
            have HE : Hid (Ds n W (Y.setCell ⟨sb, 2, none⟩ (.slice s' (N ++ [(k, i, x, y)]).length c')) sb f s1 c1 s' c' O (N ++ [(k, i, x, y)])) := HD.out.new hO hgr hnr (fun v hv => (List.mem_append.1 hv).elim (HD.out.okN v) (fun e => by simp at e; subst e; exact OKX.out))
            obtain ⟨x0, x1, x2, x3⟩ := (HD.out.k.kept' hgr (fun e => by have := (HD.out.m.lt _ e).1; omega)).three'
            clear hO hgr hnr HD BT
            refine hK.out _ _ trivial (fun hHeld => ?_)
            clear hK K
            try simp only [List.foldl, Act.put, List.setIfInBounds_toArray, List.set_cons_zero, List.set_cons_succ]
            refine wpAnyH_one (i := 7) (d := 48) (v := ?_) rfl rfl (by kernel_rfl) (by kernel_rfl) (by kernel_rfl) (fun _ _ _ h => h) (by rfl) (by assumption) ?_ ?_
            rotate_left 1
            · intro w hSw; go_simp <;> with_reducible rfl
            simp only [List.foldl, Act.put, List.setIfInBounds_toArray, List.set_cons_zero, List.set_cons_succ]
            refine wpAnyH_ready (rs := [8]) (by kernel_rfl) (by simp) ?_
            refine AllReadyH.cons rfl (fun K hK => ?_) AllReadyH.nil
            go_simp
            clear x0 x1 x2 x3
            refine hK.out _ _ trivial (fun hHeld => ?_)
            clear hK K
            try simp only [List.foldl, Act.put, List.setIfInBounds_toArray, List.set_cons_zero, List.set_cons_succ]
            refine wpAnyH_done (by kernel_rfl) ?_ _
            go_wp2_with fail
            go_roundw
            case rel => exact ⟨q + 1, s', c', N ++ [(k, i, x, y)], by omega, by simp; omega, by go_num, (by rw [show (N ++ [(k, i, x, y)]).length = N.length + 1 by simp] at HE; exact HE)⟩
            case measure => simp [intOf]; omega
          · have KR := KP.out.same (HD.out.kp.block hnr hrl)
            obtain ⟨x0, x1, x2, x3⟩ := HD.out.k.three'
            obtain ⟨z0, z1, z2, z3⟩ := KR.three'
            have HF := HD
            have hsb : ¬ w.heap.size = sb := by have := HD.out.sw; omega
            have HFIN : DrawnS n w (.returned (.agg #[.int .i64 f, .slice s1 O.length c1, .slice s2 N.length c2])) (((wr.setCell ⟨w.heap.size, 0, none⟩ (.int .i64 f)).setCell ⟨w.heap.size, 1, none⟩ (.slice s1 O.length c1)).setCell ⟨w.heap.size, 2, none⟩ (.slice s2 N.length c2)) := by
              have h1 := KR.lt
              have h2 := HD.out.sw
              have k9 := keptUnder h1 (.int .i64 f) (.slice s1 O.length c1) (.slice s2 N.length c2)
              have kw : Keep n w wr := PW.out.trans HD.out.kp
              exact ⟨f, s1, c1, s2, c2, O, N, rfl, ((HD.out.o.mono (B' := w.heap.size + 1) (by omega)).kept k9).mono (by omega), ((HD.out.m.mono (B' := w.heap.size + 1) (by omega)).kept k9).mono (by omega), HD.out.ap, HD.out.okO, HD.out.okN, lO, by omega, bf, ((kw.setNew (by simp) (by simp; omega) _).setNew (by simp) (by simp; omega) _).setNew (by simp) (by simp; omega) _, ((HD.out.cu.set (by simp; omega) _).set (by simp; omega) _).set (by simp; omega) _⟩
            have HFH : Hid (DrawnS n w (.returned (.agg #[.int .i64 f, .slice s1 O.length c1, .slice s2 N.length c2])) (((wr.setCell ⟨w.heap.size, 0, none⟩ (.int .i64 f)).setCell ⟨w.heap.size, 1, none⟩ (.slice s1 O.length c1)).setCell ⟨w.heap.size, 2, none⟩ (.slice s2 N.length c2))) := HFIN
            clear HFIN HF HD KR
            go_wp2_with fail
            exact bodyPost_ret (v := .agg #[.int .i64 f, .slice s1 O.length c1, .slice s2 N.length c2]) (by simp [results, Try.results45, go_sem, z0, z1, z2]) rfl HFH.out
end Go.Proofs.Ytpfamdpgcbpiaaa
