import Derived.Test.YtpfamdpgcbpiaaaRs
namespace Go.Proofs.Ytpfamdpgcbpiaaa
open Go.RowKit
set_option linter.unusedVariables false
set_option linter.unusedSimpArgs false

/-- a stream being drawn, whose box was made behind its lists. -/
structure Dt (n : Nat) (W X : World) (sb : Nat) (f : Int) (s1 : Option Addr) (c1 : Nat) (s2 : Option Addr) (c2 : Nat) (O N : List V4) : Prop where
  kp : Keep n W X
  cu : Cur n X
  nw : n < W.heap.size
  sw : W.heap.size ≤ sb
  k : Blk X sb #[.int .i64 f, .slice s1 O.length c1, .slice s2 N.length c2] 26
  o : OV X W.heap.size (.slice s1 O.length c1) O
  m : OV X W.heap.size (.slice s2 N.length c2) N
  noo : ¬ (Value.slice s1 O.length c1).ownBlock = some sb
  nom : ¬ (Value.slice s2 N.length c2).ownBlock = some sb
  ap : Ap (.slice s1 O.length c1) (.slice s2 N.length c2)
  okO : ∀ v ∈ O, okV v
  okN : ∀ v ∈ N, okV v
section
variable {n : Nat} {W X : World} {sb : Nat} {f : Int} {s1 : Option Addr} {c1 : Nat} {s2 : Option Addr} {c2 : Nat} {O N : List V4}
theorem Dt.call {Y : World} (h : Dt n W X sb f s1 c1 s2 c2 O N) (hk : Keep n X Y) (hc : Cur n Y) : Dt n W Y sb f s1 c1 s2 c2 O N := by
  have h1 := h.nw
  have h2 := h.sw
  have h3 := h.k.lt
  exact ⟨h.kp.trans hk, hc, h.nw, h.sw, h.k.same (hk.block (by omega) h3), h.o.same (fun g hg hl => hk.block (by have := (h.o.lt g hg).1; omega) hl), h.m.same (fun g hg hl => hk.block (by have := (h.m.lt g hg).1; omega) hl), h.noo, h.nom, h.ap, h.okO, h.okN⟩
theorem Dt.alloc (h : Dt n W X sb f s1 c1 s2 c2 O N) (b : Obj) : Dt n W (X.alloc b) sb f s1 c1 s2 c2 O N := by
  have h1 := h.cu.lt
  exact h.call ((Keep.refl n X).alloc (Nat.le_of_lt h1) b) (h.cu.alloc b)
theorem Dt.drew (h : Dt n W X sb f s1 c1 s2 c2 O N) : Dt n W X.drew sb f s1 c1 s2 c2 O N := h.call ((Keep.refl n X).drew) h.cu.drew
/-- another First. -/
theorem Dt.first (h : Dt n W X sb f s1 c1 s2 c2 O N) (f' : Int) : Dt n W (X.setCell ⟨sb, 0, none⟩ (.int .i64 f')) sb f' s1 c1 s2 c2 O N := by
  have h1 := h.nw
  have h2 := h.sw
  exact ⟨h.kp.setNew (by simpa using h2) (by simp; omega) _, h.cu.set (by simp; omega) _, h.nw, h.sw, h.k.set 0 _, h.o.other h.noo _ _, h.m.other h.nom _ _, h.noo, h.nom, h.ap, h.okO, h.okN⟩
/-- an append onto Old, and the store into its field. -/
theorem Dt.old {Y : World} (h : Dt n W X sb f s1 c1 s2 c2 O N) {s' : Option Addr} {c' : Nat} {M : List V4} (hO : OV Y W.heap.size (.slice s' M.length c') M) (hg : X.grownBy Y (Value.slice s1 O.length c1).ownBlock) (hn : Near X (.slice s1 O.length c1) (.slice s' M.length c')) (okM : ∀ v ∈ M, okV v) :
    Dt n W (Y.setCell ⟨sb, 1, none⟩ (.slice s' M.length c')) sb f s' c' s2 c2 M N := by
  have h1 := h.nw
  have h2 := h.sw
  have h3 := h.k.lt
  have h4 := h.cu.lt
  have hb := fun q hq => (h.o.lt q hq).1
  have kY := h.k.kept' hg h.noo
  have bY : Below (n + 1) X Y := (Below.refl _ _).grown hg (by omega) (fun q hq => by have := hb q hq; omega)
  have kp : Keep n W Y := ⟨h.kp.1.trans (bY.mono (by omega)), fun k hk hl => (hg.block k (by have := h.kp.1.size; omega) (fun e => by have := hb k e.symm; omega)).trans (h.kp.2 k hk hl)⟩
  have mY : OV Y W.heap.size (.slice s2 N.length c2) N := h.m.grown hg (fun q hq e => h.ap q e hq)
  have no' : ¬ (Value.slice s' M.length c').ownBlock = some sb := by
    intro e
    rcases hn sb e with e | e
    · exact h.noo e
    · omega
  refine ⟨kp.setNew (by simpa using h2) (by simp; omega) _, (h.cu.below bY).set (by simp; omega) _, h.nw, h.sw, kY.set 1 _, hO.other no' _ _, mY.other h.nom _ _, no', h.nom, ?_, okM, h.okN⟩
  intro q e1 e2
  rcases hn q e1 with e | e
  · exact h.ap q e e2
  · have := (h.m.lt q e2).2; omega
end
/-- how long the list is that lies in the box's second cell. -/
def oldLen (sb : Nat) (w : World) : Nat := match w.cell? ⟨sb, 1, none⟩ with
  | some (.slice _ n _) => n
  | _ => 0
theorem Dt.len {n : Nat} {W X : World} {sb : Nat} {f : Int} {s1 : Option Addr} {c1 : Nat} {s2 : Option Addr} {c2 : Nat} {O N : List V4} (h : Dt n W X sb f s1 c1 s2 c2 O N) : oldLen sb X = O.length := by
  unfold oldLen; rw [h.k.three'.2.1]
/-- a drawn kind and stream. -/
def DrawnK (n : Nat) (w : World) (e : Ending) (w' : World) : Prop :=
  ∃ (k f : Int) (s1 : Option Addr) (c1 : Nat) (s2 : Option Addr) (c2 : Nat) (O N : List V4), e = .returned (.tuple #[.int .i64 k, .agg #[.int .i64 f, .slice s1 O.length c1, .slice s2 N.length c2]]) ∧ OV w' w.heap.size (.slice s1 O.length c1) O ∧ OV w' w.heap.size (.slice s2 N.length c2) N ∧ Ap (.slice s1 O.length c1) (.slice s2 N.length c2) ∧ (∀ v ∈ O, okV v) ∧ (∀ v ∈ N, okV v) ∧ O.length ≤ 300 ∧ N.length ≤ 300 ∧ (-1 ≤ k ∧ k ≤ 6 ∧ -1 ≤ f ∧ f ≤ 9223372036854775807) ∧ Keep n w w' ∧ Cur n w'
theorem ints_three {w : World} {pb : Nat} {a b c : Int} (h : Blk w pb #[.int .i64 a, .int .i64 b, .int .i64 c] 3) : Ints w (some ⟨pb, 0, none⟩) [a, b, c] := by
  right
  refine ⟨pb, 0, rfl, h.lt, fun j hj => ?_⟩
  match j, hj with
  | 0, _ => exact h.cell 0
  | 1, _ => exact h.cell 1
  | 2, _ => exact h.cell 2

set_option maxRecDepth 100000 in
set_option maxHeartbeats 8000000 in
theorem l6Some_any (n : Nat) (w : World) (hC : Cur n w) :
    Calls Try.prog 26 #[.pointer (some ⟨n, 0, none⟩)] w fun e w' => DrawnK n w e w' := by
  have hal := alloc_old
  have haf := alloc_oldf
  have hl := hC.lt
  have k0 := Blk.new w #[.int .i64 0, .slice none 0 0, .slice none 0 0] 26
  have C1 := hC.alloc (.cells #[.int .i64 0, .slice none 0 0, .slice none 0 0] 26)
  have P1 := (Keep.refl n w).alloc (Nat.le_of_lt hl) (.cells #[.int .i64 0, .slice none 0 0, .slice none 0 0] 26)
  go_enter Try.func26, Try.ntmps26
  go_wp2_with fail
  generalize hP : w.alloc (.cells #[.int .i64 0, .slice none 0 0, .slice none 0 0] 26) = W at *
  have KP : Hid (Blk W w.heap.size #[.int .i64 0, .slice none 0 0, .slice none 0 0] 26) := k0
  have PW : Hid (Keep n w W) := P1
  have hrl : w.heap.size < W.heap.size := k0.lt
  have hnr : ¬ w.heap.size = n := by omega
  have hnW := C1.lt
  clear hP
  refine (l1Below_any n 4 _ C1 (by omega)).mono ?_
  rintro e w1 ⟨r, rfl, r0, r1, hk1, hc1⟩
  have tk : IntKind.i64.wrap (1 + r) = 1 + r := by rw [IntKind.wrap_i64]; omega
  clear k0 C1 P1 hC
  go_wp2_with fail
  obtain ⟨k, hk⟩ : ∃ k, 1 + r = k := ⟨_, rfl⟩
  have bk : 1 ≤ k ∧ k ≤ 4 := by omega
  rw [hk] at *
  clear hk tk r0 r1
  refine (l6Stream_any n k _ hc1).mono ?_
  rintro e w2 ⟨f, s1, c1, s2, c2, O, N, rfl, oO, oN, ap, okO, okN, lO, lN, bf, hk2, hc2⟩
  have HD : Hid (Dt n W (w2.alloc (.cells #[.int .i64 f, .slice s1 O.length c1, .slice s2 N.length c2] 26)) w2.heap.size f s1 c1 s2 c2 O N) := by
    have s2' := hk1.1.size
    have s3' := hk2.1.size
    exact ⟨(hk1.trans hk2).alloc (Nat.le_of_lt hc2.lt) _, hc2.alloc _, hnW, by omega, Blk.new _ _ _, (oO.mono s2').alloc _, (oN.mono s2').alloc _, fun e => by have := (oO.lt _ e).2; omega, fun e => by have := (oN.lt _ e).2; omega, ap, okO, okN⟩
  clear oO oN ap okO okN hk1 hc1
  go_wp2_with fail
  generalize hX : w2.alloc (.cells #[.int .i64 f, .slice s1 O.length c1, .slice s2 N.length c2] 26) = X at HD ⊢
  generalize hSb : w2.heap.size = sb at HD ⊢
  clear hX hSb hk2 hc2 w2 w1
  refine (l1Once_any n 7 _ HD.out.cu (by omega)).mono ?_
  rintro e w3 ⟨bb, rfl, hk3, hc3⟩
  have HD : Hid (Dt n W w3 sb f s1 c1 s2 c2 O N) := HD.out.call hk3 hc3
  clear hk3 hc3
  cases bb
  · skip
    have KR := KP.out.same (HD.out.kp.block hnr hrl)
    obtain ⟨x0, x1, x2, x3⟩ := HD.out.k.three'
    obtain ⟨z0, z1, z2, z3⟩ := KR.three'
    have hsb : ¬ w.heap.size = sb := by have := HD.out.sw; omega
    have HFIN : Hid (DrawnK n w (.returned (.tuple #[.int .i64 (k), .agg #[.int .i64 f, .slice s1 O.length c1, .slice s2 N.length c2]])) (((w3.drew.setCell ⟨w.heap.size, 0, none⟩ (.int .i64 f)).setCell ⟨w.heap.size, 1, none⟩ (.slice s1 O.length c1)).setCell ⟨w.heap.size, 2, none⟩ (.slice s2 N.length c2))) := by
      have h1 := KR.lt
      have h2 := HD.out.sw
      have k9 := keptUnder h1 (.int .i64 f) (.slice s1 O.length c1) (.slice s2 N.length c2)
      have kw : Keep n w w3 := PW.out.trans HD.out.kp
      exact ⟨k, f, s1, c1, s2, c2, O, N, rfl, ((HD.out.o.mono (B' := w.heap.size + 1) (by omega)).kept k9).mono (by omega), ((HD.out.m.mono (B' := w.heap.size + 1) (by omega)).kept k9).mono (by omega), HD.out.ap, HD.out.okO, HD.out.okN, by omega, by omega, by omega, ((kw.drew.setNew (by simp) (by simp; omega) _).setNew (by simp) (by simp; omega) _).setNew (by simp) (by simp; omega) _, ((HD.out.cu.drew.set (by simp; omega) _).set (by simp; omega) _).set (by simp; omega) _⟩
    clear HD KR
    go_wp2_with fail
    go_region
    go_wp2_with fail
    exact bodyPost_ret (v := .tuple #[.int .i64 (k), .agg #[.int .i64 f, .slice s1 O.length c1, .slice s2 N.length c2]]) (by simp [results, Try.results26, go_sem, z0, z1, z2]) rfl HFIN.out
  · go_wp2_with fail
    refine (l1Below_any n 4 _ HD.out.cu (by omega)).mono ?_
    rintro e w4 ⟨r, rfl, r0, r1, hk4, hc4⟩
    have HD : Hid (Dt n W w4 sb f s1 c1 s2 c2 O N) := HD.out.call hk4 hc4
    clear hk4 hc4
    obtain rfl | rfl | rfl | rfl : r = 0 ∨ r = 1 ∨ r = 2 ∨ r = 3 := by omega
    · clear r0 r1
      have hn4 := HD.out.cu.lt
      have kb := Blk.new w4 #[.int .i64 (-1), .int .i64 1000000000001, .int .i64 9223372036854775807] 3
      have HD : Hid (Dt n W (w4.alloc (.cells #[.int .i64 (-1), .int .i64 1000000000001, .int .i64 9223372036854775807] 3)) sb f s1 c1 s2 c2 O N) := HD.out.alloc _
      go_wp2_with fail
      refine (l1PickInt_any n w4.heap.size 0 3 [-1, 1000000000001, 9223372036854775807] _ HD.out.cu (ints_three kb) (by simp) (by simp) (by omega)).mono ?_
      rintro e w5 ⟨g, rfl, hg, hk5, hc5⟩
      have bg : -1 ≤ g ∧ g ≤ 9223372036854775807 := by simp at hg; omega
      have HD : Hid (Dt n W w5 sb f s1 c1 s2 c2 O N) := HD.out.call hk5 hc5
      clear hk5 hc5 kb hg
      have HE : Hid (Dt n W (w5.setCell ⟨sb, 0, none⟩ (.int .i64 g)) sb g s1 c1 s2 c2 O N) := HD.out.first g
      obtain ⟨x0, x1, x2, x3⟩ := HD.out.k.three'
      clear HD bf
      go_wp2_with fail
      clear x0 x1 x2 x3
      generalize hX : w5.setCell ⟨sb, 0, none⟩ (.int .i64 g) = X at HE ⊢
      clear hX
      have HD := HE
      clear HE
      have KR := KP.out.same (HD.out.kp.block hnr hrl)
      obtain ⟨x0, x1, x2, x3⟩ := HD.out.k.three'
      obtain ⟨z0, z1, z2, z3⟩ := KR.three'
      have hsb : ¬ w.heap.size = sb := by have := HD.out.sw; omega
      have HFIN : Hid (DrawnK n w (.returned (.tuple #[.int .i64 (k), .agg #[.int .i64 g, .slice s1 O.length c1, .slice s2 N.length c2]])) (((X.drew.setCell ⟨w.heap.size, 0, none⟩ (.int .i64 g)).setCell ⟨w.heap.size, 1, none⟩ (.slice s1 O.length c1)).setCell ⟨w.heap.size, 2, none⟩ (.slice s2 N.length c2))) := by
        have h1 := KR.lt
        have h2 := HD.out.sw
        have k9 := keptUnder h1 (.int .i64 g) (.slice s1 O.length c1) (.slice s2 N.length c2)
        have kw : Keep n w X := PW.out.trans HD.out.kp
        exact ⟨k, g, s1, c1, s2, c2, O, N, rfl, ((HD.out.o.mono (B' := w.heap.size + 1) (by omega)).kept k9).mono (by omega), ((HD.out.m.mono (B' := w.heap.size + 1) (by omega)).kept k9).mono (by omega), HD.out.ap, HD.out.okO, HD.out.okN, by omega, by omega, by omega, ((kw.drew.setNew (by simp) (by simp; omega) _).setNew (by simp) (by simp; omega) _).setNew (by simp) (by simp; omega) _, ((HD.out.cu.drew.set (by simp; omega) _).set (by simp; omega) _).set (by simp; omega) _⟩
      clear HD KR
      go_wp2_with fail
      go_region
      go_wp2_with fail
      exact bodyPost_ret (v := .tuple #[.int .i64 (k), .agg #[.int .i64 g, .slice s1 O.length c1, .slice s2 N.length c2]]) (by simp [results, Try.results26, go_sem, z0, z1, z2]) rfl HFIN.out
    · clear r0 r1
      have hk0 := bk
      obtain ⟨kk, hkk⟩ : ∃ kk, Hid (kk = k) := ⟨_, rfl⟩
      go_wp2_with fail
      refine wp_region_held_drew (S := fun _ => True) (by kernel_rfl) trivial (fun hHeld => ?_)
      refine wpAnyH_one (i := 0) (d := 27) (v := ?_) rfl rfl (by kernel_rfl) (by kernel_rfl) (by kernel_rfl) (fun _ _ _ h => h) (by rfl) (by assumption) ?_ ?_
      rotate_left 1
      · intro w hSw; go_simp <;> with_reducible rfl
      simp only [List.foldl, Act.put, List.setIfInBounds_toArray, List.set_cons_zero, List.set_cons_succ]
      refine wpAnyH_one (i := 2) (d := 29) (v := ?_) rfl rfl (by kernel_rfl) (by kernel_rfl) (by kernel_rfl) (fun _ _ _ h => h) (by rfl) (by assumption) ?_ ?_
      rotate_left 1
      · intro w hSw; go_simp <;> with_reducible rfl
      simp only [List.foldl, Act.put, List.setIfInBounds_toArray, List.set_cons_zero, List.set_cons_succ]
      refine wpAnyH_ready (rs := [1, 3]) (by kernel_rfl) (by simp) ?_
      refine AllReadyH.cons rfl (fun K hK => ?_) ?_
      · skip
        obtain ⟨x0, x1, x2, x3⟩ := HD.out.k.three'
        go_simp
        clear x0 x1 x2 x3
        refine hK.out _ _ trivial (fun hHeld => ?_)
        clear hK K
        try simp only [List.foldl, Act.put, List.setIfInBounds_toArray, List.set_cons_zero, List.set_cons_succ]
        have HD := HD.out.drew
        have HD : Hid (Dt n W w4.drew sb f s1 c1 s2 c2 O N) := HD
        refine wpAnyH_ready (rs := [3]) (by kernel_rfl) (by simp) ?_
        refine AllReadyH.cons rfl (fun K hK => ?_) AllReadyH.nil
        go_simp
        refine (l1Any_any n _ HD.out.cu).mono ?_
        rintro e wa1 ⟨k2, i, x, y, rfl, bk2, bi, bx, by_, hk, hc⟩
        have HD : Hid (Dt n W wa1 sb f s1 c1 s2 c2 O N) := HD.out.call hk hc
        have OKX : Hid (okV (k2, i, x, y)) := ⟨bi, bx, by_⟩
        clear hk hc
        refine hK.out _ _ trivial (fun hHeld => ?_)
        clear hK K
        try simp only [List.foldl, Act.put, List.setIfInBounds_toArray, List.set_cons_zero, List.set_cons_succ]
        refine wpAnyH_ready (rs := [4]) (by kernel_rfl) (by simp) ?_
        refine AllReadyH.cons rfl (fun K hK => ?_) AllReadyH.nil
        go_simp
        have HD : Hid (Dt n W (wa1.alloc (.cells #[.int .i64 k2, .int .i64 i, .float .f64 x, .float .f64 y] 64)) sb f s1 c1 s2 c2 O N) := HD.out.alloc _
        have BT : Hid (Blk (wa1.alloc (.cells #[.int .i64 k2, .int .i64 i, .float .f64 x, .float .f64 y] 64)) wa1.heap.size #[.int .i64 k2, .int .i64 i, .float .f64 x, .float .f64 y] 64) := Blk.new _ _ _
        refine hK.out _ _ trivial (fun hHeld => ?_)
        clear hK K
        try simp only [List.foldl, Act.put, List.setIfInBounds_toArray, List.set_cons_zero, List.set_cons_succ]
        generalize hGe : wa1.alloc (.cells #[.int .i64 k2, .int .i64 i, .float .f64 x, .float .f64 y] 64) = wb2 at HD BT ⊢
        generalize hTb : wa1.heap.size = tb at BT ⊢
        clear hGe hTb
        refine wpAnyH_ready (rs := [5]) (by kernel_rfl) (by simp) ?_
        refine AllReadyH.cons rfl (fun K hK => ?_) AllReadyH.nil
        refine step_append_near rfl (.tmp 28) (.tmp 31) rfl W.heap.size s1 c1 O rfl HD.out.o _ (some ⟨tb, 0, none⟩) 1 [(k2, i, x, y)] rfl (ov_one1 (v := (k2, i, x, y)) BT.out) (fun v hv => by simp at hv; subst hv; exact OKX.out) (O ++ [(k2, i, x, y)]) rfl (by simp; omega) HD.out.kp.1.size ?_
        intro s' c' Y hO hgr hnr
        have HE : Hid (Dt n W (Y.setCell ⟨sb, 1, none⟩ (.slice s' (O ++ [(k2, i, x, y)]).length c')) sb f s' c' s2 c2 (O ++ [(k2, i, x, y)]) N) := HD.out.old hO hgr hnr (fun v hv => (List.mem_append.1 hv).elim (HD.out.okO v) (fun e => by simp at e; subst e; exact OKX.out))
        obtain ⟨x0, x1, x2, x3⟩ := (HD.out.k.kept' hgr HD.out.noo).three'
        clear hO hgr hnr HD BT
        refine hK.out _ _ trivial (fun hHeld => ?_)
        clear hK K
        try simp only [List.foldl, Act.put, List.setIfInBounds_toArray, List.set_cons_zero, List.set_cons_succ]
        refine wpAnyH_one (i := 6) (d := 33) (v := ?_) rfl rfl (by kernel_rfl) (by kernel_rfl) (by kernel_rfl) (fun _ _ _ h => h) (by rfl) (by assumption) ?_ ?_
        rotate_left 1
        · intro w hSw; go_simp <;> with_reducible rfl
        simp only [List.foldl, Act.put, List.setIfInBounds_toArray, List.set_cons_zero, List.set_cons_succ]
        refine wpAnyH_ready (rs := [7]) (by kernel_rfl) (by simp) ?_
        refine AllReadyH.cons rfl (fun K hK => ?_) AllReadyH.nil
        go_simp
        clear x0 x1 x2 x3
        refine hK.out _ _ trivial (fun hHeld => ?_)
        clear hK K
        try simp only [List.foldl, Act.put, List.setIfInBounds_toArray, List.set_cons_zero, List.set_cons_succ]
        refine wpAnyH_done (by kernel_rfl) ?_ _
        obtain ⟨X5, hX5⟩ : ∃ X5, Y.setCell ⟨sb, 1, none⟩ (.slice s' (O ++ [(k2, i, x, y)]).length c') = X5 := ⟨_, rfl⟩
        rw [show (O ++ [(k2, i, x, y)]).length = O.length + 1 by simp] at HE hX5
        have lO9 : (O ++ [(k2, i, x, y)]).length ≤ 300 := by simp; omega
        have HE : Hid (Dt n W X5 sb f s' c' s2 c2 (O ++ [(k2, i, x, y)]) N) := by rw [← hX5]; exact HE
        go_wp2_with fail
        rw [hX5]
        clear hX5
        generalize hO5 : O ++ [(k2, i, x, y)] = O5 at HE lO9
        clear hO5
        have HD := HE
        clear HE
        have KR := KP.out.same (HD.out.kp.block hnr hrl)
        obtain ⟨x0, x1, x2, x3⟩ := HD.out.k.three'
        obtain ⟨z0, z1, z2, z3⟩ := KR.three'
        have hsb : ¬ w.heap.size = sb := by have := HD.out.sw; omega
        have HFIN : Hid (DrawnK n w (.returned (.tuple #[.int .i64 (k), .agg #[.int .i64 f, .slice s' O5.length c', .slice s2 N.length c2]])) (((X5.drew.setCell ⟨w.heap.size, 0, none⟩ (.int .i64 f)).setCell ⟨w.heap.size, 1, none⟩ (.slice s' O5.length c')).setCell ⟨w.heap.size, 2, none⟩ (.slice s2 N.length c2))) := by
          have h1 := KR.lt
          have h2 := HD.out.sw
          have k9 := keptUnder h1 (.int .i64 f) (.slice s' O5.length c') (.slice s2 N.length c2)
          have kw : Keep n w X5 := PW.out.trans HD.out.kp
          exact ⟨k, f, s', c', s2, c2, O5, N, rfl, ((HD.out.o.mono (B' := w.heap.size + 1) (by omega)).kept k9).mono (by omega), ((HD.out.m.mono (B' := w.heap.size + 1) (by omega)).kept k9).mono (by omega), HD.out.ap, HD.out.okO, HD.out.okN, by omega, by omega, by omega, ((kw.drew.setNew (by simp) (by simp; omega) _).setNew (by simp) (by simp; omega) _).setNew (by simp) (by simp; omega) _, ((HD.out.cu.drew.set (by simp; omega) _).set (by simp; omega) _).set (by simp; omega) _⟩
        clear HD KR
        go_wp2_with fail
        go_region
        go_wp2_with fail
        exact bodyPost_ret (v := .tuple #[.int .i64 (k), .agg #[.int .i64 f, .slice s' O5.length c', .slice s2 N.length c2]]) (by simp [results, Try.results26, go_sem, z0, z1, z2]) rfl HFIN.out
      refine AllReadyH.cons rfl (fun K hK => ?_) AllReadyH.nil
      go_simp
      refine (l1Any_any n _ HD.out.cu.drew).mono ?_
      rintro e wa3 ⟨k2, i, x, y, rfl, bk2, bi, bx, by_, hk, hc⟩
      have HD : Hid (Dt n W wa3 sb f s1 c1 s2 c2 O N) := HD.out.drew.call hk hc
      have OKX : Hid (okV (k2, i, x, y)) := ⟨bi, bx, by_⟩
      clear hk hc
      refine hK.out _ _ trivial (fun hHeld => ?_)
      clear hK K
      try simp only [List.foldl, Act.put, List.setIfInBounds_toArray, List.set_cons_zero, List.set_cons_succ]
      refine wpAnyH_ready (rs := [1, 4]) (by kernel_rfl) (by simp) ?_
      refine AllReadyH.cons rfl (fun K hK => ?_) ?_
      · skip
        obtain ⟨x0, x1, x2, x3⟩ := HD.out.k.three'
        go_simp
        clear x0 x1 x2 x3
        refine hK.out _ _ trivial (fun hHeld => ?_)
        clear hK K
        try simp only [List.foldl, Act.put, List.setIfInBounds_toArray, List.set_cons_zero, List.set_cons_succ]
        refine wpAnyH_ready (rs := [4]) (by kernel_rfl) (by simp) ?_
        refine AllReadyH.cons rfl (fun K hK => ?_) AllReadyH.nil
        go_simp
        have HD : Hid (Dt n W (wa3.alloc (.cells #[.int .i64 k2, .int .i64 i, .float .f64 x, .float .f64 y] 64)) sb f s1 c1 s2 c2 O N) := HD.out.alloc _
        have BT : Hid (Blk (wa3.alloc (.cells #[.int .i64 k2, .int .i64 i, .float .f64 x, .float .f64 y] 64)) wa3.heap.size #[.int .i64 k2, .int .i64 i, .float .f64 x, .float .f64 y] 64) := Blk.new _ _ _
        refine hK.out _ _ trivial (fun hHeld => ?_)
        clear hK K
        try simp only [List.foldl, Act.put, List.setIfInBounds_toArray, List.set_cons_zero, List.set_cons_succ]
        generalize hGe : wa3.alloc (.cells #[.int .i64 k2, .int .i64 i, .float .f64 x, .float .f64 y] 64) = wb4 at HD BT ⊢
        generalize hTb : wa3.heap.size = tb at BT ⊢
        clear hGe hTb
        refine wpAnyH_ready (rs := [5]) (by kernel_rfl) (by simp) ?_
        refine AllReadyH.cons rfl (fun K hK => ?_) AllReadyH.nil
        refine step_append_near rfl (.tmp 28) (.tmp 31) rfl W.heap.size s1 c1 O rfl HD.out.o _ (some ⟨tb, 0, none⟩) 1 [(k2, i, x, y)] rfl (ov_one1 (v := (k2, i, x, y)) BT.out) (fun v hv => by simp at hv; subst hv; exact OKX.out) (O ++ [(k2, i, x, y)]) rfl (by simp; omega) HD.out.kp.1.size ?_
        intro s' c' Y hO hgr hnr
        have HE : Hid (Dt n W (Y.setCell ⟨sb, 1, none⟩ (.slice s' (O ++ [(k2, i, x, y)]).length c')) sb f s' c' s2 c2 (O ++ [(k2, i, x, y)]) N) := HD.out.old hO hgr hnr (fun v hv => (List.mem_append.1 hv).elim (HD.out.okO v) (fun e => by simp at e; subst e; exact OKX.out))
        obtain ⟨x0, x1, x2, x3⟩ := (HD.out.k.kept' hgr HD.out.noo).three'
        clear hO hgr hnr HD BT
        refine hK.out _ _ trivial (fun hHeld => ?_)
        clear hK K
        try simp only [List.foldl, Act.put, List.setIfInBounds_toArray, List.set_cons_zero, List.set_cons_succ]
        refine wpAnyH_one (i := 6) (d := 33) (v := ?_) rfl rfl (by kernel_rfl) (by kernel_rfl) (by kernel_rfl) (fun _ _ _ h => h) (by rfl) (by assumption) ?_ ?_
        rotate_left 1
        · intro w hSw; go_simp <;> with_reducible rfl
        simp only [List.foldl, Act.put, List.setIfInBounds_toArray, List.set_cons_zero, List.set_cons_succ]
        refine wpAnyH_ready (rs := [7]) (by kernel_rfl) (by simp) ?_
        refine AllReadyH.cons rfl (fun K hK => ?_) AllReadyH.nil
        go_simp
        clear x0 x1 x2 x3
        refine hK.out _ _ trivial (fun hHeld => ?_)
        clear hK K
        try simp only [List.foldl, Act.put, List.setIfInBounds_toArray, List.set_cons_zero, List.set_cons_succ]
        refine wpAnyH_done (by kernel_rfl) ?_ _
        obtain ⟨X5, hX5⟩ : ∃ X5, Y.setCell ⟨sb, 1, none⟩ (.slice s' (O ++ [(k2, i, x, y)]).length c') = X5 := ⟨_, rfl⟩
        rw [show (O ++ [(k2, i, x, y)]).length = O.length + 1 by simp] at HE hX5
        have lO9 : (O ++ [(k2, i, x, y)]).length ≤ 300 := by simp; omega
        have HE : Hid (Dt n W X5 sb f s' c' s2 c2 (O ++ [(k2, i, x, y)]) N) := by rw [← hX5]; exact HE
        go_wp2_with fail
        rw [hX5]
        clear hX5
        generalize hO5 : O ++ [(k2, i, x, y)] = O5 at HE lO9
        clear hO5
        have HD := HE
        clear HE
        have KR := KP.out.same (HD.out.kp.block hnr hrl)
        obtain ⟨x0, x1, x2, x3⟩ := HD.out.k.three'
        obtain ⟨z0, z1, z2, z3⟩ := KR.three'
        have hsb : ¬ w.heap.size = sb := by have := HD.out.sw; omega
        have HFIN : Hid (DrawnK n w (.returned (.tuple #[.int .i64 (k), .agg #[.int .i64 f, .slice s' O5.length c', .slice s2 N.length c2]])) (((X5.drew.setCell ⟨w.heap.size, 0, none⟩ (.int .i64 f)).setCell ⟨w.heap.size, 1, none⟩ (.slice s' O5.length c')).setCell ⟨w.heap.size, 2, none⟩ (.slice s2 N.length c2))) := by
          have h1 := KR.lt
          have h2 := HD.out.sw
          have k9 := keptUnder h1 (.int .i64 f) (.slice s' O5.length c') (.slice s2 N.length c2)
          have kw : Keep n w X5 := PW.out.trans HD.out.kp
          exact ⟨k, f, s', c', s2, c2, O5, N, rfl, ((HD.out.o.mono (B' := w.heap.size + 1) (by omega)).kept k9).mono (by omega), ((HD.out.m.mono (B' := w.heap.size + 1) (by omega)).kept k9).mono (by omega), HD.out.ap, HD.out.okO, HD.out.okN, by omega, by omega, by omega, ((kw.drew.setNew (by simp) (by simp; omega) _).setNew (by simp) (by simp; omega) _).setNew (by simp) (by simp; omega) _, ((HD.out.cu.drew.set (by simp; omega) _).set (by simp; omega) _).set (by simp; omega) _⟩
        clear HD KR
        go_wp2_with fail
        go_region
        go_wp2_with fail
        exact bodyPost_ret (v := .tuple #[.int .i64 (k), .agg #[.int .i64 f, .slice s' O5.length c', .slice s2 N.length c2]]) (by simp [results, Try.results26, go_sem, z0, z1, z2]) rfl HFIN.out
      refine AllReadyH.cons rfl (fun K hK => ?_) AllReadyH.nil
      go_simp
      have HD : Hid (Dt n W (wa3.alloc (.cells #[.int .i64 k2, .int .i64 i, .float .f64 x, .float .f64 y] 64)) sb f s1 c1 s2 c2 O N) := HD.out.alloc _
      have BT : Hid (Blk (wa3.alloc (.cells #[.int .i64 k2, .int .i64 i, .float .f64 x, .float .f64 y] 64)) wa3.heap.size #[.int .i64 k2, .int .i64 i, .float .f64 x, .float .f64 y] 64) := Blk.new _ _ _
      refine hK.out _ _ trivial (fun hHeld => ?_)
      clear hK K
      try simp only [List.foldl, Act.put, List.setIfInBounds_toArray, List.set_cons_zero, List.set_cons_succ]
      generalize hGe : wa3.alloc (.cells #[.int .i64 k2, .int .i64 i, .float .f64 x, .float .f64 y] 64) = wb5 at HD BT ⊢
      generalize hTb : wa3.heap.size = tb at BT ⊢
      clear hGe hTb
      refine wpAnyH_ready (rs := [1]) (by kernel_rfl) (by simp) ?_
      refine AllReadyH.cons rfl (fun K hK => ?_) AllReadyH.nil
      obtain ⟨x0, x1, x2, x3⟩ := HD.out.k.three'
      go_simp
      clear x0 x1 x2 x3
      refine hK.out _ _ trivial (fun hHeld => ?_)
      clear hK K
      try simp only [List.foldl, Act.put, List.setIfInBounds_toArray, List.set_cons_zero, List.set_cons_succ]
      refine wpAnyH_ready (rs := [5]) (by kernel_rfl) (by simp) ?_
      refine AllReadyH.cons rfl (fun K hK => ?_) AllReadyH.nil
      refine step_append_near rfl (.tmp 28) (.tmp 31) rfl W.heap.size s1 c1 O rfl HD.out.o _ (some ⟨tb, 0, none⟩) 1 [(k2, i, x, y)] rfl (ov_one1 (v := (k2, i, x, y)) BT.out) (fun v hv => by simp at hv; subst hv; exact OKX.out) (O ++ [(k2, i, x, y)]) rfl (by simp; omega) HD.out.kp.1.size ?_
      intro s' c' Y hO hgr hnr
      have HE : Hid (Dt n W (Y.setCell ⟨sb, 1, none⟩ (.slice s' (O ++ [(k2, i, x, y)]).length c')) sb f s' c' s2 c2 (O ++ [(k2, i, x, y)]) N) := HD.out.old hO hgr hnr (fun v hv => (List.mem_append.1 hv).elim (HD.out.okO v) (fun e => by simp at e; subst e; exact OKX.out))
      obtain ⟨x0, x1, x2, x3⟩ := (HD.out.k.kept' hgr HD.out.noo).three'
      clear hO hgr hnr HD BT
      refine hK.out _ _ trivial (fun hHeld => ?_)
      clear hK K
      try simp only [List.foldl, Act.put, List.setIfInBounds_toArray, List.set_cons_zero, List.set_cons_succ]
      refine wpAnyH_one (i := 6) (d := 33) (v := ?_) rfl rfl (by kernel_rfl) (by kernel_rfl) (by kernel_rfl) (fun _ _ _ h => h) (by rfl) (by assumption) ?_ ?_
      rotate_left 1
      · intro w hSw; go_simp <;> with_reducible rfl
      simp only [List.foldl, Act.put, List.setIfInBounds_toArray, List.set_cons_zero, List.set_cons_succ]
      refine wpAnyH_ready (rs := [7]) (by kernel_rfl) (by simp) ?_
      refine AllReadyH.cons rfl (fun K hK => ?_) AllReadyH.nil
      go_simp
      clear x0 x1 x2 x3
      refine hK.out _ _ trivial (fun hHeld => ?_)
      clear hK K
      try simp only [List.foldl, Act.put, List.setIfInBounds_toArray, List.set_cons_zero, List.set_cons_succ]
      refine wpAnyH_done (by kernel_rfl) ?_ _
      obtain ⟨X5, hX5⟩ : ∃ X5, Y.setCell ⟨sb, 1, none⟩ (.slice s' (O ++ [(k2, i, x, y)]).length c') = X5 := ⟨_, rfl⟩
      rw [show (O ++ [(k2, i, x, y)]).length = O.length + 1 by simp] at HE hX5
      have lO9 : (O ++ [(k2, i, x, y)]).length ≤ 300 := by simp; omega
      have HE : Hid (Dt n W X5 sb f s' c' s2 c2 (O ++ [(k2, i, x, y)]) N) := by rw [← hX5]; exact HE
      go_wp2_with fail
      rw [hX5]
      clear hX5
      generalize hO5 : O ++ [(k2, i, x, y)] = O5 at HE lO9
      clear hO5
      have HD := HE
      clear HE
      have KR := KP.out.same (HD.out.kp.block hnr hrl)
      obtain ⟨x0, x1, x2, x3⟩ := HD.out.k.three'
      obtain ⟨z0, z1, z2, z3⟩ := KR.three'
      have hsb : ¬ w.heap.size = sb := by have := HD.out.sw; omega
      have HFIN : Hid (DrawnK n w (.returned (.tuple #[.int .i64 (k), .agg #[.int .i64 f, .slice s' O5.length c', .slice s2 N.length c2]])) (((X5.drew.setCell ⟨w.heap.size, 0, none⟩ (.int .i64 f)).setCell ⟨w.heap.size, 1, none⟩ (.slice s' O5.length c')).setCell ⟨w.heap.size, 2, none⟩ (.slice s2 N.length c2))) := by
        have h1 := KR.lt
        have h2 := HD.out.sw
        have k9 := keptUnder h1 (.int .i64 f) (.slice s' O5.length c') (.slice s2 N.length c2)
        have kw : Keep n w X5 := PW.out.trans HD.out.kp
        exact ⟨k, f, s', c', s2, c2, O5, N, rfl, ((HD.out.o.mono (B' := w.heap.size + 1) (by omega)).kept k9).mono (by omega), ((HD.out.m.mono (B' := w.heap.size + 1) (by omega)).kept k9).mono (by omega), HD.out.ap, HD.out.okO, HD.out.okN, by omega, by omega, by omega, ((kw.drew.setNew (by simp) (by simp; omega) _).setNew (by simp) (by simp; omega) _).setNew (by simp) (by simp; omega) _, ((HD.out.cu.drew.set (by simp; omega) _).set (by simp; omega) _).set (by simp; omega) _⟩
      clear HD KR
      go_wp2_with fail
      go_region
      go_wp2_with fail
      exact bodyPost_ret (v := .tuple #[.int .i64 (k), .agg #[.int .i64 f, .slice s' O5.length c', .slice s2 N.length c2]]) (by simp [results, Try.results26, go_sem, z0, z1, z2]) rfl HFIN.out
    · clear r0 r1
      go_wp2_with fail
      go_loopw [] (fun wr => ∃ (s1 : Option Addr) (c1 : Nat) (O : List V4), O.length ≤ 201 ∧ Hid (Dt n W wr sb f s1 c1 s2 c2 O N)) (fun wr => 300 - oldLen sb wr)
      case atStart => exact ⟨s1, c1, O, by omega, HD⟩
      case round =>
        clear HD lO
        obtain ⟨s1, c1, O, lO, HD⟩ := hrel
        have lm := HD.out.len
        obtain ⟨x0, x1, x2, x3⟩ := HD.out.k.three'
        by_cases hlt : (O.length : Int) ≤ 200
        · go_wp2_with fail
          clear x0 x1 x2 x3
          refine wp_region_held_drew (S := fun _ => True) (by kernel_rfl) trivial (fun hHeld => ?_)
          refine wpAnyH_one (i := 0) (d := 40) (v := ?_) rfl rfl (by kernel_rfl) (by kernel_rfl) (by kernel_rfl) (fun _ _ _ h => h) (by rfl) (by assumption) ?_ ?_
          rotate_left 1
          · intro w hSw; go_simp <;> with_reducible rfl
          simp only [List.foldl, Act.put, List.setIfInBounds_toArray, List.set_cons_zero, List.set_cons_succ]
          refine wpAnyH_one (i := 2) (d := 42) (v := ?_) rfl rfl (by kernel_rfl) (by kernel_rfl) (by kernel_rfl) (fun _ _ _ h => h) (by rfl) (by assumption) ?_ ?_
          rotate_left 1
          · intro w hSw; go_simp <;> with_reducible rfl
          simp only [List.foldl, Act.put, List.setIfInBounds_toArray, List.set_cons_zero, List.set_cons_succ]
          refine wpAnyH_one (i := 3) (d := 43) (v := ?_) rfl rfl (by kernel_rfl) (by kernel_rfl) (by kernel_rfl) (fun _ _ _ h => h) (by rfl) (by assumption) ?_ ?_
          rotate_left 1
          · intro w hSw; go_simp <;> with_reducible rfl
          simp only [List.foldl, Act.put, List.setIfInBounds_toArray, List.set_cons_zero, List.set_cons_succ]
          refine wpAnyH_ready (rs := [1, 4]) (by kernel_rfl) (by simp) ?_
          refine AllReadyH.cons rfl (fun K hK => ?_) ?_
          · skip
            obtain ⟨x0, x1, x2, x3⟩ := HD.out.k.three'
            go_simp
            clear x0 x1 x2 x3
            refine hK.out _ _ trivial (fun hHeld => ?_)
            clear hK K
            try simp only [List.foldl, Act.put, List.setIfInBounds_toArray, List.set_cons_zero, List.set_cons_succ]
            have HD := HD.out.drew
            have HD : Hid (Dt n W wr.drew sb f s1 c1 s2 c2 O N) := HD
            refine wpAnyH_ready (rs := [4]) (by kernel_rfl) (by simp) ?_
            refine AllReadyH.cons rfl (fun K hK => ?_) AllReadyH.nil
            go_simp
            refine (l1Val_any n k _ HD.out.cu).mono ?_
            rintro e wa1 ⟨i, x, y, rfl, bi, bx, by_, hk, hc⟩
            have HD : Hid (Dt n W wa1 sb f s1 c1 s2 c2 O N) := HD.out.call hk hc
            have OKX : Hid (okV (k, i, x, y)) := ⟨bi, bx, by_⟩
            clear hk hc
            refine hK.out _ _ trivial (fun hHeld => ?_)
            clear hK K
            try simp only [List.foldl, Act.put, List.setIfInBounds_toArray, List.set_cons_zero, List.set_cons_succ]
            refine wpAnyH_ready (rs := [5]) (by kernel_rfl) (by simp) ?_
            refine AllReadyH.cons rfl (fun K hK => ?_) AllReadyH.nil
            go_simp
            have HD : Hid (Dt n W (wa1.alloc (.cells #[.int .i64 k, .int .i64 i, .float .f64 x, .float .f64 y] 64)) sb f s1 c1 s2 c2 O N) := HD.out.alloc _
            have BT : Hid (Blk (wa1.alloc (.cells #[.int .i64 k, .int .i64 i, .float .f64 x, .float .f64 y] 64)) wa1.heap.size #[.int .i64 k, .int .i64 i, .float .f64 x, .float .f64 y] 64) := Blk.new _ _ _
            refine hK.out _ _ trivial (fun hHeld => ?_)
            clear hK K
            try simp only [List.foldl, Act.put, List.setIfInBounds_toArray, List.set_cons_zero, List.set_cons_succ]
            generalize hGe : wa1.alloc (.cells #[.int .i64 k, .int .i64 i, .float .f64 x, .float .f64 y] 64) = wb2 at HD BT ⊢
            generalize hTb : wa1.heap.size = tb at BT ⊢
            clear hGe hTb
            refine wpAnyH_ready (rs := [6]) (by kernel_rfl) (by simp) ?_
            refine AllReadyH.cons rfl (fun K hK => ?_) AllReadyH.nil
            refine step_append_near rfl (.tmp 41) (.tmp 45) rfl W.heap.size s1 c1 O rfl HD.out.o _ (some ⟨tb, 0, none⟩) 1 [(k, i, x, y)] rfl (ov_one1 (v := (k, i, x, y)) BT.out) (fun v hv => by simp at hv; subst hv; exact OKX.out) (O ++ [(k, i, x, y)]) rfl (by simp; omega) HD.out.kp.1.size ?_
            intro s' c' Y hO hgr hnr
            have HE : Hid (Dt n W (Y.setCell ⟨sb, 1, none⟩ (.slice s' (O ++ [(k, i, x, y)]).length c')) sb f s' c' s2 c2 (O ++ [(k, i, x, y)]) N) := HD.out.old hO hgr hnr (fun v hv => (List.mem_append.1 hv).elim (HD.out.okO v) (fun e => by simp at e; subst e; exact OKX.out))
            obtain ⟨x0, x1, x2, x3⟩ := (HD.out.k.kept' hgr HD.out.noo).three'
            clear hO hgr hnr HD BT
            refine hK.out _ _ trivial (fun hHeld => ?_)
            clear hK K
            try simp only [List.foldl, Act.put, List.setIfInBounds_toArray, List.set_cons_zero, List.set_cons_succ]
            refine wpAnyH_one (i := 7) (d := 47) (v := ?_) rfl rfl (by kernel_rfl) (by kernel_rfl) (by kernel_rfl) (fun _ _ _ h => h) (by rfl) (by assumption) ?_ ?_
            rotate_left 1
            · intro w hSw; go_simp <;> with_reducible rfl
            simp only [List.foldl, Act.put, List.setIfInBounds_toArray, List.set_cons_zero, List.set_cons_succ]
            refine wpAnyH_ready (rs := [8]) (by kernel_rfl) (by simp) ?_
            refine AllReadyH.cons rfl (fun K hK => ?_) AllReadyH.nil
            go_simp
            clear x0 x1 x2 x3
            refine hK.out _ _ trivial (fun hHeld => ?_)
            clear hK K
            try simp only [List.foldl, Act.put, List.setIfInBounds_toArray, List.set_cons_zero, List.set_cons_succ]
            refine wpAnyH_done (by kernel_rfl) ?_ _
            rw [show (O ++ [(k, i, x, y)]).length = O.length + 1 by simp] at HE
            go_wp2_with fail
            go_roundw
            case rel => exact ⟨s', c', O ++ [(k, i, x, y)], by simp; omega, HE⟩
            case measure => rw [lm, HE.out.len]; simp; omega
          refine AllReadyH.cons rfl (fun K hK => ?_) AllReadyH.nil
          go_simp
          refine (l1Val_any n k _ HD.out.cu.drew).mono ?_
          rintro e wa3 ⟨i, x, y, rfl, bi, bx, by_, hk, hc⟩
          have HD : Hid (Dt n W wa3 sb f s1 c1 s2 c2 O N) := HD.out.drew.call hk hc
          have OKX : Hid (okV (k, i, x, y)) := ⟨bi, bx, by_⟩
          clear hk hc
          refine hK.out _ _ trivial (fun hHeld => ?_)
          clear hK K
          try simp only [List.foldl, Act.put, List.setIfInBounds_toArray, List.set_cons_zero, List.set_cons_succ]
          refine wpAnyH_ready (rs := [1, 5]) (by kernel_rfl) (by simp) ?_
          refine AllReadyH.cons rfl (fun K hK => ?_) ?_
          · skip
            obtain ⟨x0, x1, x2, x3⟩ := HD.out.k.three'
            go_simp
            clear x0 x1 x2 x3
            refine hK.out _ _ trivial (fun hHeld => ?_)
            clear hK K
            try simp only [List.foldl, Act.put, List.setIfInBounds_toArray, List.set_cons_zero, List.set_cons_succ]
            refine wpAnyH_ready (rs := [5]) (by kernel_rfl) (by simp) ?_
            refine AllReadyH.cons rfl (fun K hK => ?_) AllReadyH.nil
            go_simp
            have HD : Hid (Dt n W (wa3.alloc (.cells #[.int .i64 k, .int .i64 i, .float .f64 x, .float .f64 y] 64)) sb f s1 c1 s2 c2 O N) := HD.out.alloc _
            have BT : Hid (Blk (wa3.alloc (.cells #[.int .i64 k, .int .i64 i, .float .f64 x, .float .f64 y] 64)) wa3.heap.size #[.int .i64 k, .int .i64 i, .float .f64 x, .float .f64 y] 64) := Blk.new _ _ _
            refine hK.out _ _ trivial (fun hHeld => ?_)
            clear hK K
            try simp only [List.foldl, Act.put, List.setIfInBounds_toArray, List.set_cons_zero, List.set_cons_succ]
            generalize hGe : wa3.alloc (.cells #[.int .i64 k, .int .i64 i, .float .f64 x, .float .f64 y] 64) = wb4 at HD BT ⊢
            generalize hTb : wa3.heap.size = tb at BT ⊢
            clear hGe hTb
            refine wpAnyH_ready (rs := [6]) (by kernel_rfl) (by simp) ?_
            refine AllReadyH.cons rfl (fun K hK => ?_) AllReadyH.nil
            refine step_append_near rfl (.tmp 41) (.tmp 45) rfl W.heap.size s1 c1 O rfl HD.out.o _ (some ⟨tb, 0, none⟩) 1 [(k, i, x, y)] rfl (ov_one1 (v := (k, i, x, y)) BT.out) (fun v hv => by simp at hv; subst hv; exact OKX.out) (O ++ [(k, i, x, y)]) rfl (by simp; omega) HD.out.kp.1.size ?_
            intro s' c' Y hO hgr hnr
            have HE : Hid (Dt n W (Y.setCell ⟨sb, 1, none⟩ (.slice s' (O ++ [(k, i, x, y)]).length c')) sb f s' c' s2 c2 (O ++ [(k, i, x, y)]) N) := HD.out.old hO hgr hnr (fun v hv => (List.mem_append.1 hv).elim (HD.out.okO v) (fun e => by simp at e; subst e; exact OKX.out))
            obtain ⟨x0, x1, x2, x3⟩ := (HD.out.k.kept' hgr HD.out.noo).three'
            clear hO hgr hnr HD BT
            refine hK.out _ _ trivial (fun hHeld => ?_)
            clear hK K
            try simp only [List.foldl, Act.put, List.setIfInBounds_toArray, List.set_cons_zero, List.set_cons_succ]
            refine wpAnyH_one (i := 7) (d := 47) (v := ?_) rfl rfl (by kernel_rfl) (by kernel_rfl) (by kernel_rfl) (fun _ _ _ h => h) (by rfl) (by assumption) ?_ ?_
            rotate_left 1
            · intro w hSw; go_simp <;> with_reducible rfl
            simp only [List.foldl, Act.put, List.setIfInBounds_toArray, List.set_cons_zero, List.set_cons_succ]
            refine wpAnyH_ready (rs := [8]) (by kernel_rfl) (by simp) ?_
            refine AllReadyH.cons rfl (fun K hK => ?_) AllReadyH.nil
            go_simp
            clear x0 x1 x2 x3
            refine hK.out _ _ trivial (fun hHeld => ?_)
            clear hK K
            try simp only [List.foldl, Act.put, List.setIfInBounds_toArray, List.set_cons_zero, List.set_cons_succ]
            refine wpAnyH_done (by kernel_rfl) ?_ _
            rw [show (O ++ [(k, i, x, y)]).length = O.length + 1 by simp] at HE
            go_wp2_with fail
            go_roundw
            case rel => exact ⟨s', c', O ++ [(k, i, x, y)], by simp; omega, HE⟩
            case measure => rw [lm, HE.out.len]; simp; omega
          refine AllReadyH.cons rfl (fun K hK => ?_) AllReadyH.nil
          go_simp
          have HD : Hid (Dt n W (wa3.alloc (.cells #[.int .i64 k, .int .i64 i, .float .f64 x, .float .f64 y] 64)) sb f s1 c1 s2 c2 O N) := HD.out.alloc _
          have BT : Hid (Blk (wa3.alloc (.cells #[.int .i64 k, .int .i64 i, .float .f64 x, .float .f64 y] 64)) wa3.heap.size #[.int .i64 k, .int .i64 i, .float .f64 x, .float .f64 y] 64) := Blk.new _ _ _
          refine hK.out _ _ trivial (fun hHeld => ?_)
          clear hK K
          try simp only [List.foldl, Act.put, List.setIfInBounds_toArray, List.set_cons_zero, List.set_cons_succ]
          generalize hGe : wa3.alloc (.cells #[.int .i64 k, .int .i64 i, .float .f64 x, .float .f64 y] 64) = wb5 at HD BT ⊢
          generalize hTb : wa3.heap.size = tb at BT ⊢
          clear hGe hTb
          refine wpAnyH_ready (rs := [1]) (by kernel_rfl) (by simp) ?_
          refine AllReadyH.cons rfl (fun K hK => ?_) AllReadyH.nil
          obtain ⟨x0, x1, x2, x3⟩ := HD.out.k.three'
          go_simp
          clear x0 x1 x2 x3
          refine hK.out _ _ trivial (fun hHeld => ?_)
          clear hK K
          try simp only [List.foldl, Act.put, List.setIfInBounds_toArray, List.set_cons_zero, List.set_cons_succ]
          refine wpAnyH_ready (rs := [6]) (by kernel_rfl) (by simp) ?_
          refine AllReadyH.cons rfl (fun K hK => ?_) AllReadyH.nil
          refine step_append_near rfl (.tmp 41) (.tmp 45) rfl W.heap.size s1 c1 O rfl HD.out.o _ (some ⟨tb, 0, none⟩) 1 [(k, i, x, y)] rfl (ov_one1 (v := (k, i, x, y)) BT.out) (fun v hv => by simp at hv; subst hv; exact OKX.out) (O ++ [(k, i, x, y)]) rfl (by simp; omega) HD.out.kp.1.size ?_
          intro s' c' Y hO hgr hnr
          have HE : Hid (Dt n W (Y.setCell ⟨sb, 1, none⟩ (.slice s' (O ++ [(k, i, x, y)]).length c')) sb f s' c' s2 c2 (O ++ [(k, i, x, y)]) N) := HD.out.old hO hgr hnr (fun v hv => (List.mem_append.1 hv).elim (HD.out.okO v) (fun e => by simp at e; subst e; exact OKX.out))
          obtain ⟨x0, x1, x2, x3⟩ := (HD.out.k.kept' hgr HD.out.noo).three'
          clear hO hgr hnr HD BT
          refine hK.out _ _ trivial (fun hHeld => ?_)
          clear hK K
          try simp only [List.foldl, Act.put, List.setIfInBounds_toArray, List.set_cons_zero, List.set_cons_succ]
          refine wpAnyH_one (i := 7) (d := 47) (v := ?_) rfl rfl (by kernel_rfl) (by kernel_rfl) (by kernel_rfl) (fun _ _ _ h => h) (by rfl) (by assumption) ?_ ?_
          rotate_left 1
          · intro w hSw; go_simp <;> with_reducible rfl
          simp only [List.foldl, Act.put, List.setIfInBounds_toArray, List.set_cons_zero, List.set_cons_succ]
          refine wpAnyH_ready (rs := [8]) (by kernel_rfl) (by simp) ?_
          refine AllReadyH.cons rfl (fun K hK => ?_) AllReadyH.nil
          go_simp
          clear x0 x1 x2 x3
          refine hK.out _ _ trivial (fun hHeld => ?_)
          clear hK K
          try simp only [List.foldl, Act.put, List.setIfInBounds_toArray, List.set_cons_zero, List.set_cons_succ]
          refine wpAnyH_done (by kernel_rfl) ?_ _
          rw [show (O ++ [(k, i, x, y)]).length = O.length + 1 by simp] at HE
          go_wp2_with fail
          go_roundw
          case rel => exact ⟨s', c', O ++ [(k, i, x, y)], by simp; omega, HE⟩
          case measure => rw [lm, HE.out.len]; simp; omega
        · go_wp2_with fail
          clear x0 x1 x2 x3
          have KR := KP.out.same (HD.out.kp.block hnr hrl)
          obtain ⟨x0, x1, x2, x3⟩ := HD.out.k.three'
          obtain ⟨z0, z1, z2, z3⟩ := KR.three'
          have hsb : ¬ w.heap.size = sb := by have := HD.out.sw; omega
          have HFIN : Hid (DrawnK n w (.returned (.tuple #[.int .i64 (k), .agg #[.int .i64 f, .slice s1 O.length c1, .slice s2 N.length c2]])) (((wr.drew.setCell ⟨w.heap.size, 0, none⟩ (.int .i64 f)).setCell ⟨w.heap.size, 1, none⟩ (.slice s1 O.length c1)).setCell ⟨w.heap.size, 2, none⟩ (.slice s2 N.length c2))) := by
            have h1 := KR.lt
            have h2 := HD.out.sw
            have k9 := keptUnder h1 (.int .i64 f) (.slice s1 O.length c1) (.slice s2 N.length c2)
            have kw : Keep n w wr := PW.out.trans HD.out.kp
            exact ⟨k, f, s1, c1, s2, c2, O, N, rfl, ((HD.out.o.mono (B' := w.heap.size + 1) (by omega)).kept k9).mono (by omega), ((HD.out.m.mono (B' := w.heap.size + 1) (by omega)).kept k9).mono (by omega), HD.out.ap, HD.out.okO, HD.out.okN, by omega, by omega, by omega, ((kw.drew.setNew (by simp) (by simp; omega) _).setNew (by simp) (by simp; omega) _).setNew (by simp) (by simp; omega) _, ((HD.out.cu.drew.set (by simp; omega) _).set (by simp; omega) _).set (by simp; omega) _⟩
          clear HD KR
          go_wp2_with fail
          go_region
          go_wp2_with fail
          exact bodyPost_ret (v := .tuple #[.int .i64 (k), .agg #[.int .i64 f, .slice s1 O.length c1, .slice s2 N.length c2]]) (by simp [results, Try.results26, go_sem, z0, z1, z2]) rfl HFIN.out
    · clear r0 r1
      go_wp2_with fail
      refine (l1Below_any n 7 _ HD.out.cu (by omega)).mono ?_
      rintro e w5 ⟨r, rfl, r0, r1, hk5, hc5⟩
      have HD : Hid (Dt n W w5 sb f s1 c1 s2 c2 O N) := HD.out.call hk5 hc5
      have tr : IntKind.i64.wrap (r - 1) = r - 1 := by rw [IntKind.wrap_i64]; omega
      clear hk5 hc5
      go_wp2_with fail
      have KR := KP.out.same (HD.out.kp.block hnr hrl)
      obtain ⟨x0, x1, x2, x3⟩ := HD.out.k.three'
      obtain ⟨z0, z1, z2, z3⟩ := KR.three'
      have hsb : ¬ w.heap.size = sb := by have := HD.out.sw; omega
      have HFIN : Hid (DrawnK n w (.returned (.tuple #[.int .i64 (r - 1), .agg #[.int .i64 f, .slice s1 O.length c1, .slice s2 N.length c2]])) (((w5.drew.setCell ⟨w.heap.size, 0, none⟩ (.int .i64 f)).setCell ⟨w.heap.size, 1, none⟩ (.slice s1 O.length c1)).setCell ⟨w.heap.size, 2, none⟩ (.slice s2 N.length c2))) := by
        have h1 := KR.lt
        have h2 := HD.out.sw
        have k9 := keptUnder h1 (.int .i64 f) (.slice s1 O.length c1) (.slice s2 N.length c2)
        have kw : Keep n w w5 := PW.out.trans HD.out.kp
        exact ⟨r - 1, f, s1, c1, s2, c2, O, N, rfl, ((HD.out.o.mono (B' := w.heap.size + 1) (by omega)).kept k9).mono (by omega), ((HD.out.m.mono (B' := w.heap.size + 1) (by omega)).kept k9).mono (by omega), HD.out.ap, HD.out.okO, HD.out.okN, by omega, by omega, by omega, ((kw.drew.setNew (by simp) (by simp; omega) _).setNew (by simp) (by simp; omega) _).setNew (by simp) (by simp; omega) _, ((HD.out.cu.drew.set (by simp; omega) _).set (by simp; omega) _).set (by simp; omega) _⟩
      clear HD KR
      go_wp2_with fail
      go_region
      go_wp2_with fail
      exact bodyPost_ret (v := .tuple #[.int .i64 (r - 1), .agg #[.int .i64 f, .slice s1 O.length c1, .slice s2 N.length c2]]) (by simp [results, Try.results26, go_sem, z0, z1, z2]) rfl HFIN.out
end Go.Proofs.Ytpfamdpgcbpiaaa
