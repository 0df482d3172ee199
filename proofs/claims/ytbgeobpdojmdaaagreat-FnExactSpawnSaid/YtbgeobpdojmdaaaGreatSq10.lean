import Derived.Test.YtbgeobpdojmdaaaGreatSq09
namespace Go.Proofs.YtbgeobpdojmdaaaGreat
open Go.RowKit Go.Maps Go.WideMaps
set_option linter.unusedVariables false
set_option linter.unusedSimpArgs false
set_option maxHeartbeats 2000000 in
theorem szDeclS_any (s : Option Addr) (c : Nat) (L : List (ByteArray × Int)) (left : Int) (w : World) (hL : Decls w s L) (hN : Nms L) (hm : L.length ≤ maxLen) (h0 : 0 ≤ left) (h1 : left ≤ 1048576) :
  Calls Tryz.prog 20 #[.slice s L.length c, .int .i64 left] w fun e w' => (∃ r : Int, e = .returned (.int .i64 r) ∧ (r = -1 ∨ (0 ≤ r ∧ r ≤ left ∧ L.length ≤ 1048576))) ∧ Below w.heap.size w w' := by
 have tw : IntKind.i64.wrap (left - (L.length : Int)) = left - (L.length : Int) := by unfold maxLen at hm; rw [IntKind.wrap_i64]; omega
 by_cases h : (L.length : Int) ≤ left
 ·
  have t1 : decide (left - (L.length : Int) < 0) = false := by simp; omega
  have hl : L.length ≤ 1048576 := by omega
  clear hm; go_enter Tryz.func20, Tryz.ntmps20
  go_wp2_with fail; clear tw t1; go_loopw [1, 5] (fun x i wr => ∃ (k : Nat) (r : Int), k ≤ L.length ∧ i = .int .i64 k ∧ x = .int .i64 r ∧ 0 ≤ r ∧ r ≤ left ∧ Below w.heap.size w wr) (fun _ i _ => L.length - (intOf i).toNat)
  case atStart => exact ⟨0, _, Nat.zero_le _, rfl, rfl, by omega, by omega, Below.refl _ _⟩
  obtain ⟨k, r, hk, rfl, rfl, r0, r1, hb⟩ := hrel
  by_cases hlt : k < L.length
  ·
   obtain ⟨b, o, rfl, hp, e1, e2⟩ := (hL.later hb).get hlt
   have hn := hN _ (dAt_mem hlt)
   obtain ⟨p, hp0⟩ : ∃ p, Hid (dAt L k = p) := ⟨_, rfl⟩
   rw [hp0.out] at e1 e2 hn
   obtain ⟨p1, p2⟩ := p
   clear hL hN; go_wp2_with fail; refine (szDecl_any p1 p2 r _ hn r0 (by omega)).mono ?_
   rintro e w2 ⟨⟨q, rfl, hq⟩, hb2⟩
   rcases hq with rfl | ⟨q0, q1⟩
   ·
    go_wp2_with fail; go_ret; exact ⟨⟨_, rfl, Or.inl rfl⟩, bl_trans hb hb2⟩
   have t2 : decide (q < 0) = false := by simp; omega
   go_wp2_with fail; go_roundw
   case rel => exact ⟨k + 1, q, by omega, by go_num, rfl, q0, by omega, bl_trans hb hb2⟩
   case measure => simp [intOf]; omega
  go_wp2_with fail; go_ret; exact ⟨⟨_, rfl, Or.inr ⟨r0, r1, hl⟩⟩, hb⟩
 have t1 : decide (left - (L.length : Int) < 0) = true := by simp; omega
 clear hm; go_enter Tryz.func20, Tryz.ntmps20
 go_wp2_with fail; go_ret; exact ⟨⟨_, rfl, Or.inl rfl⟩, Below.refl _ _⟩
theorem blk3r (w : World) (c d e : Array Value) (t u v : TypeId) : Blk (((w.alloc (.cells c t)).alloc (.cells d u)).alloc (.cells e v)) w.heap.size c t ∧ Blk (((w.alloc (.cells c t)).alloc (.cells d u)).alloc (.cells e v)) (w.heap.size + 1) d u ∧ Blk (((w.alloc (.cells c t)).alloc (.cells d u)).alloc (.cells e v)) (w.heap.size + 1 + 1) e v :=
 ⟨((Blk.new w c t).alloc _).alloc _, (Blk.new' _ d u (by simp)).alloc _, Blk.new' _ e v (by simp)⟩
theorem Blk.three {w : World} {n : Nat} {a b c : Value} {t : TypeId} (h : Blk w n #[a, b, c] t) : w.cell? ⟨n, 0, none⟩ = some a ∧ w.cell? ⟨n, 1, none⟩ = some b ∧ w.cell? ⟨n, 2, none⟩ = some c ∧ ∀ o, w.frozen? ⟨n, o, none⟩ = false := ⟨h.cell 0, h.cell 1, h.cell 2, h.frozen⟩
theorem Tryz.infoD : (Tryz.prog.info? 113).map (fun i => (i.zero, i.size, i.bytes)) = some (some (.agg #[.string ByteArray.empty, .int .i64 0]), 2, 24) := by kernel_rfl
def dpart (L : List (ByteArray × Int)) (k : Nat) : List (ByteArray × Int) := L.take k ++ List.replicate (L.length - k) (ByteArray.empty, 0)
theorem dpart_len (L : List (ByteArray × Int)) {k : Nat} (h : k ≤ L.length) : (dpart L k).length = L.length := by simp [dpart]; omega
theorem dpart_cut (L : List (ByteArray × Int)) {k : Nat} (h : k < L.length) : dpart L k = L.take k ++ (ByteArray.empty, 0) :: List.replicate (L.length - (k + 1)) (ByteArray.empty, 0) := by
 unfold dpart
 rw [show L.length - k = (L.length - (k + 1)) + 1 by omega, List.replicate_succ]
theorem dpart_next (L : List (ByteArray × Int)) {k : Nat} (h : k < L.length) : L.take k ++ dAt L k :: List.replicate (L.length - (k + 1)) (ByteArray.empty, 0) = dpart L (k + 1) := by
 unfold dpart
 have e : L.take (k + 1) = L.take k ++ [dAt L k] := by rw [List.take_add_one, dAt_some h]; rfl
 rw [e]; simp
set_option maxHeartbeats 2000000 in
theorem toDeclS_any (s : Option Addr) (c : Nat) (L : List (ByteArray × Int)) (w : World) (hL : Decls w s L) (hl : L.length ≤ 1048576) :
  Calls Tryz.prog 28 #[.slice s L.length c] w fun e w' => e = .returned (.slice (some ⟨w.heap.size, 0, none⟩) L.length L.length) ∧ DRow w' w.heap.size (.slice (some ⟨w.heap.size, 0, none⟩) L.length L.length) L ∧ Below w.heap.size w w' := by
 obtain ⟨i0, hi, hz0, hz1, hz2⟩ := info_parts Tryz.infoD
 go_enter Tryz.func28, Tryz.ntmps28
 go_wp2_with (at_make; refine wpList_make_full _ rfl _ _ 45 rfl w.heap.size 113 i0 (.agg #[.string ByteArray.empty, .int .i64 0]) 2 Tryz.underlying45 hi hz0 hz1 .i64 .i64 _ _ L.length rfl rfl rfl rfl (by rw [hz2]; omega) (by unfold maxLen; omega) (Nat.le_refl _) ?_)
 intro w1 hown hgrow
 have hrow : Hid (DRow w1 w.heap.size (.slice (some ⟨w.heap.size, 0, none⟩) L.length L.length) (dpart L 0)) := by
  show World.ownsRow _ _ _ _ _ _ _
  rw [dpart_len L (Nat.zero_le _)]
  have : (dpart L 0) = List.replicate L.length (ByteArray.empty, 0) := by simp [dpart]
  rw [this, ← made_decls]
  exact hown
 have hbel : Hid (Below w.heap.size w w1) := (Below.refl _ w).grown hgrow (Nat.le_refl _) (fun k h => by cases h)
 clear hown hgrow hi hz0 hz1 hz2; go_wp2_with fail; go_loopw [4] (fun i wr => ∃ k : Nat, k ≤ L.length ∧ i = .int .i64 k ∧ Hid (DRow wr w.heap.size (.slice (some ⟨w.heap.size, 0, none⟩) L.length L.length) (dpart L k)) ∧ Hid (Below w.heap.size w wr)) (fun i _ => L.length - (intOf i).toNat)
 case atStart => exact ⟨0, Nat.zero_le _, rfl, hrow, hbel⟩
 obtain ⟨k, hk, rfl, hrow, hbel⟩ := hrel
 by_cases hlt : k < L.length
 ·
  obtain ⟨b, o, rfl, hp, e1, e2⟩ := (hL.later hbel.out).get hlt
  obtain ⟨p, hp0⟩ : ∃ p, Hid (dAt L k = p) := ⟨_, rfl⟩
  rw [hp0.out] at e1 e2
  obtain ⟨p1, p2⟩ := p
  clear hL; go_wp2_with fail; refine (toDecl_any p1 p2 _).mono ?_
  rintro e w2 ⟨rfl, hb2⟩
  have hr2 : DRow w2 w.heap.size (.slice (some ⟨w.heap.size, 0, none⟩) L.length L.length) (dpart L k) := hrow.out.later hb2
  have L2 := bl_trans hbel.out hb2
  have hlen := dpart_len L (k := k) (by omega)
  obtain ⟨_, _, f1⟩ := hr2.cells
  obtain ⟨g1, g2, g3⟩ := f1 k (by omega)
  have hput := DRow.put (L := dpart L k) (w := w2) (B := w.heap.size) (g := w.heap.size) (cap := L.length) (by rw [hlen]; exact hr2) (dpart_cut L hlt) p1 p2
  have e9 : (L.take k).length = k := by simp; omega
  rw [hlen, e9, show ((p1, p2) : ByteArray × Int) = dAt L k from hp0.out.symm, dpart_next L hlt] at hput
  have hputH : Hid (DRow ((w2.setCell ⟨w.heap.size, k * 2, none⟩ (.string p1)).setCell ⟨w.heap.size, k * 2 + 1, none⟩ (.int .i64 p2)) w.heap.size (.slice (some ⟨w.heap.size, 0, none⟩) L.length L.length) (dpart L (k + 1))) := hput
  obtain ⟨y1, hy1⟩ : ∃ y, (dAt (dpart L k) k).1 = y := ⟨_, rfl⟩
  obtain ⟨y2, hy2⟩ : ∃ y, (dAt (dpart L k) k).2 = y := ⟨_, rfl⟩
  rw [hy1] at g1
  rw [hy2] at g2
  clear hput f1 hr2 hrow hlen e9 hy1 hy2; go_wp2_with fail; go_roundw
  case rel => exact ⟨k + 1, by omega, by go_num, hputH, (L2.setCell (Nat.le_refl _) _).setCell (Nat.le_refl _) _⟩
  case measure => simp [intOf]; omega
 have hm' : k = L.length := by omega
 subst hm'
 have : dpart L L.length = L := by simp [dpart]
 have hr := hrow.out
 rw [this] at hr
 clear hrow; go_wp2_with fail; go_ret; exact ⟨rfl, hr, hbel.out⟩
set_option maxHeartbeats 2000000 in
theorem eqDeclS_same (s t : Option Addr) (c d : Nat) (L : List (ByteArray × Int)) (w : World) (hs : Decls w s L) (ht : Decls w t L) (hl : L.length ≤ 1048576) :
  Calls Tryz.prog 39 #[.slice s L.length c, .slice t L.length d] w fun e w' => e = .returned (.bool true) ∧ Below w.heap.size w w' := by
 have t1 : ((L.length : Int) != (L.length : Int)) = false := by simp
 go_enter Tryz.func39, Tryz.ntmps39
 go_wp2_with fail; go_loopw [5] (fun i wr => ∃ k : Nat, k ≤ L.length ∧ i = .int .i64 k ∧ Below w.heap.size w wr) (fun i _ => L.length - (intOf i).toNat)
 case atStart => exact ⟨0, Nat.zero_le _, rfl, Below.refl _ _⟩
 obtain ⟨k, hk, rfl, hb⟩ := hrel
 by_cases hlt : k < L.length
 ·
  obtain ⟨b, o, rfl, hp, e1, e2⟩ := (hs.later hb).get hlt
  obtain ⟨b', o', rfl, hp', e3, e4⟩ := (ht.later hb).get hlt
  obtain ⟨p, hp0⟩ : ∃ p, Hid (dAt L k = p) := ⟨_, rfl⟩
  rw [hp0.out] at e1 e2 e3 e4
  obtain ⟨p1, p2⟩ := p
  clear hs ht; go_wp2_with fail; go_region_with (first
   | (go_at_call 81; refine (eqDecl_same p1 p2 _).mono ?_; rintro e w2 ⟨rfl, hb2⟩))
  all_goals
   go_wp2_with fail; go_roundw
   case rel =>
    refine ⟨k + 1, by omega, by go_num, ?_⟩
    exact blq
   case measure => simp [intOf]; omega
 go_wp2_with fail; go_ret; exact ⟨rfl, hb⟩
set_option maxHeartbeats 2000000 in
theorem eqReg_same (a1 a2 a3 b1 b2 b3 : Option Addr) (c1 c2 c3 d1 d2 d3 : Nat) (A B C : List (ByteArray × Int)) (w : World) (hA : Decls w a1 A) (hB : Decls w a2 B) (hC : Decls w a3 C) (gA : Decls w b1 A) (gB : Decls w b2 B) (gC : Decls w b3 C) (lA : A.length ≤ 1048576) (lB : B.length ≤ 1048576) (lC : C.length ≤ 1048576) :
  Calls Tryz.prog 14 #[.agg #[.slice a1 A.length c1, .slice a2 B.length c2, .slice a3 C.length c3], .agg #[.slice b1 A.length d1, .slice b2 B.length d2, .slice b3 C.length d3]] w fun e w' => e = .returned (.bool true) ∧ Below w.heap.size w w' := by
 have hal := alloc_old
 have haf := alloc_oldf
 obtain ⟨k0, k1⟩ := blk2 w #[.slice a1 A.length c1, .slice a2 B.length c2, .slice a3 C.length c3] #[.slice b1 A.length d1, .slice b2 B.length d2, .slice b3 C.length d3] 47 47
 obtain ⟨x0, x1, x2, x3⟩ := k0.three
 obtain ⟨y0, y1, y2, y3⟩ := k1.three
 go_enter Tryz.func14, Tryz.ntmps14
 go_wp2_with fail; refine (eqDeclS_same a1 b1 c1 d1 A _ (hA.later blq) (gA.later blq) lA).mono ?_
 rintro e w1 ⟨rfl, hb1⟩
 have L1 : Below w.heap.size w w1 := blq
 have K0 := k0.later hb1
 have K1 := k1.later hb1
 clear k0 k1 x0 x1 x2 x3 y0 y1 y2 y3 hb1; obtain ⟨x0, x1, x2, x3⟩ := K0.three
 obtain ⟨y0, y1, y2, y3⟩ := K1.three
 go_wp2_with fail; refine (eqDeclS_same a2 b2 c2 d2 B _ (hB.later L1) (gB.later L1) lB).mono ?_
 rintro e w2 ⟨rfl, hb2⟩
 have L2 := bl_trans L1 hb2
 have N0 := K0.later hb2
 have N1 := K1.later hb2
 clear K0 K1 x0 x1 x2 x3 y0 y1 y2 y3 hb2; obtain ⟨x0, x1, x2, x3⟩ := N0.three
 obtain ⟨y0, y1, y2, y3⟩ := N1.three
 go_wp2_with fail; refine (eqDeclS_same a3 b3 c3 d3 C _ (hC.later L2) (gC.later L2) lC).mono ?_
 rintro e w3 ⟨rfl, hb3⟩
 go_wp2_with fail; go_ret; exact ⟨rfl, bl_trans L2 hb3⟩
theorem Decls.other {w : World} {g o : Nat} {L : List (ByteArray × Int)} (h : Decls w (some ⟨g, o, none⟩) L) {m : Nat} (hm : ¬ g = m) (k : Nat) (u : Value) : Decls (w.setCell ⟨m, k, none⟩ u) (some ⟨g, o, none⟩) L := by
 rcases h with h0 | ⟨g', o', e, h1, h2⟩
 ·
  exact Or.inl h0
 simp only [Option.some.injEq, Addr.mk.injEq, and_true] at e
 obtain ⟨rfl, rfl⟩ := e
 refine Or.inr ⟨g, o, rfl, by simpa using h1, fun j hj => ?_⟩
 have hx : ∀ i, (w.setCell ⟨m, k, none⟩ u).cell? ⟨g, i, none⟩ = w.cell? ⟨g, i, none⟩ := fun i => World.cell?_setCell_other _ _ _ _ (by intro e; rw [Addr.mk.injEq] at e; exact hm e.1.symm)
 rw [hx, hx]
 exact h2 j hj
theorem toDeclS_own (s : Option Addr) (c : Nat) (L : List (ByteArray × Int)) (w : World) (hL : Decls w s L) (hl : L.length ≤ 1048576) :
  Calls Tryz.prog 28 #[.slice s L.length c] w fun e w' => ∃ g, e = .returned (.slice (some ⟨g, 0, none⟩) L.length L.length) ∧ w.heap.size ≤ g ∧ Decls w' (some ⟨g, 0, none⟩) L ∧ Below w.heap.size w w' :=
 (toDeclS_any s c L w hL hl).mono fun e w' ⟨h1, h2, h3⟩ => ⟨_, h1, Nat.le_refl _, h2.decls, h3⟩
set_option maxHeartbeats 4000000 in
theorem toReg_any (s1 s2 s3 : Option Addr) (c1 c2 c3 : Nat) (A B C : List (ByteArray × Int)) (w : World) (hA : Decls w s1 A) (hB : Decls w s2 B) (hC : Decls w s3 C) (lA : A.length ≤ 1048576) (lB : B.length ≤ 1048576) (lC : C.length ≤ 1048576) :
  Calls Tryz.prog 8 #[.agg #[.slice s1 A.length c1, .slice s2 B.length c2, .slice s3 C.length c3]] w fun e w' => (∃ a b c : Nat, e = .returned (.agg #[.slice (some ⟨a, 0, none⟩) A.length A.length, .slice (some ⟨b, 0, none⟩) B.length B.length, .slice (some ⟨c, 0, none⟩) C.length C.length]) ∧
   Decls w' (some ⟨a, 0, none⟩) A ∧ Decls w' (some ⟨b, 0, none⟩) B ∧ Decls w' (some ⟨c, 0, none⟩) C) ∧ Below w.heap.size w w' := by
 have hal := alloc_old
 have haf := alloc_oldf
 obtain ⟨k0, k1, k2⟩ := blk3r w #[.slice s1 A.length c1, .slice s2 B.length c2, .slice s3 C.length c3] #[.slice none 0 0, .slice none 0 0, .slice none 0 0] #[.slice none 0 0, .slice none 0 0, .slice none 0 0] 24 47 47
 go_enter Tryz.func8, Tryz.ntmps8
 go_wp2_with fail; refine (toDeclS_own s1 c1 A _ (hA.later blq) lA).mono ?_
 rintro e w1 ⟨g1, rfl, e1, d1, hb1⟩
 simp only [World.size_alloc] at e1
 have L1 : Below w.heap.size w w1 := blq
 have P0 := (k0.later hb1).other (m := w.heap.size + 1 + 1) (by omega) 0 (.slice (some ⟨g1, 0, none⟩) A.length A.length)
 have P1 := (k1.later hb1).other (m := w.heap.size + 1 + 1) (by omega) 0 (.slice (some ⟨g1, 0, none⟩) A.length A.length)
 have P2 := (k2.later hb1).set 0 (.slice (some ⟨g1, 0, none⟩) A.length A.length)
 have D1 := d1.other (m := w.heap.size + 1 + 1) (by omega) 0 (.slice (some ⟨g1, 0, none⟩) A.length A.length)
 have LX := L1.setCell (p := ⟨w.heap.size + 1 + 1, 0, none⟩) (by simp; omega) (.slice (some ⟨g1, 0, none⟩) A.length A.length)
 obtain ⟨z0, z1, z2, z3⟩ := (k2.later hb1).three
 obtain ⟨x0, x1, x2, x3⟩ := (k0.later hb1).three
 have n0 : ¬ w.heap.size = w.heap.size + 1 + 1 := by omega
 clear k0 k1 k2 hb1 d1 L1; go_wp2_with fail; clear x0 x1 x2 x3 z0 z1 z2 z3; generalize hX : w1.setCell ⟨w.heap.size + 1 + 1, 0, none⟩ (.slice (some ⟨g1, 0, none⟩) A.length A.length) = X at P0 P1 P2 D1 LX ⊢
 clear hX; have P2 : Blk X (w.heap.size + 1 + 1) #[.slice (some ⟨g1, 0, none⟩) A.length A.length, .slice none 0 0, .slice none 0 0] 47 := P2
 refine (toDeclS_own s2 c2 B _ (hB.later LX) lB).mono ?_
 rintro e w2 ⟨g2, rfl, e2, d2, hb2⟩
 have lx : w.heap.size + 1 + 1 < X.heap.size := P2.lt
 have L2 := bl_trans LX hb2
 have Q0 := (P0.later hb2).other (m := w.heap.size + 1 + 1) (by omega) 1 (.slice (some ⟨g2, 0, none⟩) B.length B.length)
 have Q1 := (P1.later hb2).other (m := w.heap.size + 1 + 1) (by omega) 1 (.slice (some ⟨g2, 0, none⟩) B.length B.length)
 have Q2 := (P2.later hb2).set 1 (.slice (some ⟨g2, 0, none⟩) B.length B.length)
 have F1 := (D1.later hb2).other (m := w.heap.size + 1 + 1) (by omega) 1 (.slice (some ⟨g2, 0, none⟩) B.length B.length)
 have F2 := d2.other (m := w.heap.size + 1 + 1) (by omega) 1 (.slice (some ⟨g2, 0, none⟩) B.length B.length)
 have LY := L2.setCell (p := ⟨w.heap.size + 1 + 1, 1, none⟩) (by simp; omega) (.slice (some ⟨g2, 0, none⟩) B.length B.length)
 obtain ⟨z0, z1, z2, z3⟩ := (P2.later hb2).three
 obtain ⟨x0, x1, x2, x3⟩ := (P0.later hb2).three
 clear P0 P1 P2 hb2 d2 D1 L2 LX; go_wp2_with fail; clear x0 x1 x2 x3 z0 z1 z2 z3; generalize hY : w2.setCell ⟨w.heap.size + 1 + 1, 1, none⟩ (.slice (some ⟨g2, 0, none⟩) B.length B.length) = Y at Q0 Q1 Q2 F1 F2 LY ⊢
 clear hY; have Q2 : Blk Y (w.heap.size + 1 + 1) #[.slice (some ⟨g1, 0, none⟩) A.length A.length, .slice (some ⟨g2, 0, none⟩) B.length B.length, .slice none 0 0] 47 := Q2
 refine (toDeclS_own s3 c3 C _ (hC.later LY) lC).mono ?_
 rintro e w3 ⟨g3, rfl, e3, d3, hb3⟩
 have ly : w.heap.size + 1 + 1 < Y.heap.size := Q2.lt
 have L3 := bl_trans LY hb3
 have R1 := (Q1.later hb3)
 have R2 := (Q2.later hb3)
 have G1 := F1.later hb3
 have G2 := F2.later hb3
 clear Q0 Q1 Q2 F1 F2 LY hb3; obtain ⟨z0, z1, z2, z3⟩ := R2.three
 obtain ⟨y0, y1, y2, y3⟩ := R1.three
 have n1 : ¬ w.heap.size + 1 = w.heap.size + 1 + 1 := by omega
 go_wp2_with fail; refine bodyPost_ret (v := .agg #[.slice (some ⟨g1, 0, none⟩) A.length A.length, .slice (some ⟨g2, 0, none⟩) B.length B.length, .slice (some ⟨g3, 0, none⟩) C.length C.length]) (by simp [results, Tryz.results8, go_sem, y0, y1, y2]) rfl ⟨⟨g1, g2, g3, rfl, ?_, ?_, ?_⟩, ?_⟩
 ·
  exact (((G1.other (by omega) _ _).other (by omega) _ _).other (by omega) _ _).other (by omega) _ _
 ·
  exact (((G2.other (by omega) _ _).other (by omega) _ _).other (by omega) _ _).other (by omega) _ _
 ·
  exact (((d3.other (by omega) _ _).other (by omega) _ _).other (by omega) _ _).other (by omega) _ _
 exact (((L3.setCell (by simp <;> omega) _).setCell (by simp <;> omega) _).setCell (by simp <;> omega) _).setCell (by simp <;> omega) _
def pickL (A B C : List (ByteArray × Int)) (sort : Int) : List (ByteArray × Int) := if sort = 1 then A else if sort = 2 then B else if sort = 3 then C else []
set_option maxHeartbeats 1000000 in
theorem declsOf_any (s1 s2 s3 : Option Addr) (c1 c2 c3 : Nat) (A B C : List (ByteArray × Int)) (sort : Int) (w : World) (hA : Decls w s1 A) (hB : Decls w s2 B) (hC : Decls w s3 C) :
  Calls Tryz.prog 138 #[.agg #[.slice s1 A.length c1, .slice s2 B.length c2, .slice s3 C.length c3], .int .i64 sort] w fun e w' => (∃ s c, e = .returned (.slice s (pickL A B C sort).length c) ∧ Decls w s (pickL A B C sort)) ∧ Below w.heap.size w w' := by
 have hal := alloc_old
 have haf := alloc_oldf
 obtain ⟨x0, x1, x2, x3⟩ := (Blk.new w #[.slice s1 A.length c1, .slice s2 B.length c2, .slice s3 C.length c3] 47).three
 by_cases h1 : sort = 1
 ·
  subst h1
  have E : pickL A B C 1 = A := rfl
  rw [E]
  go_enter Tryz.func138, Tryz.ntmps138
  go_wp2_with fail; go_ret; exact ⟨⟨s1, c1, rfl, hA⟩, by (repeat (first | with_reducible exact Below.refl _ _ | with_reducible refine bl_alloc ?_ _ | with_reducible refine bl_drewN ?_ _ | with_reducible refine bl_drew ?_ | with_reducible refine bl_setCell ?_ (by first | exact Nat.le_refl _ | (dsimp only; omega) | (simp <;> omega)) _ | with_reducible refine bl_trans ?_ (by with_reducible assumption)))⟩
 have b1 : (sort == 1) = false := by simp [h1]
 by_cases h2 : sort = 2
 ·
  subst h2
  have E : pickL A B C 2 = B := rfl
  rw [E]
  go_enter Tryz.func138, Tryz.ntmps138
  go_wp2_with fail; go_ret; exact ⟨⟨s2, c2, rfl, hB⟩, by (repeat (first | with_reducible exact Below.refl _ _ | with_reducible refine bl_alloc ?_ _ | with_reducible refine bl_drewN ?_ _ | with_reducible refine bl_drew ?_ | with_reducible refine bl_setCell ?_ (by first | exact Nat.le_refl _ | (dsimp only; omega) | (simp <;> omega)) _ | with_reducible refine bl_trans ?_ (by with_reducible assumption)))⟩
 have b2 : (sort == 2) = false := by simp [h2]
 by_cases h3 : sort = 3
 ·
  subst h3
  have E : pickL A B C 3 = C := rfl
  rw [E]
  go_enter Tryz.func138, Tryz.ntmps138
  go_wp2_with fail; go_ret; exact ⟨⟨s3, c3, rfl, hC⟩, by (repeat (first | with_reducible exact Below.refl _ _ | with_reducible refine bl_alloc ?_ _ | with_reducible refine bl_drewN ?_ _ | with_reducible refine bl_drew ?_ | with_reducible refine bl_setCell ?_ (by first | exact Nat.le_refl _ | (dsimp only; omega) | (simp <;> omega)) _ | with_reducible refine bl_trans ?_ (by with_reducible assumption)))⟩
 have b3 : (sort == 3) = false := by simp [h3]
 have E : pickL A B C sort = [] := by simp [pickL, h1, h2, h3]
 rw [E]
 go_enter Tryz.func138, Tryz.ntmps138
 go_wp2_with fail; go_ret; exact ⟨⟨none, 0, rfl, Or.inl rfl⟩, by (repeat (first | with_reducible exact Below.refl _ _ | with_reducible refine bl_alloc ?_ _ | with_reducible refine bl_drewN ?_ _ | with_reducible refine bl_drew ?_ | with_reducible refine bl_setCell ?_ (by first | exact Nat.le_refl _ | (dsimp only; omega) | (simp <;> omega)) _ | with_reducible refine bl_trans ?_ (by with_reducible assumption)))⟩
end Go.Proofs.YtbgeobpdojmdaaaGreat
