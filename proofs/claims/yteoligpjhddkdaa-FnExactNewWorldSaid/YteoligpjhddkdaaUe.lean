import Derived.Test.YteoligpjhddkdaaUd
namespace Go.Proofs.Yteoligpjhddkdaa
open Go.RowKit Go.Maps Go.WideMaps
set_option linter.unusedVariables false
set_option linter.unusedSimpArgs false

/-- a list of declarations that may be written into. -/
def DW (w : World) (g n : Nat) : Prop := g < w.heap.size ∧ (∀ o, w.frozen? ⟨g, o, none⟩ = false) ∧ ∀ j, j < n → (∃ s : ByteArray, w.cell? ⟨g, j * 2, none⟩ = some (.string s)) ∧ ∃ i : Int, w.cell? ⟨g, j * 2 + 1, none⟩ = some (.int .i64 i)
def DD (w : World) (g : Nat) (L : List (ByteArray × Int)) : Prop := Decls w (some ⟨g, 0, none⟩) L ∧ DW w g L.length
theorem DW.lt {w : World} {g n : Nat} (h : DW w g n) : g < w.heap.size := h.1
theorem DW.block {w w' : World} {g n : Nat} (h : DW w g n) (hs : w.heap.size ≤ w'.heap.size) (hb : w'.heap[g]? = w.heap[g]?) : DW w' g n := by
  have hc : ∀ o, w'.cell? ⟨g, o, none⟩ = w.cell? ⟨g, o, none⟩ := fun o => World.cell?_of_block (w := w) hb
  have hf : ∀ o, w'.frozen? ⟨g, o, none⟩ = w.frozen? ⟨g, o, none⟩ := fun o => World.frozen?_of_block (w := w) hb
  refine ⟨Nat.lt_of_lt_of_le h.1 hs, fun o => by rw [hf]; exact h.2.1 o, fun j hj => ?_⟩
  rw [hc, hc]
  exact h.2.2 j hj
theorem DW.later {w w' : World} {g n : Nat} (h : DW w g n) (hb : Below w.heap.size w w') : DW w' g n := h.block hb.size (hb.block g h.1)
theorem DW.other {w : World} {g n m : Nat} (h : DW w g n) (hm : ¬ g = m) (k : Nat) (u : Value) : DW (w.setCell ⟨m, k, none⟩ u) g n := h.block (by simp) (Below.heap_setCell w ⟨m, k, none⟩ u g (by dsimp only; omega))
theorem DD.later {w w' : World} {g : Nat} {L : List (ByteArray × Int)} (h : DD w g L) (hb : Below w.heap.size w w') : DD w' g L := ⟨h.1.later hb, h.2.later hb⟩
theorem DD.other {w : World} {g : Nat} {L : List (ByteArray × Int)} (h : DD w g L) {m : Nat} (hm : ¬ g = m) (k : Nat) (u : Value) : DD (w.setCell ⟨m, k, none⟩ u) g L := ⟨h.1.other hm k u, h.2.other hm k u⟩
theorem DRow.dd {w : World} {B g cap : Nat} {L : List (ByteArray × Int)} (h : DRow w B (.slice (some ⟨g, 0, none⟩) L.length cap) L) : DD w g L := by
  obtain ⟨h1, _, h2⟩ := h.cells
  refine ⟨h.decls, h1, fun o => World.ownsRow.frozenAt h o, fun j hj => ?_⟩
  obtain ⟨a, b, _⟩ := h2 j hj
  exact ⟨⟨_, a⟩, ⟨_, b⟩⟩
theorem toDeclS_dd (s : Option Addr) (c : Nat) (L : List (ByteArray × Int)) (w : World) (hL : Decls w s L) (hl : L.length ≤ 1048576) :
    Calls Try.prog 35 #[.slice s L.length c] w fun e w' => ∃ g, e = .returned (.slice (some ⟨g, 0, none⟩) L.length L.length) ∧ w.heap.size ≤ g ∧ DD w' g L ∧ Below w.heap.size w w' :=
  (toDeclS_any s c L w hL hl).mono fun e w' ⟨h1, h2, h3⟩ => ⟨_, h1, Nat.le_refl _, h2.dd, h3⟩

set_option maxHeartbeats 4000000 in
theorem toReg_dd (s1 s2 s3 : Option Addr) (c1 c2 c3 : Nat) (A B C : List (ByteArray × Int)) (w : World) (hA : Decls w s1 A) (hB : Decls w s2 B) (hC : Decls w s3 C) (lA : A.length ≤ 1048576) (lB : B.length ≤ 1048576) (lC : C.length ≤ 1048576) :
    Calls Try.prog 9 #[.agg #[.slice s1 A.length c1, .slice s2 B.length c2, .slice s3 C.length c3]] w fun e w' => (∃ a b c : Nat, e = .returned (.agg #[.slice (some ⟨a, 0, none⟩) A.length A.length, .slice (some ⟨b, 0, none⟩) B.length B.length, .slice (some ⟨c, 0, none⟩) C.length C.length]) ∧
      DD w' a A ∧ DD w' b B ∧ DD w' c C ∧ w.heap.size ≤ a ∧ w.heap.size ≤ b ∧ w.heap.size ≤ c ∧ ¬ a = b ∧ ¬ a = c ∧ ¬ b = c) ∧ Below w.heap.size w w' := by
  have hal := alloc_old
  have haf := alloc_oldf
  obtain ⟨k0, k1, k2⟩ := blk3t w #[.slice s1 A.length c1, .slice s2 B.length c2, .slice s3 C.length c3] #[.slice none 0 0, .slice none 0 0, .slice none 0 0] #[.slice none 0 0, .slice none 0 0, .slice none 0 0] 24 37 37
  go_enter Try.func9, Try.ntmps9
  go_wp2_with fail
  refine (toDeclS_dd s1 c1 A _ (hA.later (by (repeat (first | with_reducible exact Below.refl _ _ | with_reducible refine bl_alloc ?_ _ | with_reducible refine bl_drewN ?_ _ | with_reducible refine bl_drew ?_ | with_reducible refine bl_setCell ?_ (by first | exact Nat.le_refl _ | (dsimp only; omega) | (simp <;> omega)) _ | with_reducible refine bl_trans ?_ (by with_reducible assumption))))) lA).mono ?_
  rintro e w1 ⟨g1, rfl, e1, d1, hb1⟩
  simp only [World.size_alloc] at e1
  have L1 : Below w.heap.size w w1 := by (repeat (first | with_reducible exact Below.refl _ _ | with_reducible refine bl_alloc ?_ _ | with_reducible refine bl_drewN ?_ _ | with_reducible refine bl_drew ?_ | with_reducible refine bl_setCell ?_ (by first | exact Nat.le_refl _ | (dsimp only; omega) | (simp <;> omega)) _ | with_reducible refine bl_trans ?_ (by with_reducible assumption)))
  have P0 := (k0.later hb1).other (m := w.heap.size + 1 + 1) (by omega) 0 (.slice (some ⟨g1, 0, none⟩) A.length A.length)
  have P1 := (k1.later hb1).other (m := w.heap.size + 1 + 1) (by omega) 0 (.slice (some ⟨g1, 0, none⟩) A.length A.length)
  have P2 := (k2.later hb1).set 0 (.slice (some ⟨g1, 0, none⟩) A.length A.length)
  have D1 := d1.other (m := w.heap.size + 1 + 1) (by omega) 0 (.slice (some ⟨g1, 0, none⟩) A.length A.length)
  have LX := L1.setCell (p := ⟨w.heap.size + 1 + 1, 0, none⟩) (by simp; omega) (.slice (some ⟨g1, 0, none⟩) A.length A.length)
  obtain ⟨z0, z1, z2, z3⟩ := (k2.later hb1).three'
  obtain ⟨x0, x1, x2, x3⟩ := (k0.later hb1).three'
  have n0 : ¬ w.heap.size = w.heap.size + 1 + 1 := by omega
  clear k0 k1 k2 hb1 d1 L1
  go_wp2_with fail
  clear x0 x1 x2 x3 z0 z1 z2 z3
  generalize hX : w1.setCell ⟨w.heap.size + 1 + 1, 0, none⟩ (.slice (some ⟨g1, 0, none⟩) A.length A.length) = X at P0 P1 P2 D1 LX ⊢
  clear hX
  have P2 : Blk X (w.heap.size + 1 + 1) #[.slice (some ⟨g1, 0, none⟩) A.length A.length, .slice none 0 0, .slice none 0 0] 37 := P2
  refine (toDeclS_dd s2 c2 B _ (hB.later LX) lB).mono ?_
  rintro e w2 ⟨g2, rfl, e2, d2, hb2⟩
  have n12 : g1 < g2 := Nat.lt_of_lt_of_le D1.2.1 e2
  have lx : w.heap.size + 1 + 1 < X.heap.size := P2.lt
  have L2 := bl_trans LX hb2
  have Q0 := (P0.later hb2).other (m := w.heap.size + 1 + 1) (by omega) 1 (.slice (some ⟨g2, 0, none⟩) B.length B.length)
  have Q1 := (P1.later hb2).other (m := w.heap.size + 1 + 1) (by omega) 1 (.slice (some ⟨g2, 0, none⟩) B.length B.length)
  have Q2 := (P2.later hb2).set 1 (.slice (some ⟨g2, 0, none⟩) B.length B.length)
  have F1 := (D1.later hb2).other (m := w.heap.size + 1 + 1) (by omega) 1 (.slice (some ⟨g2, 0, none⟩) B.length B.length)
  have F2 := d2.other (m := w.heap.size + 1 + 1) (by omega) 1 (.slice (some ⟨g2, 0, none⟩) B.length B.length)
  have LY := L2.setCell (p := ⟨w.heap.size + 1 + 1, 1, none⟩) (by simp; omega) (.slice (some ⟨g2, 0, none⟩) B.length B.length)
  obtain ⟨z0, z1, z2, z3⟩ := (P2.later hb2).three'
  obtain ⟨x0, x1, x2, x3⟩ := (P0.later hb2).three'
  clear P0 P1 P2 hb2 d2 D1 L2 LX
  go_wp2_with fail
  clear x0 x1 x2 x3 z0 z1 z2 z3
  generalize hY : w2.setCell ⟨w.heap.size + 1 + 1, 1, none⟩ (.slice (some ⟨g2, 0, none⟩) B.length B.length) = Y at Q0 Q1 Q2 F1 F2 LY ⊢
  clear hY
  have Q2 : Blk Y (w.heap.size + 1 + 1) #[.slice (some ⟨g1, 0, none⟩) A.length A.length, .slice (some ⟨g2, 0, none⟩) B.length B.length, .slice none 0 0] 37 := Q2
  refine (toDeclS_dd s3 c3 C _ (hC.later LY) lC).mono ?_
  rintro e w3 ⟨g3, rfl, e3, d3, hb3⟩
  have n13 : g1 < g3 := Nat.lt_of_lt_of_le F1.2.1 e3
  have n23 : g2 < g3 := Nat.lt_of_lt_of_le F2.2.1 e3
  have ly : w.heap.size + 1 + 1 < Y.heap.size := Q2.lt
  have L3 := bl_trans LY hb3
  have R1 := (Q1.later hb3)
  have R2 := (Q2.later hb3)
  have G1 := F1.later hb3
  have G2 := F2.later hb3
  clear Q0 Q1 Q2 F1 F2 LY hb3
  obtain ⟨z0, z1, z2, z3⟩ := R2.three'
  obtain ⟨y0, y1, y2, y3⟩ := R1.three'
  have n1 : ¬ w.heap.size + 1 = w.heap.size + 1 + 1 := by omega
  go_wp2_with fail
  refine bodyPost_ret (v := .agg #[.slice (some ⟨g1, 0, none⟩) A.length A.length, .slice (some ⟨g2, 0, none⟩) B.length B.length, .slice (some ⟨g3, 0, none⟩) C.length C.length]) (by simp [results, Try.results9, go_sem, y0, y1, y2]) rfl ⟨⟨g1, g2, g3, rfl, ?_, ?_, ?_, ?_⟩, ?_⟩
  · exact (((G1.other (by omega) _ _).other (by omega) _ _).other (by omega) _ _).other (by omega) _ _
  · exact (((G2.other (by omega) _ _).other (by omega) _ _).other (by omega) _ _).other (by omega) _ _
  · exact (((d3.other (by omega) _ _).other (by omega) _ _).other (by omega) _ _).other (by omega) _ _
  · have gl1 := G1.2.1
    have gl2 := G2.2.1
    omega
  · exact (((L3.setCell (by simp <;> omega) _).setCell (by simp <;> omega) _).setCell (by simp <;> omega) _).setCell (by simp <;> omega) _

theorem Only.trans {g : Nat} {a b c : World} (h : Only g a b) (k : Only g b c) : Only g a c :=
  ⟨h.1.trans k.1, Nat.le_trans h.2.1 k.2.1, fun W B hB hW => k.2.2.1 W B hB (h.2.2.1 W B hB hW), fun i hi hl => (k.2.2.2 i hi (Nat.lt_of_lt_of_le hl h.2.1)).trans (h.2.2.2 i hi hl)⟩
theorem Only.of {g : Nat} {a b : World} (h : Below a.heap.size a b) (hg : g < a.heap.size) : Only g a b :=
  ⟨h.os.symm, h.size, fun W B hB hW => hW.trans (h.mono (by omega)), fun i _ hl => h.block i hl⟩

theorem DW.put {w : World} {g n m : Nat} (h : DW w g n) (hm : m < n) (s : ByteArray) (i : Int) : DW ((w.setCell ⟨g, m * 2, none⟩ (.string s)).setCell ⟨g, m * 2 + 1, none⟩ (.int .i64 i)) g n := by
  obtain ⟨⟨s0, c0⟩, ⟨i0, c1⟩⟩ := h.2.2 m hm
  refine ⟨by simpa using h.1, fun o => by simpa using h.2.1 o, fun j hj => ?_⟩
  obtain ⟨⟨s1, a0⟩, ⟨i1, a1⟩⟩ := h.2.2 j hj
  have far : ∀ (w : World) (o o' : Nat) (u : Value), ¬ o = o' → (w.setCell ⟨g, o, none⟩ u).cell? ⟨g, o', none⟩ = w.cell? ⟨g, o', none⟩ := fun w o o' u ho => World.cell?_setCell_other _ _ _ _ (by intro e; rw [Addr.mk.injEq] at e; exact ho e.2.1)
  by_cases e : j = m
  · subst e
    refine ⟨⟨s, ?_⟩, ⟨i, ?_⟩⟩
    · rw [far _ _ _ _ (by omega)]
      exact World.cell?_setCell_same _ _ _ c0
    · refine World.cell?_setCell_same _ _ _ (u := .int .i64 i0) ?_
      rw [far _ _ _ _ (by omega)]
      exact c1
  · refine ⟨⟨s1, ?_⟩, ⟨i1, ?_⟩⟩
    · rw [far _ _ _ _ (by omega), far _ _ _ _ (by omega)]
      exact a0
    · rw [far _ _ _ _ (by omega), far _ _ _ _ (by omega)]
      exact a1

set_option maxHeartbeats 2000000 in
theorem markDeclS_any (g n cap : Nat) (k : Int) (w : World) (h : DW w g n) (hn : n ≤ 1048576) (h0 : 1 ≤ k) (h1 : k ≤ 10000000) :
    Calls Try.prog 47 #[.slice (some ⟨g, 0, none⟩) n cap, .int .i64 k] w fun e w' => e = .returned (.int .i64 (k + 2 * (n : Int))) ∧ Only g w w' := by
  have hal := alloc_old
  have haf := alloc_oldf
  go_enter Try.func47, Try.ntmps47
  go_wp2_with fail
  go_loopw [1, 5] (fun x i wr => ∃ m : Nat, m ≤ n ∧ i = .int .i64 m ∧ x = .int .i64 (k + 2 * (m : Int)) ∧ Hid (DW wr g n) ∧ Hid (Only g w wr)) (fun _ i _ => n - (intOf i).toNat)
  case atStart => exact ⟨0, Nat.zero_le _, rfl, by simp, h, Only.refl _ _⟩
  case round =>
    obtain ⟨m, hm, rfl, rfl, hd, hon⟩ := hrel
    by_cases hlt : m < n
    · go_wp2_with fail
      refine (markText_any _ wr (by omega) (by omega)).mono ?_
      rintro e w2 ⟨⟨s, rfl, hs⟩, hb2⟩
      have hd2 := hd.out.later hb2
      have ho2 := hon.out.trans (Only.of hb2 hd.out.lt)
      obtain ⟨⟨s0, c0⟩, ⟨i0, c1⟩⟩ := hd2.2.2 m hlt
      have fz := hd2.2.1
      have H1 : Hid (DW ((w2.setCell ⟨g, m * 2, none⟩ (.string s)).setCell ⟨g, m * 2 + 1, none⟩ (.int .i64 (k + 2 * (m : Int) + 1))) g n) := hd2.put hlt s _
      have H2 : Hid (Only g w ((w2.setCell ⟨g, m * 2, none⟩ (.string s)).setCell ⟨g, m * 2 + 1, none⟩ (.int .i64 (k + 2 * (m : Int) + 1)))) := (ho2.set _ _).set _ _
      clear hd hon hd2 ho2 h hb2
      go_wp2_with fail
      refine ⟨⟨m + 1, by omega, by go_num, ?_, H1, H2⟩, by simp [intOf]; omega⟩
      congr 1; simp; omega
    · have hm' : m = n := by omega
      subst hm'
      go_wp2_with fail
      go_ret
      exact ⟨rfl, hon.out⟩

set_option maxHeartbeats 2000000 in
theorem markReg_any (a b c n1 n2 n3 d1 d2 d3 : Nat) (w : World) (h1 : DW w a n1) (h2 : DW w b n2) (h3 : DW w c n3) (l1 : n1 ≤ 1048576) (l2 : n2 ≤ 1048576) (l3 : n3 ≤ 1048576) (ab : ¬ a = b) (ac : ¬ a = c) (bc : ¬ b = c) :
    Calls Try.prog 16 #[.agg #[.slice (some ⟨a, 0, none⟩) n1 d1, .slice (some ⟨b, 0, none⟩) n2 d2, .slice (some ⟨c, 0, none⟩) n3 d3], .int .i64 1] w fun e w' => (∃ r : Int, e = .returned (.int .i64 r) ∧ 0 ≤ r) ∧ w.heap.size ≤ w'.heap.size ∧ (∀ W : World, ∀ B, B ≤ a → B ≤ b → B ≤ c → Below B W w → Below B W w') ∧ ∀ k, ¬ k = a → ¬ k = b → ¬ k = c → k < w.heap.size → w'.heap[k]? = w.heap[k]? := by
  have k0 := Blk.new w #[.slice (some ⟨a, 0, none⟩) n1 d1, .slice (some ⟨b, 0, none⟩) n2 d2, .slice (some ⟨c, 0, none⟩) n3 d3] 37
  have L0 : Below w.heap.size w (w.alloc (.cells #[.slice (some ⟨a, 0, none⟩) n1 d1, .slice (some ⟨b, 0, none⟩) n2 d2, .slice (some ⟨c, 0, none⟩) n3 d3] 37)) := bl_alloc (Below.refl _ _) _
  obtain ⟨x0, x1, x2, x3⟩ := k0.three'
  have la := h1.lt
  have lb := h2.lt
  have lc := h3.lt
  go_enter Try.func16, Try.ntmps16
  go_wp2_with fail
  refine (markDeclS_any a n1 d1 1 _ (h1.later L0) l1 (by omega) (by omega)).mono ?_
  rintro e w1 ⟨rfl, o1⟩
  have s1 := L0.size
  have k1 : Blk w1 w.heap.size #[.slice (some ⟨a, 0, none⟩) n1 d1, .slice (some ⟨b, 0, none⟩) n2 d2, .slice (some ⟨c, 0, none⟩) n3 d3] 37 := by unfold Blk; rw [o1.2.2.2 _ (by omega) k0.lt]; exact k0
  have g2 : DW w1 b n2 := (h2.later L0).block o1.2.1 (o1.2.2.2 b (by omega) (by omega))
  have g3 : DW w1 c n3 := (h3.later L0).block o1.2.1 (o1.2.2.2 c (by omega) (by omega))
  clear x0 x1 x2 x3 h1 h2 h3
  obtain ⟨x0, x1, x2, x3⟩ := k1.three'
  go_wp2_with fail
  refine (markDeclS_any b n2 d2 _ _ g2 l2 (by omega) (by omega)).mono ?_
  rintro e w2 ⟨rfl, o2⟩
  have k2 : Blk w2 w.heap.size #[.slice (some ⟨a, 0, none⟩) n1 d1, .slice (some ⟨b, 0, none⟩) n2 d2, .slice (some ⟨c, 0, none⟩) n3 d3] 37 := by unfold Blk; rw [o2.2.2.2 _ (by omega) k1.lt]; exact k1
  have g3 : DW w2 c n3 := g3.block o2.2.1 (o2.2.2.2 c (by omega) g3.lt)
  clear x0 x1 x2 x3 g2
  obtain ⟨x0, x1, x2, x3⟩ := k2.three'
  go_wp2_with fail
  refine (markDeclS_any c n3 d3 _ _ g3 l3 (by omega) (by omega)).mono ?_
  rintro e w3 ⟨rfl, o3⟩
  go_wp2_with fail
  go_ret
  have e1 := o1.2.1
  have e2 := o2.2.1
  have e3 := o3.2.1
  refine ⟨⟨_, rfl, by omega⟩, by omega, fun W B ba bb bc hW => o3.2.2.1 W B bc (o2.2.2.1 W B bb (o1.2.2.1 W B ba (hW.trans (L0.mono (by omega))))), fun k ka kb kc hk => ?_⟩
  rw [o3.2.2.2 k kc (by omega), o2.2.2.2 k kb (by omega), o1.2.2.2 k ka (by omega), L0.block k hk]
end Go.Proofs.Yteoligpjhddkdaa
