import Derived.Test.YtbgeobpdojmdaaaGreatSq49
import Derived.Laws.BytesString
import Derived.Laws.BytesArg
namespace Go.Proofs.YtbgeobpdojmdaaaGreat
open Go.RowKit Go.Maps Go.WideMaps
set_option linter.unusedVariables false
set_option linter.unusedSimpArgs false
set_option maxRecDepth 100000
theorem one_byte (w : World) (c : Int) : (convert 174 9 (.slice (some ⟨w.heap.size, 0, none⟩) 1 1)).run Tryz.prog (w.alloc (.cells #[.int .u8 c] 5)) = .ok (.string (ByteArray.empty.push (UInt8.ofNat c.toNat))) (w.alloc (.cells #[.int .u8 c] 5)) := by
 rw [run_convert_bytes_string _ _ _ _ _ _ _ Tryz.underlying174 Tryz.underlying5 Tryz.underlying9]
 rw [run_bytesToString _ _ 1 1 [c] (by simp [go_sem])]
 rfl
theorem push_size (x : UInt8) (t : ByteArray) : (ByteArray.empty.push x ++ t).size = 1 + t.size := by
 rw [ByteArray.size_append]; rfl
theorem m_size (t : ByteArray) : ((⟨#[109]⟩ : ByteArray) ++ t).size = 1 + t.size := by
 rw [ByteArray.size_append]; rfl
set_option maxHeartbeats 1000000 in
theorem markText_any (k : Int) (w : World) (h0 : 1 ≤ k) (h1 : k ≤ 100000000) :
  Calls Tryz.prog 82 #[.int .i64 k] w fun e w' => (∃ s : ByteArray, e = .returned (.string s) ∧ s.size ≤ maxLen) ∧ Below w.heap.size w w' := by
 have hob := one_byte
 go_enter Tryz.func82, Tryz.ntmps82
 go_wp2_with fail; go_loopw [0, 3] (fun x s wr => ∃ (k : Int) (t : ByteArray), x = .int .i64 k ∧ s = .string t ∧ 0 ≤ k ∧ k ≤ 100000000 ∧ (t.size : Int) + k ≤ 100000000 ∧ Below w.heap.size w wr) (fun x _ _ => (intOf x).toNat)
 case atStart => exact ⟨k, _, rfl, rfl, by omega, by omega, by rw [show ((⟨#[]⟩ : ByteArray).size : Int) = 0 from rfl]; omega, Below.refl _ _⟩
 obtain ⟨k, t, rfl, rfl, k0, k1, kt, hb⟩ := hrel
 have hts : ¬ 9223372036854775807 < 1 + t.size := by omega
 by_cases hk : 0 < k
 ·
  go_wp2_with fail; refine ⟨⟨k / 10, _, rfl, rfl, by omega, by omega, ?_, bl_alloc hb _⟩, ?_⟩
  ·
   rw [push_size]; omega
  simp [intOf]; omega
 have hk0 : k = 0 := by omega
 subst hk0
 go_wp2_with fail; go_ret; refine ⟨⟨_, rfl, ?_⟩, hb⟩
 rw [m_size]; unfold maxLen; omega
def Only (g : Nat) (w w' : World) : Prop := w.os = w'.os ∧ w.heap.size ≤ w'.heap.size ∧ (∀ W : World, ∀ B, B ≤ g → Below B W w → Below B W w') ∧ ∀ k, ¬ k = g → k < w.heap.size → w'.heap[k]? = w.heap[k]?
theorem Only.refl (g : Nat) (w : World) : Only g w w := ⟨rfl, Nat.le_refl _, fun _ _ _ h => h, fun _ _ _ => rfl⟩
theorem Only.set {g : Nat} {w w' : World} (h : Only g w w') (o : Nat) (u : Value) : Only g w (w'.setCell ⟨g, o, none⟩ u) :=
 ⟨h.1.trans rfl, by simpa using h.2.1, fun W B hB hW => (h.2.2.1 W B hB hW).setCell hB u, fun k hk hl => (Below.heap_setCell w' ⟨g, o, none⟩ u k (by dsimp only; omega)).trans (h.2.2.2 k hk hl)⟩
theorem Only.kept {g B : Nat} {w w' : World} (h : Only g w w') (hB : g < B) : Kept B w w' := ⟨h.2.1, fun k hk hl => h.2.2.2 k (by omega) hl⟩
def DW (w : World) (g n : Nat) : Prop := g < w.heap.size ∧ (∀ o, w.frozen? ⟨g, o, none⟩ = false) ∧ ∀ j, j < n → (∃ s : ByteArray, w.cell? ⟨g, j * 2, none⟩ = some (.string s)) ∧ ∃ i : Int, w.cell? ⟨g, j * 2 + 1, none⟩ = some (.int .i64 i)
def DD (w : World) (g : Nat) (L : List (ByteArray × Int)) : Prop := Decls w (some ⟨g, 0, none⟩) L ∧ DW w g L.length
theorem DW.lt {w : World} {g n : Nat} (h : DW w g n) : g < w.heap.size := h.1
theorem DW.block {w w' : World} {g n : Nat} (h : DW w g n) (hs : w.heap.size ≤ w'.heap.size) (hb : w'.heap[g]? = w.heap[g]?) : DW w' g n := by
 have hc : ∀ o, w'.cell? ⟨g, o, none⟩ = w.cell? ⟨g, o, none⟩ := fun o => World.cell?_of_block (w := w) hb
 have hf : ∀ o, w'.frozen? ⟨g, o, none⟩ = w.frozen? ⟨g, o, none⟩ := fun o => World.frozen?_of_block (w := w) hb
 refine ⟨Nat.lt_of_lt_of_le h.1 hs, fun o => by rw [hf]; exact h.2.1 o, fun j hj => ?_⟩
 rw [hc, hc]
 exact h.2.2 j hj
theorem DW.later {w w' : World} {g n : Nat} (h : DW w g n) (hb : Below w.heap.size w w') : DW w' g n := h.block hb.size (hb.block g h.1)
theorem DW.other {w : World} {g n m : Nat} (h : DW w g n) (hm : ¬ g = m) (k : Nat) (u : Value) : DW (w.setCell ⟨m, k, none⟩ u) g n := h.block (by simp) (Below.heap_setCell w ⟨m, k, none⟩ u g (by dsimp only; omega))
theorem DD.later {w w' : World} {g : Nat} {L : List (ByteArray × Int)} (h : DD w g L) (hb : Below w.heap.size w w') : DD w' g L := ⟨h.1.later hb, h.2.later hb⟩
theorem DD.other {w : World} {g : Nat} {L : List (ByteArray × Int)} (h : DD w g L) {m : Nat} (hm : ¬ g = m) (k : Nat) (u : Value) : DD (w.setCell ⟨m, k, none⟩ u) g L := ⟨h.1.other hm k u, h.2.other hm k u⟩
theorem DRow.dd {w : World} {B g cap : Nat} {L : List (ByteArray × Int)} (h : DRow w B (.slice (some ⟨g, 0, none⟩) L.length cap) L) : DD w g L := by
 obtain ⟨h1, _, h2⟩ := h.cells
 refine ⟨h.decls, h1, fun o => World.ownsRow.frozenAt h o, fun j hj => ?_⟩
 obtain ⟨a, b, _⟩ := h2 j hj
 exact ⟨⟨_, a⟩, ⟨_, b⟩⟩
theorem toDeclS_dd (s : Option Addr) (c : Nat) (L : List (ByteArray × Int)) (w : World) (hL : Decls w s L) (hl : L.length ≤ 1048576) :
  Calls Tryz.prog 28 #[.slice s L.length c] w fun e w' => ∃ g, e = .returned (.slice (some ⟨g, 0, none⟩) L.length L.length) ∧ w.heap.size ≤ g ∧ DD w' g L ∧ Below w.heap.size w w' :=
 (toDeclS_any s c L w hL hl).mono fun e w' ⟨h1, h2, h3⟩ => ⟨_, h1, Nat.le_refl _, h2.dd, h3⟩
set_option maxHeartbeats 4000000 in
theorem toReg_dd (s1 s2 s3 : Option Addr) (c1 c2 c3 : Nat) (A B C : List (ByteArray × Int)) (w : World) (hA : Decls w s1 A) (hB : Decls w s2 B) (hC : Decls w s3 C) (lA : A.length ≤ 1048576) (lB : B.length ≤ 1048576) (lC : C.length ≤ 1048576) :
  Calls Tryz.prog 8 #[.agg #[.slice s1 A.length c1, .slice s2 B.length c2, .slice s3 C.length c3]] w fun e w' => (∃ a b c : Nat, e = .returned (.agg #[.slice (some ⟨a, 0, none⟩) A.length A.length, .slice (some ⟨b, 0, none⟩) B.length B.length, .slice (some ⟨c, 0, none⟩) C.length C.length]) ∧
   DD w' a A ∧ DD w' b B ∧ DD w' c C ∧ w.heap.size ≤ a ∧ w.heap.size ≤ b ∧ w.heap.size ≤ c ∧ ¬ a = b ∧ ¬ a = c ∧ ¬ b = c) ∧ Below w.heap.size w w' := by
 have hal := alloc_old
 have haf := alloc_oldf
 obtain ⟨k0, k1, k2⟩ := blk3t w #[.slice s1 A.length c1, .slice s2 B.length c2, .slice s3 C.length c3] #[.slice none 0 0, .slice none 0 0, .slice none 0 0] #[.slice none 0 0, .slice none 0 0, .slice none 0 0] 24 47 47
 go_enter Tryz.func8, Tryz.ntmps8
 go_wp2_with fail; refine (toDeclS_dd s1 c1 A _ (hA.later blq) lA).mono ?_
 rintro e w1 ⟨g1, rfl, e1, d1, hb1⟩
 simp only [World.size_alloc] at e1
 have L1 : Below w.heap.size w w1 := blq
 have P0 := (k0.later hb1).other (m := w.heap.size + 1 + 1) (by omega) 0 (.slice (some ⟨g1, 0, none⟩) A.length A.length)
 have P1 := (k1.later hb1).other (m := w.heap.size + 1 + 1) (by omega) 0 (.slice (some ⟨g1, 0, none⟩) A.length A.length)
 have P2 := (k2.later hb1).set 0 (.slice (some ⟨g1, 0, none⟩) A.length A.length)
 have D1 := d1.other (m := w.heap.size + 1 + 1) (by omega) 0 (.slice (some ⟨g1, 0, none⟩) A.length A.length)
 have LX := L1.setCell (p := ⟨w.heap.size + 1 + 1, 0, none⟩) (by simp; omega) (.slice (some ⟨g1, 0, none⟩) A.length A.length)
 obtain ⟨z0, z1, z2, z3⟩ := (k2.later hb1).three'
 obtain ⟨x0, x1, x2, x3⟩ := (k0.later hb1).three'
 have n0 : ¬ w.heap.size = w.heap.size + 1 + 1 := by omega
 clear k0 k1 k2 hb1 d1 L1; go_wp2_with fail; clear x0 x1 x2 x3 z0 z1 z2 z3; generalize hX : w1.setCell ⟨w.heap.size + 1 + 1, 0, none⟩ (.slice (some ⟨g1, 0, none⟩) A.length A.length) = X at P0 P1 P2 D1 LX ⊢
 clear hX; have P2 : Blk X (w.heap.size + 1 + 1) #[.slice (some ⟨g1, 0, none⟩) A.length A.length, .slice none 0 0, .slice none 0 0] 47 := P2
 refine (toDeclS_dd s2 c2 B _ (hB.later LX) lB).mono ?_
 rintro e w2 ⟨g2, rfl, e2, d2, hb2⟩
 have n12 : g1 < g2 := Nat.lt_of_lt_of_le D1.2.1 e2
 have lx : w.heap.size + 1 + 1 < X.heap.size := P2.lt
 have L2 := bl_trans LX hb2
 have Q0 := (P0.later hb2).other (m := w.heap.size + 1 + 1) (by omega) 1 (.slice (some ⟨g2, 0, none⟩) B.length B.length)
 have Q1 := (P1.later hb2).other (m := w.heap.size + 1 + 1) (by omega) 1 (.slice (some ⟨g2, 0, none⟩) B.length B.length)
 have Q2 := (P2.later hb2).set 1 (.slice (some ⟨g2, 0, none⟩) B.length B.length)
 have F1 := (D1.later hb2).other (m := w.heap.size + 1 + 1) (by omega) 1 (.slice (some ⟨g2, 0, none⟩) B.length B.length)
 have F2 := d2.other (m := w.heap.size + 1 + 1) (by omega) 1 (.slice (some ⟨g2, 0, none⟩) B.length B.length)
 have LY := L2.setCell (p := ⟨w.heap.size + 1 + 1, 1, none⟩) (by simp; omega) (.slice (some ⟨g2, 0, none⟩) B.length B.length)
 obtain ⟨z0, z1, z2, z3⟩ := (P2.later hb2).three'
 obtain ⟨x0, x1, x2, x3⟩ := (P0.later hb2).three'
 clear P0 P1 P2 hb2 d2 D1 L2 LX; go_wp2_with fail; clear x0 x1 x2 x3 z0 z1 z2 z3; generalize hY : w2.setCell ⟨w.heap.size + 1 + 1, 1, none⟩ (.slice (some ⟨g2, 0, none⟩) B.length B.length) = Y at Q0 Q1 Q2 F1 F2 LY ⊢
 clear hY; have Q2 : Blk Y (w.heap.size + 1 + 1) #[.slice (some ⟨g1, 0, none⟩) A.length A.length, .slice (some ⟨g2, 0, none⟩) B.length B.length, .slice none 0 0] 47 := Q2
 refine (toDeclS_dd s3 c3 C _ (hC.later LY) lC).mono ?_
 rintro e w3 ⟨g3, rfl, e3, d3, hb3⟩
 have n13 : g1 < g3 := Nat.lt_of_lt_of_le F1.2.1 e3
 have n23 : g2 < g3 := Nat.lt_of_lt_of_le F2.2.1 e3
 have ly : w.heap.size + 1 + 1 < Y.heap.size := Q2.lt
 have L3 := bl_trans LY hb3
 have R1 := (Q1.later hb3)
 have R2 := (Q2.later hb3)
 have G1 := F1.later hb3
 have G2 := F2.later hb3
 clear Q0 Q1 Q2 F1 F2 LY hb3; obtain ⟨z0, z1, z2, z3⟩ := R2.three'
 obtain ⟨y0, y1, y2, y3⟩ := R1.three'
 have n1 : ¬ w.heap.size + 1 = w.heap.size + 1 + 1 := by omega
 go_wp2_with fail; refine bodyPost_ret (v := .agg #[.slice (some ⟨g1, 0, none⟩) A.length A.length, .slice (some ⟨g2, 0, none⟩) B.length B.length, .slice (some ⟨g3, 0, none⟩) C.length C.length]) (by simp [results, Tryz.results8, go_sem, y0, y1, y2]) rfl ⟨⟨g1, g2, g3, rfl, ?_, ?_, ?_, ?_⟩, ?_⟩
 ·
  exact (((G1.other (by omega) _ _).other (by omega) _ _).other (by omega) _ _).other (by omega) _ _
 ·
  exact (((G2.other (by omega) _ _).other (by omega) _ _).other (by omega) _ _).other (by omega) _ _
 ·
  exact (((d3.other (by omega) _ _).other (by omega) _ _).other (by omega) _ _).other (by omega) _ _
 ·
  have gl1 := G1.2.1
  have gl2 := G2.2.1
  omega
 exact (((L3.setCell (by simp <;> omega) _).setCell (by simp <;> omega) _).setCell (by simp <;> omega) _).setCell (by simp <;> omega) _
theorem Only.trans {g : Nat} {a b c : World} (h : Only g a b) (k : Only g b c) : Only g a c :=
 ⟨h.1.trans k.1, Nat.le_trans h.2.1 k.2.1, fun W B hB hW => k.2.2.1 W B hB (h.2.2.1 W B hB hW), fun i hi hl => (k.2.2.2 i hi (Nat.lt_of_lt_of_le hl h.2.1)).trans (h.2.2.2 i hi hl)⟩
theorem Only.of {g : Nat} {a b : World} (h : Below a.heap.size a b) (hg : g < a.heap.size) : Only g a b :=
 ⟨h.os.symm, h.size, fun W B hB hW => hW.trans (h.mono (by omega)), fun i _ hl => h.block i hl⟩
theorem DW.put {w : World} {g n m : Nat} (h : DW w g n) (hm : m < n) (s : ByteArray) (i : Int) : DW ((w.setCell ⟨g, m * 2, none⟩ (.string s)).setCell ⟨g, m * 2 + 1, none⟩ (.int .i64 i)) g n := by
 obtain ⟨⟨s0, c0⟩, ⟨i0, c1⟩⟩ := h.2.2 m hm
 refine ⟨by simpa using h.1, fun o => by simpa using h.2.1 o, fun j hj => ?_⟩
 obtain ⟨⟨s1, a0⟩, ⟨i1, a1⟩⟩ := h.2.2 j hj
 have far : ∀ (w : World) (o o' : Nat) (u : Value), ¬ o = o' → (w.setCell ⟨g, o, none⟩ u).cell? ⟨g, o', none⟩ = w.cell? ⟨g, o', none⟩ := fun w o o' u ho => World.cell?_setCell_other _ _ _ _ (by intro e; rw [Addr.mk.injEq] at e; exact ho e.2.1)
 by_cases e : j = m
 ·
  subst e
  refine ⟨⟨s, ?_⟩, ⟨i, ?_⟩⟩
  ·
   rw [far _ _ _ _ (by omega)]
   exact World.cell?_setCell_same _ _ _ c0
  refine World.cell?_setCell_same _ _ _ (u := .int .i64 i0) ?_
  rw [far _ _ _ _ (by omega)]
  exact c1
 refine ⟨⟨s1, ?_⟩, ⟨i1, ?_⟩⟩
 ·
  rw [far _ _ _ _ (by omega), far _ _ _ _ (by omega)]
  exact a0
 rw [far _ _ _ _ (by omega), far _ _ _ _ (by omega)]
 exact a1
set_option maxHeartbeats 2000000 in
theorem markDeclS_any (g n cap : Nat) (k : Int) (w : World) (h : DW w g n) (hn : n ≤ 1048576) (h0 : 1 ≤ k) (h1 : k ≤ 10000000) :
  Calls Tryz.prog 41 #[.slice (some ⟨g, 0, none⟩) n cap, .int .i64 k] w fun e w' => e = .returned (.int .i64 (k + 2 * (n : Int))) ∧ Only g w w' := by
 have hal := alloc_old
 have haf := alloc_oldf
 go_enter Tryz.func41, Tryz.ntmps41
 go_wp2_with fail; go_loopw [1, 5] (fun x i wr => ∃ m : Nat, m ≤ n ∧ i = .int .i64 m ∧ x = .int .i64 (k + 2 * (m : Int)) ∧ Hid (DW wr g n) ∧ Hid (Only g w wr)) (fun _ i _ => n - (intOf i).toNat)
 case atStart => exact ⟨0, Nat.zero_le _, rfl, by simp, h, Only.refl _ _⟩
 obtain ⟨m, hm, rfl, rfl, hd, hon⟩ := hrel
 by_cases hlt : m < n
 ·
  go_wp2_with fail; refine (markText_any _ wr (by omega) (by omega)).mono ?_
  rintro e w2 ⟨⟨s, rfl, hs⟩, hb2⟩
  have hd2 := hd.out.later hb2
  have ho2 := hon.out.trans (Only.of hb2 hd.out.lt)
  obtain ⟨⟨s0, c0⟩, ⟨i0, c1⟩⟩ := hd2.2.2 m hlt
  have fz := hd2.2.1
  have H1 : Hid (DW ((w2.setCell ⟨g, m * 2, none⟩ (.string s)).setCell ⟨g, m * 2 + 1, none⟩ (.int .i64 (k + 2 * (m : Int) + 1))) g n) := hd2.put hlt s _
  have H2 : Hid (Only g w ((w2.setCell ⟨g, m * 2, none⟩ (.string s)).setCell ⟨g, m * 2 + 1, none⟩ (.int .i64 (k + 2 * (m : Int) + 1)))) := (ho2.set _ _).set _ _
  clear hd hon hd2 ho2 h hb2; go_wp2_with fail; refine ⟨⟨m + 1, by omega, by go_num, ?_, H1, H2⟩, by simp [intOf]; omega⟩
  congr 1; simp; omega
 have hm' : m = n := by omega
 subst hm'
 go_wp2_with fail; go_ret; exact ⟨rfl, hon.out⟩
set_option maxHeartbeats 2000000 in
theorem markReg_any (a b c n1 n2 n3 d1 d2 d3 : Nat) (w : World) (h1 : DW w a n1) (h2 : DW w b n2) (h3 : DW w c n3) (l1 : n1 ≤ 1048576) (l2 : n2 ≤ 1048576) (l3 : n3 ≤ 1048576) (ab : ¬ a = b) (ac : ¬ a = c) (bc : ¬ b = c) :
  Calls Tryz.prog 16 #[.agg #[.slice (some ⟨a, 0, none⟩) n1 d1, .slice (some ⟨b, 0, none⟩) n2 d2, .slice (some ⟨c, 0, none⟩) n3 d3], .int .i64 1] w fun e w' => (∃ r : Int, e = .returned (.int .i64 r) ∧ 0 ≤ r ∧ r ≤ 10000000) ∧ w.heap.size ≤ w'.heap.size ∧ (∀ W : World, ∀ B, B ≤ a → B ≤ b → B ≤ c → Below B W w → Below B W w') ∧ ∀ k, ¬ k = a → ¬ k = b → ¬ k = c → k < w.heap.size → w'.heap[k]? = w.heap[k]? := by
 have k0 := Blk.new w #[.slice (some ⟨a, 0, none⟩) n1 d1, .slice (some ⟨b, 0, none⟩) n2 d2, .slice (some ⟨c, 0, none⟩) n3 d3] 47
 have L0 : Below w.heap.size w (w.alloc (.cells #[.slice (some ⟨a, 0, none⟩) n1 d1, .slice (some ⟨b, 0, none⟩) n2 d2, .slice (some ⟨c, 0, none⟩) n3 d3] 47)) := bl_alloc (Below.refl _ _) _
 obtain ⟨x0, x1, x2, x3⟩ := k0.three'
 have la := h1.lt
 have lb := h2.lt
 have lc := h3.lt
 go_enter Tryz.func16, Tryz.ntmps16
 go_wp2_with fail; refine (markDeclS_any a n1 d1 1 _ (h1.later L0) l1 (by omega) (by omega)).mono ?_
 rintro e w1 ⟨rfl, o1⟩
 have s1 := L0.size
 have k1 : Blk w1 w.heap.size #[.slice (some ⟨a, 0, none⟩) n1 d1, .slice (some ⟨b, 0, none⟩) n2 d2, .slice (some ⟨c, 0, none⟩) n3 d3] 47 := by unfold Blk; rw [o1.2.2.2 _ (by omega) k0.lt]; exact k0
 have g2 : DW w1 b n2 := (h2.later L0).block o1.2.1 (o1.2.2.2 b (by omega) (by omega))
 have g3 : DW w1 c n3 := (h3.later L0).block o1.2.1 (o1.2.2.2 c (by omega) (by omega))
 clear x0 x1 x2 x3 h1 h2 h3; obtain ⟨x0, x1, x2, x3⟩ := k1.three'
 go_wp2_with fail; refine (markDeclS_any b n2 d2 _ _ g2 l2 (by omega) (by omega)).mono ?_
 rintro e w2 ⟨rfl, o2⟩
 have k2 : Blk w2 w.heap.size #[.slice (some ⟨a, 0, none⟩) n1 d1, .slice (some ⟨b, 0, none⟩) n2 d2, .slice (some ⟨c, 0, none⟩) n3 d3] 47 := by unfold Blk; rw [o2.2.2.2 _ (by omega) k1.lt]; exact k1
 have g3 : DW w2 c n3 := g3.block o2.2.1 (o2.2.2.2 c (by omega) g3.lt)
 clear x0 x1 x2 x3 g2; obtain ⟨x0, x1, x2, x3⟩ := k2.three'
 go_wp2_with fail; refine (markDeclS_any c n3 d3 _ _ g3 l3 (by omega) (by omega)).mono ?_
 rintro e w3 ⟨rfl, o3⟩
 go_wp2_with fail; go_ret; have e1 := o1.2.1
 have e2 := o2.2.1
 have e3 := o3.2.1
 refine ⟨⟨_, rfl, by omega, by omega⟩, by omega, fun W B ba bb bc hW => o3.2.2.1 W B bc (o2.2.2.1 W B bb (o1.2.2.1 W B ba (hW.trans (L0.mono (by omega))))), fun k ka kb kc hk => ?_⟩
 rw [o3.2.2.2 k kc (by omega), o2.2.2.2 k kb (by omega), o1.2.2.2 k ka (by omega), L0.block k hk]
theorem Mr.start2 {lo : Nat} {W1 w0 : World} (hk : Kept lo W1 w0) : Mr lo W1 w0 w0 :=
 ⟨Below.refl _ _, hk.1, fun _ _ _ => rfl, fun b o u h1 hl hc => ⟨u, (hk.cell h1 hl).trans hc, Or.inl rfl⟩, fun b o h1 hl => World.frozen?_of_block (w := W1) (a := ⟨b, o, none⟩) (hk.2 b h1 hl)⟩
section
variable {X : World} {B : Nat} {ops : Array Oper} {o : Oper} {a : Act} {w : World} {K : Act → World → Prop} {Q : Exit → Act → World → Prop} {E : Prop}
theorem step_boxB (P S : List OR) (hR : Rs X B w (P ++ S)) (hg : o.guard = none) {d0 : Option Nat} (hd : o.dst = d0) (t : TypeId) {i : TypeInfo} {z : Value} (hi : Tryz.prog.info? t = some i) (hz : i.zero = some z) (ho : o.op = .alloc t)
  (hK : ∀ k w', Below w.heap.size w w' → Rs X B w' (P ++ rB k t z.cells.toList :: S) → K (a.put d0 (.pointer (some ⟨k, 0, none⟩))) w') :
  if Region.wanted o (yielded ops a.tmps) = true then Oper.wp Tryz.prog o a w K Q else E :=
 step_exec hg hd (exec_alloc hi hz _ o ho w) (hK w.heap.size _ (bl_alloc (Below.refl _ _) _) (hR.ins P S (bl_alloc (Below.refl _ _) _) (blk_rB (Blk.new w _ t) (Nat.le_refl _))))
end
set_option maxHeartbeats 4000000 in
theorem markW_r (X : World) (B : Nat) (P : List OR) (V : WV) (W : Wd) (w : World) (hR : Rs X B w (P ++ rW V W)) (hF : OWf V W) (hk : kW W) :
  Calls Tryz.prog 17 #[.agg #[V.g, V.f, V.t, V.r], .int .i64 1] w fun e w' => e = .returned (.int .i64 (1 + cW W)) ∧ Rs X B w' (P ++ rW V (wW 1 W)) ∧ OWf V (wW 1 W) := by
 have hcw := cW_le hk
 obtain ⟨m1, m2, m3, m4⟩ := hk
 have M3 := Hid.mk' m3
 have hct := cTs_nn W.tabs
 obtain ⟨a1, c1, a2, c2, a3, c3, a4, c4, e1, e2, e3, e4, _⟩ := (hF.ow hR.o.right).inW
 obtain ⟨Vg, Vf, Vt, Vr, ts⟩ := V
 dsimp only at e1 e2 e3 e4
 subst e1 e2 e3 e4
 have HLN := Hid.mk' hF.len
 have HLE := Hid.mk' hF.lens
 have hcw' : Hid (1 + (W.gens.length : Int) + (W.free.length : Int) + cTs W.tabs + 4 * (W.res.length : Int) ≤ 4800000000000000000) := by show _ ≤ _; unfold cW at hcw; omega
 have hCW : Hid (cW W = (W.gens.length : Int) + (W.free.length : Int) + cTs W.tabs + 4 * (W.res.length : Int)) := rfl
 have h1 : Hid (Rs X B (w.alloc (.cells #[.slice a1 W.gens.length c1, .slice a2 W.free.length c2, .slice a3 W.tabs.length c3, .slice a4 W.res.length c4] 40)) (P ++ rI (.slice a1 W.gens.length c1) W.gens :: (rI (.slice a2 W.free.length c2) W.free :: ([rV (.slice a4 W.res.length c4) W.res, rB w.heap.size 40 [.slice a1 W.gens.length c1, .slice a2 W.free.length c2, .slice a3 W.tabs.length c3, .slice a4 W.res.length c4], (⟨119, 3, .slice a3 W.tabs.length c3, W.tabs.length, ts.flatMap tc⟩ : OR)] ++ rTabs ts W.tabs)))) := by
  unfold rW rT at hR
  dsimp only at hR
  rw [hF.len] at hR
  have := Rs.ins (P ++ [rI (.slice a1 W.gens.length c1) W.gens, rI (.slice a2 W.free.length c2) W.free, (⟨119, 3, .slice a3 W.tabs.length c3, W.tabs.length, ts.flatMap tc⟩ : OR), rV (.slice a4 W.res.length c4) W.res]) (rTabs ts W.tabs) (r := rB w.heap.size 40 [.slice a1 W.gens.length c1, .slice a2 W.free.length c2, .slice a3 W.tabs.length c3, .slice a4 W.res.length c4]) (by simpa using hR) (bl_alloc (Below.refl _ w) (.cells #[.slice a1 W.gens.length c1, .slice a2 W.free.length c2, .slice a3 W.tabs.length c3, .slice a4 W.res.length c4] 40)) (blk_rB (Blk.new w _ _) (Nat.le_refl _))
  rw [List.append_assoc] at this
  exact this.perm (List.Perm.append_left P (t₁ := [rI (.slice a1 W.gens.length c1) W.gens, rI (.slice a2 W.free.length c2) W.free, (⟨119, 3, .slice a3 W.tabs.length c3, W.tabs.length, ts.flatMap tc⟩ : OR), rV (.slice a4 W.res.length c4) W.res] ++ rB w.heap.size 40 [.slice a1 W.gens.length c1, .slice a2 W.free.length c2, .slice a3 W.tabs.length c3, .slice a4 W.res.length c4] :: rTabs ts W.tabs) ((((List.Perm.swap _ _ _).trans ((List.Perm.swap _ _ _).cons _)).cons _).cons _))
 clear hR hcw m3 hF; go_enter Tryz.func17, Tryz.ntmps17
 go_wp2_with fail; generalize hY : w.alloc (.cells #[.slice a1 W.gens.length c1, .slice a2 W.free.length c2, .slice a3 W.tabs.length c3, .slice a4 W.res.length c4] 40) = Y at h1 ⊢
 generalize hkt : w.heap.size = kt at h1 ⊢
 clear hY hkt; refine (markEnts_o X B _ _ a1 c1 a2 c2 W.gens W.free 1 _ h1.out m1 m2 (by omega) (by omega)).mono ?_
 rintro e w2 ⟨rfl, h2⟩
 have h2 := Hid.mk' h2
 have KB : Blk w2 kt #[.slice a1 W.gens.length c1, .slice a2 W.free.length c2, .slice a3 W.tabs.length c3, .slice a4 W.res.length c4] 40 := rB_blk (h2.out.o.on (rB kt 40 [.slice a1 W.gens.length c1, .slice a2 W.free.length c2, .slice a3 W.tabs.length c3, .slice a4 W.res.length c4]) (by simp))
 obtain ⟨x0, x1, x2, x3, x4⟩ := KB.four'
 have q0 : (0 : Int) ≤ 1 + (W.gens.length : Int) + (W.free.length : Int) := by omega
 have q1 : 1 + (W.gens.length : Int) + (W.free.length : Int) + cTs W.tabs ≤ 9000000000000000000 := by have := hcw'.out; omega
 go_wp2_with fail; refine (markTs_o X B (P ++ [rI (.slice a1 W.gens.length c1) (wI 1 W.gens.length), rI (.slice a2 W.free.length c2) (wI (1 + (W.gens.length : Int)) W.free.length), rV (.slice a4 W.res.length c4) W.res, rB kt 40 [.slice a1 W.gens.length c1, .slice a2 W.free.length c2, .slice a3 W.tabs.length c3, .slice a4 W.res.length c4]]) [] a3 c3 ts W.tabs _ _ HLN.out HLE.out (by simpa using h2.out) M3.out q0 q1).mono ?_
 rintro e w3 ⟨rfl, h3⟩
 have h3 := Hid.mk' h3
 clear x0 x1 x2 x3 x4 KB h2 h1; have KB : Blk w3 kt #[.slice a1 W.gens.length c1, .slice a2 W.free.length c2, .slice a3 W.tabs.length c3, .slice a4 W.res.length c4] 40 := rB_blk (h3.out.o.on (rB kt 40 [.slice a1 W.gens.length c1, .slice a2 W.free.length c2, .slice a3 W.tabs.length c3, .slice a4 W.res.length c4]) (by simp))
 obtain ⟨x0, x1, x2, x3, x4⟩ := KB.four'
 have q2 : (0 : Int) ≤ 1 + (W.gens.length : Int) + (W.free.length : Int) + cTs W.tabs := by omega
 go_wp2_with fail; refine (markV_o a4 c4 W.res B _ _ (h3.out.o.on _ (by simp)) m4 q2 q1).mono ?_
 rintro e w4 ⟨rfl, hr4, hg4⟩
 have h4 := Rs.turn (P ++ [rI (.slice a1 W.gens.length c1) (wI 1 W.gens.length), rI (.slice a2 W.free.length c2) (wI (1 + (W.gens.length : Int)) W.free.length)]) ([rB kt 40 [.slice a1 W.gens.length c1, .slice a2 W.free.length c2, .slice a3 W.tabs.length c3, .slice a4 W.res.length c4], (⟨119, 3, .slice a3 W.tabs.length c3, W.tabs.length, ts.flatMap tc⟩ : OR)] ++ (rTabs ts (wTs (1 + (W.gens.length : Int) + (W.free.length : Int)) W.tabs) ++ [])) (r := rV (.slice a4 W.res.length c4) W.res) (by simpa using h3.out) hg4 hr4 (fun g h => Or.inl h)
 have h5 := Rs.less (P ++ [rI (.slice a1 W.gens.length c1) (wI 1 W.gens.length), rI (.slice a2 W.free.length c2) (wI (1 + (W.gens.length : Int)) W.free.length), rV (.slice a4 W.res.length c4) (wV (1 + (W.gens.length : Int) + (W.free.length : Int) + cTs W.tabs) W.res.length)]) ((⟨119, 3, .slice a3 W.tabs.length c3, W.tabs.length, ts.flatMap tc⟩ : OR) :: (rTabs ts (wTs (1 + (W.gens.length : Int) + (W.free.length : Int)) W.tabs) ++ [])) (r := rB kt 40 [.slice a1 W.gens.length c1, .slice a2 W.free.length c2, .slice a3 W.tabs.length c3, .slice a4 W.res.length c4]) (by simpa using h4)
 have hO : Hid (Rs X B w4 (P ++ rW ⟨.slice a1 W.gens.length c1, .slice a2 W.free.length c2, .slice a3 W.tabs.length c3, .slice a4 W.res.length c4, ts⟩ (wW 1 W))) := by
  show Rs _ _ _ _
  have h6 : Rs X B w4 (P ++ ([rI (.slice a1 W.gens.length c1) (wI 1 W.gens.length), rI (.slice a2 W.free.length c2) (wI (1 + (W.gens.length : Int)) W.free.length)] ++ (rV (.slice a4 W.res.length c4) (wV (1 + (W.gens.length : Int) + (W.free.length : Int) + cTs W.tabs) W.res.length) :: (⟨119, 3, .slice a3 W.tabs.length c3, W.tabs.length, ts.flatMap tc⟩ : OR) :: rTabs ts (wTs (1 + (W.gens.length : Int) + (W.free.length : Int)) W.tabs)))) := by simpa using h5
  have h7 := h6.perm (List.Perm.append_left P (List.Perm.append_left [rI (.slice a1 W.gens.length c1) (wI 1 W.gens.length), rI (.slice a2 W.free.length c2) (wI (1 + (W.gens.length : Int)) W.free.length)] (List.Perm.swap ((⟨119, 3, .slice a3 W.tabs.length c3, W.tabs.length, ts.flatMap tc⟩ : OR)) (rV (.slice a4 W.res.length c4) (wV (1 + (W.gens.length : Int) + (W.free.length : Int) + cTs W.tabs) W.res.length)) _)))
  unfold rW rT wW
  dsimp only
  rw [HLN.out]
  exact h7
 have hF' : Hid (OWf ⟨.slice a1 W.gens.length c1, .slice a2 W.free.length c2, .slice a3 W.tabs.length c3, .slice a4 W.res.length c4, ts⟩ (wW 1 W)) := by
  refine ⟨?_, ?_, ?_, ?_⟩
  ·
   show ts.length = (wTs _ W.tabs).length
   rw [wTs_len]; exact HLN.out
  ·
   intro j t T ht hT
   have hj : j < W.tabs.length := by have := (List.getElem?_eq_some_iff.1 ht).1; have := HLN.out; dsimp only at *; omega
   obtain ⟨T0, hT0⟩ := get_some hj
   have := wTs_get (1 + (W.gens.length : Int) + (W.free.length : Int)) W.tabs j T0 hT0
   have hT : (wTs (1 + (W.gens.length : Int) + (W.free.length : Int)) W.tabs)[j]? = some T := hT
   rw [this] at hT
   cases hT
   rw [HLE.out j t T0 ht hT0]
   exact (wC_len _ _).symm
  ·
   exact okc_wTs _ W.tabs q0 q1
  exact okVs_wV q2 (by have := hcw'.out; omega)
 clear h4 h5 hr4 hg4 x0 x1 x2 x3 x4 KB h3; go_wp2_with fail; go_ret; refine ⟨?_, hO.out, hF'.out⟩
 have e9 : 1 + cW W = 1 + (W.gens.length : Int) + (W.free.length : Int) + cTs W.tabs + 4 * (W.res.length : Int) := by rw [hCW.out]; omega
 rw [e9]
 rfl
end Go.Proofs.YtbgeobpdojmdaaaGreat
