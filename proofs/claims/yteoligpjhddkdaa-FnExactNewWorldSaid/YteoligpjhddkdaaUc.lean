import Derived.Test.YteoligpjhddkdaaUb
import Derived.Test.YteoligpjhddkdaaTi
namespace Go.Proofs.Yteoligpjhddkdaa
open Go.RowKit Go.Maps Go.WideMaps
set_option linter.unusedVariables false
set_option linter.unusedSimpArgs false

/-- the values of a new world. -/
def nwL (A B C : List (ByteArray × Int)) : List V4 := if okR A B C = true then zs B B.length else []
def Nwed (A B C : List (ByteArray × Int)) (w : World) (e : Ending) (w' : World) : Prop :=
  ∃ s c, e = .returned (.agg #[.slice none 0 0, .slice none 0 0, .slice none 0 0, .slice s (nwL A B C).length c]) ∧ w'.ownsRow w.heap.size 63 4 (.slice s (nwL A B C).length c) (nwL A B C).length ((nwL A B C).flatMap vcells) ∧ Below w.heap.size w w'
theorem owns_low {w : World} {b b' : Nat} {v : Value} {n : Nat} {xs : List Value} {e : TypeId} {q : Nat} (h : w.ownsRow b e q v n xs) (hb : b' ≤ b) : w.ownsRow b' e q v n xs := by
  refine ⟨h.1, ?_⟩
  rcases h.2 with h' | ⟨g, cap', cur, h', hb0, r⟩
  · exact Or.inl h'
  · exact Or.inr ⟨g, cap', cur, h', Nat.le_trans hb hb0, r⟩

theorem owns_set {w : World} {b m o : Nat} {v u : Value} {n : Nat} {xs : List Value} {e : TypeId} {q : Nat} (h : w.ownsRow b e q v n xs) (hm : m < b) : (w.setCell ⟨m, o, none⟩ u).ownsRow b e q v n xs := by
  refine World.ownsRow.kept h (row := some m) ⟨rfl, rfl, rfl, by simp, fun k hk hne => Below.heap_setCell w ⟨m, o, none⟩ _ k (by dsimp only; exact fun e => hne (by rw [e]))⟩ ?_
  cases hv : v.ownBlock with
  | none => exact Or.inl rfl
  | some g => exact Or.inr (by have := (World.ownsRow.lt h g hv).1; simp; omega)

set_option maxRecDepth 100000 in
set_option maxHeartbeats 4000000 in
theorem implNewWorld_any (s1 s2 s3 : Option Addr) (c1 c2 c3 : Nat) (A B C : List (ByteArray × Int)) (w : World) (hA : Decls w s1 A) (hB : Decls w s2 B) (hC : Decls w s3 C) (nm : ∀ i, i < (A ++ B ++ C).length → (dAt (A ++ B ++ C) i).1.size ≤ maxLen) (l1 : A.length ≤ 1048576) (l2 : B.length ≤ 1048576) (l3 : C.length ≤ 1048576) :
    Calls Try.prog 15 #[.agg #[.slice s1 A.length c1, .slice s2 B.length c2, .slice s3 C.length c3]] w fun e w' => Nwed A B C w e w' := by
  have hal := alloc_old
  have haf := alloc_oldf
  obtain ⟨k0, k1, L0⟩ := boxVV w #[.slice s1 A.length c1, .slice s2 B.length c2, .slice s3 C.length c3] #[.slice none 0 0, .slice none 0 0, .slice none 0 0, .slice none 0 0] 37 43
  obtain ⟨x0, x1, x2, x3⟩ := k0.three'
  go_enter Try.func15, Try.ntmps15
  go_wp2_with fail
  refine (implRegOk_any s1 s2 s3 c1 c2 c3 A B C _ (hA.later L0) (hB.later L0) (hC.later L0) nm l1 l2 l3).mono ?_
  rintro e w1 ⟨rfl, hb1⟩
  have L1 := bl_trans L0 hb1
  have K0 := k0.later hb1
  have K1 := k1.later hb1
  clear x0 x1 x2 x3 k0 k1 hb1 L0
  obtain ⟨x0, x1, x2, x3⟩ := K0.three'
  obtain ⟨y0, y1, y2, y3, y4⟩ := K1.four'
  cases hok : okR A B C
  · have EL : nwL A B C = [] := by simp [nwL, hok]
    go_wp2_with fail
    refine bodyPost_ret (v := .agg #[.slice none 0 0, .slice none 0 0, .slice none 0 0, .slice none 0 0]) (by simp [results, Try.results15, go_sem, y0, y1, y2, y3]) rfl ⟨none, 0, by rw [EL]; rfl, by rw [EL]; exact World.ownsRow_nil _ _ _ _, ?_⟩
    refine (((L1.setCell ?_ _).setCell ?_ _).setCell ?_ _).setCell ?_ _ <;> simp <;> omega
  · have EL : Hid (nwL A B C = zs B B.length) := by simp [Hid, nwL, hok]
    go_wp2_with fail
    have N0 : Nw w1 (w1.alloc (.cells #[.slice none 0 0, .slice none 0 0, .slice none 0 0, .slice none 0 0] 43)) w1.heap.size (.slice none (zs B 0).length 0) (zs B 0) := ⟨Blk.new _ _ _, by simpa [zs] using World.ownsRow_nil _ _ _ _, bl_alloc (Below.refl _ _) _⟩
    have ln : w.heap.size + 1 < w1.heap.size := K1.lt
    generalize hX : w1.alloc (.cells #[.slice none 0 0, .slice none 0 0, .slice none 0 0, .slice none 0 0] 43) = X at N0 ⊢
    clear hX
    have HB1 : Hid (Decls w1 s2 B) := hB.later L1
    clear hA hB hC nm
    go_loopw [13] (fun i wr => ∃ (m : Nat) (s : Option Addr) (c : Nat), m ≤ B.length ∧ i = .int .i64 m ∧ Hid (Nw w1 wr w1.heap.size (.slice s (zs B m).length c) (zs B m))) (fun i _ => B.length - (intOf i).toNat)
    case atStart => exact ⟨0, none, 0, Nat.zero_le _, rfl, N0⟩
    case round =>
      obtain ⟨m, s, c, hm, rfl, hN⟩ := hrel
      have bw : Below w1.heap.size w1 wr := hN.out.b
      by_cases hlt : m < B.length
      · obtain ⟨pb, po, rfl, hp, e1, e2⟩ := (HB1.out.later bw).get hlt
        obtain ⟨p, hp0⟩ : ∃ p, Hid (dAt B m = p) := ⟨_, rfl⟩
        rw [hp0.out] at e1 e2
        obtain ⟨p1, p2⟩ := p
        go_wp2_with fail
        have N1 := hN.out.later (bl_alloc (Below.refl _ _) (.cells #[.string p1, .int .i64 p2] 78))
        have KD := Blk.new wr #[.string p1, .int .i64 p2] 78
        generalize hY : wr.alloc (.cells #[.string p1, .int .i64 p2] 78) = Y at N1 KD ⊢
        clear hY
        have z3 := N1.k.cell 3
        have zf := N1.k.frozen 3
        have d1 := KD.cell 1
        have zl : (zs B m).length ≤ 1048576 := by rw [zs_len hm]; omega
        have hlt1 := N1.k.lt
        go_region_law (first
          | (refine step_append_val (by rfl) _ _ (by rfl) (w1.heap.size + 1) (.slice s (zs B m).length c) (zs B m) (by rfl) (N2.later (bl_alloc (Below.refl _ _) _)).r w2.heap.size (zk p2, 0, 0, 0) (by rfl) (Blk.new _ _ _) zl (by simp; omega) ?_; intro g cap w5 hr hg hg5; have N3 := (N2.later (bl_alloc (Below.refl _ _) _)).put hr hg; have kk := Nw.grown (N2.later (bl_alloc (Below.refl _ _) _)) hg; have z3 := kk.cell 3; have zf := kk.frozen 3)
          | (go_simp; go_wp2_with (go_at_call 46; refine (implZero_any p2 _).mono ?_; rintro e w2 ⟨rfl, hb2⟩; have N2 := N1.later (bl_trans (bl_drew (Below.refl _ _)) hb2); have hlt2 := N2.k.lt; have z3 := N2.k.cell 3; have zf := N2.k.frozen 3)))
        all_goals
          have eL : zs B (m + 1) = zs B m ++ [(zk p2, 0, 0, 0)] := by rw [zs_succ hlt, hp0.out]
          have eN : (zs B m).length + 1 = (zs B (m + 1)).length := by rw [eL]; simp
          have N4 : Hid (Nw w1 (w5.setCell ⟨w1.heap.size, 3, none⟩ (.slice (some ⟨g, 0, none⟩) ((zs B m).length + 1) cap)) w1.heap.size (.slice (some ⟨g, 0, none⟩) (zs B (m + 1)).length cap) (zs B (m + 1))) := by
            have := N3
            rw [← eL, eN] at this
            rw [eN]
            exact this
          clear eL eN N3 kk z3 zf hr hg N2 N1 KD hN
          go_wp2_with fail
          go_roundw
          case rel => exact ⟨m + 1, _, _, by omega, by go_num, N4⟩
          case measure => simp [intOf]; omega
      · have hm' : m = B.length := by omega
        subst hm'
        obtain ⟨z0, z1, z2, z3, z4⟩ := hN.out.k.four'
        clear y0 y1 y2 y3 y4
        obtain ⟨y0, y1, y2, y3, y4⟩ := (K1.later bw).four'
        have n1 : ¬ w.heap.size + 1 = w1.heap.size := by omega
        have n2 : ¬ w1.heap.size = w.heap.size + 1 := by omega
        have L2 : Below w.heap.size w wr := bl_trans L1 bw
        have R0 := hN.out.r
        go_wp2_with fail
        refine bodyPost_ret (v := .agg #[.slice none 0 0, .slice none 0 0, .slice none 0 0, .slice s (zs B B.length).length c]) (by simp [results, Try.results15, go_sem, y0, y1, y2, y3]) rfl ⟨s, c, by rw [EL.out], ?_, ?_⟩
        · rw [EL.out]
          refine owns_low (owns_set (owns_set (owns_set (owns_set R0 ?_) ?_) ?_) ?_) ?_ <;> omega
        · refine (((L2.setCell ?_ _).setCell ?_ _).setCell ?_ _).setCell ?_ _ <;> simp <;> omega
end Go.Proofs.Yteoligpjhddkdaa
