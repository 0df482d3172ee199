import Derived.Test.YtgcfhoojjgcpiaaBh
import Derived.Test.YtgcfhoojjgcpiaaBf
import Derived.Test.YtgcfhoojjgcpiaaAc
namespace Go.Proofs.Ytgcfhoojjgcpiaa
open Go.RowKit
set_option linter.unusedVariables false
set_option linter.unusedSimpArgs false
set_option maxHeartbeats 2000000 in
theorem sameI_more (s t : Option Addr) (c d : Nat) (R : List Int) (B C : Nat) (w : World) (hs : Els 1 cInt w B s R) (ht : Els 1 cInt w C t R) (hl : R.length ≤ 4398046511104) :
    Calls Try.prog 20 #[.slice s R.length c, .slice t R.length d] w fun e w' => e = .returned (.bool true) ∧ Below w.heap.size w w' := by
  have H1 : Hid (Els 1 cInt w B s R) := hs
  have H2 : Hid (Els 1 cInt w C t R) := ht
  clear hs ht
  go_enter Try.func20, Try.ntmps20
  go_wp2
  go_loopw [5] (fun i wr => ∃ k : Nat, k ≤ R.length ∧ i = .int .i64 k ∧ Hid (Below w.heap.size w wr)) (fun i _ => R.length - (intOf i).toNat)
  case atStart => exact ⟨0, Nat.zero_le _, rfl, Below.refl _ _⟩
  case round =>
    obtain ⟨k, hk, rfl, hbel⟩ := hrel
    by_cases hlt : k < R.length
    · obtain ⟨x, hx⟩ := get_some hlt
      obtain ⟨b, o, rfl, _, hb, d1⟩ := eInt_cells (H1.out.later cInt_keeps hbel.out) hx
      obtain ⟨b2, o2, rfl, _, hb2, d2⟩ := eInt_cells (H2.out.later cInt_keeps hbel.out) hx
      have g : (x != x) = false := by simp
      clear hx
      go_wp2
      go_region
      go_wp2
      go_roundw
      case rel => exact ⟨k + 1, by omega, by go_num, bl_drewN hbel.out _⟩
      case measure => simp [intOf]; omega
    · go_wp2
      go_ret
      exact ⟨rfl, hbel.out⟩
theorem sameI_at (s t : Option Addr) (c d : Nat) (L M : List Int) (hLM : L = M) (B C : Nat) (w : World) (hs : Els 1 cInt w B s L) (ht : Els 1 cInt w C t M) (hl : L.length ≤ 4398046511104) :
    Calls Try.prog 20 #[.slice s L.length c, .slice t M.length d] w fun e w' => e = .returned (.bool true) ∧ Below w.heap.size w w' := by
  subst hLM
  exact sameI_more s t c d L B C w hs ht hl
/-- all lists at most so long. -/
def sN (N : Nat) (e : Ef) : Prop := e.l0.length ≤ N ∧ e.l1.length ≤ N ∧ e.l2.length ≤ N ∧ e.l3.length ≤ N ∧ e.l4.length ≤ N ∧ e.l5.length ≤ N ∧ e.l6.length ≤ N ∧ e.l7.length ≤ N
theorem sN.k {N : Nat} {e : Ef} (h : sN N e) (hN : N ≤ 1048576) : kEf e := by obtain ⟨q0, q1, q2, q3, q4, q5, q6, q7⟩ := h; exact ⟨by omega, by omega, by omega, by omega, by omega, by omega, by omega, by omega⟩
theorem sN.k2 {N : Nat} {e : Ef} (h : sN N e) (hN : N ≤ 1048576) : e.l0.length ≤ 2199023255552 ∧ e.l1.length ≤ 2199023255552 ∧ e.l2.length ≤ 2199023255552 ∧ e.l3.length ≤ 2199023255552 ∧ e.l4.length ≤ 2199023255552 ∧ e.l5.length ≤ 2199023255552 ∧ e.l6.length ≤ 2199023255552 ∧ e.l7.length ≤ 2199023255552 := by obtain ⟨q0, q1, q2, q3, q4, q5, q6, q7⟩ := h; exact ⟨by omega, by omega, by omega, by omega, by omega, by omega, by omega, by omega⟩
theorem JoinIs.sN {V U J : Ef} {a b : Nat} (h : JoinIs V U J) (hV : sN a V) (hU : sN b U) : sN (a + b) J := by
  obtain ⟨q0, q1, q2, q3, q4, q5, q6, q7⟩ := hV
  obtain ⟨r0, r1, r2, r3, r4, r5, r6, r7⟩ := hU
  exact ⟨by have := h.s0.2.2; rw [List.length_append] at this; omega, by have := h.s1.2.2; rw [List.length_append] at this; omega, by have := h.s2.2.2; rw [List.length_append] at this; omega, by have := h.s3.2.2; rw [List.length_append] at this; omega, by have := h.s4.2.2; rw [List.length_append] at this; omega, by have := h.s5.2.2; rw [List.length_append] at this; omega, by have := h.s6.2.2; rw [List.length_append] at this; omega, by have := h.s7.2.2; rw [List.length_append] at this; omega⟩
theorem sub_true {A B : List Int} (h : ∀ x ∈ A, x ∈ B) : subB A B = true := by unfold subB; rw [decide_eq_true_eq]; exact h
theorem wit_true {V J : Ef} (h : ∀ i, ∀ x ∈ V.lst i, x ∈ J.lst i) (h8 : (J.sp || !V.sp) = true) (h9 : (J.kl || !V.kl) = true) : witB V J = true := by
  have hs : ∀ i, subB (V.lst i) (J.lst i) = true := fun i => sub_true (h i)
  rw [witB_subN, h8, h9]
  have : subN V J 8 = true := by unfold subN; rw [List.all_eq_true]; intro i _; exact hs i
  rw [this]; rfl
theorem JoinIs.at {V U J : Ef} (h : JoinIs V U J) (i : Nat) (x : Int) : x ∈ J.lst i ↔ x ∈ V.lst i ∨ x ∈ U.lst i := by
  match i with
  | 0 => have := h.s0.2.1 x; rw [List.mem_append] at this; exact this
  | 1 => have := h.s1.2.1 x; rw [List.mem_append] at this; exact this
  | 2 => have := h.s2.2.1 x; rw [List.mem_append] at this; exact this
  | 3 => have := h.s3.2.1 x; rw [List.mem_append] at this; exact this
  | 4 => have := h.s4.2.1 x; rw [List.mem_append] at this; exact this
  | 5 => have := h.s5.2.1 x; rw [List.mem_append] at this; exact this
  | 6 => have := h.s6.2.1 x; rw [List.mem_append] at this; exact this
  | 7 => have := h.s7.2.1 x; rw [List.mem_append] at this; exact this
  | n + 8 => simp [Ef.lst]
theorem wit_left {V U J : Ef} (h : JoinIs V U J) : witB V J = true := wit_true (fun i x hx => (h.at i x).2 (Or.inl hx)) (by rw [h.sp]; cases V.sp <;> cases U.sp <;> rfl) (by rw [h.kl]; cases V.kl <;> cases U.kl <;> rfl)
theorem wit_right {V U J : Ef} (h : JoinIs V U J) : witB U J = true := wit_true (fun i x hx => (h.at i x).2 (Or.inr hx)) (by rw [h.sp]; cases V.sp <;> cases U.sp <;> rfl) (by rw [h.kl]; cases V.kl <;> cases U.kl <;> rfl)
theorem wit_self (J : Ef) : witB J J = true := wit_true (fun i x hx => hx) (by cases J.sp <;> rfl) (by cases J.kl <;> rfl)
theorem wit_again {V U J Z : Ef} (h : JoinIs V U J) (g : JoinIs J U Z) : witB Z J = true :=
  wit_true (fun i x hx => ((g.at i x).1 hx).elim id (fun q => (h.at i x).2 (Or.inr q))) (by rw [g.sp, h.sp]; cases V.sp <;> cases U.sp <;> rfl) (by rw [g.kl, h.kl]; cases V.kl <;> cases U.kl <;> rfl)
theorem srt_turn {A B X Y : List Int} (h : Srt (A ++ B) X) (g : Srt (B ++ A) Y) : Y = X := asc_unique g.1 h.1 (fun x => by rw [g.2.1 x, h.2.1 x]; simp [or_comm])
theorem srt_again {A B X Z : List Int} (h : Srt (A ++ B) X) (g : Srt (X ++ B) Z) : Z = X := asc_unique g.1 h.1 (fun x => by
  rw [g.2.1 x, h.2.1 x]; simp only [List.mem_append, h.2.1 x]
  constructor
  · rintro ((q | q) | q)
    · exact Or.inl q
    · exact Or.inr q
    · exact Or.inr q
  · exact Or.inl)
theorem cmd_join {V U J : Ef} (h : JoinIs V U J) : cmdB J = (cmdB V || cmdB U) := by
  have hl : decide (0 < J.l7.length) = (decide (0 < V.l7.length) || decide (0 < U.l7.length)) := by
    rw [Bool.eq_iff_iff]
    simp only [Bool.or_eq_true, decide_eq_true_eq, List.length_pos_iff_exists_mem]
    constructor
    · rintro ⟨x, hx⟩
      rcases List.mem_append.1 ((h.s7.2.1 x).1 hx) with q | q
      · exact Or.inl ⟨x, q⟩
      · exact Or.inr ⟨x, q⟩
    · rintro (⟨x, q⟩ | ⟨x, q⟩)
      · exact ⟨x, (h.s7.2.1 x).2 (List.mem_append.2 (Or.inl q))⟩
      · exact ⟨x, (h.s7.2.1 x).2 (List.mem_append.2 (Or.inr q))⟩
  unfold cmdB
  rw [h.sp, h.kl, hl]
  cases V.sp <;> cases V.kl <;> cases U.sp <;> cases U.kl <;> simp
set_option maxRecDepth 100000 in
set_option maxHeartbeats 16000000 in
theorem fnJoin_any (sl : Option Addr) (len cap : Nat) (w : World) (hC : Code w sl len) :
    Calls Try.prog 6 #[.slice sl len cap] w fun e w' => e = .returned (.bool true) ∧ Below w.heap.size w w' := by
  go_enter Try.func6, Try.ntmps6
  go_wp2_with fail
  refine (big_any sl len cap _).mono ?_
  rintro e w9 ⟨rfl, hw9⟩
  rw [hw9]
  clear hw9 w9
  by_cases hbig : 1048576 < (len : Int)
  · have hd : decide (1048576 < (len : Int)) = true := by simp; omega
    go_wp2_with fail
    go_ret
    exact ⟨rfl, Below.refl _ _⟩
  have hd : decide (1048576 < (len : Int)) = false := by simp; omega
  go_wp2_with fail
  refine (drawJoin_any sl len cap _ (by omega) hC).mono ?_
  rintro e w1 ⟨⟨pa0, pa1, pa2, pa3, pa4, pa5, pa6, pa7, na0, na1, na2, na3, na4, na5, na6, na7, eA, pb0, pb1, pb2, pb3, pb4, pb5, pb6, pb7, nb0, nb1, nb2, nb3, nb4, nb5, nb6, nb7, eB, rfl, hA, hB, sA, sB⟩, hb1⟩
  have SA : Hid (sN 6 eA) := sA
  have SB : Hid (sN 6 eB) := sB
  obtain ⟨KA, KB, Lx⟩ := blkTwoE w1 #[.slice pa0 eA.l0.length na0, .slice pa1 eA.l1.length na1, .slice pa2 eA.l2.length na2, .slice pa3 eA.l3.length na3, .slice pa4 eA.l4.length na4, .slice pa5 eA.l5.length na5, .slice pa6 eA.l6.length na6, .slice pa7 eA.l7.length na7, .bool eA.sp, .bool eA.kl] #[.slice pb0 eB.l0.length nb0, .slice pb1 eB.l1.length nb1, .slice pb2 eB.l2.length nb2, .slice pb3 eB.l3.length nb3, .slice pb4 eB.l4.length nb4, .slice pb5 eB.l5.length nb5, .slice pb6 eB.l6.length nb6, .slice pb7 eB.l7.length nb7, .bool eB.sp, .bool eB.kl] 27 27
  have KA := Hid.mk' KA
  have KB := Hid.mk' KB
  have IA := Hid.mk' (hA.later Lx)
  have IB := Hid.mk' (hB.later Lx)
  have LL := Hid.mk' (bl_trans hb1 Lx)
  clear hA hB sA sB hb1 Lx hd hbig hC
  go_wp2_with fail
  generalize hX : (w1.alloc (.cells #[.slice pa0 eA.l0.length na0, .slice pa1 eA.l1.length na1, .slice pa2 eA.l2.length na2, .slice pa3 eA.l3.length na3, .slice pa4 eA.l4.length na4, .slice pa5 eA.l5.length na5, .slice pa6 eA.l6.length na6, .slice pa7 eA.l7.length na7, .bool eA.sp, .bool eA.kl] 27)).alloc (.cells #[.slice pb0 eB.l0.length nb0, .slice pb1 eB.l1.length nb1, .slice pb2 eB.l2.length nb2, .slice pb3 eB.l3.length nb3, .slice pb4 eB.l4.length nb4, .slice pb5 eB.l5.length nb5, .slice pb6 eB.l6.length nb6, .slice pb7 eB.l7.length nb7, .bool eB.sp, .bool eB.kl] 27) = W0 at KA KB IA IB LL ⊢
  clear hX
  generalize hka : w1.heap.size = kA at KA KB ⊢
  clear hka
  obtain ⟨kB, hkb⟩ : ∃ k, kA + 1 = k := ⟨_, rfl⟩
  rw [hkb] at KB
  try rw [hkb]
  clear hkb
  obtain ⟨x0, x1, x2, x3, x4, x5, x6, x7, x8, x9, xf⟩ := KA.out.ten
  obtain ⟨y0, y1, y2, y3, y4, y5, y6, y7, y8, y9, yf⟩ := KB.out.ten
  go_wp2_with fail
  refine (implJoin_oe _ _ _ _ _ _ _ _ _ _ _ _ _ _ _ _ eA _ _ _ _ _ _ _ _ _ _ _ _ _ _ _ _ eB 0 0 _ IA.out IB.out (SA.out.k2 (by omega)) (SB.out.k2 (by omega))).mono ?_
  rintro e v1 ⟨⟨px0, px1, px2, px3, px4, px5, px6, px7, nx0, nx1, nx2, nx3, nx4, nx5, nx6, nx7, eX, rfl, hO, hJ⟩, hb⟩
  have hh : Below W0.heap.size W0 (v1.alloc (.cells #[.slice px0 eX.l0.length nx0, .slice px1 eX.l1.length nx1, .slice px2 eX.l2.length nx2, .slice px3 eX.l3.length nx3, .slice px4 eX.l4.length nx4, .slice px5 eX.l5.length nx5, .slice px6 eX.l6.length nx6, .slice px7 eX.l7.length nx7, .bool eX.sp, .bool eX.kl] 27)) := bl_trans hb (bl_alloc (Below.refl _ _) _)
  replace KA : Hid (Blk (v1.alloc (.cells #[.slice px0 eX.l0.length nx0, .slice px1 eX.l1.length nx1, .slice px2 eX.l2.length nx2, .slice px3 eX.l3.length nx3, .slice px4 eX.l4.length nx4, .slice px5 eX.l5.length nx5, .slice px6 eX.l6.length nx6, .slice px7 eX.l7.length nx7, .bool eX.sp, .bool eX.kl] 27)) kA #[.slice pa0 eA.l0.length na0, .slice pa1 eA.l1.length na1, .slice pa2 eA.l2.length na2, .slice pa3 eA.l3.length na3, .slice pa4 eA.l4.length na4, .slice pa5 eA.l5.length na5, .slice pa6 eA.l6.length na6, .slice pa7 eA.l7.length na7, .bool eA.sp, .bool eA.kl] 27) := KA.out.later hh
  replace IA : Hid (InE (v1.alloc (.cells #[.slice px0 eX.l0.length nx0, .slice px1 eX.l1.length nx1, .slice px2 eX.l2.length nx2, .slice px3 eX.l3.length nx3, .slice px4 eX.l4.length nx4, .slice px5 eX.l5.length nx5, .slice px6 eX.l6.length nx6, .slice px7 eX.l7.length nx7, .bool eX.sp, .bool eX.kl] 27)) 0 pa0 pa1 pa2 pa3 pa4 pa5 pa6 pa7 eA) := IA.out.later hh
  replace KB : Hid (Blk (v1.alloc (.cells #[.slice px0 eX.l0.length nx0, .slice px1 eX.l1.length nx1, .slice px2 eX.l2.length nx2, .slice px3 eX.l3.length nx3, .slice px4 eX.l4.length nx4, .slice px5 eX.l5.length nx5, .slice px6 eX.l6.length nx6, .slice px7 eX.l7.length nx7, .bool eX.sp, .bool eX.kl] 27)) kB #[.slice pb0 eB.l0.length nb0, .slice pb1 eB.l1.length nb1, .slice pb2 eB.l2.length nb2, .slice pb3 eB.l3.length nb3, .slice pb4 eB.l4.length nb4, .slice pb5 eB.l5.length nb5, .slice pb6 eB.l6.length nb6, .slice pb7 eB.l7.length nb7, .bool eB.sp, .bool eB.kl] 27) := KB.out.later hh
  replace IB : Hid (InE (v1.alloc (.cells #[.slice px0 eX.l0.length nx0, .slice px1 eX.l1.length nx1, .slice px2 eX.l2.length nx2, .slice px3 eX.l3.length nx3, .slice px4 eX.l4.length nx4, .slice px5 eX.l5.length nx5, .slice px6 eX.l6.length nx6, .slice px7 eX.l7.length nx7, .bool eX.sp, .bool eX.kl] 27)) 0 pb0 pb1 pb2 pb3 pb4 pb5 pb6 pb7 eB) := IB.out.later hh
  have KX : Hid (Blk (v1.alloc (.cells #[.slice px0 eX.l0.length nx0, .slice px1 eX.l1.length nx1, .slice px2 eX.l2.length nx2, .slice px3 eX.l3.length nx3, .slice px4 eX.l4.length nx4, .slice px5 eX.l5.length nx5, .slice px6 eX.l6.length nx6, .slice px7 eX.l7.length nx7, .bool eX.sp, .bool eX.kl] 27)) v1.heap.size #[.slice px0 eX.l0.length nx0, .slice px1 eX.l1.length nx1, .slice px2 eX.l2.length nx2, .slice px3 eX.l3.length nx3, .slice px4 eX.l4.length nx4, .slice px5 eX.l5.length nx5, .slice px6 eX.l6.length nx6, .slice px7 eX.l7.length nx7, .bool eX.sp, .bool eX.kl] 27) := Blk.new _ _ _
  have IX : Hid (InE (v1.alloc (.cells #[.slice px0 eX.l0.length nx0, .slice px1 eX.l1.length nx1, .slice px2 eX.l2.length nx2, .slice px3 eX.l3.length nx3, .slice px4 eX.l4.length nx4, .slice px5 eX.l5.length nx5, .slice px6 eX.l6.length nx6, .slice px7 eX.l7.length nx7, .bool eX.sp, .bool eX.kl] 27)) 0 px0 px1 px2 px3 px4 px5 px6 px7 eX) := (hO.inE.drop (Nat.zero_le _)).later (bl_alloc (Below.refl _ _) _)
  have CX := Hid.mk' hO.caps
  have JX := Hid.mk' hJ
  have SX := Hid.mk' (hJ.sN SA.out SB.out)
  replace LL : Hid (Below w.heap.size w (v1.alloc (.cells #[.slice px0 eX.l0.length nx0, .slice px1 eX.l1.length nx1, .slice px2 eX.l2.length nx2, .slice px3 eX.l3.length nx3, .slice px4 eX.l4.length nx4, .slice px5 eX.l5.length nx5, .slice px6 eX.l6.length nx6, .slice px7 eX.l7.length nx7, .bool eX.sp, .bool eX.kl] 27))) := bl_trans LL.out hh
  clear hb hh hO hJ x0 x1 x2 x3 x4 x5 x6 x7 x8 x9 xf y0 y1 y2 y3 y4 y5 y6 y7 y8 y9 yf
  obtain ⟨x0, x1, x2, x3, x4, x5, x6, x7, x8, x9, xf⟩ := KB.out.ten
  obtain ⟨y0, y1, y2, y3, y4, y5, y6, y7, y8, y9, yf⟩ := KA.out.ten
  go_wp2_with fail
  generalize hX : v1.alloc (.cells #[.slice px0 eX.l0.length nx0, .slice px1 eX.l1.length nx1, .slice px2 eX.l2.length nx2, .slice px3 eX.l3.length nx3, .slice px4 eX.l4.length nx4, .slice px5 eX.l5.length nx5, .slice px6 eX.l6.length nx6, .slice px7 eX.l7.length nx7, .bool eX.sp, .bool eX.kl] 27) = W1 at KA IA KB IB KX IX LL x0 x1 x2 x3 x4 x5 x6 x7 x8 x9 xf y0 y1 y2 y3 y4 y5 y6 y7 y8 y9 yf ⊢
  clear hX
  generalize hkk : v1.heap.size = kX at KX x0 x1 x2 x3 x4 x5 x6 x7 x8 x9 xf y0 y1 y2 y3 y4 y5 y6 y7 y8 y9 yf ⊢
  clear hkk
  refine (implJoin_oe _ _ _ _ _ _ _ _ _ _ _ _ _ _ _ _ eB _ _ _ _ _ _ _ _ _ _ _ _ _ _ _ _ eA 0 0 _ IB.out IA.out (SB.out.k2 (by omega)) (SA.out.k2 (by omega))).mono ?_
  rintro e v2 ⟨⟨py0, py1, py2, py3, py4, py5, py6, py7, ny0, ny1, ny2, ny3, ny4, ny5, ny6, ny7, eY, rfl, hO, hJ⟩, hb⟩
  have hh : Below W1.heap.size W1 (v2.alloc (.cells #[.slice py0 eY.l0.length ny0, .slice py1 eY.l1.length ny1, .slice py2 eY.l2.length ny2, .slice py3 eY.l3.length ny3, .slice py4 eY.l4.length ny4, .slice py5 eY.l5.length ny5, .slice py6 eY.l6.length ny6, .slice py7 eY.l7.length ny7, .bool eY.sp, .bool eY.kl] 27)) := bl_trans hb (bl_alloc (Below.refl _ _) _)
  replace KA : Hid (Blk (v2.alloc (.cells #[.slice py0 eY.l0.length ny0, .slice py1 eY.l1.length ny1, .slice py2 eY.l2.length ny2, .slice py3 eY.l3.length ny3, .slice py4 eY.l4.length ny4, .slice py5 eY.l5.length ny5, .slice py6 eY.l6.length ny6, .slice py7 eY.l7.length ny7, .bool eY.sp, .bool eY.kl] 27)) kA #[.slice pa0 eA.l0.length na0, .slice pa1 eA.l1.length na1, .slice pa2 eA.l2.length na2, .slice pa3 eA.l3.length na3, .slice pa4 eA.l4.length na4, .slice pa5 eA.l5.length na5, .slice pa6 eA.l6.length na6, .slice pa7 eA.l7.length na7, .bool eA.sp, .bool eA.kl] 27) := KA.out.later hh
  replace IA : Hid (InE (v2.alloc (.cells #[.slice py0 eY.l0.length ny0, .slice py1 eY.l1.length ny1, .slice py2 eY.l2.length ny2, .slice py3 eY.l3.length ny3, .slice py4 eY.l4.length ny4, .slice py5 eY.l5.length ny5, .slice py6 eY.l6.length ny6, .slice py7 eY.l7.length ny7, .bool eY.sp, .bool eY.kl] 27)) 0 pa0 pa1 pa2 pa3 pa4 pa5 pa6 pa7 eA) := IA.out.later hh
  replace KB : Hid (Blk (v2.alloc (.cells #[.slice py0 eY.l0.length ny0, .slice py1 eY.l1.length ny1, .slice py2 eY.l2.length ny2, .slice py3 eY.l3.length ny3, .slice py4 eY.l4.length ny4, .slice py5 eY.l5.length ny5, .slice py6 eY.l6.length ny6, .slice py7 eY.l7.length ny7, .bool eY.sp, .bool eY.kl] 27)) kB #[.slice pb0 eB.l0.length nb0, .slice pb1 eB.l1.length nb1, .slice pb2 eB.l2.length nb2, .slice pb3 eB.l3.length nb3, .slice pb4 eB.l4.length nb4, .slice pb5 eB.l5.length nb5, .slice pb6 eB.l6.length nb6, .slice pb7 eB.l7.length nb7, .bool eB.sp, .bool eB.kl] 27) := KB.out.later hh
  replace IB : Hid (InE (v2.alloc (.cells #[.slice py0 eY.l0.length ny0, .slice py1 eY.l1.length ny1, .slice py2 eY.l2.length ny2, .slice py3 eY.l3.length ny3, .slice py4 eY.l4.length ny4, .slice py5 eY.l5.length ny5, .slice py6 eY.l6.length ny6, .slice py7 eY.l7.length ny7, .bool eY.sp, .bool eY.kl] 27)) 0 pb0 pb1 pb2 pb3 pb4 pb5 pb6 pb7 eB) := IB.out.later hh
  replace KX : Hid (Blk (v2.alloc (.cells #[.slice py0 eY.l0.length ny0, .slice py1 eY.l1.length ny1, .slice py2 eY.l2.length ny2, .slice py3 eY.l3.length ny3, .slice py4 eY.l4.length ny4, .slice py5 eY.l5.length ny5, .slice py6 eY.l6.length ny6, .slice py7 eY.l7.length ny7, .bool eY.sp, .bool eY.kl] 27)) kX #[.slice px0 eX.l0.length nx0, .slice px1 eX.l1.length nx1, .slice px2 eX.l2.length nx2, .slice px3 eX.l3.length nx3, .slice px4 eX.l4.length nx4, .slice px5 eX.l5.length nx5, .slice px6 eX.l6.length nx6, .slice px7 eX.l7.length nx7, .bool eX.sp, .bool eX.kl] 27) := KX.out.later hh
  replace IX : Hid (InE (v2.alloc (.cells #[.slice py0 eY.l0.length ny0, .slice py1 eY.l1.length ny1, .slice py2 eY.l2.length ny2, .slice py3 eY.l3.length ny3, .slice py4 eY.l4.length ny4, .slice py5 eY.l5.length ny5, .slice py6 eY.l6.length ny6, .slice py7 eY.l7.length ny7, .bool eY.sp, .bool eY.kl] 27)) 0 px0 px1 px2 px3 px4 px5 px6 px7 eX) := IX.out.later hh
  have KY : Hid (Blk (v2.alloc (.cells #[.slice py0 eY.l0.length ny0, .slice py1 eY.l1.length ny1, .slice py2 eY.l2.length ny2, .slice py3 eY.l3.length ny3, .slice py4 eY.l4.length ny4, .slice py5 eY.l5.length ny5, .slice py6 eY.l6.length ny6, .slice py7 eY.l7.length ny7, .bool eY.sp, .bool eY.kl] 27)) v2.heap.size #[.slice py0 eY.l0.length ny0, .slice py1 eY.l1.length ny1, .slice py2 eY.l2.length ny2, .slice py3 eY.l3.length ny3, .slice py4 eY.l4.length ny4, .slice py5 eY.l5.length ny5, .slice py6 eY.l6.length ny6, .slice py7 eY.l7.length ny7, .bool eY.sp, .bool eY.kl] 27) := Blk.new _ _ _
  have IY : Hid (InE (v2.alloc (.cells #[.slice py0 eY.l0.length ny0, .slice py1 eY.l1.length ny1, .slice py2 eY.l2.length ny2, .slice py3 eY.l3.length ny3, .slice py4 eY.l4.length ny4, .slice py5 eY.l5.length ny5, .slice py6 eY.l6.length ny6, .slice py7 eY.l7.length ny7, .bool eY.sp, .bool eY.kl] 27)) 0 py0 py1 py2 py3 py4 py5 py6 py7 eY) := (hO.inE.drop (Nat.zero_le _)).later (bl_alloc (Below.refl _ _) _)
  have JY := Hid.mk' hJ
  have SY := Hid.mk' (hJ.sN SB.out SA.out)
  replace LL : Hid (Below w.heap.size w (v2.alloc (.cells #[.slice py0 eY.l0.length ny0, .slice py1 eY.l1.length ny1, .slice py2 eY.l2.length ny2, .slice py3 eY.l3.length ny3, .slice py4 eY.l4.length ny4, .slice py5 eY.l5.length ny5, .slice py6 eY.l6.length ny6, .slice py7 eY.l7.length ny7, .bool eY.sp, .bool eY.kl] 27))) := bl_trans LL.out hh
  clear hb hh hO hJ x0 x1 x2 x3 x4 x5 x6 x7 x8 x9 xf y0 y1 y2 y3 y4 y5 y6 y7 y8 y9 yf
  obtain ⟨x0, x1, x2, x3, x4, x5, x6, x7, x8, x9, xf⟩ := KX.out.ten
  obtain ⟨y0, y1, y2, y3, y4, y5, y6, y7, y8, y9, yf⟩ := KB.out.ten
  go_wp2_with fail
  generalize hX : v2.alloc (.cells #[.slice py0 eY.l0.length ny0, .slice py1 eY.l1.length ny1, .slice py2 eY.l2.length ny2, .slice py3 eY.l3.length ny3, .slice py4 eY.l4.length ny4, .slice py5 eY.l5.length ny5, .slice py6 eY.l6.length ny6, .slice py7 eY.l7.length ny7, .bool eY.sp, .bool eY.kl] 27) = W2 at KA IA KB IB KX IX KY IY LL x0 x1 x2 x3 x4 x5 x6 x7 x8 x9 xf y0 y1 y2 y3 y4 y5 y6 y7 y8 y9 yf ⊢
  clear hX
  generalize hkk : v2.heap.size = kY at KY x0 x1 x2 x3 x4 x5 x6 x7 x8 x9 xf y0 y1 y2 y3 y4 y5 y6 y7 y8 y9 yf ⊢
  clear hkk
  refine (implJoin_oe _ _ _ _ _ _ _ _ _ _ _ _ _ _ _ _ eX _ _ _ _ _ _ _ _ _ _ _ _ _ _ _ _ eB 0 0 _ IX.out IB.out (SX.out.k2 (by omega)) (SB.out.k2 (by omega))).mono ?_
  rintro e v3 ⟨⟨pz0, pz1, pz2, pz3, pz4, pz5, pz6, pz7, nz0, nz1, nz2, nz3, nz4, nz5, nz6, nz7, eZ, rfl, hO, hJ⟩, hb⟩
  have hh : Below W2.heap.size W2 (v3.alloc (.cells #[.slice pz0 eZ.l0.length nz0, .slice pz1 eZ.l1.length nz1, .slice pz2 eZ.l2.length nz2, .slice pz3 eZ.l3.length nz3, .slice pz4 eZ.l4.length nz4, .slice pz5 eZ.l5.length nz5, .slice pz6 eZ.l6.length nz6, .slice pz7 eZ.l7.length nz7, .bool eZ.sp, .bool eZ.kl] 27)) := bl_trans hb (bl_alloc (Below.refl _ _) _)
  replace KA : Hid (Blk (v3.alloc (.cells #[.slice pz0 eZ.l0.length nz0, .slice pz1 eZ.l1.length nz1, .slice pz2 eZ.l2.length nz2, .slice pz3 eZ.l3.length nz3, .slice pz4 eZ.l4.length nz4, .slice pz5 eZ.l5.length nz5, .slice pz6 eZ.l6.length nz6, .slice pz7 eZ.l7.length nz7, .bool eZ.sp, .bool eZ.kl] 27)) kA #[.slice pa0 eA.l0.length na0, .slice pa1 eA.l1.length na1, .slice pa2 eA.l2.length na2, .slice pa3 eA.l3.length na3, .slice pa4 eA.l4.length na4, .slice pa5 eA.l5.length na5, .slice pa6 eA.l6.length na6, .slice pa7 eA.l7.length na7, .bool eA.sp, .bool eA.kl] 27) := KA.out.later hh
  replace IA : Hid (InE (v3.alloc (.cells #[.slice pz0 eZ.l0.length nz0, .slice pz1 eZ.l1.length nz1, .slice pz2 eZ.l2.length nz2, .slice pz3 eZ.l3.length nz3, .slice pz4 eZ.l4.length nz4, .slice pz5 eZ.l5.length nz5, .slice pz6 eZ.l6.length nz6, .slice pz7 eZ.l7.length nz7, .bool eZ.sp, .bool eZ.kl] 27)) 0 pa0 pa1 pa2 pa3 pa4 pa5 pa6 pa7 eA) := IA.out.later hh
  replace KB : Hid (Blk (v3.alloc (.cells #[.slice pz0 eZ.l0.length nz0, .slice pz1 eZ.l1.length nz1, .slice pz2 eZ.l2.length nz2, .slice pz3 eZ.l3.length nz3, .slice pz4 eZ.l4.length nz4, .slice pz5 eZ.l5.length nz5, .slice pz6 eZ.l6.length nz6, .slice pz7 eZ.l7.length nz7, .bool eZ.sp, .bool eZ.kl] 27)) kB #[.slice pb0 eB.l0.length nb0, .slice pb1 eB.l1.length nb1, .slice pb2 eB.l2.length nb2, .slice pb3 eB.l3.length nb3, .slice pb4 eB.l4.length nb4, .slice pb5 eB.l5.length nb5, .slice pb6 eB.l6.length nb6, .slice pb7 eB.l7.length nb7, .bool eB.sp, .bool eB.kl] 27) := KB.out.later hh
  replace IB : Hid (InE (v3.alloc (.cells #[.slice pz0 eZ.l0.length nz0, .slice pz1 eZ.l1.length nz1, .slice pz2 eZ.l2.length nz2, .slice pz3 eZ.l3.length nz3, .slice pz4 eZ.l4.length nz4, .slice pz5 eZ.l5.length nz5, .slice pz6 eZ.l6.length nz6, .slice pz7 eZ.l7.length nz7, .bool eZ.sp, .bool eZ.kl] 27)) 0 pb0 pb1 pb2 pb3 pb4 pb5 pb6 pb7 eB) := IB.out.later hh
  replace KX : Hid (Blk (v3.alloc (.cells #[.slice pz0 eZ.l0.length nz0, .slice pz1 eZ.l1.length nz1, .slice pz2 eZ.l2.length nz2, .slice pz3 eZ.l3.length nz3, .slice pz4 eZ.l4.length nz4, .slice pz5 eZ.l5.length nz5, .slice pz6 eZ.l6.length nz6, .slice pz7 eZ.l7.length nz7, .bool eZ.sp, .bool eZ.kl] 27)) kX #[.slice px0 eX.l0.length nx0, .slice px1 eX.l1.length nx1, .slice px2 eX.l2.length nx2, .slice px3 eX.l3.length nx3, .slice px4 eX.l4.length nx4, .slice px5 eX.l5.length nx5, .slice px6 eX.l6.length nx6, .slice px7 eX.l7.length nx7, .bool eX.sp, .bool eX.kl] 27) := KX.out.later hh
  replace IX : Hid (InE (v3.alloc (.cells #[.slice pz0 eZ.l0.length nz0, .slice pz1 eZ.l1.length nz1, .slice pz2 eZ.l2.length nz2, .slice pz3 eZ.l3.length nz3, .slice pz4 eZ.l4.length nz4, .slice pz5 eZ.l5.length nz5, .slice pz6 eZ.l6.length nz6, .slice pz7 eZ.l7.length nz7, .bool eZ.sp, .bool eZ.kl] 27)) 0 px0 px1 px2 px3 px4 px5 px6 px7 eX) := IX.out.later hh
  replace KY : Hid (Blk (v3.alloc (.cells #[.slice pz0 eZ.l0.length nz0, .slice pz1 eZ.l1.length nz1, .slice pz2 eZ.l2.length nz2, .slice pz3 eZ.l3.length nz3, .slice pz4 eZ.l4.length nz4, .slice pz5 eZ.l5.length nz5, .slice pz6 eZ.l6.length nz6, .slice pz7 eZ.l7.length nz7, .bool eZ.sp, .bool eZ.kl] 27)) kY #[.slice py0 eY.l0.length ny0, .slice py1 eY.l1.length ny1, .slice py2 eY.l2.length ny2, .slice py3 eY.l3.length ny3, .slice py4 eY.l4.length ny4, .slice py5 eY.l5.length ny5, .slice py6 eY.l6.length ny6, .slice py7 eY.l7.length ny7, .bool eY.sp, .bool eY.kl] 27) := KY.out.later hh
  replace IY : Hid (InE (v3.alloc (.cells #[.slice pz0 eZ.l0.length nz0, .slice pz1 eZ.l1.length nz1, .slice pz2 eZ.l2.length nz2, .slice pz3 eZ.l3.length nz3, .slice pz4 eZ.l4.length nz4, .slice pz5 eZ.l5.length nz5, .slice pz6 eZ.l6.length nz6, .slice pz7 eZ.l7.length nz7, .bool eZ.sp, .bool eZ.kl] 27)) 0 py0 py1 py2 py3 py4 py5 py6 py7 eY) := IY.out.later hh
  have KZ : Hid (Blk (v3.alloc (.cells #[.slice pz0 eZ.l0.length nz0, .slice pz1 eZ.l1.length nz1, .slice pz2 eZ.l2.length nz2, .slice pz3 eZ.l3.length nz3, .slice pz4 eZ.l4.length nz4, .slice pz5 eZ.l5.length nz5, .slice pz6 eZ.l6.length nz6, .slice pz7 eZ.l7.length nz7, .bool eZ.sp, .bool eZ.kl] 27)) v3.heap.size #[.slice pz0 eZ.l0.length nz0, .slice pz1 eZ.l1.length nz1, .slice pz2 eZ.l2.length nz2, .slice pz3 eZ.l3.length nz3, .slice pz4 eZ.l4.length nz4, .slice pz5 eZ.l5.length nz5, .slice pz6 eZ.l6.length nz6, .slice pz7 eZ.l7.length nz7, .bool eZ.sp, .bool eZ.kl] 27) := Blk.new _ _ _
  have IZ : Hid (InE (v3.alloc (.cells #[.slice pz0 eZ.l0.length nz0, .slice pz1 eZ.l1.length nz1, .slice pz2 eZ.l2.length nz2, .slice pz3 eZ.l3.length nz3, .slice pz4 eZ.l4.length nz4, .slice pz5 eZ.l5.length nz5, .slice pz6 eZ.l6.length nz6, .slice pz7 eZ.l7.length nz7, .bool eZ.sp, .bool eZ.kl] 27)) 0 pz0 pz1 pz2 pz3 pz4 pz5 pz6 pz7 eZ) := (hO.inE.drop (Nat.zero_le _)).later (bl_alloc (Below.refl _ _) _)
  have JZ := Hid.mk' hJ
  have SZ := Hid.mk' (hJ.sN SX.out SB.out)
  replace LL : Hid (Below w.heap.size w (v3.alloc (.cells #[.slice pz0 eZ.l0.length nz0, .slice pz1 eZ.l1.length nz1, .slice pz2 eZ.l2.length nz2, .slice pz3 eZ.l3.length nz3, .slice pz4 eZ.l4.length nz4, .slice pz5 eZ.l5.length nz5, .slice pz6 eZ.l6.length nz6, .slice pz7 eZ.l7.length nz7, .bool eZ.sp, .bool eZ.kl] 27))) := bl_trans LL.out hh
  clear hb hh hO hJ x0 x1 x2 x3 x4 x5 x6 x7 x8 x9 xf y0 y1 y2 y3 y4 y5 y6 y7 y8 y9 yf
  obtain ⟨x0, x1, x2, x3, x4, x5, x6, x7, x8, x9, xf⟩ := KA.out.ten
  obtain ⟨y0, y1, y2, y3, y4, y5, y6, y7, y8, y9, yf⟩ := KB.out.ten
  go_wp2_with fail
  generalize hX : v3.alloc (.cells #[.slice pz0 eZ.l0.length nz0, .slice pz1 eZ.l1.length nz1, .slice pz2 eZ.l2.length nz2, .slice pz3 eZ.l3.length nz3, .slice pz4 eZ.l4.length nz4, .slice pz5 eZ.l5.length nz5, .slice pz6 eZ.l6.length nz6, .slice pz7 eZ.l7.length nz7, .bool eZ.sp, .bool eZ.kl] 27) = W3 at KA IA KB IB KX IX KY IY KZ IZ LL x0 x1 x2 x3 x4 x5 x6 x7 x8 x9 xf y0 y1 y2 y3 y4 y5 y6 y7 y8 y9 yf ⊢
  clear hX
  generalize hkk : v3.heap.size = kZ at KZ x0 x1 x2 x3 x4 x5 x6 x7 x8 x9 xf y0 y1 y2 y3 y4 y5 y6 y7 y8 y9 yf ⊢
  clear hkk
  refine (specJoin_any _ _ _ _ _ _ _ _ _ _ _ _ _ _ _ _ eA _ _ _ _ _ _ _ _ _ _ _ _ _ _ _ _ eB 0 0 _ IA.out IB.out (SA.out.k2 (by omega)) (SB.out.k2 (by omega))).mono ?_
  rintro e v4 ⟨⟨pd0, pd1, pd2, pd3, pd4, pd5, pd6, pd7, nd0, nd1, nd2, nd3, nd4, nd5, nd6, nd7, eD, rfl, hO, hJ⟩, hb⟩
  have hh : Below W3.heap.size W3 (v4.alloc (.cells #[.slice pd0 eD.l0.length nd0, .slice pd1 eD.l1.length nd1, .slice pd2 eD.l2.length nd2, .slice pd3 eD.l3.length nd3, .slice pd4 eD.l4.length nd4, .slice pd5 eD.l5.length nd5, .slice pd6 eD.l6.length nd6, .slice pd7 eD.l7.length nd7, .bool eD.sp, .bool eD.kl] 27)) := bl_trans hb (bl_alloc (Below.refl _ _) _)
  replace KA : Hid (Blk (v4.alloc (.cells #[.slice pd0 eD.l0.length nd0, .slice pd1 eD.l1.length nd1, .slice pd2 eD.l2.length nd2, .slice pd3 eD.l3.length nd3, .slice pd4 eD.l4.length nd4, .slice pd5 eD.l5.length nd5, .slice pd6 eD.l6.length nd6, .slice pd7 eD.l7.length nd7, .bool eD.sp, .bool eD.kl] 27)) kA #[.slice pa0 eA.l0.length na0, .slice pa1 eA.l1.length na1, .slice pa2 eA.l2.length na2, .slice pa3 eA.l3.length na3, .slice pa4 eA.l4.length na4, .slice pa5 eA.l5.length na5, .slice pa6 eA.l6.length na6, .slice pa7 eA.l7.length na7, .bool eA.sp, .bool eA.kl] 27) := KA.out.later hh
  replace IA : Hid (InE (v4.alloc (.cells #[.slice pd0 eD.l0.length nd0, .slice pd1 eD.l1.length nd1, .slice pd2 eD.l2.length nd2, .slice pd3 eD.l3.length nd3, .slice pd4 eD.l4.length nd4, .slice pd5 eD.l5.length nd5, .slice pd6 eD.l6.length nd6, .slice pd7 eD.l7.length nd7, .bool eD.sp, .bool eD.kl] 27)) 0 pa0 pa1 pa2 pa3 pa4 pa5 pa6 pa7 eA) := IA.out.later hh
  replace KB : Hid (Blk (v4.alloc (.cells #[.slice pd0 eD.l0.length nd0, .slice pd1 eD.l1.length nd1, .slice pd2 eD.l2.length nd2, .slice pd3 eD.l3.length nd3, .slice pd4 eD.l4.length nd4, .slice pd5 eD.l5.length nd5, .slice pd6 eD.l6.length nd6, .slice pd7 eD.l7.length nd7, .bool eD.sp, .bool eD.kl] 27)) kB #[.slice pb0 eB.l0.length nb0, .slice pb1 eB.l1.length nb1, .slice pb2 eB.l2.length nb2, .slice pb3 eB.l3.length nb3, .slice pb4 eB.l4.length nb4, .slice pb5 eB.l5.length nb5, .slice pb6 eB.l6.length nb6, .slice pb7 eB.l7.length nb7, .bool eB.sp, .bool eB.kl] 27) := KB.out.later hh
  replace IB : Hid (InE (v4.alloc (.cells #[.slice pd0 eD.l0.length nd0, .slice pd1 eD.l1.length nd1, .slice pd2 eD.l2.length nd2, .slice pd3 eD.l3.length nd3, .slice pd4 eD.l4.length nd4, .slice pd5 eD.l5.length nd5, .slice pd6 eD.l6.length nd6, .slice pd7 eD.l7.length nd7, .bool eD.sp, .bool eD.kl] 27)) 0 pb0 pb1 pb2 pb3 pb4 pb5 pb6 pb7 eB) := IB.out.later hh
  replace KX : Hid (Blk (v4.alloc (.cells #[.slice pd0 eD.l0.length nd0, .slice pd1 eD.l1.length nd1, .slice pd2 eD.l2.length nd2, .slice pd3 eD.l3.length nd3, .slice pd4 eD.l4.length nd4, .slice pd5 eD.l5.length nd5, .slice pd6 eD.l6.length nd6, .slice pd7 eD.l7.length nd7, .bool eD.sp, .bool eD.kl] 27)) kX #[.slice px0 eX.l0.length nx0, .slice px1 eX.l1.length nx1, .slice px2 eX.l2.length nx2, .slice px3 eX.l3.length nx3, .slice px4 eX.l4.length nx4, .slice px5 eX.l5.length nx5, .slice px6 eX.l6.length nx6, .slice px7 eX.l7.length nx7, .bool eX.sp, .bool eX.kl] 27) := KX.out.later hh
  replace IX : Hid (InE (v4.alloc (.cells #[.slice pd0 eD.l0.length nd0, .slice pd1 eD.l1.length nd1, .slice pd2 eD.l2.length nd2, .slice pd3 eD.l3.length nd3, .slice pd4 eD.l4.length nd4, .slice pd5 eD.l5.length nd5, .slice pd6 eD.l6.length nd6, .slice pd7 eD.l7.length nd7, .bool eD.sp, .bool eD.kl] 27)) 0 px0 px1 px2 px3 px4 px5 px6 px7 eX) := IX.out.later hh
  replace KY : Hid (Blk (v4.alloc (.cells #[.slice pd0 eD.l0.length nd0, .slice pd1 eD.l1.length nd1, .slice pd2 eD.l2.length nd2, .slice pd3 eD.l3.length nd3, .slice pd4 eD.l4.length nd4, .slice pd5 eD.l5.length nd5, .slice pd6 eD.l6.length nd6, .slice pd7 eD.l7.length nd7, .bool eD.sp, .bool eD.kl] 27)) kY #[.slice py0 eY.l0.length ny0, .slice py1 eY.l1.length ny1, .slice py2 eY.l2.length ny2, .slice py3 eY.l3.length ny3, .slice py4 eY.l4.length ny4, .slice py5 eY.l5.length ny5, .slice py6 eY.l6.length ny6, .slice py7 eY.l7.length ny7, .bool eY.sp, .bool eY.kl] 27) := KY.out.later hh
  replace IY : Hid (InE (v4.alloc (.cells #[.slice pd0 eD.l0.length nd0, .slice pd1 eD.l1.length nd1, .slice pd2 eD.l2.length nd2, .slice pd3 eD.l3.length nd3, .slice pd4 eD.l4.length nd4, .slice pd5 eD.l5.length nd5, .slice pd6 eD.l6.length nd6, .slice pd7 eD.l7.length nd7, .bool eD.sp, .bool eD.kl] 27)) 0 py0 py1 py2 py3 py4 py5 py6 py7 eY) := IY.out.later hh
  replace KZ : Hid (Blk (v4.alloc (.cells #[.slice pd0 eD.l0.length nd0, .slice pd1 eD.l1.length nd1, .slice pd2 eD.l2.length nd2, .slice pd3 eD.l3.length nd3, .slice pd4 eD.l4.length nd4, .slice pd5 eD.l5.length nd5, .slice pd6 eD.l6.length nd6, .slice pd7 eD.l7.length nd7, .bool eD.sp, .bool eD.kl] 27)) kZ #[.slice pz0 eZ.l0.length nz0, .slice pz1 eZ.l1.length nz1, .slice pz2 eZ.l2.length nz2, .slice pz3 eZ.l3.length nz3, .slice pz4 eZ.l4.length nz4, .slice pz5 eZ.l5.length nz5, .slice pz6 eZ.l6.length nz6, .slice pz7 eZ.l7.length nz7, .bool eZ.sp, .bool eZ.kl] 27) := KZ.out.later hh
  replace IZ : Hid (InE (v4.alloc (.cells #[.slice pd0 eD.l0.length nd0, .slice pd1 eD.l1.length nd1, .slice pd2 eD.l2.length nd2, .slice pd3 eD.l3.length nd3, .slice pd4 eD.l4.length nd4, .slice pd5 eD.l5.length nd5, .slice pd6 eD.l6.length nd6, .slice pd7 eD.l7.length nd7, .bool eD.sp, .bool eD.kl] 27)) 0 pz0 pz1 pz2 pz3 pz4 pz5 pz6 pz7 eZ) := IZ.out.later hh
  have KD : Hid (Blk (v4.alloc (.cells #[.slice pd0 eD.l0.length nd0, .slice pd1 eD.l1.length nd1, .slice pd2 eD.l2.length nd2, .slice pd3 eD.l3.length nd3, .slice pd4 eD.l4.length nd4, .slice pd5 eD.l5.length nd5, .slice pd6 eD.l6.length nd6, .slice pd7 eD.l7.length nd7, .bool eD.sp, .bool eD.kl] 27)) v4.heap.size #[.slice pd0 eD.l0.length nd0, .slice pd1 eD.l1.length nd1, .slice pd2 eD.l2.length nd2, .slice pd3 eD.l3.length nd3, .slice pd4 eD.l4.length nd4, .slice pd5 eD.l5.length nd5, .slice pd6 eD.l6.length nd6, .slice pd7 eD.l7.length nd7, .bool eD.sp, .bool eD.kl] 27) := Blk.new _ _ _
  have ID : Hid (InE (v4.alloc (.cells #[.slice pd0 eD.l0.length nd0, .slice pd1 eD.l1.length nd1, .slice pd2 eD.l2.length nd2, .slice pd3 eD.l3.length nd3, .slice pd4 eD.l4.length nd4, .slice pd5 eD.l5.length nd5, .slice pd6 eD.l6.length nd6, .slice pd7 eD.l7.length nd7, .bool eD.sp, .bool eD.kl] 27)) 0 pd0 pd1 pd2 pd3 pd4 pd5 pd6 pd7 eD) := (hO.inE.drop (Nat.zero_le _)).later (bl_alloc (Below.refl _ _) _)
  have CD := Hid.mk' hO.caps
  have JD := Hid.mk' hJ
  have SD := Hid.mk' (hJ.sN SA.out SB.out)
  replace LL : Hid (Below w.heap.size w (v4.alloc (.cells #[.slice pd0 eD.l0.length nd0, .slice pd1 eD.l1.length nd1, .slice pd2 eD.l2.length nd2, .slice pd3 eD.l3.length nd3, .slice pd4 eD.l4.length nd4, .slice pd5 eD.l5.length nd5, .slice pd6 eD.l6.length nd6, .slice pd7 eD.l7.length nd7, .bool eD.sp, .bool eD.kl] 27))) := bl_trans LL.out hh
  clear hb hh hO hJ x0 x1 x2 x3 x4 x5 x6 x7 x8 x9 xf y0 y1 y2 y3 y4 y5 y6 y7 y8 y9 yf
  obtain ⟨x0, x1, x2, x3, x4, x5, x6, x7, x8, x9, xf⟩ := KA.out.ten
  obtain ⟨y0, y1, y2, y3, y4, y5, y6, y7, y8, y9, yf⟩ := KX.out.ten
  go_wp2_with fail
  generalize hX : v4.alloc (.cells #[.slice pd0 eD.l0.length nd0, .slice pd1 eD.l1.length nd1, .slice pd2 eD.l2.length nd2, .slice pd3 eD.l3.length nd3, .slice pd4 eD.l4.length nd4, .slice pd5 eD.l5.length nd5, .slice pd6 eD.l6.length nd6, .slice pd7 eD.l7.length nd7, .bool eD.sp, .bool eD.kl] 27) = W4 at KA IA KB IB KX IX KY IY KZ IZ KD ID LL x0 x1 x2 x3 x4 x5 x6 x7 x8 x9 xf y0 y1 y2 y3 y4 y5 y6 y7 y8 y9 yf ⊢
  clear hX
  generalize hkk : v4.heap.size = kD at KD x0 x1 x2 x3 x4 x5 x6 x7 x8 x9 xf y0 y1 y2 y3 y4 y5 y6 y7 y8 y9 yf ⊢
  clear hkk
  have HD : Hid (eD = eX) := JX.out.same JD.out
  refine (implWithin_any _ _ _ _ _ _ _ _ _ _ _ _ _ _ _ _ eA _ _ _ _ _ _ _ _ _ _ _ _ _ _ _ _ eX 0 0 _ IA.out IX.out (SA.out.k (by omega)) (SX.out.k (by omega))).mono ?_
  rintro e W5 ⟨rfl, hb⟩
  rw [show witB eA eX = true from wit_left JX.out]
  replace KA : Hid (Blk W5 kA #[.slice pa0 eA.l0.length na0, .slice pa1 eA.l1.length na1, .slice pa2 eA.l2.length na2, .slice pa3 eA.l3.length na3, .slice pa4 eA.l4.length na4, .slice pa5 eA.l5.length na5, .slice pa6 eA.l6.length na6, .slice pa7 eA.l7.length na7, .bool eA.sp, .bool eA.kl] 27) := KA.out.later hb
  replace IA : Hid (InE W5 0 pa0 pa1 pa2 pa3 pa4 pa5 pa6 pa7 eA) := IA.out.later hb
  replace KB : Hid (Blk W5 kB #[.slice pb0 eB.l0.length nb0, .slice pb1 eB.l1.length nb1, .slice pb2 eB.l2.length nb2, .slice pb3 eB.l3.length nb3, .slice pb4 eB.l4.length nb4, .slice pb5 eB.l5.length nb5, .slice pb6 eB.l6.length nb6, .slice pb7 eB.l7.length nb7, .bool eB.sp, .bool eB.kl] 27) := KB.out.later hb
  replace IB : Hid (InE W5 0 pb0 pb1 pb2 pb3 pb4 pb5 pb6 pb7 eB) := IB.out.later hb
  replace KX : Hid (Blk W5 kX #[.slice px0 eX.l0.length nx0, .slice px1 eX.l1.length nx1, .slice px2 eX.l2.length nx2, .slice px3 eX.l3.length nx3, .slice px4 eX.l4.length nx4, .slice px5 eX.l5.length nx5, .slice px6 eX.l6.length nx6, .slice px7 eX.l7.length nx7, .bool eX.sp, .bool eX.kl] 27) := KX.out.later hb
  replace IX : Hid (InE W5 0 px0 px1 px2 px3 px4 px5 px6 px7 eX) := IX.out.later hb
  replace KY : Hid (Blk W5 kY #[.slice py0 eY.l0.length ny0, .slice py1 eY.l1.length ny1, .slice py2 eY.l2.length ny2, .slice py3 eY.l3.length ny3, .slice py4 eY.l4.length ny4, .slice py5 eY.l5.length ny5, .slice py6 eY.l6.length ny6, .slice py7 eY.l7.length ny7, .bool eY.sp, .bool eY.kl] 27) := KY.out.later hb
  replace IY : Hid (InE W5 0 py0 py1 py2 py3 py4 py5 py6 py7 eY) := IY.out.later hb
  replace KZ : Hid (Blk W5 kZ #[.slice pz0 eZ.l0.length nz0, .slice pz1 eZ.l1.length nz1, .slice pz2 eZ.l2.length nz2, .slice pz3 eZ.l3.length nz3, .slice pz4 eZ.l4.length nz4, .slice pz5 eZ.l5.length nz5, .slice pz6 eZ.l6.length nz6, .slice pz7 eZ.l7.length nz7, .bool eZ.sp, .bool eZ.kl] 27) := KZ.out.later hb
  replace IZ : Hid (InE W5 0 pz0 pz1 pz2 pz3 pz4 pz5 pz6 pz7 eZ) := IZ.out.later hb
  replace KD : Hid (Blk W5 kD #[.slice pd0 eD.l0.length nd0, .slice pd1 eD.l1.length nd1, .slice pd2 eD.l2.length nd2, .slice pd3 eD.l3.length nd3, .slice pd4 eD.l4.length nd4, .slice pd5 eD.l5.length nd5, .slice pd6 eD.l6.length nd6, .slice pd7 eD.l7.length nd7, .bool eD.sp, .bool eD.kl] 27) := KD.out.later hb
  replace ID : Hid (InE W5 0 pd0 pd1 pd2 pd3 pd4 pd5 pd6 pd7 eD) := ID.out.later hb
  replace LL : Hid (Below w.heap.size w W5) := bl_trans LL.out hb
  clear hb x0 x1 x2 x3 x4 x5 x6 x7 x8 x9 xf y0 y1 y2 y3 y4 y5 y6 y7 y8 y9 yf
  obtain ⟨x0, x1, x2, x3, x4, x5, x6, x7, x8, x9, xf⟩ := KB.out.ten
  obtain ⟨y0, y1, y2, y3, y4, y5, y6, y7, y8, y9, yf⟩ := KX.out.ten
  go_wp2_with fail
  refine (implWithin_any _ _ _ _ _ _ _ _ _ _ _ _ _ _ _ _ eB _ _ _ _ _ _ _ _ _ _ _ _ _ _ _ _ eX 0 0 _ IB.out IX.out (SB.out.k (by omega)) (SX.out.k (by omega))).mono ?_
  rintro e W6 ⟨rfl, hb⟩
  rw [show witB eB eX = true from wit_right JX.out]
  replace KA : Hid (Blk W6 kA #[.slice pa0 eA.l0.length na0, .slice pa1 eA.l1.length na1, .slice pa2 eA.l2.length na2, .slice pa3 eA.l3.length na3, .slice pa4 eA.l4.length na4, .slice pa5 eA.l5.length na5, .slice pa6 eA.l6.length na6, .slice pa7 eA.l7.length na7, .bool eA.sp, .bool eA.kl] 27) := KA.out.later hb
  replace IA : Hid (InE W6 0 pa0 pa1 pa2 pa3 pa4 pa5 pa6 pa7 eA) := IA.out.later hb
  replace KB : Hid (Blk W6 kB #[.slice pb0 eB.l0.length nb0, .slice pb1 eB.l1.length nb1, .slice pb2 eB.l2.length nb2, .slice pb3 eB.l3.length nb3, .slice pb4 eB.l4.length nb4, .slice pb5 eB.l5.length nb5, .slice pb6 eB.l6.length nb6, .slice pb7 eB.l7.length nb7, .bool eB.sp, .bool eB.kl] 27) := KB.out.later hb
  replace IB : Hid (InE W6 0 pb0 pb1 pb2 pb3 pb4 pb5 pb6 pb7 eB) := IB.out.later hb
  replace KX : Hid (Blk W6 kX #[.slice px0 eX.l0.length nx0, .slice px1 eX.l1.length nx1, .slice px2 eX.l2.length nx2, .slice px3 eX.l3.length nx3, .slice px4 eX.l4.length nx4, .slice px5 eX.l5.length nx5, .slice px6 eX.l6.length nx6, .slice px7 eX.l7.length nx7, .bool eX.sp, .bool eX.kl] 27) := KX.out.later hb
  replace IX : Hid (InE W6 0 px0 px1 px2 px3 px4 px5 px6 px7 eX) := IX.out.later hb
  replace KY : Hid (Blk W6 kY #[.slice py0 eY.l0.length ny0, .slice py1 eY.l1.length ny1, .slice py2 eY.l2.length ny2, .slice py3 eY.l3.length ny3, .slice py4 eY.l4.length ny4, .slice py5 eY.l5.length ny5, .slice py6 eY.l6.length ny6, .slice py7 eY.l7.length ny7, .bool eY.sp, .bool eY.kl] 27) := KY.out.later hb
  replace IY : Hid (InE W6 0 py0 py1 py2 py3 py4 py5 py6 py7 eY) := IY.out.later hb
  replace KZ : Hid (Blk W6 kZ #[.slice pz0 eZ.l0.length nz0, .slice pz1 eZ.l1.length nz1, .slice pz2 eZ.l2.length nz2, .slice pz3 eZ.l3.length nz3, .slice pz4 eZ.l4.length nz4, .slice pz5 eZ.l5.length nz5, .slice pz6 eZ.l6.length nz6, .slice pz7 eZ.l7.length nz7, .bool eZ.sp, .bool eZ.kl] 27) := KZ.out.later hb
  replace IZ : Hid (InE W6 0 pz0 pz1 pz2 pz3 pz4 pz5 pz6 pz7 eZ) := IZ.out.later hb
  replace KD : Hid (Blk W6 kD #[.slice pd0 eD.l0.length nd0, .slice pd1 eD.l1.length nd1, .slice pd2 eD.l2.length nd2, .slice pd3 eD.l3.length nd3, .slice pd4 eD.l4.length nd4, .slice pd5 eD.l5.length nd5, .slice pd6 eD.l6.length nd6, .slice pd7 eD.l7.length nd7, .bool eD.sp, .bool eD.kl] 27) := KD.out.later hb
  replace ID : Hid (InE W6 0 pd0 pd1 pd2 pd3 pd4 pd5 pd6 pd7 eD) := ID.out.later hb
  replace LL : Hid (Below w.heap.size w W6) := bl_trans LL.out hb
  clear hb x0 x1 x2 x3 x4 x5 x6 x7 x8 x9 xf y0 y1 y2 y3 y4 y5 y6 y7 y8 y9 yf
  obtain ⟨x0, x1, x2, x3, x4, x5, x6, x7, x8, x9, xf⟩ := KX.out.ten
  obtain ⟨y0, y1, y2, y3, y4, y5, y6, y7, y8, y9, yf⟩ := KD.out.ten
  go_wp2_with fail
  refine (implWithin_any _ _ _ _ _ _ _ _ _ _ _ _ _ _ _ _ eX _ _ _ _ _ _ _ _ _ _ _ _ _ _ _ _ eD 0 0 _ IX.out ID.out (SX.out.k (by omega)) (SD.out.k (by omega))).mono ?_
  rintro e W7 ⟨rfl, hb⟩
  rw [show witB eX eD = true from (by rw [HD.out]; exact wit_self _)]
  replace KA : Hid (Blk W7 kA #[.slice pa0 eA.l0.length na0, .slice pa1 eA.l1.length na1, .slice pa2 eA.l2.length na2, .slice pa3 eA.l3.length na3, .slice pa4 eA.l4.length na4, .slice pa5 eA.l5.length na5, .slice pa6 eA.l6.length na6, .slice pa7 eA.l7.length na7, .bool eA.sp, .bool eA.kl] 27) := KA.out.later hb
  replace IA : Hid (InE W7 0 pa0 pa1 pa2 pa3 pa4 pa5 pa6 pa7 eA) := IA.out.later hb
  replace KB : Hid (Blk W7 kB #[.slice pb0 eB.l0.length nb0, .slice pb1 eB.l1.length nb1, .slice pb2 eB.l2.length nb2, .slice pb3 eB.l3.length nb3, .slice pb4 eB.l4.length nb4, .slice pb5 eB.l5.length nb5, .slice pb6 eB.l6.length nb6, .slice pb7 eB.l7.length nb7, .bool eB.sp, .bool eB.kl] 27) := KB.out.later hb
  replace IB : Hid (InE W7 0 pb0 pb1 pb2 pb3 pb4 pb5 pb6 pb7 eB) := IB.out.later hb
  replace KX : Hid (Blk W7 kX #[.slice px0 eX.l0.length nx0, .slice px1 eX.l1.length nx1, .slice px2 eX.l2.length nx2, .slice px3 eX.l3.length nx3, .slice px4 eX.l4.length nx4, .slice px5 eX.l5.length nx5, .slice px6 eX.l6.length nx6, .slice px7 eX.l7.length nx7, .bool eX.sp, .bool eX.kl] 27) := KX.out.later hb
  replace IX : Hid (InE W7 0 px0 px1 px2 px3 px4 px5 px6 px7 eX) := IX.out.later hb
  replace KY : Hid (Blk W7 kY #[.slice py0 eY.l0.length ny0, .slice py1 eY.l1.length ny1, .slice py2 eY.l2.length ny2, .slice py3 eY.l3.length ny3, .slice py4 eY.l4.length ny4, .slice py5 eY.l5.length ny5, .slice py6 eY.l6.length ny6, .slice py7 eY.l7.length ny7, .bool eY.sp, .bool eY.kl] 27) := KY.out.later hb
  replace IY : Hid (InE W7 0 py0 py1 py2 py3 py4 py5 py6 py7 eY) := IY.out.later hb
  replace KZ : Hid (Blk W7 kZ #[.slice pz0 eZ.l0.length nz0, .slice pz1 eZ.l1.length nz1, .slice pz2 eZ.l2.length nz2, .slice pz3 eZ.l3.length nz3, .slice pz4 eZ.l4.length nz4, .slice pz5 eZ.l5.length nz5, .slice pz6 eZ.l6.length nz6, .slice pz7 eZ.l7.length nz7, .bool eZ.sp, .bool eZ.kl] 27) := KZ.out.later hb
  replace IZ : Hid (InE W7 0 pz0 pz1 pz2 pz3 pz4 pz5 pz6 pz7 eZ) := IZ.out.later hb
  replace KD : Hid (Blk W7 kD #[.slice pd0 eD.l0.length nd0, .slice pd1 eD.l1.length nd1, .slice pd2 eD.l2.length nd2, .slice pd3 eD.l3.length nd3, .slice pd4 eD.l4.length nd4, .slice pd5 eD.l5.length nd5, .slice pd6 eD.l6.length nd6, .slice pd7 eD.l7.length nd7, .bool eD.sp, .bool eD.kl] 27) := KD.out.later hb
  replace ID : Hid (InE W7 0 pd0 pd1 pd2 pd3 pd4 pd5 pd6 pd7 eD) := ID.out.later hb
  replace LL : Hid (Below w.heap.size w W7) := bl_trans LL.out hb
  clear hb x0 x1 x2 x3 x4 x5 x6 x7 x8 x9 xf y0 y1 y2 y3 y4 y5 y6 y7 y8 y9 yf
  obtain ⟨x0, x1, x2, x3, x4, x5, x6, x7, x8, x9, xf⟩ := KD.out.ten
  obtain ⟨y0, y1, y2, y3, y4, y5, y6, y7, y8, y9, yf⟩ := KX.out.ten
  go_wp2_with fail
  refine (specWithin_any _ _ _ _ _ _ _ _ _ _ _ _ _ _ _ _ eD _ _ _ _ _ _ _ _ _ _ _ _ _ _ _ _ eX 0 0 _ ID.out IX.out (SD.out.k (by omega)) (SX.out.k (by omega)) CD.out CX.out).mono ?_
  rintro e W8 ⟨rfl, hb⟩
  rw [show witB eD eX = true from (by rw [HD.out]; exact wit_self _)]
  replace KA : Hid (Blk W8 kA #[.slice pa0 eA.l0.length na0, .slice pa1 eA.l1.length na1, .slice pa2 eA.l2.length na2, .slice pa3 eA.l3.length na3, .slice pa4 eA.l4.length na4, .slice pa5 eA.l5.length na5, .slice pa6 eA.l6.length na6, .slice pa7 eA.l7.length na7, .bool eA.sp, .bool eA.kl] 27) := KA.out.later hb
  replace IA : Hid (InE W8 0 pa0 pa1 pa2 pa3 pa4 pa5 pa6 pa7 eA) := IA.out.later hb
  replace KB : Hid (Blk W8 kB #[.slice pb0 eB.l0.length nb0, .slice pb1 eB.l1.length nb1, .slice pb2 eB.l2.length nb2, .slice pb3 eB.l3.length nb3, .slice pb4 eB.l4.length nb4, .slice pb5 eB.l5.length nb5, .slice pb6 eB.l6.length nb6, .slice pb7 eB.l7.length nb7, .bool eB.sp, .bool eB.kl] 27) := KB.out.later hb
  replace IB : Hid (InE W8 0 pb0 pb1 pb2 pb3 pb4 pb5 pb6 pb7 eB) := IB.out.later hb
  replace KX : Hid (Blk W8 kX #[.slice px0 eX.l0.length nx0, .slice px1 eX.l1.length nx1, .slice px2 eX.l2.length nx2, .slice px3 eX.l3.length nx3, .slice px4 eX.l4.length nx4, .slice px5 eX.l5.length nx5, .slice px6 eX.l6.length nx6, .slice px7 eX.l7.length nx7, .bool eX.sp, .bool eX.kl] 27) := KX.out.later hb
  replace IX : Hid (InE W8 0 px0 px1 px2 px3 px4 px5 px6 px7 eX) := IX.out.later hb
  replace KY : Hid (Blk W8 kY #[.slice py0 eY.l0.length ny0, .slice py1 eY.l1.length ny1, .slice py2 eY.l2.length ny2, .slice py3 eY.l3.length ny3, .slice py4 eY.l4.length ny4, .slice py5 eY.l5.length ny5, .slice py6 eY.l6.length ny6, .slice py7 eY.l7.length ny7, .bool eY.sp, .bool eY.kl] 27) := KY.out.later hb
  replace IY : Hid (InE W8 0 py0 py1 py2 py3 py4 py5 py6 py7 eY) := IY.out.later hb
  replace KZ : Hid (Blk W8 kZ #[.slice pz0 eZ.l0.length nz0, .slice pz1 eZ.l1.length nz1, .slice pz2 eZ.l2.length nz2, .slice pz3 eZ.l3.length nz3, .slice pz4 eZ.l4.length nz4, .slice pz5 eZ.l5.length nz5, .slice pz6 eZ.l6.length nz6, .slice pz7 eZ.l7.length nz7, .bool eZ.sp, .bool eZ.kl] 27) := KZ.out.later hb
  replace IZ : Hid (InE W8 0 pz0 pz1 pz2 pz3 pz4 pz5 pz6 pz7 eZ) := IZ.out.later hb
  replace KD : Hid (Blk W8 kD #[.slice pd0 eD.l0.length nd0, .slice pd1 eD.l1.length nd1, .slice pd2 eD.l2.length nd2, .slice pd3 eD.l3.length nd3, .slice pd4 eD.l4.length nd4, .slice pd5 eD.l5.length nd5, .slice pd6 eD.l6.length nd6, .slice pd7 eD.l7.length nd7, .bool eD.sp, .bool eD.kl] 27) := KD.out.later hb
  replace ID : Hid (InE W8 0 pd0 pd1 pd2 pd3 pd4 pd5 pd6 pd7 eD) := ID.out.later hb
  replace LL : Hid (Below w.heap.size w W8) := bl_trans LL.out hb
  clear hb x0 x1 x2 x3 x4 x5 x6 x7 x8 x9 xf y0 y1 y2 y3 y4 y5 y6 y7 y8 y9 yf
  go_wp2_with fail
  have hyx0 : Hid (eY.l0 = eX.l0) := srt_turn JX.out.s0 JY.out.s0
  have hyx7 : Hid (eY.l7 = eX.l7) := srt_turn JX.out.s7 JY.out.s7
  have hzx5 : Hid (eZ.l5 = eX.l5) := srt_again JX.out.s5 JZ.out.s5
  refine wp_region_held_drew (S := fun w' => Blk w' kA #[.slice pa0 eA.l0.length na0, .slice pa1 eA.l1.length na1, .slice pa2 eA.l2.length na2, .slice pa3 eA.l3.length na3, .slice pa4 eA.l4.length na4, .slice pa5 eA.l5.length na5, .slice pa6 eA.l6.length na6, .slice pa7 eA.l7.length na7, .bool eA.sp, .bool eA.kl] 27 ∧ Blk w' kB #[.slice pb0 eB.l0.length nb0, .slice pb1 eB.l1.length nb1, .slice pb2 eB.l2.length nb2, .slice pb3 eB.l3.length nb3, .slice pb4 eB.l4.length nb4, .slice pb5 eB.l5.length nb5, .slice pb6 eB.l6.length nb6, .slice pb7 eB.l7.length nb7, .bool eB.sp, .bool eB.kl] 27 ∧ Blk w' kX #[.slice px0 eX.l0.length nx0, .slice px1 eX.l1.length nx1, .slice px2 eX.l2.length nx2, .slice px3 eX.l3.length nx3, .slice px4 eX.l4.length nx4, .slice px5 eX.l5.length nx5, .slice px6 eX.l6.length nx6, .slice px7 eX.l7.length nx7, .bool eX.sp, .bool eX.kl] 27 ∧ Blk w' kY #[.slice py0 eY.l0.length ny0, .slice py1 eY.l1.length ny1, .slice py2 eY.l2.length ny2, .slice py3 eY.l3.length ny3, .slice py4 eY.l4.length ny4, .slice py5 eY.l5.length ny5, .slice py6 eY.l6.length ny6, .slice py7 eY.l7.length ny7, .bool eY.sp, .bool eY.kl] 27 ∧ Blk w' kZ #[.slice pz0 eZ.l0.length nz0, .slice pz1 eZ.l1.length nz1, .slice pz2 eZ.l2.length nz2, .slice pz3 eZ.l3.length nz3, .slice pz4 eZ.l4.length nz4, .slice pz5 eZ.l5.length nz5, .slice pz6 eZ.l6.length nz6, .slice pz7 eZ.l7.length nz7, .bool eZ.sp, .bool eZ.kl] 27) (by kernel_rfl) ?_ (fun hHeld => ?_)
  · exact ⟨KA.out, KB.out, KX.out, KY.out, KZ.out⟩
  refine wpAnyH_one (i := 0) (d := 47) (v := ?_) rfl rfl (by kernel_rfl) (by kernel_rfl) (by kernel_rfl) (fun _ _ _ h => h) (by rfl) (by assumption) ?_ ?_
  rotate_left 1
  · intro w hSw; (try dsimp only at hSw); go_simp <;> with_reducible rfl
  simp only [List.foldl, Act.put, List.setIfInBounds_toArray, List.set_cons_zero, List.set_cons_succ]
  refine wpAnyH_one (i := 1) (d := 48) (v := ?_) rfl rfl (by kernel_rfl) (by kernel_rfl) (by kernel_rfl) (fun _ _ _ h => h) (by rfl) (by assumption) ?_ ?_
  rotate_left 1
  · intro w hSw; (try dsimp only at hSw); go_simp <;> with_reducible rfl
  simp only [List.foldl, Act.put, List.setIfInBounds_toArray, List.set_cons_zero, List.set_cons_succ]
  refine wpAnyH_one (i := 2) (d := 49) (v := ?_) rfl rfl (by kernel_rfl) (by kernel_rfl) (by kernel_rfl) (fun _ _ _ h => h) (by rfl) (by assumption) ?_ ?_
  rotate_left 1
  · intro w hSw; (try dsimp only at hSw); go_simp <;> with_reducible rfl
  simp only [List.foldl, Act.put, List.setIfInBounds_toArray, List.set_cons_zero, List.set_cons_succ]
  refine wpAnyH_one (i := 3) (d := 50) (v := ?_) rfl rfl (by kernel_rfl) (by kernel_rfl) (by kernel_rfl) (fun _ _ _ h => h) (by rfl) (by assumption) ?_ ?_
  rotate_left 1
  · intro w hSw; (try dsimp only at hSw); obtain ⟨qA, qB, qX, qY, qZ⟩ := hSw; obtain ⟨x0, x1, x2, x3, x4, x5, x6, x7, x8, x9, xf⟩ := qX.ten; go_simp <;> with_reducible rfl
  simp only [List.foldl, Act.put, List.setIfInBounds_toArray, List.set_cons_zero, List.set_cons_succ]
  refine wpAnyH_one (i := 4) (d := 51) (v := ?_) rfl rfl (by kernel_rfl) (by kernel_rfl) (by kernel_rfl) (fun _ _ _ h => h) (by rfl) (by assumption) ?_ ?_
  rotate_left 1
  · intro w hSw; (try dsimp only at hSw); go_simp <;> with_reducible rfl
  simp only [List.foldl, Act.put, List.setIfInBounds_toArray, List.set_cons_zero, List.set_cons_succ]
  refine wpAnyH_one (i := 5) (d := 52) (v := ?_) rfl rfl (by kernel_rfl) (by kernel_rfl) (by kernel_rfl) (fun _ _ _ h => h) (by rfl) (by assumption) ?_ ?_
  rotate_left 1
  · intro w hSw; (try dsimp only at hSw); obtain ⟨qA, qB, qX, qY, qZ⟩ := hSw; obtain ⟨x0, x1, x2, x3, x4, x5, x6, x7, x8, x9, xf⟩ := qY.ten; go_simp <;> with_reducible rfl
  simp only [List.foldl, Act.put, List.setIfInBounds_toArray, List.set_cons_zero, List.set_cons_succ]
  refine wpAnyH_ready (rs := [6]) (by kernel_rfl) (by simp) ?_
  refine AllReadyH.cons rfl (fun K hK => ?_) AllReadyH.nil
  go_simp
  refine (sameI_at _ _ _ _ eX.l0 eY.l0 hyx0.out.symm 0 0 _ (IX.out.p0.later cInt_keeps (bl_drew (Below.refl _ _))) (IY.out.p0.later cInt_keeps (bl_drew (Below.refl _ _))) (by have := SX.out; unfold sN at this; omega)).mono ?_
  rintro z W9 ⟨rfl, hb0⟩
  have hb : Below W8.heap.size W8 W9 := bl_trans (bl_drew (Below.refl _ _)) hb0
  replace KA : Hid (Blk W9 kA #[.slice pa0 eA.l0.length na0, .slice pa1 eA.l1.length na1, .slice pa2 eA.l2.length na2, .slice pa3 eA.l3.length na3, .slice pa4 eA.l4.length na4, .slice pa5 eA.l5.length na5, .slice pa6 eA.l6.length na6, .slice pa7 eA.l7.length na7, .bool eA.sp, .bool eA.kl] 27) := KA.out.later hb
  replace IA : Hid (InE W9 0 pa0 pa1 pa2 pa3 pa4 pa5 pa6 pa7 eA) := IA.out.later hb
  replace KB : Hid (Blk W9 kB #[.slice pb0 eB.l0.length nb0, .slice pb1 eB.l1.length nb1, .slice pb2 eB.l2.length nb2, .slice pb3 eB.l3.length nb3, .slice pb4 eB.l4.length nb4, .slice pb5 eB.l5.length nb5, .slice pb6 eB.l6.length nb6, .slice pb7 eB.l7.length nb7, .bool eB.sp, .bool eB.kl] 27) := KB.out.later hb
  replace IB : Hid (InE W9 0 pb0 pb1 pb2 pb3 pb4 pb5 pb6 pb7 eB) := IB.out.later hb
  replace KX : Hid (Blk W9 kX #[.slice px0 eX.l0.length nx0, .slice px1 eX.l1.length nx1, .slice px2 eX.l2.length nx2, .slice px3 eX.l3.length nx3, .slice px4 eX.l4.length nx4, .slice px5 eX.l5.length nx5, .slice px6 eX.l6.length nx6, .slice px7 eX.l7.length nx7, .bool eX.sp, .bool eX.kl] 27) := KX.out.later hb
  replace IX : Hid (InE W9 0 px0 px1 px2 px3 px4 px5 px6 px7 eX) := IX.out.later hb
  replace KY : Hid (Blk W9 kY #[.slice py0 eY.l0.length ny0, .slice py1 eY.l1.length ny1, .slice py2 eY.l2.length ny2, .slice py3 eY.l3.length ny3, .slice py4 eY.l4.length ny4, .slice py5 eY.l5.length ny5, .slice py6 eY.l6.length ny6, .slice py7 eY.l7.length ny7, .bool eY.sp, .bool eY.kl] 27) := KY.out.later hb
  replace IY : Hid (InE W9 0 py0 py1 py2 py3 py4 py5 py6 py7 eY) := IY.out.later hb
  replace KZ : Hid (Blk W9 kZ #[.slice pz0 eZ.l0.length nz0, .slice pz1 eZ.l1.length nz1, .slice pz2 eZ.l2.length nz2, .slice pz3 eZ.l3.length nz3, .slice pz4 eZ.l4.length nz4, .slice pz5 eZ.l5.length nz5, .slice pz6 eZ.l6.length nz6, .slice pz7 eZ.l7.length nz7, .bool eZ.sp, .bool eZ.kl] 27) := KZ.out.later hb
  replace IZ : Hid (InE W9 0 pz0 pz1 pz2 pz3 pz4 pz5 pz6 pz7 eZ) := IZ.out.later hb
  replace KD : Hid (Blk W9 kD #[.slice pd0 eD.l0.length nd0, .slice pd1 eD.l1.length nd1, .slice pd2 eD.l2.length nd2, .slice pd3 eD.l3.length nd3, .slice pd4 eD.l4.length nd4, .slice pd5 eD.l5.length nd5, .slice pd6 eD.l6.length nd6, .slice pd7 eD.l7.length nd7, .bool eD.sp, .bool eD.kl] 27) := KD.out.later hb
  replace ID : Hid (InE W9 0 pd0 pd1 pd2 pd3 pd4 pd5 pd6 pd7 eD) := ID.out.later hb
  replace LL : Hid (Below w.heap.size w W9) := bl_trans LL.out hb
  clear hb hb0
  refine hK.out _ _ ?_ (fun hHeld => ?_)
  · exact ⟨KA.out, KB.out, KX.out, KY.out, KZ.out⟩
  clear hK K
  try simp only [List.foldl, Act.put, List.setIfInBounds_toArray, List.set_cons_zero, List.set_cons_succ]
  refine wpAnyH_one (i := 7) (d := 54) (v := ?_) rfl rfl (by kernel_rfl) (by kernel_rfl) (by kernel_rfl) (fun _ _ _ h => h) (by rfl) (by assumption) ?_ ?_
  rotate_left 1
  · intro w hSw; (try dsimp only at hSw); go_simp <;> with_reducible rfl
  simp only [List.foldl, Act.put, List.setIfInBounds_toArray, List.set_cons_zero, List.set_cons_succ]
  refine wpAnyH_one (i := 8) (d := 55) (v := ?_) rfl rfl (by kernel_rfl) (by kernel_rfl) (by kernel_rfl) (fun _ _ _ h => h) (by rfl) (by assumption) ?_ ?_
  rotate_left 1
  · intro w hSw; (try dsimp only at hSw); go_simp <;> with_reducible rfl
  simp only [List.foldl, Act.put, List.setIfInBounds_toArray, List.set_cons_zero, List.set_cons_succ]
  refine wpAnyH_one (i := 9) (d := 56) (v := ?_) rfl rfl (by kernel_rfl) (by kernel_rfl) (by kernel_rfl) (fun _ _ _ h => h) (by rfl) (by assumption) ?_ ?_
  rotate_left 1
  · intro w hSw; (try dsimp only at hSw); go_simp <;> with_reducible rfl
  simp only [List.foldl, Act.put, List.setIfInBounds_toArray, List.set_cons_zero, List.set_cons_succ]
  refine wpAnyH_one (i := 10) (d := 57) (v := ?_) rfl rfl (by kernel_rfl) (by kernel_rfl) (by kernel_rfl) (fun _ _ _ h => h) (by rfl) (by assumption) ?_ ?_
  rotate_left 1
  · intro w hSw; (try dsimp only at hSw); obtain ⟨qA, qB, qX, qY, qZ⟩ := hSw; obtain ⟨x0, x1, x2, x3, x4, x5, x6, x7, x8, x9, xf⟩ := qX.ten; go_simp <;> with_reducible rfl
  simp only [List.foldl, Act.put, List.setIfInBounds_toArray, List.set_cons_zero, List.set_cons_succ]
  refine wpAnyH_one (i := 11) (d := 58) (v := ?_) rfl rfl (by kernel_rfl) (by kernel_rfl) (by kernel_rfl) (fun _ _ _ h => h) (by rfl) (by assumption) ?_ ?_
  rotate_left 1
  · intro w hSw; (try dsimp only at hSw); go_simp <;> with_reducible rfl
  simp only [List.foldl, Act.put, List.setIfInBounds_toArray, List.set_cons_zero, List.set_cons_succ]
  refine wpAnyH_one (i := 12) (d := 59) (v := ?_) rfl rfl (by kernel_rfl) (by kernel_rfl) (by kernel_rfl) (fun _ _ _ h => h) (by rfl) (by assumption) ?_ ?_
  rotate_left 1
  · intro w hSw; (try dsimp only at hSw); obtain ⟨qA, qB, qX, qY, qZ⟩ := hSw; obtain ⟨x0, x1, x2, x3, x4, x5, x6, x7, x8, x9, xf⟩ := qY.ten; go_simp <;> with_reducible rfl
  simp only [List.foldl, Act.put, List.setIfInBounds_toArray, List.set_cons_zero, List.set_cons_succ]
  refine wpAnyH_ready (rs := [13]) (by kernel_rfl) (by simp) ?_
  refine AllReadyH.cons rfl (fun K hK => ?_) AllReadyH.nil
  go_simp
  refine (sameI_at _ _ _ _ eX.l7 eY.l7 hyx7.out.symm 0 0 _ (IX.out.p7) (IY.out.p7) (by have := SX.out; unfold sN at this; omega)).mono ?_
  rintro z W10 ⟨rfl, hb0⟩
  have hb : Below W9.heap.size W9 W10 := hb0
  replace KA : Hid (Blk W10 kA #[.slice pa0 eA.l0.length na0, .slice pa1 eA.l1.length na1, .slice pa2 eA.l2.length na2, .slice pa3 eA.l3.length na3, .slice pa4 eA.l4.length na4, .slice pa5 eA.l5.length na5, .slice pa6 eA.l6.length na6, .slice pa7 eA.l7.length na7, .bool eA.sp, .bool eA.kl] 27) := KA.out.later hb
  replace IA : Hid (InE W10 0 pa0 pa1 pa2 pa3 pa4 pa5 pa6 pa7 eA) := IA.out.later hb
  replace KB : Hid (Blk W10 kB #[.slice pb0 eB.l0.length nb0, .slice pb1 eB.l1.length nb1, .slice pb2 eB.l2.length nb2, .slice pb3 eB.l3.length nb3, .slice pb4 eB.l4.length nb4, .slice pb5 eB.l5.length nb5, .slice pb6 eB.l6.length nb6, .slice pb7 eB.l7.length nb7, .bool eB.sp, .bool eB.kl] 27) := KB.out.later hb
  replace IB : Hid (InE W10 0 pb0 pb1 pb2 pb3 pb4 pb5 pb6 pb7 eB) := IB.out.later hb
  replace KX : Hid (Blk W10 kX #[.slice px0 eX.l0.length nx0, .slice px1 eX.l1.length nx1, .slice px2 eX.l2.length nx2, .slice px3 eX.l3.length nx3, .slice px4 eX.l4.length nx4, .slice px5 eX.l5.length nx5, .slice px6 eX.l6.length nx6, .slice px7 eX.l7.length nx7, .bool eX.sp, .bool eX.kl] 27) := KX.out.later hb
  replace IX : Hid (InE W10 0 px0 px1 px2 px3 px4 px5 px6 px7 eX) := IX.out.later hb
  replace KY : Hid (Blk W10 kY #[.slice py0 eY.l0.length ny0, .slice py1 eY.l1.length ny1, .slice py2 eY.l2.length ny2, .slice py3 eY.l3.length ny3, .slice py4 eY.l4.length ny4, .slice py5 eY.l5.length ny5, .slice py6 eY.l6.length ny6, .slice py7 eY.l7.length ny7, .bool eY.sp, .bool eY.kl] 27) := KY.out.later hb
  replace IY : Hid (InE W10 0 py0 py1 py2 py3 py4 py5 py6 py7 eY) := IY.out.later hb
  replace KZ : Hid (Blk W10 kZ #[.slice pz0 eZ.l0.length nz0, .slice pz1 eZ.l1.length nz1, .slice pz2 eZ.l2.length nz2, .slice pz3 eZ.l3.length nz3, .slice pz4 eZ.l4.length nz4, .slice pz5 eZ.l5.length nz5, .slice pz6 eZ.l6.length nz6, .slice pz7 eZ.l7.length nz7, .bool eZ.sp, .bool eZ.kl] 27) := KZ.out.later hb
  replace IZ : Hid (InE W10 0 pz0 pz1 pz2 pz3 pz4 pz5 pz6 pz7 eZ) := IZ.out.later hb
  replace KD : Hid (Blk W10 kD #[.slice pd0 eD.l0.length nd0, .slice pd1 eD.l1.length nd1, .slice pd2 eD.l2.length nd2, .slice pd3 eD.l3.length nd3, .slice pd4 eD.l4.length nd4, .slice pd5 eD.l5.length nd5, .slice pd6 eD.l6.length nd6, .slice pd7 eD.l7.length nd7, .bool eD.sp, .bool eD.kl] 27) := KD.out.later hb
  replace ID : Hid (InE W10 0 pd0 pd1 pd2 pd3 pd4 pd5 pd6 pd7 eD) := ID.out.later hb
  replace LL : Hid (Below w.heap.size w W10) := bl_trans LL.out hb
  clear hb hb0
  refine hK.out _ _ ?_ (fun hHeld => ?_)
  · exact ⟨KA.out, KB.out, KX.out, KY.out, KZ.out⟩
  clear hK K
  try simp only [List.foldl, Act.put, List.setIfInBounds_toArray, List.set_cons_zero, List.set_cons_succ]
  refine wpAnyH_one (i := 14) (d := 61) (v := ?_) rfl rfl (by kernel_rfl) (by kernel_rfl) (by kernel_rfl) (fun _ _ _ h => h) (by rfl) (by assumption) ?_ ?_
  rotate_left 1
  · intro w hSw; (try dsimp only at hSw); go_simp <;> with_reducible rfl
  simp only [List.foldl, Act.put, List.setIfInBounds_toArray, List.set_cons_zero, List.set_cons_succ]
  refine wpAnyH_one (i := 15) (d := 62) (v := ?_) rfl rfl (by kernel_rfl) (by kernel_rfl) (by kernel_rfl) (fun _ _ _ h => h) (by rfl) (by assumption) ?_ ?_
  rotate_left 1
  · intro w hSw; (try dsimp only at hSw); go_simp <;> with_reducible rfl
  simp only [List.foldl, Act.put, List.setIfInBounds_toArray, List.set_cons_zero, List.set_cons_succ]
  refine wpAnyH_one (i := 16) (d := 63) (v := ?_) rfl rfl (by kernel_rfl) (by kernel_rfl) (by kernel_rfl) (fun _ _ _ h => h) (by rfl) (by assumption) ?_ ?_
  rotate_left 1
  · intro w hSw; (try dsimp only at hSw); go_simp <;> with_reducible rfl
  simp only [List.foldl, Act.put, List.setIfInBounds_toArray, List.set_cons_zero, List.set_cons_succ]
  refine wpAnyH_one (i := 17) (d := 64) (v := ?_) rfl rfl (by kernel_rfl) (by kernel_rfl) (by kernel_rfl) (fun _ _ _ h => h) (by rfl) (by assumption) ?_ ?_
  rotate_left 1
  · intro w hSw; (try dsimp only at hSw); obtain ⟨qA, qB, qX, qY, qZ⟩ := hSw; obtain ⟨x0, x1, x2, x3, x4, x5, x6, x7, x8, x9, xf⟩ := qZ.ten; go_simp <;> with_reducible rfl
  simp only [List.foldl, Act.put, List.setIfInBounds_toArray, List.set_cons_zero, List.set_cons_succ]
  refine wpAnyH_one (i := 18) (d := 65) (v := ?_) rfl rfl (by kernel_rfl) (by kernel_rfl) (by kernel_rfl) (fun _ _ _ h => h) (by rfl) (by assumption) ?_ ?_
  rotate_left 1
  · intro w hSw; (try dsimp only at hSw); go_simp <;> with_reducible rfl
  simp only [List.foldl, Act.put, List.setIfInBounds_toArray, List.set_cons_zero, List.set_cons_succ]
  refine wpAnyH_one (i := 19) (d := 66) (v := ?_) rfl rfl (by kernel_rfl) (by kernel_rfl) (by kernel_rfl) (fun _ _ _ h => h) (by rfl) (by assumption) ?_ ?_
  rotate_left 1
  · intro w hSw; (try dsimp only at hSw); obtain ⟨qA, qB, qX, qY, qZ⟩ := hSw; obtain ⟨x0, x1, x2, x3, x4, x5, x6, x7, x8, x9, xf⟩ := qX.ten; go_simp <;> with_reducible rfl
  simp only [List.foldl, Act.put, List.setIfInBounds_toArray, List.set_cons_zero, List.set_cons_succ]
  refine wpAnyH_ready (rs := [20]) (by kernel_rfl) (by simp) ?_
  refine AllReadyH.cons rfl (fun K hK => ?_) AllReadyH.nil
  go_simp
  refine (sameI_at _ _ _ _ eZ.l5 eX.l5 hzx5.out 0 0 _ (IZ.out.p5) (IX.out.p5) (by have := SZ.out; unfold sN at this; omega)).mono ?_
  rintro z W11 ⟨rfl, hb0⟩
  have hb : Below W10.heap.size W10 W11 := hb0
  replace KA : Hid (Blk W11 kA #[.slice pa0 eA.l0.length na0, .slice pa1 eA.l1.length na1, .slice pa2 eA.l2.length na2, .slice pa3 eA.l3.length na3, .slice pa4 eA.l4.length na4, .slice pa5 eA.l5.length na5, .slice pa6 eA.l6.length na6, .slice pa7 eA.l7.length na7, .bool eA.sp, .bool eA.kl] 27) := KA.out.later hb
  replace IA : Hid (InE W11 0 pa0 pa1 pa2 pa3 pa4 pa5 pa6 pa7 eA) := IA.out.later hb
  replace KB : Hid (Blk W11 kB #[.slice pb0 eB.l0.length nb0, .slice pb1 eB.l1.length nb1, .slice pb2 eB.l2.length nb2, .slice pb3 eB.l3.length nb3, .slice pb4 eB.l4.length nb4, .slice pb5 eB.l5.length nb5, .slice pb6 eB.l6.length nb6, .slice pb7 eB.l7.length nb7, .bool eB.sp, .bool eB.kl] 27) := KB.out.later hb
  replace IB : Hid (InE W11 0 pb0 pb1 pb2 pb3 pb4 pb5 pb6 pb7 eB) := IB.out.later hb
  replace KX : Hid (Blk W11 kX #[.slice px0 eX.l0.length nx0, .slice px1 eX.l1.length nx1, .slice px2 eX.l2.length nx2, .slice px3 eX.l3.length nx3, .slice px4 eX.l4.length nx4, .slice px5 eX.l5.length nx5, .slice px6 eX.l6.length nx6, .slice px7 eX.l7.length nx7, .bool eX.sp, .bool eX.kl] 27) := KX.out.later hb
  replace IX : Hid (InE W11 0 px0 px1 px2 px3 px4 px5 px6 px7 eX) := IX.out.later hb
  replace KY : Hid (Blk W11 kY #[.slice py0 eY.l0.length ny0, .slice py1 eY.l1.length ny1, .slice py2 eY.l2.length ny2, .slice py3 eY.l3.length ny3, .slice py4 eY.l4.length ny4, .slice py5 eY.l5.length ny5, .slice py6 eY.l6.length ny6, .slice py7 eY.l7.length ny7, .bool eY.sp, .bool eY.kl] 27) := KY.out.later hb
  replace IY : Hid (InE W11 0 py0 py1 py2 py3 py4 py5 py6 py7 eY) := IY.out.later hb
  replace KZ : Hid (Blk W11 kZ #[.slice pz0 eZ.l0.length nz0, .slice pz1 eZ.l1.length nz1, .slice pz2 eZ.l2.length nz2, .slice pz3 eZ.l3.length nz3, .slice pz4 eZ.l4.length nz4, .slice pz5 eZ.l5.length nz5, .slice pz6 eZ.l6.length nz6, .slice pz7 eZ.l7.length nz7, .bool eZ.sp, .bool eZ.kl] 27) := KZ.out.later hb
  replace IZ : Hid (InE W11 0 pz0 pz1 pz2 pz3 pz4 pz5 pz6 pz7 eZ) := IZ.out.later hb
  replace KD : Hid (Blk W11 kD #[.slice pd0 eD.l0.length nd0, .slice pd1 eD.l1.length nd1, .slice pd2 eD.l2.length nd2, .slice pd3 eD.l3.length nd3, .slice pd4 eD.l4.length nd4, .slice pd5 eD.l5.length nd5, .slice pd6 eD.l6.length nd6, .slice pd7 eD.l7.length nd7, .bool eD.sp, .bool eD.kl] 27) := KD.out.later hb
  replace ID : Hid (InE W11 0 pd0 pd1 pd2 pd3 pd4 pd5 pd6 pd7 eD) := ID.out.later hb
  replace LL : Hid (Below w.heap.size w W11) := bl_trans LL.out hb
  clear hb hb0
  refine hK.out _ _ ?_ (fun hHeld => ?_)
  · exact ⟨KA.out, KB.out, KX.out, KY.out, KZ.out⟩
  clear hK K
  try simp only [List.foldl, Act.put, List.setIfInBounds_toArray, List.set_cons_zero, List.set_cons_succ]
  refine wpAnyH_one (i := 21) (d := 68) (v := ?_) rfl rfl (by kernel_rfl) (by kernel_rfl) (by kernel_rfl) (fun _ _ _ h => h) (by rfl) (by assumption) ?_ ?_
  rotate_left 1
  · intro w hSw; (try dsimp only at hSw); go_simp <;> with_reducible rfl
  simp only [List.foldl, Act.put, List.setIfInBounds_toArray, List.set_cons_zero, List.set_cons_succ]
  refine wpAnyH_one (i := 22) (d := 69) (v := ?_) rfl rfl (by kernel_rfl) (by kernel_rfl) (by kernel_rfl) (fun _ _ _ h => h) (by rfl) (by assumption) ?_ ?_
  rotate_left 1
  · intro w hSw; (try dsimp only at hSw); go_simp <;> with_reducible rfl
  simp only [List.foldl, Act.put, List.setIfInBounds_toArray, List.set_cons_zero, List.set_cons_succ]
  refine wpAnyH_one (i := 23) (d := 70) (v := ?_) rfl rfl (by kernel_rfl) (by kernel_rfl) (by kernel_rfl) (fun _ _ _ h => h) (by rfl) (by assumption) ?_ ?_
  rotate_left 1
  · intro w hSw; (try dsimp only at hSw); obtain ⟨qA, qB, qX, qY, qZ⟩ := hSw; obtain ⟨x0, x1, x2, x3, x4, x5, x6, x7, x8, x9, xf⟩ := qZ.ten; go_simp <;> with_reducible rfl
  simp only [List.foldl, Act.put, List.setIfInBounds_toArray, List.set_cons_zero, List.set_cons_succ]
  refine wpAnyH_one (i := 24) (d := 71) (v := ?_) rfl rfl (by kernel_rfl) (by kernel_rfl) (by kernel_rfl) (fun _ _ _ h => h) (by rfl) (by assumption) ?_ ?_
  rotate_left 1
  · intro w hSw; (try dsimp only at hSw); obtain ⟨qA, qB, qX, qY, qZ⟩ := hSw; obtain ⟨x0, x1, x2, x3, x4, x5, x6, x7, x8, x9, xf⟩ := qX.ten; go_simp <;> with_reducible rfl
  simp only [List.foldl, Act.put, List.setIfInBounds_toArray, List.set_cons_zero, List.set_cons_succ]
  refine wpAnyH_ready (rs := [25]) (by kernel_rfl) (by simp) ?_
  refine AllReadyH.cons rfl (fun K hK => ?_) AllReadyH.nil
  go_simp
  refine (implWithin_any _ _ _ _ _ _ _ _ _ _ _ _ _ _ _ _ eZ _ _ _ _ _ _ _ _ _ _ _ _ _ _ _ _ eX 0 0 _ IZ.out IX.out (SZ.out.k (by omega)) (SX.out.k (by omega))).mono ?_
  rintro z W12 ⟨rfl, hb0⟩
  have hb : Below W11.heap.size W11 W12 := hb0
  replace KA : Hid (Blk W12 kA #[.slice pa0 eA.l0.length na0, .slice pa1 eA.l1.length na1, .slice pa2 eA.l2.length na2, .slice pa3 eA.l3.length na3, .slice pa4 eA.l4.length na4, .slice pa5 eA.l5.length na5, .slice pa6 eA.l6.length na6, .slice pa7 eA.l7.length na7, .bool eA.sp, .bool eA.kl] 27) := KA.out.later hb
  replace IA : Hid (InE W12 0 pa0 pa1 pa2 pa3 pa4 pa5 pa6 pa7 eA) := IA.out.later hb
  replace KB : Hid (Blk W12 kB #[.slice pb0 eB.l0.length nb0, .slice pb1 eB.l1.length nb1, .slice pb2 eB.l2.length nb2, .slice pb3 eB.l3.length nb3, .slice pb4 eB.l4.length nb4, .slice pb5 eB.l5.length nb5, .slice pb6 eB.l6.length nb6, .slice pb7 eB.l7.length nb7, .bool eB.sp, .bool eB.kl] 27) := KB.out.later hb
  replace IB : Hid (InE W12 0 pb0 pb1 pb2 pb3 pb4 pb5 pb6 pb7 eB) := IB.out.later hb
  replace KX : Hid (Blk W12 kX #[.slice px0 eX.l0.length nx0, .slice px1 eX.l1.length nx1, .slice px2 eX.l2.length nx2, .slice px3 eX.l3.length nx3, .slice px4 eX.l4.length nx4, .slice px5 eX.l5.length nx5, .slice px6 eX.l6.length nx6, .slice px7 eX.l7.length nx7, .bool eX.sp, .bool eX.kl] 27) := KX.out.later hb
  replace IX : Hid (InE W12 0 px0 px1 px2 px3 px4 px5 px6 px7 eX) := IX.out.later hb
  replace KY : Hid (Blk W12 kY #[.slice py0 eY.l0.length ny0, .slice py1 eY.l1.length ny1, .slice py2 eY.l2.length ny2, .slice py3 eY.l3.length ny3, .slice py4 eY.l4.length ny4, .slice py5 eY.l5.length ny5, .slice py6 eY.l6.length ny6, .slice py7 eY.l7.length ny7, .bool eY.sp, .bool eY.kl] 27) := KY.out.later hb
  replace IY : Hid (InE W12 0 py0 py1 py2 py3 py4 py5 py6 py7 eY) := IY.out.later hb
  replace KZ : Hid (Blk W12 kZ #[.slice pz0 eZ.l0.length nz0, .slice pz1 eZ.l1.length nz1, .slice pz2 eZ.l2.length nz2, .slice pz3 eZ.l3.length nz3, .slice pz4 eZ.l4.length nz4, .slice pz5 eZ.l5.length nz5, .slice pz6 eZ.l6.length nz6, .slice pz7 eZ.l7.length nz7, .bool eZ.sp, .bool eZ.kl] 27) := KZ.out.later hb
  replace IZ : Hid (InE W12 0 pz0 pz1 pz2 pz3 pz4 pz5 pz6 pz7 eZ) := IZ.out.later hb
  replace KD : Hid (Blk W12 kD #[.slice pd0 eD.l0.length nd0, .slice pd1 eD.l1.length nd1, .slice pd2 eD.l2.length nd2, .slice pd3 eD.l3.length nd3, .slice pd4 eD.l4.length nd4, .slice pd5 eD.l5.length nd5, .slice pd6 eD.l6.length nd6, .slice pd7 eD.l7.length nd7, .bool eD.sp, .bool eD.kl] 27) := KD.out.later hb
  replace ID : Hid (InE W12 0 pd0 pd1 pd2 pd3 pd4 pd5 pd6 pd7 eD) := ID.out.later hb
  replace LL : Hid (Below w.heap.size w W12) := bl_trans LL.out hb
  clear hb hb0
  rw [show witB eZ eX = true from wit_again JX.out JZ.out]
  refine hK.out _ _ ?_ (fun hHeld => ?_)
  · exact ⟨KA.out, KB.out, KX.out, KY.out, KZ.out⟩
  clear hK K
  try simp only [List.foldl, Act.put, List.setIfInBounds_toArray, List.set_cons_zero, List.set_cons_succ]
  refine wpAnyH_one (i := 26) (d := 73) (v := ?_) rfl rfl (by kernel_rfl) (by kernel_rfl) (by kernel_rfl) (fun _ _ _ h => h) (by rfl) (by assumption) ?_ ?_
  rotate_left 1
  · intro w hSw; (try dsimp only at hSw); go_simp <;> with_reducible rfl
  simp only [List.foldl, Act.put, List.setIfInBounds_toArray, List.set_cons_zero, List.set_cons_succ]
  refine wpAnyH_one (i := 27) (d := 74) (v := ?_) rfl rfl (by kernel_rfl) (by kernel_rfl) (by kernel_rfl) (fun _ _ _ h => h) (by rfl) (by assumption) ?_ ?_
  rotate_left 1
  · intro w hSw; (try dsimp only at hSw); go_simp <;> with_reducible rfl
  simp only [List.foldl, Act.put, List.setIfInBounds_toArray, List.set_cons_zero, List.set_cons_succ]
  refine wpAnyH_one (i := 28) (d := 75) (v := ?_) rfl rfl (by kernel_rfl) (by kernel_rfl) (by kernel_rfl) (fun _ _ _ h => h) (by rfl) (by assumption) ?_ ?_
  rotate_left 1
  · intro w hSw; (try dsimp only at hSw); obtain ⟨qA, qB, qX, qY, qZ⟩ := hSw; obtain ⟨x0, x1, x2, x3, x4, x5, x6, x7, x8, x9, xf⟩ := qX.ten; go_simp <;> with_reducible rfl
  simp only [List.foldl, Act.put, List.setIfInBounds_toArray, List.set_cons_zero, List.set_cons_succ]
  refine wpAnyH_one (i := 30) (d := 77) (v := ?_) rfl rfl (by kernel_rfl) (by kernel_rfl) (by kernel_rfl) (fun _ _ _ h => h) (by rfl) (by assumption) ?_ ?_
  rotate_left 1
  · intro w hSw; (try dsimp only at hSw); obtain ⟨qA, qB, qX, qY, qZ⟩ := hSw; obtain ⟨x0, x1, x2, x3, x4, x5, x6, x7, x8, x9, xf⟩ := qA.ten; go_simp <;> with_reducible rfl
  simp only [List.foldl, Act.put, List.setIfInBounds_toArray, List.set_cons_zero, List.set_cons_succ]
  refine wpAnyH_ready (rs := [29]) (by kernel_rfl) (by simp) ?_
  refine AllReadyH.cons rfl (fun K hK => ?_) AllReadyH.nil
  go_simp
  refine (implCommands_any _ _ _ _ _ _ _ _ _ _ _ _ _ _ _ _ eX _).mono ?_
  rintro z W13 ⟨rfl, hb0⟩
  have hb : Below W12.heap.size W12 W13 := hb0
  replace KA : Hid (Blk W13 kA #[.slice pa0 eA.l0.length na0, .slice pa1 eA.l1.length na1, .slice pa2 eA.l2.length na2, .slice pa3 eA.l3.length na3, .slice pa4 eA.l4.length na4, .slice pa5 eA.l5.length na5, .slice pa6 eA.l6.length na6, .slice pa7 eA.l7.length na7, .bool eA.sp, .bool eA.kl] 27) := KA.out.later hb
  replace IA : Hid (InE W13 0 pa0 pa1 pa2 pa3 pa4 pa5 pa6 pa7 eA) := IA.out.later hb
  replace KB : Hid (Blk W13 kB #[.slice pb0 eB.l0.length nb0, .slice pb1 eB.l1.length nb1, .slice pb2 eB.l2.length nb2, .slice pb3 eB.l3.length nb3, .slice pb4 eB.l4.length nb4, .slice pb5 eB.l5.length nb5, .slice pb6 eB.l6.length nb6, .slice pb7 eB.l7.length nb7, .bool eB.sp, .bool eB.kl] 27) := KB.out.later hb
  replace IB : Hid (InE W13 0 pb0 pb1 pb2 pb3 pb4 pb5 pb6 pb7 eB) := IB.out.later hb
  replace KX : Hid (Blk W13 kX #[.slice px0 eX.l0.length nx0, .slice px1 eX.l1.length nx1, .slice px2 eX.l2.length nx2, .slice px3 eX.l3.length nx3, .slice px4 eX.l4.length nx4, .slice px5 eX.l5.length nx5, .slice px6 eX.l6.length nx6, .slice px7 eX.l7.length nx7, .bool eX.sp, .bool eX.kl] 27) := KX.out.later hb
  replace IX : Hid (InE W13 0 px0 px1 px2 px3 px4 px5 px6 px7 eX) := IX.out.later hb
  replace KY : Hid (Blk W13 kY #[.slice py0 eY.l0.length ny0, .slice py1 eY.l1.length ny1, .slice py2 eY.l2.length ny2, .slice py3 eY.l3.length ny3, .slice py4 eY.l4.length ny4, .slice py5 eY.l5.length ny5, .slice py6 eY.l6.length ny6, .slice py7 eY.l7.length ny7, .bool eY.sp, .bool eY.kl] 27) := KY.out.later hb
  replace IY : Hid (InE W13 0 py0 py1 py2 py3 py4 py5 py6 py7 eY) := IY.out.later hb
  replace KZ : Hid (Blk W13 kZ #[.slice pz0 eZ.l0.length nz0, .slice pz1 eZ.l1.length nz1, .slice pz2 eZ.l2.length nz2, .slice pz3 eZ.l3.length nz3, .slice pz4 eZ.l4.length nz4, .slice pz5 eZ.l5.length nz5, .slice pz6 eZ.l6.length nz6, .slice pz7 eZ.l7.length nz7, .bool eZ.sp, .bool eZ.kl] 27) := KZ.out.later hb
  replace IZ : Hid (InE W13 0 pz0 pz1 pz2 pz3 pz4 pz5 pz6 pz7 eZ) := IZ.out.later hb
  replace KD : Hid (Blk W13 kD #[.slice pd0 eD.l0.length nd0, .slice pd1 eD.l1.length nd1, .slice pd2 eD.l2.length nd2, .slice pd3 eD.l3.length nd3, .slice pd4 eD.l4.length nd4, .slice pd5 eD.l5.length nd5, .slice pd6 eD.l6.length nd6, .slice pd7 eD.l7.length nd7, .bool eD.sp, .bool eD.kl] 27) := KD.out.later hb
  replace ID : Hid (InE W13 0 pd0 pd1 pd2 pd3 pd4 pd5 pd6 pd7 eD) := ID.out.later hb
  replace LL : Hid (Below w.heap.size w W13) := bl_trans LL.out hb
  clear hb hb0
  refine hK.out _ _ ?_ (fun hHeld => ?_)
  · exact ⟨KA.out, KB.out, KX.out, KY.out, KZ.out⟩
  clear hK K
  try simp only [List.foldl, Act.put, List.setIfInBounds_toArray, List.set_cons_zero, List.set_cons_succ]
  refine wpAnyH_ready (rs := [31]) (by kernel_rfl) (by simp) ?_
  refine AllReadyH.cons rfl (fun K hK => ?_) AllReadyH.nil
  go_simp
  refine (specCommands_any _ _ _ _ _ _ _ _ _ _ _ _ _ _ _ _ eA _).mono ?_
  rintro z W14 ⟨rfl, hb0⟩
  have hb : Below W13.heap.size W13 W14 := hb0
  replace KA : Hid (Blk W14 kA #[.slice pa0 eA.l0.length na0, .slice pa1 eA.l1.length na1, .slice pa2 eA.l2.length na2, .slice pa3 eA.l3.length na3, .slice pa4 eA.l4.length na4, .slice pa5 eA.l5.length na5, .slice pa6 eA.l6.length na6, .slice pa7 eA.l7.length na7, .bool eA.sp, .bool eA.kl] 27) := KA.out.later hb
  replace IA : Hid (InE W14 0 pa0 pa1 pa2 pa3 pa4 pa5 pa6 pa7 eA) := IA.out.later hb
  replace KB : Hid (Blk W14 kB #[.slice pb0 eB.l0.length nb0, .slice pb1 eB.l1.length nb1, .slice pb2 eB.l2.length nb2, .slice pb3 eB.l3.length nb3, .slice pb4 eB.l4.length nb4, .slice pb5 eB.l5.length nb5, .slice pb6 eB.l6.length nb6, .slice pb7 eB.l7.length nb7, .bool eB.sp, .bool eB.kl] 27) := KB.out.later hb
  replace IB : Hid (InE W14 0 pb0 pb1 pb2 pb3 pb4 pb5 pb6 pb7 eB) := IB.out.later hb
  replace KX : Hid (Blk W14 kX #[.slice px0 eX.l0.length nx0, .slice px1 eX.l1.length nx1, .slice px2 eX.l2.length nx2, .slice px3 eX.l3.length nx3, .slice px4 eX.l4.length nx4, .slice px5 eX.l5.length nx5, .slice px6 eX.l6.length nx6, .slice px7 eX.l7.length nx7, .bool eX.sp, .bool eX.kl] 27) := KX.out.later hb
  replace IX : Hid (InE W14 0 px0 px1 px2 px3 px4 px5 px6 px7 eX) := IX.out.later hb
  replace KY : Hid (Blk W14 kY #[.slice py0 eY.l0.length ny0, .slice py1 eY.l1.length ny1, .slice py2 eY.l2.length ny2, .slice py3 eY.l3.length ny3, .slice py4 eY.l4.length ny4, .slice py5 eY.l5.length ny5, .slice py6 eY.l6.length ny6, .slice py7 eY.l7.length ny7, .bool eY.sp, .bool eY.kl] 27) := KY.out.later hb
  replace IY : Hid (InE W14 0 py0 py1 py2 py3 py4 py5 py6 py7 eY) := IY.out.later hb
  replace KZ : Hid (Blk W14 kZ #[.slice pz0 eZ.l0.length nz0, .slice pz1 eZ.l1.length nz1, .slice pz2 eZ.l2.length nz2, .slice pz3 eZ.l3.length nz3, .slice pz4 eZ.l4.length nz4, .slice pz5 eZ.l5.length nz5, .slice pz6 eZ.l6.length nz6, .slice pz7 eZ.l7.length nz7, .bool eZ.sp, .bool eZ.kl] 27) := KZ.out.later hb
  replace IZ : Hid (InE W14 0 pz0 pz1 pz2 pz3 pz4 pz5 pz6 pz7 eZ) := IZ.out.later hb
  replace KD : Hid (Blk W14 kD #[.slice pd0 eD.l0.length nd0, .slice pd1 eD.l1.length nd1, .slice pd2 eD.l2.length nd2, .slice pd3 eD.l3.length nd3, .slice pd4 eD.l4.length nd4, .slice pd5 eD.l5.length nd5, .slice pd6 eD.l6.length nd6, .slice pd7 eD.l7.length nd7, .bool eD.sp, .bool eD.kl] 27) := KD.out.later hb
  replace ID : Hid (InE W14 0 pd0 pd1 pd2 pd3 pd4 pd5 pd6 pd7 eD) := ID.out.later hb
  replace LL : Hid (Below w.heap.size w W14) := bl_trans LL.out hb
  clear hb hb0
  refine hK.out _ _ ?_ (fun hHeld => ?_)
  · exact ⟨KA.out, KB.out, KX.out, KY.out, KZ.out⟩
  clear hK K
  try simp only [List.foldl, Act.put, List.setIfInBounds_toArray, List.set_cons_zero, List.set_cons_succ]
  refine wpAnyH_one (i := 32) (d := 79) (v := ?_) rfl rfl (by kernel_rfl) (by kernel_rfl) (by kernel_rfl) (fun _ _ _ h => h) (by rfl) (by assumption) ?_ ?_
  rotate_left 1
  · intro w hSw; (try dsimp only at hSw); go_simp <;> with_reducible rfl
  simp only [List.foldl, Act.put, List.setIfInBounds_toArray, List.set_cons_zero, List.set_cons_succ]
  have HC : Hid (cmdB eX = (cmdB eA || cmdB eB)) := cmd_join JX.out
  obtain ⟨cX, hcX⟩ : ∃ b, Hid (cmdB eX = b) := ⟨_, (rfl : cmdB eX = _)⟩
  obtain ⟨cA, hcA⟩ : ∃ b, Hid (cmdB eA = b) := ⟨_, (rfl : cmdB eA = _)⟩
  rw [hcX.out, hcA.out]
  cases cA
  · skip
    refine wpAnyH_one (i := 33) (d := 80) (v := ?_) rfl rfl (by kernel_rfl) (by kernel_rfl) (by kernel_rfl) (fun _ _ _ h => h) (by rfl) (by assumption) ?_ ?_
    rotate_left 1
    · intro w hSw; (try dsimp only at hSw); obtain ⟨qA, qB, qX, qY, qZ⟩ := hSw; obtain ⟨x0, x1, x2, x3, x4, x5, x6, x7, x8, x9, xf⟩ := qB.ten; go_simp <;> with_reducible rfl
    simp only [List.foldl, Act.put, List.setIfInBounds_toArray, List.set_cons_zero, List.set_cons_succ]
    refine wpAnyH_ready (rs := [34]) (by kernel_rfl) (by simp) ?_
    refine AllReadyH.cons rfl (fun K hK => ?_) AllReadyH.nil
    go_simp
    refine (specCommands_any _ _ _ _ _ _ _ _ _ _ _ _ _ _ _ _ eB _).mono ?_
    rintro z W15 ⟨rfl, hb0⟩
    have hb : Below W14.heap.size W14 W15 := hb0
    replace KA : Hid (Blk W15 kA #[.slice pa0 eA.l0.length na0, .slice pa1 eA.l1.length na1, .slice pa2 eA.l2.length na2, .slice pa3 eA.l3.length na3, .slice pa4 eA.l4.length na4, .slice pa5 eA.l5.length na5, .slice pa6 eA.l6.length na6, .slice pa7 eA.l7.length na7, .bool eA.sp, .bool eA.kl] 27) := KA.out.later hb
    replace IA : Hid (InE W15 0 pa0 pa1 pa2 pa3 pa4 pa5 pa6 pa7 eA) := IA.out.later hb
    replace KB : Hid (Blk W15 kB #[.slice pb0 eB.l0.length nb0, .slice pb1 eB.l1.length nb1, .slice pb2 eB.l2.length nb2, .slice pb3 eB.l3.length nb3, .slice pb4 eB.l4.length nb4, .slice pb5 eB.l5.length nb5, .slice pb6 eB.l6.length nb6, .slice pb7 eB.l7.length nb7, .bool eB.sp, .bool eB.kl] 27) := KB.out.later hb
    replace IB : Hid (InE W15 0 pb0 pb1 pb2 pb3 pb4 pb5 pb6 pb7 eB) := IB.out.later hb
    replace KX : Hid (Blk W15 kX #[.slice px0 eX.l0.length nx0, .slice px1 eX.l1.length nx1, .slice px2 eX.l2.length nx2, .slice px3 eX.l3.length nx3, .slice px4 eX.l4.length nx4, .slice px5 eX.l5.length nx5, .slice px6 eX.l6.length nx6, .slice px7 eX.l7.length nx7, .bool eX.sp, .bool eX.kl] 27) := KX.out.later hb
    replace IX : Hid (InE W15 0 px0 px1 px2 px3 px4 px5 px6 px7 eX) := IX.out.later hb
    replace KY : Hid (Blk W15 kY #[.slice py0 eY.l0.length ny0, .slice py1 eY.l1.length ny1, .slice py2 eY.l2.length ny2, .slice py3 eY.l3.length ny3, .slice py4 eY.l4.length ny4, .slice py5 eY.l5.length ny5, .slice py6 eY.l6.length ny6, .slice py7 eY.l7.length ny7, .bool eY.sp, .bool eY.kl] 27) := KY.out.later hb
    replace IY : Hid (InE W15 0 py0 py1 py2 py3 py4 py5 py6 py7 eY) := IY.out.later hb
    replace KZ : Hid (Blk W15 kZ #[.slice pz0 eZ.l0.length nz0, .slice pz1 eZ.l1.length nz1, .slice pz2 eZ.l2.length nz2, .slice pz3 eZ.l3.length nz3, .slice pz4 eZ.l4.length nz4, .slice pz5 eZ.l5.length nz5, .slice pz6 eZ.l6.length nz6, .slice pz7 eZ.l7.length nz7, .bool eZ.sp, .bool eZ.kl] 27) := KZ.out.later hb
    replace IZ : Hid (InE W15 0 pz0 pz1 pz2 pz3 pz4 pz5 pz6 pz7 eZ) := IZ.out.later hb
    replace KD : Hid (Blk W15 kD #[.slice pd0 eD.l0.length nd0, .slice pd1 eD.l1.length nd1, .slice pd2 eD.l2.length nd2, .slice pd3 eD.l3.length nd3, .slice pd4 eD.l4.length nd4, .slice pd5 eD.l5.length nd5, .slice pd6 eD.l6.length nd6, .slice pd7 eD.l7.length nd7, .bool eD.sp, .bool eD.kl] 27) := KD.out.later hb
    replace ID : Hid (InE W15 0 pd0 pd1 pd2 pd3 pd4 pd5 pd6 pd7 eD) := ID.out.later hb
    replace LL : Hid (Below w.heap.size w W15) := bl_trans LL.out hb
    clear hb hb0
    refine hK.out _ _ ?_ (fun hHeld => ?_)
    · exact ⟨KA.out, KB.out, KX.out, KY.out, KZ.out⟩
    clear hK K
    try simp only [List.foldl, Act.put, List.setIfInBounds_toArray, List.set_cons_zero, List.set_cons_succ]
    have hq : cX = cmdB eB := by rw [← hcX.out, HC.out, hcA.out]; rfl
    subst hq
    refine wpAnyH_one (i := 35) (d := 82) (v := ?_) rfl rfl (by kernel_rfl) (by kernel_rfl) (by kernel_rfl) (fun _ _ _ h => h) (by rfl) (by assumption) ?_ ?_
    rotate_left 1
    · intro w hSw; (try dsimp only at hSw); go_simp <;> with_reducible rfl
    simp only [List.foldl, Act.put, List.setIfInBounds_toArray, List.set_cons_zero, List.set_cons_succ]
    have ue : (cmdB eB == cmdB eB) = true := by simp
    refine wpAnyH_one (i := 36) (d := 83) (v := ?_) rfl rfl (by kernel_rfl) (by kernel_rfl) (by kernel_rfl) (fun _ _ _ h => h) (by rfl) (by assumption) ?_ ?_
    rotate_left 1
    · intro w hSw; (try dsimp only at hSw); go_simp <;> with_reducible rfl
    simp only [List.foldl, Act.put, List.setIfInBounds_toArray, List.set_cons_zero, List.set_cons_succ]
    refine wpAnyH_one (i := 37) (d := 84) (v := ?_) rfl rfl (by kernel_rfl) (by kernel_rfl) (by kernel_rfl) (fun _ _ _ h => h) (by rfl) (by assumption) ?_ ?_
    rotate_left 1
    · intro w hSw; (try dsimp only at hSw); go_simp <;> with_reducible rfl
    simp only [List.foldl, Act.put, List.setIfInBounds_toArray, List.set_cons_zero, List.set_cons_succ]
    refine wpAnyH_one (i := 38) (d := 2) (v := ?_) rfl rfl (by kernel_rfl) (by kernel_rfl) (by kernel_rfl) (fun _ _ _ h => h) (by rfl) (by assumption) ?_ ?_
    rotate_left 1
    · intro w hSw; (try dsimp only at hSw); go_simp <;> with_reducible rfl
    simp only [List.foldl, Act.put, List.setIfInBounds_toArray, List.set_cons_zero, List.set_cons_succ]
    refine wpAnyH_done (by kernel_rfl) ?_ _
    go_wp2_with fail
    go_ret
    exact ⟨rfl, LL.out⟩
  · skip
    refine wpAnyH_skip (by kernel_rfl) (fun _ _ _ _ h => h) [(33, 80), (34, 81)] 4 _ _ _ (by assumption) (by kernel_rfl) ?_ _ rfl
    simp only [List.foldl, Act.put, List.setIfInBounds_toArray, List.set_cons_zero, List.set_cons_succ]
    have hq : cX = true := by rw [← hcX.out, HC.out, hcA.out]; rfl
    subst hq
    refine wpAnyH_one (i := 35) (d := 82) (v := ?_) rfl rfl (by kernel_rfl) (by kernel_rfl) (by kernel_rfl) (fun _ _ _ h => h) (by rfl) (by assumption) ?_ ?_
    rotate_left 1
    · intro w hSw; (try dsimp only at hSw); go_simp <;> with_reducible rfl
    simp only [List.foldl, Act.put, List.setIfInBounds_toArray, List.set_cons_zero, List.set_cons_succ]
    have ue : (true == true) = true := by simp
    refine wpAnyH_one (i := 36) (d := 83) (v := ?_) rfl rfl (by kernel_rfl) (by kernel_rfl) (by kernel_rfl) (fun _ _ _ h => h) (by rfl) (by assumption) ?_ ?_
    rotate_left 1
    · intro w hSw; (try dsimp only at hSw); go_simp <;> with_reducible rfl
    simp only [List.foldl, Act.put, List.setIfInBounds_toArray, List.set_cons_zero, List.set_cons_succ]
    refine wpAnyH_one (i := 37) (d := 84) (v := ?_) rfl rfl (by kernel_rfl) (by kernel_rfl) (by kernel_rfl) (fun _ _ _ h => h) (by rfl) (by assumption) ?_ ?_
    rotate_left 1
    · intro w hSw; (try dsimp only at hSw); go_simp <;> with_reducible rfl
    simp only [List.foldl, Act.put, List.setIfInBounds_toArray, List.set_cons_zero, List.set_cons_succ]
    refine wpAnyH_one (i := 38) (d := 2) (v := ?_) rfl rfl (by kernel_rfl) (by kernel_rfl) (by kernel_rfl) (fun _ _ _ h => h) (by rfl) (by assumption) ?_ ?_
    rotate_left 1
    · intro w hSw; (try dsimp only at hSw); go_simp <;> with_reducible rfl
    simp only [List.foldl, Act.put, List.setIfInBounds_toArray, List.set_cons_zero, List.set_cons_succ]
    refine wpAnyH_done (by kernel_rfl) ?_ _
    go_wp2_with fail
    go_ret
    exact ⟨rfl, LL.out⟩
end Go.Proofs.Ytgcfhoojjgcpiaa
