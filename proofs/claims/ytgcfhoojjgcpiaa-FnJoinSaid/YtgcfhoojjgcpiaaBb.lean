import Derived.Test.YtgcfhoojjgcpiaaBa
import Derived.Test.YtgcfhoojjgcpiaaSk
import Derived.Deep.RegionHeld3
namespace Go.Proofs.Ytgcfhoojjgcpiaa
open Go.RowKit
set_option linter.unusedVariables false
set_option linter.unusedSimpArgs false

theorem Hid.mk' {p : Prop} (h : p) : Hid p := h
theorem Try.infoEf : (Try.prog.info? 27).map (·.size) = some 10 := by kernel_rfl
theorem one10 {p0 p1 p2 p3 p4 p5 p6 p7 : Option Addr} {n0 n1 n2 n3 n4 n5 n6 n7 : Nat} {m0 m1 m2 m3 m4 m5 m6 m7 : Nat} {x y : Bool} : (#[.slice p0 n0 m0, .slice p1 n1 m1, .slice p2 n2 m2, .slice p3 n3 m3, .slice p4 n4 m4, .slice p5 n5 m5, .slice p6 n6 m6, .slice p7 n7 m7, .bool x, .bool y] : Array Value).all (·.oneCell') = true := by simp [Value.oneCell']
/-- an effect of one's own. -/
structure OE (w : World) (B : Nat) (p0 p1 p2 p3 p4 p5 p6 p7 : Option Addr) (n0 n1 n2 n3 n4 n5 n6 n7 : Nat) (J : Ef) : Prop where
  o0 : OI w B (.slice p0 J.l0.length n0) J.l0
  o1 : OI w B (.slice p1 J.l1.length n1) J.l1
  o2 : OI w B (.slice p2 J.l2.length n2) J.l2
  o3 : OI w B (.slice p3 J.l3.length n3) J.l3
  o4 : OI w B (.slice p4 J.l4.length n4) J.l4
  o5 : OI w B (.slice p5 J.l5.length n5) J.l5
  o6 : OI w B (.slice p6 J.l6.length n6) J.l6
  o7 : OI w B (.slice p7 J.l7.length n7) J.l7
structure JoinIs (V U J : Ef) : Prop where
  s0 : Srt (V.l0 ++ U.l0) J.l0
  s1 : Srt (V.l1 ++ U.l1) J.l1
  s2 : Srt (V.l2 ++ U.l2) J.l2
  s3 : Srt (V.l3 ++ U.l3) J.l3
  s4 : Srt (V.l4 ++ U.l4) J.l4
  s5 : Srt (V.l5 ++ U.l5) J.l5
  s6 : Srt (V.l6 ++ U.l6) J.l6
  s7 : Srt (V.l7 ++ U.l7) J.l7
  sp : J.sp = (V.sp || U.sp)
  kl : J.kl = (V.kl || U.kl)
set_option maxRecDepth 100000 in
set_option maxHeartbeats 8000000 in
theorem specJoin_any (a0 a1 a2 a3 a4 a5 a6 a7 : Option Addr) (c0 c1 c2 c3 c4 c5 c6 c7 : Nat) (V : Ef) (b0 b1 b2 b3 b4 b5 b6 b7 : Option Addr) (d0 d1 d2 d3 d4 d5 d6 d7 : Nat) (U : Ef) (B C : Nat) (w : World) (hV : InE w B a0 a1 a2 a3 a4 a5 a6 a7 V) (hU : InE w C b0 b1 b2 b3 b4 b5 b6 b7 U) (kV : V.l0.length ≤ 2199023255552 ∧ V.l1.length ≤ 2199023255552 ∧ V.l2.length ≤ 2199023255552 ∧ V.l3.length ≤ 2199023255552 ∧ V.l4.length ≤ 2199023255552 ∧ V.l5.length ≤ 2199023255552 ∧ V.l6.length ≤ 2199023255552 ∧ V.l7.length ≤ 2199023255552) (kU : U.l0.length ≤ 2199023255552 ∧ U.l1.length ≤ 2199023255552 ∧ U.l2.length ≤ 2199023255552 ∧ U.l3.length ≤ 2199023255552 ∧ U.l4.length ≤ 2199023255552 ∧ U.l5.length ≤ 2199023255552 ∧ U.l6.length ≤ 2199023255552 ∧ U.l7.length ≤ 2199023255552) :
    Calls Try.prog 14 #[.agg #[.slice a0 V.l0.length c0, .slice a1 V.l1.length c1, .slice a2 V.l2.length c2, .slice a3 V.l3.length c3, .slice a4 V.l4.length c4, .slice a5 V.l5.length c5, .slice a6 V.l6.length c6, .slice a7 V.l7.length c7, .bool V.sp, .bool V.kl], .agg #[.slice b0 U.l0.length d0, .slice b1 U.l1.length d1, .slice b2 U.l2.length d2, .slice b3 U.l3.length d3, .slice b4 U.l4.length d4, .slice b5 U.l5.length d5, .slice b6 U.l6.length d6, .slice b7 U.l7.length d7, .bool U.sp, .bool U.kl]] w fun e w' => (∃ (p0 p1 p2 p3 p4 p5 p6 p7 : Option Addr) (n0 n1 n2 n3 n4 n5 n6 n7 : Nat) (J : Ef), e = .returned (.agg #[.slice p0 J.l0.length n0, .slice p1 J.l1.length n1, .slice p2 J.l2.length n2, .slice p3 J.l3.length n3, .slice p4 J.l4.length n4, .slice p5 J.l5.length n5, .slice p6 J.l6.length n6, .slice p7 J.l7.length n7, .bool J.sp, .bool J.kl]) ∧ OE w' w.heap.size p0 p1 p2 p3 p4 p5 p6 p7 n0 n1 n2 n3 n4 n5 n6 n7 J ∧ JoinIs V U J) ∧ Below w.heap.size w w' := by
  obtain ⟨m0, m1, m2, m3, m4, m5, m6, m7⟩ := kV
  obtain ⟨u0, u1, u2, u3, u4, u5, u6, u7⟩ := kU
  obtain ⟨K0, K1, K2, L0⟩ := blkThreeE w #[.slice a0 V.l0.length c0, .slice a1 V.l1.length c1, .slice a2 V.l2.length c2, .slice a3 V.l3.length c3, .slice a4 V.l4.length c4, .slice a5 V.l5.length c5, .slice a6 V.l6.length c6, .slice a7 V.l7.length c7, .bool V.sp, .bool V.kl] #[.slice b0 U.l0.length d0, .slice b1 U.l1.length d1, .slice b2 U.l2.length d2, .slice b3 U.l3.length d3, .slice b4 U.l4.length d4, .slice b5 U.l5.length d5, .slice b6 U.l6.length d6, .slice b7 U.l7.length d7, .bool U.sp, .bool U.kl] #[.slice none 0 0, .slice none 0 0, .slice none 0 0, .slice none 0 0, .slice none 0 0, .slice none 0 0, .slice none 0 0, .slice none 0 0, .bool false, .bool false] 27 27 27
  have HV : Hid (InE w B a0 a1 a2 a3 a4 a5 a6 a7 V) := hV
  have HU : Hid (InE w C b0 b1 b2 b3 b4 b5 b6 b7 U) := hU
  clear hV hU
  go_enter Try.func14, Try.ntmps14
  go_wp2_with fail
  generalize hX : ((w.alloc (.cells #[.slice a0 V.l0.length c0, .slice a1 V.l1.length c1, .slice a2 V.l2.length c2, .slice a3 V.l3.length c3, .slice a4 V.l4.length c4, .slice a5 V.l5.length c5, .slice a6 V.l6.length c6, .slice a7 V.l7.length c7, .bool V.sp, .bool V.kl] 27)).alloc (.cells #[.slice b0 U.l0.length d0, .slice b1 U.l1.length d1, .slice b2 U.l2.length d2, .slice b3 U.l3.length d3, .slice b4 U.l4.length d4, .slice b5 U.l5.length d5, .slice b6 U.l6.length d6, .slice b7 U.l7.length d7, .bool U.sp, .bool U.kl] 27)).alloc (.cells #[.slice none 0 0, .slice none 0 0, .slice none 0 0, .slice none 0 0, .slice none 0 0, .slice none 0 0, .slice none 0 0, .slice none 0 0, .bool false, .bool false] 27) = X at K0 K1 K2 L0 ⊢
  clear hX
  have hX3 : w.heap.size + 1 + 1 < X.heap.size := K2.lt
  obtain ⟨v1, hv1⟩ : ∃ b, Hid (V.sp = b) := ⟨_, (rfl : V.sp = _)⟩
  obtain ⟨v2, hv2⟩ : ∃ b, Hid (V.kl = b) := ⟨_, (rfl : V.kl = _)⟩
  rw [hv1.out, hv2.out] at K0
  rw [hv1.out, hv2.out]
  have K0 := Hid.mk' K0
  have K1 := Hid.mk' K1
  have K2 := Hid.mk' K2
  have LX : Hid (Below X.heap.size X X) := Below.refl _ _
  refine wp_region_held_drew (S := fun w' => Blk w' w.heap.size #[.slice a0 V.l0.length c0, .slice a1 V.l1.length c1, .slice a2 V.l2.length c2, .slice a3 V.l3.length c3, .slice a4 V.l4.length c4, .slice a5 V.l5.length c5, .slice a6 V.l6.length c6, .slice a7 V.l7.length c7, .bool v1, .bool v2] 27 ∧ Blk w' (w.heap.size + 1) #[.slice b0 U.l0.length d0, .slice b1 U.l1.length d1, .slice b2 U.l2.length d2, .slice b3 U.l3.length d3, .slice b4 U.l4.length d4, .slice b5 U.l5.length d5, .slice b6 U.l6.length d6, .slice b7 U.l7.length d7, .bool U.sp, .bool U.kl] 27) (by kernel_rfl) ?_ (fun hHeld => ?_)
  · exact ⟨K0.out, K1.out⟩
  refine wpAnyH_one (i := 0) (d := 5) (v := ?_) rfl rfl (by kernel_rfl) (by kernel_rfl) (by kernel_rfl) (fun _ _ _ h => h) (by rfl) (by assumption) ?_ ?_
  rotate_left 1
  · intro w hSw; (try dsimp only at hSw); go_simp <;> with_reducible rfl
  simp only [List.foldl, Act.put, List.setIfInBounds_toArray, List.set_cons_zero, List.set_cons_succ]
  refine wpAnyH_one (i := 1) (d := 6) (v := ?_) rfl rfl (by kernel_rfl) (by kernel_rfl) (by kernel_rfl) (fun _ _ _ h => h) (by rfl) (by assumption) ?_ ?_
  rotate_left 1
  · intro w hSw; (try dsimp only at hSw); obtain ⟨q0, q1⟩ := hSw; obtain ⟨x0, x1, x2, x3, x4, x5, x6, x7, x8, x9, xf⟩ := q0.ten; go_simp <;> with_reducible rfl
  simp only [List.foldl, Act.put, List.setIfInBounds_toArray, List.set_cons_zero, List.set_cons_succ]
  refine wpAnyH_one (i := 2) (d := 7) (v := ?_) rfl rfl (by kernel_rfl) (by kernel_rfl) (by kernel_rfl) (fun _ _ _ h => h) (by rfl) (by assumption) ?_ ?_
  rotate_left 1
  · intro w hSw; (try dsimp only at hSw); go_simp <;> with_reducible rfl
  simp only [List.foldl, Act.put, List.setIfInBounds_toArray, List.set_cons_zero, List.set_cons_succ]
  refine wpAnyH_one (i := 3) (d := 8) (v := ?_) rfl rfl (by kernel_rfl) (by kernel_rfl) (by kernel_rfl) (fun _ _ _ h => h) (by rfl) (by assumption) ?_ ?_
  rotate_left 1
  · intro w hSw; (try dsimp only at hSw); obtain ⟨q0, q1⟩ := hSw; obtain ⟨x0, x1, x2, x3, x4, x5, x6, x7, x8, x9, xf⟩ := q1.ten; go_simp <;> with_reducible rfl
  simp only [List.foldl, Act.put, List.setIfInBounds_toArray, List.set_cons_zero, List.set_cons_succ]
  refine wpAnyH_one (i := 5) (d := 10) (v := ?_) rfl rfl (by kernel_rfl) (by kernel_rfl) (by kernel_rfl) (fun _ _ _ h => h) (by rfl) (by assumption) ?_ ?_
  rotate_left 1
  · intro w hSw; (try dsimp only at hSw); go_simp <;> with_reducible rfl
  simp only [List.foldl, Act.put, List.setIfInBounds_toArray, List.set_cons_zero, List.set_cons_succ]
  refine wpAnyH_one (i := 6) (d := 11) (v := ?_) rfl rfl (by kernel_rfl) (by kernel_rfl) (by kernel_rfl) (fun _ _ _ h => h) (by rfl) (by assumption) ?_ ?_
  rotate_left 1
  · intro w hSw; (try dsimp only at hSw); obtain ⟨q0, q1⟩ := hSw; obtain ⟨x0, x1, x2, x3, x4, x5, x6, x7, x8, x9, xf⟩ := q0.ten; go_simp <;> with_reducible rfl
  simp only [List.foldl, Act.put, List.setIfInBounds_toArray, List.set_cons_zero, List.set_cons_succ]
  refine wpAnyH_one (i := 7) (d := 12) (v := ?_) rfl rfl (by kernel_rfl) (by kernel_rfl) (by kernel_rfl) (fun _ _ _ h => h) (by rfl) (by assumption) ?_ ?_
  rotate_left 1
  · intro w hSw; (try dsimp only at hSw); go_simp <;> with_reducible rfl
  simp only [List.foldl, Act.put, List.setIfInBounds_toArray, List.set_cons_zero, List.set_cons_succ]
  refine wpAnyH_one (i := 8) (d := 13) (v := ?_) rfl rfl (by kernel_rfl) (by kernel_rfl) (by kernel_rfl) (fun _ _ _ h => h) (by rfl) (by assumption) ?_ ?_
  rotate_left 1
  · intro w hSw; (try dsimp only at hSw); obtain ⟨q0, q1⟩ := hSw; obtain ⟨x0, x1, x2, x3, x4, x5, x6, x7, x8, x9, xf⟩ := q1.ten; go_simp <;> with_reducible rfl
  simp only [List.foldl, Act.put, List.setIfInBounds_toArray, List.set_cons_zero, List.set_cons_succ]
  refine wpAnyH_one (i := 10) (d := 15) (v := ?_) rfl rfl (by kernel_rfl) (by kernel_rfl) (by kernel_rfl) (fun _ _ _ h => h) (by rfl) (by assumption) ?_ ?_
  rotate_left 1
  · intro w hSw; (try dsimp only at hSw); go_simp <;> with_reducible rfl
  simp only [List.foldl, Act.put, List.setIfInBounds_toArray, List.set_cons_zero, List.set_cons_succ]
  refine wpAnyH_one (i := 11) (d := 16) (v := ?_) rfl rfl (by kernel_rfl) (by kernel_rfl) (by kernel_rfl) (fun _ _ _ h => h) (by rfl) (by assumption) ?_ ?_
  rotate_left 1
  · intro w hSw; (try dsimp only at hSw); obtain ⟨q0, q1⟩ := hSw; obtain ⟨x0, x1, x2, x3, x4, x5, x6, x7, x8, x9, xf⟩ := q0.ten; go_simp <;> with_reducible rfl
  simp only [List.foldl, Act.put, List.setIfInBounds_toArray, List.set_cons_zero, List.set_cons_succ]
  refine wpAnyH_one (i := 12) (d := 17) (v := ?_) rfl rfl (by kernel_rfl) (by kernel_rfl) (by kernel_rfl) (fun _ _ _ h => h) (by rfl) (by assumption) ?_ ?_
  rotate_left 1
  · intro w hSw; (try dsimp only at hSw); go_simp <;> with_reducible rfl
  simp only [List.foldl, Act.put, List.setIfInBounds_toArray, List.set_cons_zero, List.set_cons_succ]
  refine wpAnyH_one (i := 13) (d := 18) (v := ?_) rfl rfl (by kernel_rfl) (by kernel_rfl) (by kernel_rfl) (fun _ _ _ h => h) (by rfl) (by assumption) ?_ ?_
  rotate_left 1
  · intro w hSw; (try dsimp only at hSw); obtain ⟨q0, q1⟩ := hSw; obtain ⟨x0, x1, x2, x3, x4, x5, x6, x7, x8, x9, xf⟩ := q1.ten; go_simp <;> with_reducible rfl
  simp only [List.foldl, Act.put, List.setIfInBounds_toArray, List.set_cons_zero, List.set_cons_succ]
  refine wpAnyH_one (i := 15) (d := 20) (v := ?_) rfl rfl (by kernel_rfl) (by kernel_rfl) (by kernel_rfl) (fun _ _ _ h => h) (by rfl) (by assumption) ?_ ?_
  rotate_left 1
  · intro w hSw; (try dsimp only at hSw); go_simp <;> with_reducible rfl
  simp only [List.foldl, Act.put, List.setIfInBounds_toArray, List.set_cons_zero, List.set_cons_succ]
  refine wpAnyH_one (i := 16) (d := 21) (v := ?_) rfl rfl (by kernel_rfl) (by kernel_rfl) (by kernel_rfl) (fun _ _ _ h => h) (by rfl) (by assumption) ?_ ?_
  rotate_left 1
  · intro w hSw; (try dsimp only at hSw); obtain ⟨q0, q1⟩ := hSw; obtain ⟨x0, x1, x2, x3, x4, x5, x6, x7, x8, x9, xf⟩ := q0.ten; go_simp <;> with_reducible rfl
  simp only [List.foldl, Act.put, List.setIfInBounds_toArray, List.set_cons_zero, List.set_cons_succ]
  refine wpAnyH_one (i := 17) (d := 22) (v := ?_) rfl rfl (by kernel_rfl) (by kernel_rfl) (by kernel_rfl) (fun _ _ _ h => h) (by rfl) (by assumption) ?_ ?_
  rotate_left 1
  · intro w hSw; (try dsimp only at hSw); go_simp <;> with_reducible rfl
  simp only [List.foldl, Act.put, List.setIfInBounds_toArray, List.set_cons_zero, List.set_cons_succ]
  refine wpAnyH_one (i := 18) (d := 23) (v := ?_) rfl rfl (by kernel_rfl) (by kernel_rfl) (by kernel_rfl) (fun _ _ _ h => h) (by rfl) (by assumption) ?_ ?_
  rotate_left 1
  · intro w hSw; (try dsimp only at hSw); obtain ⟨q0, q1⟩ := hSw; obtain ⟨x0, x1, x2, x3, x4, x5, x6, x7, x8, x9, xf⟩ := q1.ten; go_simp <;> with_reducible rfl
  simp only [List.foldl, Act.put, List.setIfInBounds_toArray, List.set_cons_zero, List.set_cons_succ]
  refine wpAnyH_one (i := 20) (d := 25) (v := ?_) rfl rfl (by kernel_rfl) (by kernel_rfl) (by kernel_rfl) (fun _ _ _ h => h) (by rfl) (by assumption) ?_ ?_
  rotate_left 1
  · intro w hSw; (try dsimp only at hSw); go_simp <;> with_reducible rfl
  simp only [List.foldl, Act.put, List.setIfInBounds_toArray, List.set_cons_zero, List.set_cons_succ]
  refine wpAnyH_one (i := 21) (d := 26) (v := ?_) rfl rfl (by kernel_rfl) (by kernel_rfl) (by kernel_rfl) (fun _ _ _ h => h) (by rfl) (by assumption) ?_ ?_
  rotate_left 1
  · intro w hSw; (try dsimp only at hSw); obtain ⟨q0, q1⟩ := hSw; obtain ⟨x0, x1, x2, x3, x4, x5, x6, x7, x8, x9, xf⟩ := q0.ten; go_simp <;> with_reducible rfl
  simp only [List.foldl, Act.put, List.setIfInBounds_toArray, List.set_cons_zero, List.set_cons_succ]
  refine wpAnyH_one (i := 22) (d := 27) (v := ?_) rfl rfl (by kernel_rfl) (by kernel_rfl) (by kernel_rfl) (fun _ _ _ h => h) (by rfl) (by assumption) ?_ ?_
  rotate_left 1
  · intro w hSw; (try dsimp only at hSw); go_simp <;> with_reducible rfl
  simp only [List.foldl, Act.put, List.setIfInBounds_toArray, List.set_cons_zero, List.set_cons_succ]
  refine wpAnyH_one (i := 23) (d := 28) (v := ?_) rfl rfl (by kernel_rfl) (by kernel_rfl) (by kernel_rfl) (fun _ _ _ h => h) (by rfl) (by assumption) ?_ ?_
  rotate_left 1
  · intro w hSw; (try dsimp only at hSw); obtain ⟨q0, q1⟩ := hSw; obtain ⟨x0, x1, x2, x3, x4, x5, x6, x7, x8, x9, xf⟩ := q1.ten; go_simp <;> with_reducible rfl
  simp only [List.foldl, Act.put, List.setIfInBounds_toArray, List.set_cons_zero, List.set_cons_succ]
  refine wpAnyH_one (i := 25) (d := 30) (v := ?_) rfl rfl (by kernel_rfl) (by kernel_rfl) (by kernel_rfl) (fun _ _ _ h => h) (by rfl) (by assumption) ?_ ?_
  rotate_left 1
  · intro w hSw; (try dsimp only at hSw); go_simp <;> with_reducible rfl
  simp only [List.foldl, Act.put, List.setIfInBounds_toArray, List.set_cons_zero, List.set_cons_succ]
  refine wpAnyH_one (i := 26) (d := 31) (v := ?_) rfl rfl (by kernel_rfl) (by kernel_rfl) (by kernel_rfl) (fun _ _ _ h => h) (by rfl) (by assumption) ?_ ?_
  rotate_left 1
  · intro w hSw; (try dsimp only at hSw); obtain ⟨q0, q1⟩ := hSw; obtain ⟨x0, x1, x2, x3, x4, x5, x6, x7, x8, x9, xf⟩ := q0.ten; go_simp <;> with_reducible rfl
  simp only [List.foldl, Act.put, List.setIfInBounds_toArray, List.set_cons_zero, List.set_cons_succ]
  refine wpAnyH_one (i := 27) (d := 32) (v := ?_) rfl rfl (by kernel_rfl) (by kernel_rfl) (by kernel_rfl) (fun _ _ _ h => h) (by rfl) (by assumption) ?_ ?_
  rotate_left 1
  · intro w hSw; (try dsimp only at hSw); go_simp <;> with_reducible rfl
  simp only [List.foldl, Act.put, List.setIfInBounds_toArray, List.set_cons_zero, List.set_cons_succ]
  refine wpAnyH_one (i := 28) (d := 33) (v := ?_) rfl rfl (by kernel_rfl) (by kernel_rfl) (by kernel_rfl) (fun _ _ _ h => h) (by rfl) (by assumption) ?_ ?_
  rotate_left 1
  · intro w hSw; (try dsimp only at hSw); obtain ⟨q0, q1⟩ := hSw; obtain ⟨x0, x1, x2, x3, x4, x5, x6, x7, x8, x9, xf⟩ := q1.ten; go_simp <;> with_reducible rfl
  simp only [List.foldl, Act.put, List.setIfInBounds_toArray, List.set_cons_zero, List.set_cons_succ]
  refine wpAnyH_one (i := 30) (d := 35) (v := ?_) rfl rfl (by kernel_rfl) (by kernel_rfl) (by kernel_rfl) (fun _ _ _ h => h) (by rfl) (by assumption) ?_ ?_
  rotate_left 1
  · intro w hSw; (try dsimp only at hSw); go_simp <;> with_reducible rfl
  simp only [List.foldl, Act.put, List.setIfInBounds_toArray, List.set_cons_zero, List.set_cons_succ]
  refine wpAnyH_one (i := 31) (d := 36) (v := ?_) rfl rfl (by kernel_rfl) (by kernel_rfl) (by kernel_rfl) (fun _ _ _ h => h) (by rfl) (by assumption) ?_ ?_
  rotate_left 1
  · intro w hSw; (try dsimp only at hSw); obtain ⟨q0, q1⟩ := hSw; obtain ⟨x0, x1, x2, x3, x4, x5, x6, x7, x8, x9, xf⟩ := q0.ten; go_simp <;> with_reducible rfl
  simp only [List.foldl, Act.put, List.setIfInBounds_toArray, List.set_cons_zero, List.set_cons_succ]
  refine wpAnyH_one (i := 32) (d := 37) (v := ?_) rfl rfl (by kernel_rfl) (by kernel_rfl) (by kernel_rfl) (fun _ _ _ h => h) (by rfl) (by assumption) ?_ ?_
  rotate_left 1
  · intro w hSw; (try dsimp only at hSw); go_simp <;> with_reducible rfl
  simp only [List.foldl, Act.put, List.setIfInBounds_toArray, List.set_cons_zero, List.set_cons_succ]
  refine wpAnyH_one (i := 33) (d := 38) (v := ?_) rfl rfl (by kernel_rfl) (by kernel_rfl) (by kernel_rfl) (fun _ _ _ h => h) (by rfl) (by assumption) ?_ ?_
  rotate_left 1
  · intro w hSw; (try dsimp only at hSw); obtain ⟨q0, q1⟩ := hSw; obtain ⟨x0, x1, x2, x3, x4, x5, x6, x7, x8, x9, xf⟩ := q1.ten; go_simp <;> with_reducible rfl
  simp only [List.foldl, Act.put, List.setIfInBounds_toArray, List.set_cons_zero, List.set_cons_succ]
  refine wpAnyH_one (i := 35) (d := 40) (v := ?_) rfl rfl (by kernel_rfl) (by kernel_rfl) (by kernel_rfl) (fun _ _ _ h => h) (by rfl) (by assumption) ?_ ?_
  rotate_left 1
  · intro w hSw; (try dsimp only at hSw); go_simp <;> with_reducible rfl
  simp only [List.foldl, Act.put, List.setIfInBounds_toArray, List.set_cons_zero, List.set_cons_succ]
  refine wpAnyH_one (i := 36) (d := 41) (v := ?_) rfl rfl (by kernel_rfl) (by kernel_rfl) (by kernel_rfl) (fun _ _ _ h => h) (by rfl) (by assumption) ?_ ?_
  rotate_left 1
  · intro w hSw; (try dsimp only at hSw); obtain ⟨q0, q1⟩ := hSw; obtain ⟨x0, x1, x2, x3, x4, x5, x6, x7, x8, x9, xf⟩ := q0.ten; go_simp <;> with_reducible rfl
  simp only [List.foldl, Act.put, List.setIfInBounds_toArray, List.set_cons_zero, List.set_cons_succ]
  refine wpAnyH_one (i := 37) (d := 42) (v := ?_) rfl rfl (by kernel_rfl) (by kernel_rfl) (by kernel_rfl) (fun _ _ _ h => h) (by rfl) (by assumption) ?_ ?_
  rotate_left 1
  · intro w hSw; (try dsimp only at hSw); go_simp <;> with_reducible rfl
  simp only [List.foldl, Act.put, List.setIfInBounds_toArray, List.set_cons_zero, List.set_cons_succ]
  refine wpAnyH_one (i := 38) (d := 43) (v := ?_) rfl rfl (by kernel_rfl) (by kernel_rfl) (by kernel_rfl) (fun _ _ _ h => h) (by rfl) (by assumption) ?_ ?_
  rotate_left 1
  · intro w hSw; (try dsimp only at hSw); obtain ⟨q0, q1⟩ := hSw; obtain ⟨x0, x1, x2, x3, x4, x5, x6, x7, x8, x9, xf⟩ := q1.ten; go_simp <;> with_reducible rfl
  simp only [List.foldl, Act.put, List.setIfInBounds_toArray, List.set_cons_zero, List.set_cons_succ]
  refine wpAnyH_one (i := 40) (d := 45) (v := ?_) rfl rfl (by kernel_rfl) (by kernel_rfl) (by kernel_rfl) (fun _ _ _ h => h) (by rfl) (by assumption) ?_ ?_
  rotate_left 1
  · intro w hSw; (try dsimp only at hSw); go_simp <;> with_reducible rfl
  simp only [List.foldl, Act.put, List.setIfInBounds_toArray, List.set_cons_zero, List.set_cons_succ]
  refine wpAnyH_one (i := 41) (d := 46) (v := ?_) rfl rfl (by kernel_rfl) (by kernel_rfl) (by kernel_rfl) (fun _ _ _ h => h) (by rfl) (by assumption) ?_ ?_
  rotate_left 1
  · intro w hSw; (try dsimp only at hSw); obtain ⟨q0, q1⟩ := hSw; obtain ⟨x0, x1, x2, x3, x4, x5, x6, x7, x8, x9, xf⟩ := q0.ten; go_simp <;> with_reducible rfl
  simp only [List.foldl, Act.put, List.setIfInBounds_toArray, List.set_cons_zero, List.set_cons_succ]
  refine wpAnyH_one (i := 46) (d := 51) (v := ?_) rfl rfl (by kernel_rfl) (by kernel_rfl) (by kernel_rfl) (fun _ _ _ h => h) (by rfl) (by assumption) ?_ ?_
  rotate_left 1
  · intro w hSw; (try dsimp only at hSw); go_simp <;> with_reducible rfl
  simp only [List.foldl, Act.put, List.setIfInBounds_toArray, List.set_cons_zero, List.set_cons_succ]
  refine wpAnyH_one (i := 47) (d := 52) (v := ?_) rfl rfl (by kernel_rfl) (by kernel_rfl) (by kernel_rfl) (fun _ _ _ h => h) (by rfl) (by assumption) ?_ ?_
  rotate_left 1
  · intro w hSw; (try dsimp only at hSw); obtain ⟨q0, q1⟩ := hSw; obtain ⟨x0, x1, x2, x3, x4, x5, x6, x7, x8, x9, xf⟩ := q0.ten; go_simp <;> with_reducible rfl
  simp only [List.foldl, Act.put, List.setIfInBounds_toArray, List.set_cons_zero, List.set_cons_succ]
  refine wpAnyH_ready (rs := [4]) (by kernel_rfl) (by simp) ?_
  refine AllReadyH.cons rfl (fun K hK => ?_) AllReadyH.nil
  go_simp
  refine (l10Union_any a0 b0 c0 d0 V.l0 U.l0 B C _ (HV.out.p0.later cInt_keeps (bl_trans L0 (bl_drew LX.out))) (HU.out.p0.later cInt_keeps (bl_trans L0 (bl_drew LX.out))) (by omega) (by omega)).mono ?_
  rintro z g0 ⟨⟨p0, n0, R0, rfl, o0, h0⟩, hb0⟩
  have hc : Below X.heap.size X g0 := bl_trans (bl_drew (Below.refl _ _)) hb0
  have hlo : X.heap.size ≤ X.heap.size := LX.out.size
  have LX : Hid (Below X.heap.size X g0) := bl_trans LX.out hc
  have O0 : Hid (OI g0 X.heap.size (.slice p0 R0.length n0) R0) := o0.mono (by first | exact hlo | (simp only [World.size_drew]; exact hlo))
  have H0 : Hid (Srt (V.l0 ++ U.l0) R0) := h0
  have K0 : Hid (Blk g0 w.heap.size #[.slice a0 V.l0.length c0, .slice a1 V.l1.length c1, .slice a2 V.l2.length c2, .slice a3 V.l3.length c3, .slice a4 V.l4.length c4, .slice a5 V.l5.length c5, .slice a6 V.l6.length c6, .slice a7 V.l7.length c7, .bool v1, .bool v2] 27) := K0.out.later hc
  have K1 : Hid (Blk g0 (w.heap.size + 1) #[.slice b0 U.l0.length d0, .slice b1 U.l1.length d1, .slice b2 U.l2.length d2, .slice b3 U.l3.length d3, .slice b4 U.l4.length d4, .slice b5 U.l5.length d5, .slice b6 U.l6.length d6, .slice b7 U.l7.length d7, .bool U.sp, .bool U.kl] 27) := K1.out.later hc
  have K2 : Hid (Blk g0 (w.heap.size + 1 + 1) #[.slice none 0 0, .slice none 0 0, .slice none 0 0, .slice none 0 0, .slice none 0 0, .slice none 0 0, .slice none 0 0, .slice none 0 0, .bool false, .bool false] 27) := K2.out.later hc
  clear hb0 hc hlo o0 h0
  refine hK.out _ _ ?_ (fun hHeld => ?_)
  · exact ⟨K0.out, K1.out⟩
  clear hK K
  try simp only [List.foldl, Act.put, List.setIfInBounds_toArray, List.set_cons_zero, List.set_cons_succ]
  refine wpAnyH_ready (rs := [9]) (by kernel_rfl) (by simp) ?_
  refine AllReadyH.cons rfl (fun K hK => ?_) AllReadyH.nil
  go_simp
  refine (l10Union_any a1 b1 c1 d1 V.l1 U.l1 B C _ (HV.out.p1.later cInt_keeps (bl_trans L0 LX.out)) (HU.out.p1.later cInt_keeps (bl_trans L0 LX.out)) (by omega) (by omega)).mono ?_
  rintro z g1 ⟨⟨p1, n1, R1, rfl, o1, h1⟩, hb0⟩
  have hc : Below g0.heap.size g0 g1 := hb0
  have hlo : X.heap.size ≤ g0.heap.size := LX.out.size
  have LX : Hid (Below X.heap.size X g1) := bl_trans LX.out hc
  have O1 : Hid (OI g1 X.heap.size (.slice p1 R1.length n1) R1) := o1.mono (by first | exact hlo | (simp only [World.size_drew]; exact hlo))
  have H1 : Hid (Srt (V.l1 ++ U.l1) R1) := h1
  have O0 : Hid (OI g1 X.heap.size (.slice p0 R0.length n0) R0) := O0.out.later hc
  have K0 : Hid (Blk g1 w.heap.size #[.slice a0 V.l0.length c0, .slice a1 V.l1.length c1, .slice a2 V.l2.length c2, .slice a3 V.l3.length c3, .slice a4 V.l4.length c4, .slice a5 V.l5.length c5, .slice a6 V.l6.length c6, .slice a7 V.l7.length c7, .bool v1, .bool v2] 27) := K0.out.later hc
  have K1 : Hid (Blk g1 (w.heap.size + 1) #[.slice b0 U.l0.length d0, .slice b1 U.l1.length d1, .slice b2 U.l2.length d2, .slice b3 U.l3.length d3, .slice b4 U.l4.length d4, .slice b5 U.l5.length d5, .slice b6 U.l6.length d6, .slice b7 U.l7.length d7, .bool U.sp, .bool U.kl] 27) := K1.out.later hc
  have K2 : Hid (Blk g1 (w.heap.size + 1 + 1) #[.slice none 0 0, .slice none 0 0, .slice none 0 0, .slice none 0 0, .slice none 0 0, .slice none 0 0, .slice none 0 0, .slice none 0 0, .bool false, .bool false] 27) := K2.out.later hc
  clear hb0 hc hlo o1 h1
  refine hK.out _ _ ?_ (fun hHeld => ?_)
  · exact ⟨K0.out, K1.out⟩
  clear hK K
  try simp only [List.foldl, Act.put, List.setIfInBounds_toArray, List.set_cons_zero, List.set_cons_succ]
  refine wpAnyH_ready (rs := [14]) (by kernel_rfl) (by simp) ?_
  refine AllReadyH.cons rfl (fun K hK => ?_) AllReadyH.nil
  go_simp
  refine (l10Union_any a2 b2 c2 d2 V.l2 U.l2 B C _ (HV.out.p2.later cInt_keeps (bl_trans L0 LX.out)) (HU.out.p2.later cInt_keeps (bl_trans L0 LX.out)) (by omega) (by omega)).mono ?_
  rintro z g2 ⟨⟨p2, n2, R2, rfl, o2, h2⟩, hb0⟩
  have hc : Below g1.heap.size g1 g2 := hb0
  have hlo : X.heap.size ≤ g1.heap.size := LX.out.size
  have LX : Hid (Below X.heap.size X g2) := bl_trans LX.out hc
  have O2 : Hid (OI g2 X.heap.size (.slice p2 R2.length n2) R2) := o2.mono (by first | exact hlo | (simp only [World.size_drew]; exact hlo))
  have H2 : Hid (Srt (V.l2 ++ U.l2) R2) := h2
  have O0 : Hid (OI g2 X.heap.size (.slice p0 R0.length n0) R0) := O0.out.later hc
  have O1 : Hid (OI g2 X.heap.size (.slice p1 R1.length n1) R1) := O1.out.later hc
  have K0 : Hid (Blk g2 w.heap.size #[.slice a0 V.l0.length c0, .slice a1 V.l1.length c1, .slice a2 V.l2.length c2, .slice a3 V.l3.length c3, .slice a4 V.l4.length c4, .slice a5 V.l5.length c5, .slice a6 V.l6.length c6, .slice a7 V.l7.length c7, .bool v1, .bool v2] 27) := K0.out.later hc
  have K1 : Hid (Blk g2 (w.heap.size + 1) #[.slice b0 U.l0.length d0, .slice b1 U.l1.length d1, .slice b2 U.l2.length d2, .slice b3 U.l3.length d3, .slice b4 U.l4.length d4, .slice b5 U.l5.length d5, .slice b6 U.l6.length d6, .slice b7 U.l7.length d7, .bool U.sp, .bool U.kl] 27) := K1.out.later hc
  have K2 : Hid (Blk g2 (w.heap.size + 1 + 1) #[.slice none 0 0, .slice none 0 0, .slice none 0 0, .slice none 0 0, .slice none 0 0, .slice none 0 0, .slice none 0 0, .slice none 0 0, .bool false, .bool false] 27) := K2.out.later hc
  clear hb0 hc hlo o2 h2
  refine hK.out _ _ ?_ (fun hHeld => ?_)
  · exact ⟨K0.out, K1.out⟩
  clear hK K
  try simp only [List.foldl, Act.put, List.setIfInBounds_toArray, List.set_cons_zero, List.set_cons_succ]
  refine wpAnyH_ready (rs := [19]) (by kernel_rfl) (by simp) ?_
  refine AllReadyH.cons rfl (fun K hK => ?_) AllReadyH.nil
  go_simp
  refine (l10Union_any a3 b3 c3 d3 V.l3 U.l3 B C _ (HV.out.p3.later cInt_keeps (bl_trans L0 LX.out)) (HU.out.p3.later cInt_keeps (bl_trans L0 LX.out)) (by omega) (by omega)).mono ?_
  rintro z g3 ⟨⟨p3, n3, R3, rfl, o3, h3⟩, hb0⟩
  have hc : Below g2.heap.size g2 g3 := hb0
  have hlo : X.heap.size ≤ g2.heap.size := LX.out.size
  have LX : Hid (Below X.heap.size X g3) := bl_trans LX.out hc
  have O3 : Hid (OI g3 X.heap.size (.slice p3 R3.length n3) R3) := o3.mono (by first | exact hlo | (simp only [World.size_drew]; exact hlo))
  have H3 : Hid (Srt (V.l3 ++ U.l3) R3) := h3
  have O0 : Hid (OI g3 X.heap.size (.slice p0 R0.length n0) R0) := O0.out.later hc
  have O1 : Hid (OI g3 X.heap.size (.slice p1 R1.length n1) R1) := O1.out.later hc
  have O2 : Hid (OI g3 X.heap.size (.slice p2 R2.length n2) R2) := O2.out.later hc
  have K0 : Hid (Blk g3 w.heap.size #[.slice a0 V.l0.length c0, .slice a1 V.l1.length c1, .slice a2 V.l2.length c2, .slice a3 V.l3.length c3, .slice a4 V.l4.length c4, .slice a5 V.l5.length c5, .slice a6 V.l6.length c6, .slice a7 V.l7.length c7, .bool v1, .bool v2] 27) := K0.out.later hc
  have K1 : Hid (Blk g3 (w.heap.size + 1) #[.slice b0 U.l0.length d0, .slice b1 U.l1.length d1, .slice b2 U.l2.length d2, .slice b3 U.l3.length d3, .slice b4 U.l4.length d4, .slice b5 U.l5.length d5, .slice b6 U.l6.length d6, .slice b7 U.l7.length d7, .bool U.sp, .bool U.kl] 27) := K1.out.later hc
  have K2 : Hid (Blk g3 (w.heap.size + 1 + 1) #[.slice none 0 0, .slice none 0 0, .slice none 0 0, .slice none 0 0, .slice none 0 0, .slice none 0 0, .slice none 0 0, .slice none 0 0, .bool false, .bool false] 27) := K2.out.later hc
  clear hb0 hc hlo o3 h3
  refine hK.out _ _ ?_ (fun hHeld => ?_)
  · exact ⟨K0.out, K1.out⟩
  clear hK K
  try simp only [List.foldl, Act.put, List.setIfInBounds_toArray, List.set_cons_zero, List.set_cons_succ]
  refine wpAnyH_ready (rs := [24]) (by kernel_rfl) (by simp) ?_
  refine AllReadyH.cons rfl (fun K hK => ?_) AllReadyH.nil
  go_simp
  refine (l10Union_any a4 b4 c4 d4 V.l4 U.l4 B C _ (HV.out.p4.later cInt_keeps (bl_trans L0 LX.out)) (HU.out.p4.later cInt_keeps (bl_trans L0 LX.out)) (by omega) (by omega)).mono ?_
  rintro z g4 ⟨⟨p4, n4, R4, rfl, o4, h4⟩, hb0⟩
  have hc : Below g3.heap.size g3 g4 := hb0
  have hlo : X.heap.size ≤ g3.heap.size := LX.out.size
  have LX : Hid (Below X.heap.size X g4) := bl_trans LX.out hc
  have O4 : Hid (OI g4 X.heap.size (.slice p4 R4.length n4) R4) := o4.mono (by first | exact hlo | (simp only [World.size_drew]; exact hlo))
  have H4 : Hid (Srt (V.l4 ++ U.l4) R4) := h4
  have O0 : Hid (OI g4 X.heap.size (.slice p0 R0.length n0) R0) := O0.out.later hc
  have O1 : Hid (OI g4 X.heap.size (.slice p1 R1.length n1) R1) := O1.out.later hc
  have O2 : Hid (OI g4 X.heap.size (.slice p2 R2.length n2) R2) := O2.out.later hc
  have O3 : Hid (OI g4 X.heap.size (.slice p3 R3.length n3) R3) := O3.out.later hc
  have K0 : Hid (Blk g4 w.heap.size #[.slice a0 V.l0.length c0, .slice a1 V.l1.length c1, .slice a2 V.l2.length c2, .slice a3 V.l3.length c3, .slice a4 V.l4.length c4, .slice a5 V.l5.length c5, .slice a6 V.l6.length c6, .slice a7 V.l7.length c7, .bool v1, .bool v2] 27) := K0.out.later hc
  have K1 : Hid (Blk g4 (w.heap.size + 1) #[.slice b0 U.l0.length d0, .slice b1 U.l1.length d1, .slice b2 U.l2.length d2, .slice b3 U.l3.length d3, .slice b4 U.l4.length d4, .slice b5 U.l5.length d5, .slice b6 U.l6.length d6, .slice b7 U.l7.length d7, .bool U.sp, .bool U.kl] 27) := K1.out.later hc
  have K2 : Hid (Blk g4 (w.heap.size + 1 + 1) #[.slice none 0 0, .slice none 0 0, .slice none 0 0, .slice none 0 0, .slice none 0 0, .slice none 0 0, .slice none 0 0, .slice none 0 0, .bool false, .bool false] 27) := K2.out.later hc
  clear hb0 hc hlo o4 h4
  refine hK.out _ _ ?_ (fun hHeld => ?_)
  · exact ⟨K0.out, K1.out⟩
  clear hK K
  try simp only [List.foldl, Act.put, List.setIfInBounds_toArray, List.set_cons_zero, List.set_cons_succ]
  refine wpAnyH_ready (rs := [29]) (by kernel_rfl) (by simp) ?_
  refine AllReadyH.cons rfl (fun K hK => ?_) AllReadyH.nil
  go_simp
  refine (l10Union_any a5 b5 c5 d5 V.l5 U.l5 B C _ (HV.out.p5.later cInt_keeps (bl_trans L0 LX.out)) (HU.out.p5.later cInt_keeps (bl_trans L0 LX.out)) (by omega) (by omega)).mono ?_
  rintro z g5 ⟨⟨p5, n5, R5, rfl, o5, h5⟩, hb0⟩
  have hc : Below g4.heap.size g4 g5 := hb0
  have hlo : X.heap.size ≤ g4.heap.size := LX.out.size
  have LX : Hid (Below X.heap.size X g5) := bl_trans LX.out hc
  have O5 : Hid (OI g5 X.heap.size (.slice p5 R5.length n5) R5) := o5.mono (by first | exact hlo | (simp only [World.size_drew]; exact hlo))
  have H5 : Hid (Srt (V.l5 ++ U.l5) R5) := h5
  have O0 : Hid (OI g5 X.heap.size (.slice p0 R0.length n0) R0) := O0.out.later hc
  have O1 : Hid (OI g5 X.heap.size (.slice p1 R1.length n1) R1) := O1.out.later hc
  have O2 : Hid (OI g5 X.heap.size (.slice p2 R2.length n2) R2) := O2.out.later hc
  have O3 : Hid (OI g5 X.heap.size (.slice p3 R3.length n3) R3) := O3.out.later hc
  have O4 : Hid (OI g5 X.heap.size (.slice p4 R4.length n4) R4) := O4.out.later hc
  have K0 : Hid (Blk g5 w.heap.size #[.slice a0 V.l0.length c0, .slice a1 V.l1.length c1, .slice a2 V.l2.length c2, .slice a3 V.l3.length c3, .slice a4 V.l4.length c4, .slice a5 V.l5.length c5, .slice a6 V.l6.length c6, .slice a7 V.l7.length c7, .bool v1, .bool v2] 27) := K0.out.later hc
  have K1 : Hid (Blk g5 (w.heap.size + 1) #[.slice b0 U.l0.length d0, .slice b1 U.l1.length d1, .slice b2 U.l2.length d2, .slice b3 U.l3.length d3, .slice b4 U.l4.length d4, .slice b5 U.l5.length d5, .slice b6 U.l6.length d6, .slice b7 U.l7.length d7, .bool U.sp, .bool U.kl] 27) := K1.out.later hc
  have K2 : Hid (Blk g5 (w.heap.size + 1 + 1) #[.slice none 0 0, .slice none 0 0, .slice none 0 0, .slice none 0 0, .slice none 0 0, .slice none 0 0, .slice none 0 0, .slice none 0 0, .bool false, .bool false] 27) := K2.out.later hc
  clear hb0 hc hlo o5 h5
  refine hK.out _ _ ?_ (fun hHeld => ?_)
  · exact ⟨K0.out, K1.out⟩
  clear hK K
  try simp only [List.foldl, Act.put, List.setIfInBounds_toArray, List.set_cons_zero, List.set_cons_succ]
  refine wpAnyH_ready (rs := [34]) (by kernel_rfl) (by simp) ?_
  refine AllReadyH.cons rfl (fun K hK => ?_) AllReadyH.nil
  go_simp
  refine (l10Union_any a6 b6 c6 d6 V.l6 U.l6 B C _ (HV.out.p6.later cInt_keeps (bl_trans L0 LX.out)) (HU.out.p6.later cInt_keeps (bl_trans L0 LX.out)) (by omega) (by omega)).mono ?_
  rintro z g6 ⟨⟨p6, n6, R6, rfl, o6, h6⟩, hb0⟩
  have hc : Below g5.heap.size g5 g6 := hb0
  have hlo : X.heap.size ≤ g5.heap.size := LX.out.size
  have LX : Hid (Below X.heap.size X g6) := bl_trans LX.out hc
  have O6 : Hid (OI g6 X.heap.size (.slice p6 R6.length n6) R6) := o6.mono (by first | exact hlo | (simp only [World.size_drew]; exact hlo))
  have H6 : Hid (Srt (V.l6 ++ U.l6) R6) := h6
  have O0 : Hid (OI g6 X.heap.size (.slice p0 R0.length n0) R0) := O0.out.later hc
  have O1 : Hid (OI g6 X.heap.size (.slice p1 R1.length n1) R1) := O1.out.later hc
  have O2 : Hid (OI g6 X.heap.size (.slice p2 R2.length n2) R2) := O2.out.later hc
  have O3 : Hid (OI g6 X.heap.size (.slice p3 R3.length n3) R3) := O3.out.later hc
  have O4 : Hid (OI g6 X.heap.size (.slice p4 R4.length n4) R4) := O4.out.later hc
  have O5 : Hid (OI g6 X.heap.size (.slice p5 R5.length n5) R5) := O5.out.later hc
  have K0 : Hid (Blk g6 w.heap.size #[.slice a0 V.l0.length c0, .slice a1 V.l1.length c1, .slice a2 V.l2.length c2, .slice a3 V.l3.length c3, .slice a4 V.l4.length c4, .slice a5 V.l5.length c5, .slice a6 V.l6.length c6, .slice a7 V.l7.length c7, .bool v1, .bool v2] 27) := K0.out.later hc
  have K1 : Hid (Blk g6 (w.heap.size + 1) #[.slice b0 U.l0.length d0, .slice b1 U.l1.length d1, .slice b2 U.l2.length d2, .slice b3 U.l3.length d3, .slice b4 U.l4.length d4, .slice b5 U.l5.length d5, .slice b6 U.l6.length d6, .slice b7 U.l7.length d7, .bool U.sp, .bool U.kl] 27) := K1.out.later hc
  have K2 : Hid (Blk g6 (w.heap.size + 1 + 1) #[.slice none 0 0, .slice none 0 0, .slice none 0 0, .slice none 0 0, .slice none 0 0, .slice none 0 0, .slice none 0 0, .slice none 0 0, .bool false, .bool false] 27) := K2.out.later hc
  clear hb0 hc hlo o6 h6
  refine hK.out _ _ ?_ (fun hHeld => ?_)
  · exact ⟨K0.out, K1.out⟩
  clear hK K
  try simp only [List.foldl, Act.put, List.setIfInBounds_toArray, List.set_cons_zero, List.set_cons_succ]
  refine wpAnyH_ready (rs := [39]) (by kernel_rfl) (by simp) ?_
  refine AllReadyH.cons rfl (fun K hK => ?_) AllReadyH.nil
  go_simp
  refine (l10Union_any a7 b7 c7 d7 V.l7 U.l7 B C _ (HV.out.p7.later cInt_keeps (bl_trans L0 LX.out)) (HU.out.p7.later cInt_keeps (bl_trans L0 LX.out)) (by omega) (by omega)).mono ?_
  rintro z g7 ⟨⟨p7, n7, R7, rfl, o7, h7⟩, hb0⟩
  have hc : Below g6.heap.size g6 g7 := hb0
  have hlo : X.heap.size ≤ g6.heap.size := LX.out.size
  have LX : Hid (Below X.heap.size X g7) := bl_trans LX.out hc
  have O7 : Hid (OI g7 X.heap.size (.slice p7 R7.length n7) R7) := o7.mono (by first | exact hlo | (simp only [World.size_drew]; exact hlo))
  have H7 : Hid (Srt (V.l7 ++ U.l7) R7) := h7
  have O0 : Hid (OI g7 X.heap.size (.slice p0 R0.length n0) R0) := O0.out.later hc
  have O1 : Hid (OI g7 X.heap.size (.slice p1 R1.length n1) R1) := O1.out.later hc
  have O2 : Hid (OI g7 X.heap.size (.slice p2 R2.length n2) R2) := O2.out.later hc
  have O3 : Hid (OI g7 X.heap.size (.slice p3 R3.length n3) R3) := O3.out.later hc
  have O4 : Hid (OI g7 X.heap.size (.slice p4 R4.length n4) R4) := O4.out.later hc
  have O5 : Hid (OI g7 X.heap.size (.slice p5 R5.length n5) R5) := O5.out.later hc
  have O6 : Hid (OI g7 X.heap.size (.slice p6 R6.length n6) R6) := O6.out.later hc
  have K0 : Hid (Blk g7 w.heap.size #[.slice a0 V.l0.length c0, .slice a1 V.l1.length c1, .slice a2 V.l2.length c2, .slice a3 V.l3.length c3, .slice a4 V.l4.length c4, .slice a5 V.l5.length c5, .slice a6 V.l6.length c6, .slice a7 V.l7.length c7, .bool v1, .bool v2] 27) := K0.out.later hc
  have K1 : Hid (Blk g7 (w.heap.size + 1) #[.slice b0 U.l0.length d0, .slice b1 U.l1.length d1, .slice b2 U.l2.length d2, .slice b3 U.l3.length d3, .slice b4 U.l4.length d4, .slice b5 U.l5.length d5, .slice b6 U.l6.length d6, .slice b7 U.l7.length d7, .bool U.sp, .bool U.kl] 27) := K1.out.later hc
  have K2 : Hid (Blk g7 (w.heap.size + 1 + 1) #[.slice none 0 0, .slice none 0 0, .slice none 0 0, .slice none 0 0, .slice none 0 0, .slice none 0 0, .slice none 0 0, .slice none 0 0, .bool false, .bool false] 27) := K2.out.later hc
  clear hb0 hc hlo o7 h7
  refine hK.out _ _ ?_ (fun hHeld => ?_)
  · exact ⟨K0.out, K1.out⟩
  clear hK K
  try simp only [List.foldl, Act.put, List.setIfInBounds_toArray, List.set_cons_zero, List.set_cons_succ]
  refine wpAnyH_one (i := 42) (d := 47) (v := ?_) rfl rfl (by kernel_rfl) (by kernel_rfl) (by kernel_rfl) (fun _ _ _ h => h) (by rfl) (by assumption) ?_ ?_
  rotate_left 1
  · intro w hSw; (try dsimp only at hSw); go_simp <;> with_reducible rfl
  simp only [List.foldl, Act.put, List.setIfInBounds_toArray, List.set_cons_zero, List.set_cons_succ]
  cases v1
  · skip
    refine wpAnyH_one (i := 43) (d := 48) (v := ?_) rfl rfl (by kernel_rfl) (by kernel_rfl) (by kernel_rfl) (fun _ _ _ h => h) (by rfl) (by assumption) ?_ ?_
    rotate_left 1
    · intro w hSw; (try dsimp only at hSw); go_simp <;> with_reducible rfl
    simp only [List.foldl, Act.put, List.setIfInBounds_toArray, List.set_cons_zero, List.set_cons_succ]
    refine wpAnyH_one (i := 44) (d := 49) (v := ?_) rfl rfl (by kernel_rfl) (by kernel_rfl) (by kernel_rfl) (fun _ _ _ h => h) (by rfl) (by assumption) ?_ ?_
    rotate_left 1
    · intro w hSw; (try dsimp only at hSw); obtain ⟨q0, q1⟩ := hSw; obtain ⟨x0, x1, x2, x3, x4, x5, x6, x7, x8, x9, xf⟩ := q1.ten; go_simp <;> with_reducible rfl
    simp only [List.foldl, Act.put, List.setIfInBounds_toArray, List.set_cons_zero, List.set_cons_succ]
    refine wpAnyH_one (i := 45) (d := 50) (v := ?_) rfl rfl (by kernel_rfl) (by kernel_rfl) (by kernel_rfl) (fun _ _ _ h => h) (by rfl) (by assumption) ?_ ?_
    rotate_left 1
    · intro w hSw; (try dsimp only at hSw); go_simp <;> with_reducible rfl
    simp only [List.foldl, Act.put, List.setIfInBounds_toArray, List.set_cons_zero, List.set_cons_succ]
    refine wpAnyH_one (i := 48) (d := 53) (v := ?_) rfl rfl (by kernel_rfl) (by kernel_rfl) (by kernel_rfl) (fun _ _ _ h => h) (by rfl) (by assumption) ?_ ?_
    rotate_left 1
    · intro w hSw; (try dsimp only at hSw); go_simp <;> with_reducible rfl
    simp only [List.foldl, Act.put, List.setIfInBounds_toArray, List.set_cons_zero, List.set_cons_succ]
    cases v2
    · skip
      refine wpAnyH_one (i := 49) (d := 54) (v := ?_) rfl rfl (by kernel_rfl) (by kernel_rfl) (by kernel_rfl) (fun _ _ _ h => h) (by rfl) (by assumption) ?_ ?_
      rotate_left 1
      · intro w hSw; (try dsimp only at hSw); go_simp <;> with_reducible rfl
      simp only [List.foldl, Act.put, List.setIfInBounds_toArray, List.set_cons_zero, List.set_cons_succ]
      refine wpAnyH_one (i := 50) (d := 55) (v := ?_) rfl rfl (by kernel_rfl) (by kernel_rfl) (by kernel_rfl) (fun _ _ _ h => h) (by rfl) (by assumption) ?_ ?_
      rotate_left 1
      · intro w hSw; (try dsimp only at hSw); obtain ⟨q0, q1⟩ := hSw; obtain ⟨x0, x1, x2, x3, x4, x5, x6, x7, x8, x9, xf⟩ := q1.ten; go_simp <;> with_reducible rfl
      simp only [List.foldl, Act.put, List.setIfInBounds_toArray, List.set_cons_zero, List.set_cons_succ]
      refine wpAnyH_one (i := 51) (d := 56) (v := ?_) rfl rfl (by kernel_rfl) (by kernel_rfl) (by kernel_rfl) (fun _ _ _ h => h) (by rfl) (by assumption) ?_ ?_
      rotate_left 1
      · intro w hSw; (try dsimp only at hSw); go_simp <;> with_reducible rfl
      simp only [List.foldl, Act.put, List.setIfInBounds_toArray, List.set_cons_zero, List.set_cons_succ]
      refine wpAnyH_one (i := 52) (d := 57) (v := ?_) rfl rfl (by kernel_rfl) (by kernel_rfl) (by kernel_rfl) (fun _ _ _ h => h) (by rfl) (by assumption) ?_ ?_
      rotate_left 1
      · intro w hSw; (try dsimp only at hSw); go_simp <;> with_reducible rfl
      simp only [List.foldl, Act.put, List.setIfInBounds_toArray, List.set_cons_zero, List.set_cons_succ]
      refine wpAnyH_ready (rs := [53]) (by kernel_rfl) (by simp) ?_
      refine AllReadyH.cons rfl (fun K hK => ?_) AllReadyH.nil
      refine wp_store_row 27 (.tmp 4) (.tmp 57) rfl (w.heap.size + 1 + 1) #[.slice p0 R0.length n0, .slice p1 R1.length n1, .slice p2 R2.length n2, .slice p3 R3.length n3, .slice p4 R4.length n4, .slice p5 R5.length n5, .slice p6 R6.length n6, .slice p7 R7.length n7, .bool U.sp, .bool U.kl] rfl rfl 27 _ K2.out (by rw [Try.infoEf]; rfl) rfl one10 ?_
      have K2 : Hid (Blk (g7.setRow (w.heap.size + 1 + 1) #[.slice p0 R0.length n0, .slice p1 R1.length n1, .slice p2 R2.length n2, .slice p3 R3.length n3, .slice p4 R4.length n4, .slice p5 R5.length n5, .slice p6 R6.length n6, .slice p7 R7.length n7, .bool U.sp, .bool U.kl]) (w.heap.size + 1 + 1) #[.slice p0 R0.length n0, .slice p1 R1.length n1, .slice p2 R2.length n2, .slice p3 R3.length n3, .slice p4 R4.length n4, .slice p5 R5.length n5, .slice p6 R6.length n6, .slice p7 R7.length n7, .bool U.sp, .bool U.kl] 27) := setRow_heap _ _ _ _ _ _ K2.out
      have K0 : Hid (Blk (g7.setRow (w.heap.size + 1 + 1) #[.slice p0 R0.length n0, .slice p1 R1.length n1, .slice p2 R2.length n2, .slice p3 R3.length n3, .slice p4 R4.length n4, .slice p5 R5.length n5, .slice p6 R6.length n6, .slice p7 R7.length n7, .bool U.sp, .bool U.kl]) w.heap.size #[.slice a0 V.l0.length c0, .slice a1 V.l1.length c1, .slice a2 V.l2.length c2, .slice a3 V.l3.length c3, .slice a4 V.l4.length c4, .slice a5 V.l5.length c5, .slice a6 V.l6.length c6, .slice a7 V.l7.length c7, .bool false, .bool false] 27) := (setRow_other _ _ _ _ (by omega)).trans K0.out
      have K1 : Hid (Blk (g7.setRow (w.heap.size + 1 + 1) #[.slice p0 R0.length n0, .slice p1 R1.length n1, .slice p2 R2.length n2, .slice p3 R3.length n3, .slice p4 R4.length n4, .slice p5 R5.length n5, .slice p6 R6.length n6, .slice p7 R7.length n7, .bool U.sp, .bool U.kl]) (w.heap.size + 1) #[.slice b0 U.l0.length d0, .slice b1 U.l1.length d1, .slice b2 U.l2.length d2, .slice b3 U.l3.length d3, .slice b4 U.l4.length d4, .slice b5 U.l5.length d5, .slice b6 U.l6.length d6, .slice b7 U.l7.length d7, .bool U.sp, .bool U.kl] 27) := (setRow_other _ _ _ _ (by omega)).trans K1.out
      have LZ : Hid (Below w.heap.size w (g7.setRow (w.heap.size + 1 + 1) #[.slice p0 R0.length n0, .slice p1 R1.length n1, .slice p2 R2.length n2, .slice p3 R3.length n3, .slice p4 R4.length n4, .slice p5 R5.length n5, .slice p6 R6.length n6, .slice p7 R7.length n7, .bool U.sp, .bool U.kl])) := below_setRow (bl_trans L0 LX.out) (by omega) _
      have O0 : Hid (OI (g7.setRow (w.heap.size + 1 + 1) #[.slice p0 R0.length n0, .slice p1 R1.length n1, .slice p2 R2.length n2, .slice p3 R3.length n3, .slice p4 R4.length n4, .slice p5 R5.length n5, .slice p6 R6.length n6, .slice p7 R7.length n7, .bool U.sp, .bool U.kl]) X.heap.size (.slice p0 R0.length n0) R0) := O0.out.same (fun g hg => setRow_other _ _ _ _ (by have := (O0.out.lt g hg).1; omega))
      have O1 : Hid (OI (g7.setRow (w.heap.size + 1 + 1) #[.slice p0 R0.length n0, .slice p1 R1.length n1, .slice p2 R2.length n2, .slice p3 R3.length n3, .slice p4 R4.length n4, .slice p5 R5.length n5, .slice p6 R6.length n6, .slice p7 R7.length n7, .bool U.sp, .bool U.kl]) X.heap.size (.slice p1 R1.length n1) R1) := O1.out.same (fun g hg => setRow_other _ _ _ _ (by have := (O1.out.lt g hg).1; omega))
      have O2 : Hid (OI (g7.setRow (w.heap.size + 1 + 1) #[.slice p0 R0.length n0, .slice p1 R1.length n1, .slice p2 R2.length n2, .slice p3 R3.length n3, .slice p4 R4.length n4, .slice p5 R5.length n5, .slice p6 R6.length n6, .slice p7 R7.length n7, .bool U.sp, .bool U.kl]) X.heap.size (.slice p2 R2.length n2) R2) := O2.out.same (fun g hg => setRow_other _ _ _ _ (by have := (O2.out.lt g hg).1; omega))
      have O3 : Hid (OI (g7.setRow (w.heap.size + 1 + 1) #[.slice p0 R0.length n0, .slice p1 R1.length n1, .slice p2 R2.length n2, .slice p3 R3.length n3, .slice p4 R4.length n4, .slice p5 R5.length n5, .slice p6 R6.length n6, .slice p7 R7.length n7, .bool U.sp, .bool U.kl]) X.heap.size (.slice p3 R3.length n3) R3) := O3.out.same (fun g hg => setRow_other _ _ _ _ (by have := (O3.out.lt g hg).1; omega))
      have O4 : Hid (OI (g7.setRow (w.heap.size + 1 + 1) #[.slice p0 R0.length n0, .slice p1 R1.length n1, .slice p2 R2.length n2, .slice p3 R3.length n3, .slice p4 R4.length n4, .slice p5 R5.length n5, .slice p6 R6.length n6, .slice p7 R7.length n7, .bool U.sp, .bool U.kl]) X.heap.size (.slice p4 R4.length n4) R4) := O4.out.same (fun g hg => setRow_other _ _ _ _ (by have := (O4.out.lt g hg).1; omega))
      have O5 : Hid (OI (g7.setRow (w.heap.size + 1 + 1) #[.slice p0 R0.length n0, .slice p1 R1.length n1, .slice p2 R2.length n2, .slice p3 R3.length n3, .slice p4 R4.length n4, .slice p5 R5.length n5, .slice p6 R6.length n6, .slice p7 R7.length n7, .bool U.sp, .bool U.kl]) X.heap.size (.slice p5 R5.length n5) R5) := O5.out.same (fun g hg => setRow_other _ _ _ _ (by have := (O5.out.lt g hg).1; omega))
      have O6 : Hid (OI (g7.setRow (w.heap.size + 1 + 1) #[.slice p0 R0.length n0, .slice p1 R1.length n1, .slice p2 R2.length n2, .slice p3 R3.length n3, .slice p4 R4.length n4, .slice p5 R5.length n5, .slice p6 R6.length n6, .slice p7 R7.length n7, .bool U.sp, .bool U.kl]) X.heap.size (.slice p6 R6.length n6) R6) := O6.out.same (fun g hg => setRow_other _ _ _ _ (by have := (O6.out.lt g hg).1; omega))
      have O7 : Hid (OI (g7.setRow (w.heap.size + 1 + 1) #[.slice p0 R0.length n0, .slice p1 R1.length n1, .slice p2 R2.length n2, .slice p3 R3.length n3, .slice p4 R4.length n4, .slice p5 R5.length n5, .slice p6 R6.length n6, .slice p7 R7.length n7, .bool U.sp, .bool U.kl]) X.heap.size (.slice p7 R7.length n7) R7) := O7.out.same (fun g hg => setRow_other _ _ _ _ (by have := (O7.out.lt g hg).1; omega))
      refine hK.out _ _ ?_ (fun hHeld => ?_)
      · exact ⟨K0.out, K1.out⟩
      clear hK K
      try simp only [List.foldl, Act.put, List.setIfInBounds_toArray, List.set_cons_zero, List.set_cons_succ]
      refine wpAnyH_done (by kernel_rfl) ?_ _
      go_wp2_with fail
      refine bodyPost_ret (v := .agg #[.slice p0 R0.length n0, .slice p1 R1.length n1, .slice p2 R2.length n2, .slice p3 R3.length n3, .slice p4 R4.length n4, .slice p5 R5.length n5, .slice p6 R6.length n6, .slice p7 R7.length n7, .bool U.sp, .bool U.kl]) (results_cell_row (P := Try.prog) Try.results14 _ _ (w.heap.size + 1 + 1) _ _ _ _ rfl K2.out Try.underlying27 rfl (by rw [Try.infoEf]; rfl)) rfl ⟨⟨p0, p1, p2, p3, p4, p5, p6, p7, n0, n1, n2, n3, n4, n5, n6, n7, ⟨R0, R1, R2, R3, R4, R5, R6, R7, U.sp, U.kl⟩, rfl, ⟨O0.out.mono (by omega), O1.out.mono (by omega), O2.out.mono (by omega), O3.out.mono (by omega), O4.out.mono (by omega), O5.out.mono (by omega), O6.out.mono (by omega), O7.out.mono (by omega)⟩, ⟨H0.out, H1.out, H2.out, H3.out, H4.out, H5.out, H6.out, H7.out, (by rw [hv1.out]; rfl), (by rw [hv2.out]; rfl)⟩⟩, LZ.out⟩
    · skip
      refine wpAnyH_skip (by kernel_rfl) (fun _ _ _ _ h => h) [(49, 54), (50, 55)] 3 _ _ _ (by assumption) (by kernel_rfl) ?_ _ rfl
      simp only [List.foldl, Act.put, List.setIfInBounds_toArray, List.set_cons_zero, List.set_cons_succ]
      refine wpAnyH_one (i := 51) (d := 56) (v := ?_) rfl rfl (by kernel_rfl) (by kernel_rfl) (by kernel_rfl) (fun _ _ _ h => h) (by rfl) (by assumption) ?_ ?_
      rotate_left 1
      · intro w hSw; (try dsimp only at hSw); go_simp <;> with_reducible rfl
      simp only [List.foldl, Act.put, List.setIfInBounds_toArray, List.set_cons_zero, List.set_cons_succ]
      refine wpAnyH_one (i := 52) (d := 57) (v := ?_) rfl rfl (by kernel_rfl) (by kernel_rfl) (by kernel_rfl) (fun _ _ _ h => h) (by rfl) (by assumption) ?_ ?_
      rotate_left 1
      · intro w hSw; (try dsimp only at hSw); go_simp <;> with_reducible rfl
      simp only [List.foldl, Act.put, List.setIfInBounds_toArray, List.set_cons_zero, List.set_cons_succ]
      refine wpAnyH_ready (rs := [53]) (by kernel_rfl) (by simp) ?_
      refine AllReadyH.cons rfl (fun K hK => ?_) AllReadyH.nil
      refine wp_store_row 27 (.tmp 4) (.tmp 57) rfl (w.heap.size + 1 + 1) #[.slice p0 R0.length n0, .slice p1 R1.length n1, .slice p2 R2.length n2, .slice p3 R3.length n3, .slice p4 R4.length n4, .slice p5 R5.length n5, .slice p6 R6.length n6, .slice p7 R7.length n7, .bool U.sp, .bool true] rfl rfl 27 _ K2.out (by rw [Try.infoEf]; rfl) rfl one10 ?_
      have K2 : Hid (Blk (g7.setRow (w.heap.size + 1 + 1) #[.slice p0 R0.length n0, .slice p1 R1.length n1, .slice p2 R2.length n2, .slice p3 R3.length n3, .slice p4 R4.length n4, .slice p5 R5.length n5, .slice p6 R6.length n6, .slice p7 R7.length n7, .bool U.sp, .bool true]) (w.heap.size + 1 + 1) #[.slice p0 R0.length n0, .slice p1 R1.length n1, .slice p2 R2.length n2, .slice p3 R3.length n3, .slice p4 R4.length n4, .slice p5 R5.length n5, .slice p6 R6.length n6, .slice p7 R7.length n7, .bool U.sp, .bool true] 27) := setRow_heap _ _ _ _ _ _ K2.out
      have K0 : Hid (Blk (g7.setRow (w.heap.size + 1 + 1) #[.slice p0 R0.length n0, .slice p1 R1.length n1, .slice p2 R2.length n2, .slice p3 R3.length n3, .slice p4 R4.length n4, .slice p5 R5.length n5, .slice p6 R6.length n6, .slice p7 R7.length n7, .bool U.sp, .bool true]) w.heap.size #[.slice a0 V.l0.length c0, .slice a1 V.l1.length c1, .slice a2 V.l2.length c2, .slice a3 V.l3.length c3, .slice a4 V.l4.length c4, .slice a5 V.l5.length c5, .slice a6 V.l6.length c6, .slice a7 V.l7.length c7, .bool false, .bool true] 27) := (setRow_other _ _ _ _ (by omega)).trans K0.out
      have K1 : Hid (Blk (g7.setRow (w.heap.size + 1 + 1) #[.slice p0 R0.length n0, .slice p1 R1.length n1, .slice p2 R2.length n2, .slice p3 R3.length n3, .slice p4 R4.length n4, .slice p5 R5.length n5, .slice p6 R6.length n6, .slice p7 R7.length n7, .bool U.sp, .bool true]) (w.heap.size + 1) #[.slice b0 U.l0.length d0, .slice b1 U.l1.length d1, .slice b2 U.l2.length d2, .slice b3 U.l3.length d3, .slice b4 U.l4.length d4, .slice b5 U.l5.length d5, .slice b6 U.l6.length d6, .slice b7 U.l7.length d7, .bool U.sp, .bool U.kl] 27) := (setRow_other _ _ _ _ (by omega)).trans K1.out
      have LZ : Hid (Below w.heap.size w (g7.setRow (w.heap.size + 1 + 1) #[.slice p0 R0.length n0, .slice p1 R1.length n1, .slice p2 R2.length n2, .slice p3 R3.length n3, .slice p4 R4.length n4, .slice p5 R5.length n5, .slice p6 R6.length n6, .slice p7 R7.length n7, .bool U.sp, .bool true])) := below_setRow (bl_trans L0 LX.out) (by omega) _
      have O0 : Hid (OI (g7.setRow (w.heap.size + 1 + 1) #[.slice p0 R0.length n0, .slice p1 R1.length n1, .slice p2 R2.length n2, .slice p3 R3.length n3, .slice p4 R4.length n4, .slice p5 R5.length n5, .slice p6 R6.length n6, .slice p7 R7.length n7, .bool U.sp, .bool true]) X.heap.size (.slice p0 R0.length n0) R0) := O0.out.same (fun g hg => setRow_other _ _ _ _ (by have := (O0.out.lt g hg).1; omega))
      have O1 : Hid (OI (g7.setRow (w.heap.size + 1 + 1) #[.slice p0 R0.length n0, .slice p1 R1.length n1, .slice p2 R2.length n2, .slice p3 R3.length n3, .slice p4 R4.length n4, .slice p5 R5.length n5, .slice p6 R6.length n6, .slice p7 R7.length n7, .bool U.sp, .bool true]) X.heap.size (.slice p1 R1.length n1) R1) := O1.out.same (fun g hg => setRow_other _ _ _ _ (by have := (O1.out.lt g hg).1; omega))
      have O2 : Hid (OI (g7.setRow (w.heap.size + 1 + 1) #[.slice p0 R0.length n0, .slice p1 R1.length n1, .slice p2 R2.length n2, .slice p3 R3.length n3, .slice p4 R4.length n4, .slice p5 R5.length n5, .slice p6 R6.length n6, .slice p7 R7.length n7, .bool U.sp, .bool true]) X.heap.size (.slice p2 R2.length n2) R2) := O2.out.same (fun g hg => setRow_other _ _ _ _ (by have := (O2.out.lt g hg).1; omega))
      have O3 : Hid (OI (g7.setRow (w.heap.size + 1 + 1) #[.slice p0 R0.length n0, .slice p1 R1.length n1, .slice p2 R2.length n2, .slice p3 R3.length n3, .slice p4 R4.length n4, .slice p5 R5.length n5, .slice p6 R6.length n6, .slice p7 R7.length n7, .bool U.sp, .bool true]) X.heap.size (.slice p3 R3.length n3) R3) := O3.out.same (fun g hg => setRow_other _ _ _ _ (by have := (O3.out.lt g hg).1; omega))
      have O4 : Hid (OI (g7.setRow (w.heap.size + 1 + 1) #[.slice p0 R0.length n0, .slice p1 R1.length n1, .slice p2 R2.length n2, .slice p3 R3.length n3, .slice p4 R4.length n4, .slice p5 R5.length n5, .slice p6 R6.length n6, .slice p7 R7.length n7, .bool U.sp, .bool true]) X.heap.size (.slice p4 R4.length n4) R4) := O4.out.same (fun g hg => setRow_other _ _ _ _ (by have := (O4.out.lt g hg).1; omega))
      have O5 : Hid (OI (g7.setRow (w.heap.size + 1 + 1) #[.slice p0 R0.length n0, .slice p1 R1.length n1, .slice p2 R2.length n2, .slice p3 R3.length n3, .slice p4 R4.length n4, .slice p5 R5.length n5, .slice p6 R6.length n6, .slice p7 R7.length n7, .bool U.sp, .bool true]) X.heap.size (.slice p5 R5.length n5) R5) := O5.out.same (fun g hg => setRow_other _ _ _ _ (by have := (O5.out.lt g hg).1; omega))
      have O6 : Hid (OI (g7.setRow (w.heap.size + 1 + 1) #[.slice p0 R0.length n0, .slice p1 R1.length n1, .slice p2 R2.length n2, .slice p3 R3.length n3, .slice p4 R4.length n4, .slice p5 R5.length n5, .slice p6 R6.length n6, .slice p7 R7.length n7, .bool U.sp, .bool true]) X.heap.size (.slice p6 R6.length n6) R6) := O6.out.same (fun g hg => setRow_other _ _ _ _ (by have := (O6.out.lt g hg).1; omega))
      have O7 : Hid (OI (g7.setRow (w.heap.size + 1 + 1) #[.slice p0 R0.length n0, .slice p1 R1.length n1, .slice p2 R2.length n2, .slice p3 R3.length n3, .slice p4 R4.length n4, .slice p5 R5.length n5, .slice p6 R6.length n6, .slice p7 R7.length n7, .bool U.sp, .bool true]) X.heap.size (.slice p7 R7.length n7) R7) := O7.out.same (fun g hg => setRow_other _ _ _ _ (by have := (O7.out.lt g hg).1; omega))
      refine hK.out _ _ ?_ (fun hHeld => ?_)
      · exact ⟨K0.out, K1.out⟩
      clear hK K
      try simp only [List.foldl, Act.put, List.setIfInBounds_toArray, List.set_cons_zero, List.set_cons_succ]
      refine wpAnyH_done (by kernel_rfl) ?_ _
      go_wp2_with fail
      refine bodyPost_ret (v := .agg #[.slice p0 R0.length n0, .slice p1 R1.length n1, .slice p2 R2.length n2, .slice p3 R3.length n3, .slice p4 R4.length n4, .slice p5 R5.length n5, .slice p6 R6.length n6, .slice p7 R7.length n7, .bool U.sp, .bool true]) (results_cell_row (P := Try.prog) Try.results14 _ _ (w.heap.size + 1 + 1) _ _ _ _ rfl K2.out Try.underlying27 rfl (by rw [Try.infoEf]; rfl)) rfl ⟨⟨p0, p1, p2, p3, p4, p5, p6, p7, n0, n1, n2, n3, n4, n5, n6, n7, ⟨R0, R1, R2, R3, R4, R5, R6, R7, U.sp, true⟩, rfl, ⟨O0.out.mono (by omega), O1.out.mono (by omega), O2.out.mono (by omega), O3.out.mono (by omega), O4.out.mono (by omega), O5.out.mono (by omega), O6.out.mono (by omega), O7.out.mono (by omega)⟩, ⟨H0.out, H1.out, H2.out, H3.out, H4.out, H5.out, H6.out, H7.out, (by rw [hv1.out]; rfl), (by rw [hv2.out]; rfl)⟩⟩, LZ.out⟩
  · skip
    refine wpAnyH_skip (by kernel_rfl) (fun _ _ _ _ h => h) [(43, 48), (44, 49)] 7 _ _ _ (by assumption) (by kernel_rfl) ?_ _ rfl
    simp only [List.foldl, Act.put, List.setIfInBounds_toArray, List.set_cons_zero, List.set_cons_succ]
    refine wpAnyH_one (i := 45) (d := 50) (v := ?_) rfl rfl (by kernel_rfl) (by kernel_rfl) (by kernel_rfl) (fun _ _ _ h => h) (by rfl) (by assumption) ?_ ?_
    rotate_left 1
    · intro w hSw; (try dsimp only at hSw); go_simp <;> with_reducible rfl
    simp only [List.foldl, Act.put, List.setIfInBounds_toArray, List.set_cons_zero, List.set_cons_succ]
    refine wpAnyH_one (i := 48) (d := 53) (v := ?_) rfl rfl (by kernel_rfl) (by kernel_rfl) (by kernel_rfl) (fun _ _ _ h => h) (by rfl) (by assumption) ?_ ?_
    rotate_left 1
    · intro w hSw; (try dsimp only at hSw); go_simp <;> with_reducible rfl
    simp only [List.foldl, Act.put, List.setIfInBounds_toArray, List.set_cons_zero, List.set_cons_succ]
    cases v2
    · skip
      refine wpAnyH_one (i := 49) (d := 54) (v := ?_) rfl rfl (by kernel_rfl) (by kernel_rfl) (by kernel_rfl) (fun _ _ _ h => h) (by rfl) (by assumption) ?_ ?_
      rotate_left 1
      · intro w hSw; (try dsimp only at hSw); go_simp <;> with_reducible rfl
      simp only [List.foldl, Act.put, List.setIfInBounds_toArray, List.set_cons_zero, List.set_cons_succ]
      refine wpAnyH_one (i := 50) (d := 55) (v := ?_) rfl rfl (by kernel_rfl) (by kernel_rfl) (by kernel_rfl) (fun _ _ _ h => h) (by rfl) (by assumption) ?_ ?_
      rotate_left 1
      · intro w hSw; (try dsimp only at hSw); obtain ⟨q0, q1⟩ := hSw; obtain ⟨x0, x1, x2, x3, x4, x5, x6, x7, x8, x9, xf⟩ := q1.ten; go_simp <;> with_reducible rfl
      simp only [List.foldl, Act.put, List.setIfInBounds_toArray, List.set_cons_zero, List.set_cons_succ]
      refine wpAnyH_one (i := 51) (d := 56) (v := ?_) rfl rfl (by kernel_rfl) (by kernel_rfl) (by kernel_rfl) (fun _ _ _ h => h) (by rfl) (by assumption) ?_ ?_
      rotate_left 1
      · intro w hSw; (try dsimp only at hSw); go_simp <;> with_reducible rfl
      simp only [List.foldl, Act.put, List.setIfInBounds_toArray, List.set_cons_zero, List.set_cons_succ]
      refine wpAnyH_one (i := 52) (d := 57) (v := ?_) rfl rfl (by kernel_rfl) (by kernel_rfl) (by kernel_rfl) (fun _ _ _ h => h) (by rfl) (by assumption) ?_ ?_
      rotate_left 1
      · intro w hSw; (try dsimp only at hSw); go_simp <;> with_reducible rfl
      simp only [List.foldl, Act.put, List.setIfInBounds_toArray, List.set_cons_zero, List.set_cons_succ]
      refine wpAnyH_ready (rs := [53]) (by kernel_rfl) (by simp) ?_
      refine AllReadyH.cons rfl (fun K hK => ?_) AllReadyH.nil
      refine wp_store_row 27 (.tmp 4) (.tmp 57) rfl (w.heap.size + 1 + 1) #[.slice p0 R0.length n0, .slice p1 R1.length n1, .slice p2 R2.length n2, .slice p3 R3.length n3, .slice p4 R4.length n4, .slice p5 R5.length n5, .slice p6 R6.length n6, .slice p7 R7.length n7, .bool true, .bool U.kl] rfl rfl 27 _ K2.out (by rw [Try.infoEf]; rfl) rfl one10 ?_
      have K2 : Hid (Blk (g7.setRow (w.heap.size + 1 + 1) #[.slice p0 R0.length n0, .slice p1 R1.length n1, .slice p2 R2.length n2, .slice p3 R3.length n3, .slice p4 R4.length n4, .slice p5 R5.length n5, .slice p6 R6.length n6, .slice p7 R7.length n7, .bool true, .bool U.kl]) (w.heap.size + 1 + 1) #[.slice p0 R0.length n0, .slice p1 R1.length n1, .slice p2 R2.length n2, .slice p3 R3.length n3, .slice p4 R4.length n4, .slice p5 R5.length n5, .slice p6 R6.length n6, .slice p7 R7.length n7, .bool true, .bool U.kl] 27) := setRow_heap _ _ _ _ _ _ K2.out
      have K0 : Hid (Blk (g7.setRow (w.heap.size + 1 + 1) #[.slice p0 R0.length n0, .slice p1 R1.length n1, .slice p2 R2.length n2, .slice p3 R3.length n3, .slice p4 R4.length n4, .slice p5 R5.length n5, .slice p6 R6.length n6, .slice p7 R7.length n7, .bool true, .bool U.kl]) w.heap.size #[.slice a0 V.l0.length c0, .slice a1 V.l1.length c1, .slice a2 V.l2.length c2, .slice a3 V.l3.length c3, .slice a4 V.l4.length c4, .slice a5 V.l5.length c5, .slice a6 V.l6.length c6, .slice a7 V.l7.length c7, .bool true, .bool false] 27) := (setRow_other _ _ _ _ (by omega)).trans K0.out
      have K1 : Hid (Blk (g7.setRow (w.heap.size + 1 + 1) #[.slice p0 R0.length n0, .slice p1 R1.length n1, .slice p2 R2.length n2, .slice p3 R3.length n3, .slice p4 R4.length n4, .slice p5 R5.length n5, .slice p6 R6.length n6, .slice p7 R7.length n7, .bool true, .bool U.kl]) (w.heap.size + 1) #[.slice b0 U.l0.length d0, .slice b1 U.l1.length d1, .slice b2 U.l2.length d2, .slice b3 U.l3.length d3, .slice b4 U.l4.length d4, .slice b5 U.l5.length d5, .slice b6 U.l6.length d6, .slice b7 U.l7.length d7, .bool U.sp, .bool U.kl] 27) := (setRow_other _ _ _ _ (by omega)).trans K1.out
      have LZ : Hid (Below w.heap.size w (g7.setRow (w.heap.size + 1 + 1) #[.slice p0 R0.length n0, .slice p1 R1.length n1, .slice p2 R2.length n2, .slice p3 R3.length n3, .slice p4 R4.length n4, .slice p5 R5.length n5, .slice p6 R6.length n6, .slice p7 R7.length n7, .bool true, .bool U.kl])) := below_setRow (bl_trans L0 LX.out) (by omega) _
      have O0 : Hid (OI (g7.setRow (w.heap.size + 1 + 1) #[.slice p0 R0.length n0, .slice p1 R1.length n1, .slice p2 R2.length n2, .slice p3 R3.length n3, .slice p4 R4.length n4, .slice p5 R5.length n5, .slice p6 R6.length n6, .slice p7 R7.length n7, .bool true, .bool U.kl]) X.heap.size (.slice p0 R0.length n0) R0) := O0.out.same (fun g hg => setRow_other _ _ _ _ (by have := (O0.out.lt g hg).1; omega))
      have O1 : Hid (OI (g7.setRow (w.heap.size + 1 + 1) #[.slice p0 R0.length n0, .slice p1 R1.length n1, .slice p2 R2.length n2, .slice p3 R3.length n3, .slice p4 R4.length n4, .slice p5 R5.length n5, .slice p6 R6.length n6, .slice p7 R7.length n7, .bool true, .bool U.kl]) X.heap.size (.slice p1 R1.length n1) R1) := O1.out.same (fun g hg => setRow_other _ _ _ _ (by have := (O1.out.lt g hg).1; omega))
      have O2 : Hid (OI (g7.setRow (w.heap.size + 1 + 1) #[.slice p0 R0.length n0, .slice p1 R1.length n1, .slice p2 R2.length n2, .slice p3 R3.length n3, .slice p4 R4.length n4, .slice p5 R5.length n5, .slice p6 R6.length n6, .slice p7 R7.length n7, .bool true, .bool U.kl]) X.heap.size (.slice p2 R2.length n2) R2) := O2.out.same (fun g hg => setRow_other _ _ _ _ (by have := (O2.out.lt g hg).1; omega))
      have O3 : Hid (OI (g7.setRow (w.heap.size + 1 + 1) #[.slice p0 R0.length n0, .slice p1 R1.length n1, .slice p2 R2.length n2, .slice p3 R3.length n3, .slice p4 R4.length n4, .slice p5 R5.length n5, .slice p6 R6.length n6, .slice p7 R7.length n7, .bool true, .bool U.kl]) X.heap.size (.slice p3 R3.length n3) R3) := O3.out.same (fun g hg => setRow_other _ _ _ _ (by have := (O3.out.lt g hg).1; omega))
      have O4 : Hid (OI (g7.setRow (w.heap.size + 1 + 1) #[.slice p0 R0.length n0, .slice p1 R1.length n1, .slice p2 R2.length n2, .slice p3 R3.length n3, .slice p4 R4.length n4, .slice p5 R5.length n5, .slice p6 R6.length n6, .slice p7 R7.length n7, .bool true, .bool U.kl]) X.heap.size (.slice p4 R4.length n4) R4) := O4.out.same (fun g hg => setRow_other _ _ _ _ (by have := (O4.out.lt g hg).1; omega))
      have O5 : Hid (OI (g7.setRow (w.heap.size + 1 + 1) #[.slice p0 R0.length n0, .slice p1 R1.length n1, .slice p2 R2.length n2, .slice p3 R3.length n3, .slice p4 R4.length n4, .slice p5 R5.length n5, .slice p6 R6.length n6, .slice p7 R7.length n7, .bool true, .bool U.kl]) X.heap.size (.slice p5 R5.length n5) R5) := O5.out.same (fun g hg => setRow_other _ _ _ _ (by have := (O5.out.lt g hg).1; omega))
      have O6 : Hid (OI (g7.setRow (w.heap.size + 1 + 1) #[.slice p0 R0.length n0, .slice p1 R1.length n1, .slice p2 R2.length n2, .slice p3 R3.length n3, .slice p4 R4.length n4, .slice p5 R5.length n5, .slice p6 R6.length n6, .slice p7 R7.length n7, .bool true, .bool U.kl]) X.heap.size (.slice p6 R6.length n6) R6) := O6.out.same (fun g hg => setRow_other _ _ _ _ (by have := (O6.out.lt g hg).1; omega))
      have O7 : Hid (OI (g7.setRow (w.heap.size + 1 + 1) #[.slice p0 R0.length n0, .slice p1 R1.length n1, .slice p2 R2.length n2, .slice p3 R3.length n3, .slice p4 R4.length n4, .slice p5 R5.length n5, .slice p6 R6.length n6, .slice p7 R7.length n7, .bool true, .bool U.kl]) X.heap.size (.slice p7 R7.length n7) R7) := O7.out.same (fun g hg => setRow_other _ _ _ _ (by have := (O7.out.lt g hg).1; omega))
      refine hK.out _ _ ?_ (fun hHeld => ?_)
      · exact ⟨K0.out, K1.out⟩
      clear hK K
      try simp only [List.foldl, Act.put, List.setIfInBounds_toArray, List.set_cons_zero, List.set_cons_succ]
      refine wpAnyH_done (by kernel_rfl) ?_ _
      go_wp2_with fail
      refine bodyPost_ret (v := .agg #[.slice p0 R0.length n0, .slice p1 R1.length n1, .slice p2 R2.length n2, .slice p3 R3.length n3, .slice p4 R4.length n4, .slice p5 R5.length n5, .slice p6 R6.length n6, .slice p7 R7.length n7, .bool true, .bool U.kl]) (results_cell_row (P := Try.prog) Try.results14 _ _ (w.heap.size + 1 + 1) _ _ _ _ rfl K2.out Try.underlying27 rfl (by rw [Try.infoEf]; rfl)) rfl ⟨⟨p0, p1, p2, p3, p4, p5, p6, p7, n0, n1, n2, n3, n4, n5, n6, n7, ⟨R0, R1, R2, R3, R4, R5, R6, R7, true, U.kl⟩, rfl, ⟨O0.out.mono (by omega), O1.out.mono (by omega), O2.out.mono (by omega), O3.out.mono (by omega), O4.out.mono (by omega), O5.out.mono (by omega), O6.out.mono (by omega), O7.out.mono (by omega)⟩, ⟨H0.out, H1.out, H2.out, H3.out, H4.out, H5.out, H6.out, H7.out, (by rw [hv1.out]; rfl), (by rw [hv2.out]; rfl)⟩⟩, LZ.out⟩
    · skip
      refine wpAnyH_skip (by kernel_rfl) (fun _ _ _ _ h => h) [(49, 54), (50, 55)] 3 _ _ _ (by assumption) (by kernel_rfl) ?_ _ rfl
      simp only [List.foldl, Act.put, List.setIfInBounds_toArray, List.set_cons_zero, List.set_cons_succ]
      refine wpAnyH_one (i := 51) (d := 56) (v := ?_) rfl rfl (by kernel_rfl) (by kernel_rfl) (by kernel_rfl) (fun _ _ _ h => h) (by rfl) (by assumption) ?_ ?_
      rotate_left 1
      · intro w hSw; (try dsimp only at hSw); go_simp <;> with_reducible rfl
      simp only [List.foldl, Act.put, List.setIfInBounds_toArray, List.set_cons_zero, List.set_cons_succ]
      refine wpAnyH_one (i := 52) (d := 57) (v := ?_) rfl rfl (by kernel_rfl) (by kernel_rfl) (by kernel_rfl) (fun _ _ _ h => h) (by rfl) (by assumption) ?_ ?_
      rotate_left 1
      · intro w hSw; (try dsimp only at hSw); go_simp <;> with_reducible rfl
      simp only [List.foldl, Act.put, List.setIfInBounds_toArray, List.set_cons_zero, List.set_cons_succ]
      refine wpAnyH_ready (rs := [53]) (by kernel_rfl) (by simp) ?_
      refine AllReadyH.cons rfl (fun K hK => ?_) AllReadyH.nil
      refine wp_store_row 27 (.tmp 4) (.tmp 57) rfl (w.heap.size + 1 + 1) #[.slice p0 R0.length n0, .slice p1 R1.length n1, .slice p2 R2.length n2, .slice p3 R3.length n3, .slice p4 R4.length n4, .slice p5 R5.length n5, .slice p6 R6.length n6, .slice p7 R7.length n7, .bool true, .bool true] rfl rfl 27 _ K2.out (by rw [Try.infoEf]; rfl) rfl one10 ?_
      have K2 : Hid (Blk (g7.setRow (w.heap.size + 1 + 1) #[.slice p0 R0.length n0, .slice p1 R1.length n1, .slice p2 R2.length n2, .slice p3 R3.length n3, .slice p4 R4.length n4, .slice p5 R5.length n5, .slice p6 R6.length n6, .slice p7 R7.length n7, .bool true, .bool true]) (w.heap.size + 1 + 1) #[.slice p0 R0.length n0, .slice p1 R1.length n1, .slice p2 R2.length n2, .slice p3 R3.length n3, .slice p4 R4.length n4, .slice p5 R5.length n5, .slice p6 R6.length n6, .slice p7 R7.length n7, .bool true, .bool true] 27) := setRow_heap _ _ _ _ _ _ K2.out
      have K0 : Hid (Blk (g7.setRow (w.heap.size + 1 + 1) #[.slice p0 R0.length n0, .slice p1 R1.length n1, .slice p2 R2.length n2, .slice p3 R3.length n3, .slice p4 R4.length n4, .slice p5 R5.length n5, .slice p6 R6.length n6, .slice p7 R7.length n7, .bool true, .bool true]) w.heap.size #[.slice a0 V.l0.length c0, .slice a1 V.l1.length c1, .slice a2 V.l2.length c2, .slice a3 V.l3.length c3, .slice a4 V.l4.length c4, .slice a5 V.l5.length c5, .slice a6 V.l6.length c6, .slice a7 V.l7.length c7, .bool true, .bool true] 27) := (setRow_other _ _ _ _ (by omega)).trans K0.out
      have K1 : Hid (Blk (g7.setRow (w.heap.size + 1 + 1) #[.slice p0 R0.length n0, .slice p1 R1.length n1, .slice p2 R2.length n2, .slice p3 R3.length n3, .slice p4 R4.length n4, .slice p5 R5.length n5, .slice p6 R6.length n6, .slice p7 R7.length n7, .bool true, .bool true]) (w.heap.size + 1) #[.slice b0 U.l0.length d0, .slice b1 U.l1.length d1, .slice b2 U.l2.length d2, .slice b3 U.l3.length d3, .slice b4 U.l4.length d4, .slice b5 U.l5.length d5, .slice b6 U.l6.length d6, .slice b7 U.l7.length d7, .bool U.sp, .bool U.kl] 27) := (setRow_other _ _ _ _ (by omega)).trans K1.out
      have LZ : Hid (Below w.heap.size w (g7.setRow (w.heap.size + 1 + 1) #[.slice p0 R0.length n0, .slice p1 R1.length n1, .slice p2 R2.length n2, .slice p3 R3.length n3, .slice p4 R4.length n4, .slice p5 R5.length n5, .slice p6 R6.length n6, .slice p7 R7.length n7, .bool true, .bool true])) := below_setRow (bl_trans L0 LX.out) (by omega) _
      have O0 : Hid (OI (g7.setRow (w.heap.size + 1 + 1) #[.slice p0 R0.length n0, .slice p1 R1.length n1, .slice p2 R2.length n2, .slice p3 R3.length n3, .slice p4 R4.length n4, .slice p5 R5.length n5, .slice p6 R6.length n6, .slice p7 R7.length n7, .bool true, .bool true]) X.heap.size (.slice p0 R0.length n0) R0) := O0.out.same (fun g hg => setRow_other _ _ _ _ (by have := (O0.out.lt g hg).1; omega))
      have O1 : Hid (OI (g7.setRow (w.heap.size + 1 + 1) #[.slice p0 R0.length n0, .slice p1 R1.length n1, .slice p2 R2.length n2, .slice p3 R3.length n3, .slice p4 R4.length n4, .slice p5 R5.length n5, .slice p6 R6.length n6, .slice p7 R7.length n7, .bool true, .bool true]) X.heap.size (.slice p1 R1.length n1) R1) := O1.out.same (fun g hg => setRow_other _ _ _ _ (by have := (O1.out.lt g hg).1; omega))
      have O2 : Hid (OI (g7.setRow (w.heap.size + 1 + 1) #[.slice p0 R0.length n0, .slice p1 R1.length n1, .slice p2 R2.length n2, .slice p3 R3.length n3, .slice p4 R4.length n4, .slice p5 R5.length n5, .slice p6 R6.length n6, .slice p7 R7.length n7, .bool true, .bool true]) X.heap.size (.slice p2 R2.length n2) R2) := O2.out.same (fun g hg => setRow_other _ _ _ _ (by have := (O2.out.lt g hg).1; omega))
      have O3 : Hid (OI (g7.setRow (w.heap.size + 1 + 1) #[.slice p0 R0.length n0, .slice p1 R1.length n1, .slice p2 R2.length n2, .slice p3 R3.length n3, .slice p4 R4.length n4, .slice p5 R5.length n5, .slice p6 R6.length n6, .slice p7 R7.length n7, .bool true, .bool true]) X.heap.size (.slice p3 R3.length n3) R3) := O3.out.same (fun g hg => setRow_other _ _ _ _ (by have := (O3.out.lt g hg).1; omega))
      have O4 : Hid (OI (g7.setRow (w.heap.size + 1 + 1) #[.slice p0 R0.length n0, .slice p1 R1.length n1, .slice p2 R2.length n2, .slice p3 R3.length n3, .slice p4 R4.length n4, .slice p5 R5.length n5, .slice p6 R6.length n6, .slice p7 R7.length n7, .bool true, .bool true]) X.heap.size (.slice p4 R4.length n4) R4) := O4.out.same (fun g hg => setRow_other _ _ _ _ (by have := (O4.out.lt g hg).1; omega))
      have O5 : Hid (OI (g7.setRow (w.heap.size + 1 + 1) #[.slice p0 R0.length n0, .slice p1 R1.length n1, .slice p2 R2.length n2, .slice p3 R3.length n3, .slice p4 R4.length n4, .slice p5 R5.length n5, .slice p6 R6.length n6, .slice p7 R7.length n7, .bool true, .bool true]) X.heap.size (.slice p5 R5.length n5) R5) := O5.out.same (fun g hg => setRow_other _ _ _ _ (by have := (O5.out.lt g hg).1; omega))
      have O6 : Hid (OI (g7.setRow (w.heap.size + 1 + 1) #[.slice p0 R0.length n0, .slice p1 R1.length n1, .slice p2 R2.length n2, .slice p3 R3.length n3, .slice p4 R4.length n4, .slice p5 R5.length n5, .slice p6 R6.length n6, .slice p7 R7.length n7, .bool true, .bool true]) X.heap.size (.slice p6 R6.length n6) R6) := O6.out.same (fun g hg => setRow_other _ _ _ _ (by have := (O6.out.lt g hg).1; omega))
      have O7 : Hid (OI (g7.setRow (w.heap.size + 1 + 1) #[.slice p0 R0.length n0, .slice p1 R1.length n1, .slice p2 R2.length n2, .slice p3 R3.length n3, .slice p4 R4.length n4, .slice p5 R5.length n5, .slice p6 R6.length n6, .slice p7 R7.length n7, .bool true, .bool true]) X.heap.size (.slice p7 R7.length n7) R7) := O7.out.same (fun g hg => setRow_other _ _ _ _ (by have := (O7.out.lt g hg).1; omega))
      refine hK.out _ _ ?_ (fun hHeld => ?_)
      · exact ⟨K0.out, K1.out⟩
      clear hK K
      try simp only [List.foldl, Act.put, List.setIfInBounds_toArray, List.set_cons_zero, List.set_cons_succ]
      refine wpAnyH_done (by kernel_rfl) ?_ _
      go_wp2_with fail
      refine bodyPost_ret (v := .agg #[.slice p0 R0.length n0, .slice p1 R1.length n1, .slice p2 R2.length n2, .slice p3 R3.length n3, .slice p4 R4.length n4, .slice p5 R5.length n5, .slice p6 R6.length n6, .slice p7 R7.length n7, .bool true, .bool true]) (results_cell_row (P := Try.prog) Try.results14 _ _ (w.heap.size + 1 + 1) _ _ _ _ rfl K2.out Try.underlying27 rfl (by rw [Try.infoEf]; rfl)) rfl ⟨⟨p0, p1, p2, p3, p4, p5, p6, p7, n0, n1, n2, n3, n4, n5, n6, n7, ⟨R0, R1, R2, R3, R4, R5, R6, R7, true, true⟩, rfl, ⟨O0.out.mono (by omega), O1.out.mono (by omega), O2.out.mono (by omega), O3.out.mono (by omega), O4.out.mono (by omega), O5.out.mono (by omega), O6.out.mono (by omega), O7.out.mono (by omega)⟩, ⟨H0.out, H1.out, H2.out, H3.out, H4.out, H5.out, H6.out, H7.out, (by rw [hv1.out]; rfl), (by rw [hv2.out]; rfl)⟩⟩, LZ.out⟩
end Go.Proofs.Ytgcfhoojjgcpiaa
