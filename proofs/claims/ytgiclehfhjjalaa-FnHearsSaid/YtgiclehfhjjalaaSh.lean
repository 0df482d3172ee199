import Derived.Test.YtgiclehfhjjalaaSg
import Derived.Test.YtgiclehfhjjalaaSk
namespace Go.Proofs.Ytgiclehfhjjalaa
open Go.RowKit
set_option linter.unusedVariables false
set_option linter.unusedSimpArgs false

theorem Blk.kept' {w w' : World} {n : Nat} {c : Array Value} {t : TypeId} {r : Option Nat} (h : Blk w n c t) (hg : w.grownBy w' r) (hr : ¬ r = some n) : Blk w' n c t := by
  unfold Blk; rw [hg.block n h.lt (fun e => hr e.symm)]; exact h
theorem Blk.drew {w : World} {n : Nat} {c : Array Value} {t : TypeId} (h : Blk w n c t) : Blk w.drew n c t := h
theorem own0 {w : World} {B n : Nat} (h : Blk w n #[] 32) (hB : B ≤ n) : OV w B (.slice (some ⟨n, 0, none⟩) 0 0) [] :=
  ⟨by simp, Or.inr ⟨n, 0, #[], rfl, hB, h, Nat.le_refl _, by unfold maxLen; omega, by simp, by simp⟩⟩

theorem step_append_newv {ops : Array Oper} {o : Oper} {a : Act} {w : World} {K : Act → World → Prop} {Q : Exit → Act → World → Prop} {E : Prop}
    (hg : o.guard = none) (s x : Operand) (hop : o.op = Op.call { callee := Callee.builtin Builtin.append, args := #[s, x], argTypes := #[24, 24] })
    (n : Nat) (hs : a.eval s = .slice (some ⟨n, 0, none⟩) 0 0) (hB : Blk w n #[] 32)
    (pb po c : Nat) (G : List V4) (hx : a.eval x = .slice (some ⟨pb, po, none⟩) G.length c) (B0 : Nat) (hG : Els 4 cVal w B0 (some ⟨pb, po, none⟩) G) (hl : G.length ≤ 1048576)
    (hK : ∀ g c' w', OV w' 0 (.slice (some ⟨g, 0, none⟩) G.length c') G → w.grownBy w' (some n) → (g = n ∨ w.heap.size ≤ g) → g < w'.heap.size → K (a.put o.dst (.slice (some ⟨g, 0, none⟩) G.length c')) w') :
    if Region.wanted o (yielded ops a.tmps) = true then Oper.wp Try.prog o a w K Q else E := by
  have hw : Region.wanted o (yielded ops a.tmps) = true := by simp [Region.wanted, hg]
  rw [if_pos hw]
  obtain ⟨i0, hi, hz0, hz1, hz2⟩ := info_parts Try.infoV
  by_cases he : G = []
  · subst he
    obtain ⟨w', hrun, r1, r2⟩ := run_append_fits (P := Try.prog) w 0 24 o.type 32 i0 4 Try.underlying24 hi hz1 n 0 0 [] (own0 hB (Nat.zero_le _)) ⟨pb, po, none⟩ 0 c [] rfl (by simp) (by simp) (by omega)
    have hx' : a.eval x = .slice (some ⟨pb, po, none⟩) 0 c := hx
    unfold Oper.wp
    simp [execOp, hop, resolve, invoke, builtin, hs, hx', hrun, Result.andThen]
    exact hK n 0 w' r1 r2 (Or.inl rfl) (World.ownsRow.lt r1 n rfl).2
  · have hpos : 0 < G.length := List.length_pos_iff.2 he
    obtain ⟨v', w', hrun, r1, r2⟩ := run_append_arg_grows (P := Try.prog) w 24 o.type 32 i0 (.agg #[.int .i64 0, .int .i64 0, .float .f64 0, .float .f64 0]) 4 32 Try.underlying24 hi hz0 hz1 hz2 rfl (by decide) ⟨n, 0, none⟩ 0 0 [] rfl (by simp) ⟨pb, po, none⟩ G.length c (G.flatMap vcells) (flat_len vcells_len G) (els_some hG) (by omega) (by unfold maxLen; omega) (by omega)
    rw [Nat.zero_add, List.nil_append] at r1
    rcases r1.2 with ⟨_, h0⟩ | ⟨g, cap, cur, rfl, hb, hgg, r⟩
    · omega
    unfold Oper.wp
    simp [execOp, hop, resolve, invoke, builtin, hs, hx, hrun, Result.andThen]
    exact hK g cap w' (OV.mono r1 (Nat.zero_le _)) ⟨r2.os, r2.tape, r2.output, r2.size, fun k hk _ => r2.block k hk (by simp)⟩ (Or.inr hb) (World.ownsRow.lt r1 g rfl).2

/-- the boxes of an argument and of a result, both Ents. -/
structure St (w : World) (A : Array Value) (X : World) : Prop where
  l : Below w.heap.size w X
  k : Blk X w.heap.size A 26
  j : Blk X (w.heap.size + 1) #[.int .i64 0, .slice none 0 0, .slice none 0 0] 26
  s : w.heap.size + 2 ≤ X.heap.size
theorem St.alloc {w X : World} {A : Array Value} (h : St w A X) (o : Obj) : St w A (X.alloc o) := ⟨bl_alloc h.l o, h.k.alloc o, h.j.alloc o, by simp; have := h.s; omega⟩
theorem St.drew {w X : World} {A : Array Value} (h : St w A X) : St w A X.drew := ⟨bl_drew h.l, h.k, h.j, h.s⟩
theorem St.grow {w X Y : World} {A : Array Value} {n : Nat} (h : St w A X) (hg : X.grownBy Y (some n)) (hn : w.heap.size + 2 ≤ n) : St w A Y :=
  ⟨h.l.grown hg h.l.size (fun k e => by simp at e; omega), h.k.kept' hg (by simp; omega), h.j.kept' hg (by simp; omega), Nat.le_trans h.s hg.size⟩

/-- an empty block that is new. -/
structure New (w : World) (X : World) (n : Nat) : Prop where
  b : Blk X n #[] 32
  s : w.heap.size + 2 ≤ n
theorem New.new {w X : World} {A : Array Value} (h : St w A X) : New w (X.alloc (.cells #[] 32)) X.heap.size := ⟨Blk.new _ _ _, h.s⟩
theorem New.new1 {w X : World} {A : Array Value} (h : St w A X) (o : Obj) : New w ((X.alloc o).alloc (.cells #[] 32)) (X.heap.size + 1) := ⟨Blk.new' _ _ _ (by simp), by have := h.s; omega⟩
theorem New.alloc {w X : World} {n : Nat} (h : New w X n) (o : Obj) : New w (X.alloc o) n := ⟨h.b.alloc o, h.s⟩
theorem New.drew {w X : World} {n : Nat} (h : New w X n) : New w X.drew n := ⟨h.b, h.s⟩
theorem New.kept {w X Y : World} {n m : Nat} (h : New w X n) (hg : X.grownBy Y (some m)) (hn : ¬ m = n) : New w Y n := ⟨h.b.kept' hg (by simp; exact hn), h.s⟩

theorem OV.alloc {w : World} {B : Nat} {v : Value} {G : List V4} (h : OV w B v G) (o : Obj) : OV (w.alloc o) B v G := h.later (bl_alloc (Below.refl _ w) o)
theorem OV.grown {w w' : World} {B : Nat} {v : Value} {G : List V4} {r : Option Nat} (h : OV w B v G) (hg : w.grownBy w' r) (hn : ∀ k, v.ownBlock = some k → ¬ r = some k) : OV w' B v G :=
  h.same fun g hg' hl => hg.block g hl (fun e => hn g hg' e.symm)
theorem grown_setCell (w : World) (n o : Nat) (u : Value) : w.grownBy (w.setCell ⟨n, o, none⟩ u) (some n) :=
  ⟨rfl, rfl, rfl, by simp, fun k hk hne => Below.heap_setCell w ⟨n, o, none⟩ u k (by dsimp only; exact fun e => hne (by rw [e]))⟩
theorem OV.other {w : World} {B : Nat} {v : Value} {G : List V4} (h : OV w B v G) {n : Nat} (hn : ¬ v.ownBlock = some n) (o : Nat) (u : Value) : OV (w.setCell ⟨n, o, none⟩ u) B v G :=
  h.grown (grown_setCell w n o u) (fun k hk e => hn (by cases e; exact hk))
theorem OV.keptS {w w' : World} {B g n len c : Nat} {G : List V4} (h : OV w B (.slice (some ⟨g, 0, none⟩) len c) G) (hg : w.grownBy w' (some n)) (hn : ¬ g = n) : OV w' B (.slice (some ⟨g, 0, none⟩) len c) G :=
  h.grown hg (fun k hk e => hn (by simp [Value.ownBlock] at hk e; omega))
theorem OV.raise {w : World} {B B' g len c : Nat} {G : List V4} (h : OV w B (.slice (some ⟨g, 0, none⟩) len c) G) (hB : B' ≤ g) : OV w B' (.slice (some ⟨g, 0, none⟩) len c) G := by
  refine ⟨h.1, ?_⟩
  rcases h.2 with h' | ⟨g', cap', cur, h', hb, r⟩
  · exact Or.inl h'
  · have e := h'
    simp only [Value.slice.injEq, Option.some.injEq, Addr.mk.injEq, and_true] at e
    exact Or.inr ⟨g', cap', cur, h', by omega, r⟩

set_option maxHeartbeats 16000000 in
theorem l6Copy_any (f : Int) (p1 q1 c1 p2 q2 c2 : Nat) (G F : List V4) (w : World) (B0 : Nat) (h1 : Els 4 cVal w B0 (some ⟨p1, q1, none⟩) G) (h2 : Els 4 cVal w B0 (some ⟨p2, q2, none⟩) F) (l1 : G.length ≤ 1048576) (l2 : F.length ≤ 1048576) :
    Calls Try.prog 46 #[.agg #[.int .i64 f, .slice (some ⟨p1, q1, none⟩) G.length c1, .slice (some ⟨p2, q2, none⟩) F.length c2]] w fun e w' => OwnS w f G F e w' := by
  have hal := alloc_old
  have haf := alloc_oldf
  have ok1 := els_ok h1
  have ok2 := els_ok h2
  obtain ⟨K, J⟩ := blk2 w #[.int .i64 f, .slice (some ⟨p1, q1, none⟩) G.length c1, .slice (some ⟨p2, q2, none⟩) F.length c2] #[.int .i64 0, .slice none 0 0, .slice none 0 0] 26 26
  go_enter Try.func46, Try.ntmps46
  go_wp2_with fail
  obtain ⟨W, hW⟩ : ∃ W, W = ((w.alloc (.cells #[.int .i64 f, .slice (some ⟨p1, q1, none⟩) G.length c1, .slice (some ⟨p2, q2, none⟩) F.length c2] 26)).alloc (.cells #[.int .i64 0, .slice none 0 0, .slice none 0 0] 26)) := ⟨_, rfl⟩
  have L0 : Below w.heap.size w W := by rw [hW]; (repeat (first | with_reducible exact Below.refl _ _ | with_reducible refine bl_alloc ?_ _ | with_reducible refine bl_drewN ?_ _ | with_reducible refine bl_drew ?_ | with_reducible refine bl_setCell ?_ (by first | exact Nat.le_refl _ | (dsimp only; omega) | (simp <;> omega)) _ | with_reducible refine bl_trans ?_ (by with_reducible assumption)))
  have sW : w.heap.size + 2 ≤ W.heap.size := by rw [hW]; simp
  rw [← hW] at K J ⊢
  clear hW
  have SS : Hid (St w #[.int .i64 f, .slice (some ⟨p1, q1, none⟩) G.length c1, .slice (some ⟨p2, q2, none⟩) F.length c2] W) := ⟨L0, K, J, sW⟩
  clear K J L0 sW
  obtain ⟨x0, x1, x2, x3⟩ := SS.out.k.three'
  refine wp_region_held_drew (S := fun w' => w'.cell? ⟨w.heap.size, 0, none⟩ = some (.int .i64 f) ∧ w'.cell? ⟨w.heap.size, 1, none⟩ = some (.slice (some ⟨p1, q1, none⟩) G.length c1) ∧ w'.cell? ⟨w.heap.size, 2, none⟩ = some (.slice (some ⟨p2, q2, none⟩) F.length c2)) (by kernel_rfl) ?_ (fun hHeld => ?_)
  · exact ⟨x0, x1, x2⟩
  refine wpAnyH_one (i := 0) (d := 3) (v := ?_) rfl rfl (by kernel_rfl) (by kernel_rfl) (by kernel_rfl) (fun _ _ _ h => h) (by rfl) (by assumption) ?_ ?_
  rotate_left 1
  · intro w hSw; (try dsimp only at hSw); go_simp <;> with_reducible rfl
  simp only [List.foldl, Act.put, List.setIfInBounds_toArray, List.set_cons_zero, List.set_cons_succ]
  refine wpAnyH_one (i := 1) (d := 4) (v := ?_) rfl rfl (by kernel_rfl) (by kernel_rfl) (by kernel_rfl) (fun _ _ _ h => h) (by rfl) (by assumption) ?_ ?_
  rotate_left 1
  · intro w hSw; (try dsimp only at hSw); go_simp <;> with_reducible rfl
  simp only [List.foldl, Act.put, List.setIfInBounds_toArray, List.set_cons_zero, List.set_cons_succ]
  refine wpAnyH_one (i := 3) (d := 6) (v := ?_) rfl rfl (by kernel_rfl) (by kernel_rfl) (by kernel_rfl) (fun _ _ _ h => h) (by rfl) (by assumption) ?_ ?_
  rotate_left 1
  · intro w hSw; (try dsimp only at hSw); go_simp <;> with_reducible rfl
  simp only [List.foldl, Act.put, List.setIfInBounds_toArray, List.set_cons_zero, List.set_cons_succ]
  refine wpAnyH_one (i := 4) (d := 7) (v := ?_) rfl rfl (by kernel_rfl) (by kernel_rfl) (by kernel_rfl) (fun _ _ _ h => h) (by rfl) (by assumption) ?_ ?_
  rotate_left 1
  · intro w hSw; (try dsimp only at hSw); go_simp <;> with_reducible rfl
  simp only [List.foldl, Act.put, List.setIfInBounds_toArray, List.set_cons_zero, List.set_cons_succ]
  refine wpAnyH_one (i := 7) (d := 10) (v := ?_) rfl rfl (by kernel_rfl) (by kernel_rfl) (by kernel_rfl) (fun _ _ _ h => h) (by rfl) (by assumption) ?_ ?_
  rotate_left 1
  · intro w hSw; (try dsimp only at hSw); go_simp <;> with_reducible rfl
  simp only [List.foldl, Act.put, List.setIfInBounds_toArray, List.set_cons_zero, List.set_cons_succ]
  refine wpAnyH_one (i := 8) (d := 11) (v := ?_) rfl rfl (by kernel_rfl) (by kernel_rfl) (by kernel_rfl) (fun _ _ _ h => h) (by rfl) (by assumption) ?_ ?_
  rotate_left 1
  · intro w hSw; (try dsimp only at hSw); go_simp <;> with_reducible rfl
  simp only [List.foldl, Act.put, List.setIfInBounds_toArray, List.set_cons_zero, List.set_cons_succ]
  clear x0 x1 x2 x3
  refine wpAnyH_ready (rs := [2, 6]) (by kernel_rfl) (by simp) ?_
  refine AllReadyH.cons rfl (fun K hK => ?_) ?_
  · skip
    go_simp
    have ss : Hid (St w #[.int .i64 f, .slice (some ⟨p1, q1, none⟩) G.length c1, .slice (some ⟨p2, q2, none⟩) F.length c2] (W.alloc (.cells #[] 32)).drew) := (SS.out.alloc _).drew
    have n1 : Hid (New w (W.alloc (.cells #[] 32)).drew W.heap.size) := (New.new SS.out).drew
    clear SS
    obtain ⟨x0, x1, x2, x3⟩ := ss.out.k.three'
    refine hK.out _ _ ?_ (fun hHeld => ?_)
    · exact ⟨x0, x1, x2⟩
    clear hK K
    try simp only [List.foldl, Act.put, List.setIfInBounds_toArray, List.set_cons_zero, List.set_cons_succ]
    generalize hGe : (W.alloc (.cells #[] 32)).drew = G1 at ss n1 hHeld ⊢
    obtain ⟨n1z, hnz⟩ : ∃ z, W.heap.size = z := ⟨_, rfl⟩
    rw [hnz] at n1 ⊢
    clear hGe hnz x0 x1 x2 x3
    have SS := ss
    have N1 := n1
    clear ss n1
    refine wpAnyH_ready (rs := [5, 6]) (by kernel_rfl) (by simp) ?_
    refine AllReadyH.cons rfl (fun K hK => ?_) ?_
    · skip
      refine step_append_newv rfl (.tmp 5) (.tmp 7) rfl n1z rfl N1.out.b p1 q1 c1 G rfl B0 (h1.later cVal_keeps SS.out.l) l1 ?_
      intro g1 d1 G2 hv hgr hor hlt
      have ss : Hid (St w #[.int .i64 f, .slice (some ⟨p1, q1, none⟩) G.length c1, .slice (some ⟨p2, q2, none⟩) F.length c2] G2) := SS.out.grow hgr N1.out.s
      have sz0 := SS.out.s
      have sn0 := N1.out.s
      have v1 : Hid (OV G2 (w.heap.size + 2) (.slice (some ⟨g1, 0, none⟩) G.length d1) G) := hv.raise (by omega)
      clear SS N1 hv hgr hor hlt sz0 sn0
      obtain ⟨x0, x1, x2, x3⟩ := ss.out.k.three'
      refine hK.out _ _ ?_ (fun hHeld => ?_)
      · exact ⟨x0, x1, x2⟩
      clear hK K x0 x1 x2 x3
      try simp only [List.foldl, Act.put, List.setIfInBounds_toArray, List.set_cons_zero, List.set_cons_succ]
      have SS := ss
      have V1 := v1
      clear ss v1
      refine wpAnyH_ready (rs := [6]) (by kernel_rfl) (by simp) ?_
      refine AllReadyH.cons rfl (fun K hK => ?_) AllReadyH.nil
      go_simp
      have ss : Hid (St w #[.int .i64 f, .slice (some ⟨p1, q1, none⟩) G.length c1, .slice (some ⟨p2, q2, none⟩) F.length c2] (G2.alloc (.cells #[] 32))) := (SS.out.alloc _)
      have n2 : Hid (New w (G2.alloc (.cells #[] 32)) G2.heap.size) := (New.new SS.out)
      have v1 : Hid (OV (G2.alloc (.cells #[] 32)) (w.heap.size + 2) (.slice (some ⟨g1, 0, none⟩) G.length d1) G) := (V1.out.alloc _)
      have D12 : Hid (¬ g1 = G2.heap.size) := fun e => by have : g1 < G2.heap.size := (V1.out.lt _ rfl).2; omega
      clear SS V1
      obtain ⟨x0, x1, x2, x3⟩ := ss.out.k.three'
      refine hK.out _ _ ?_ (fun hHeld => ?_)
      · exact ⟨x0, x1, x2⟩
      clear hK K
      try simp only [List.foldl, Act.put, List.setIfInBounds_toArray, List.set_cons_zero, List.set_cons_succ]
      generalize hGe : (G2.alloc (.cells #[] 32)) = G3 at ss n2 v1 hHeld ⊢
      obtain ⟨n2z, hnz⟩ : ∃ z, G2.heap.size = z := ⟨_, rfl⟩
      rw [hnz] at n2 D12 ⊢
      clear hGe hnz x0 x1 x2 x3
      have SS := ss
      have N2 := n2
      have V1 := v1
      clear ss n2 v1
      refine wpAnyH_ready (rs := [9]) (by kernel_rfl) (by simp) ?_
      refine AllReadyH.cons rfl (fun K hK => ?_) AllReadyH.nil
      refine step_append_newv rfl (.tmp 9) (.tmp 11) rfl n2z rfl N2.out.b p2 q2 c2 F rfl B0 (h2.later cVal_keeps SS.out.l) l2 ?_
      intro g2 d2 G4 hv hgr hor hlt
      have ss : Hid (St w #[.int .i64 f, .slice (some ⟨p1, q1, none⟩) G.length c1, .slice (some ⟨p2, q2, none⟩) F.length c2] G4) := SS.out.grow hgr N2.out.s
      have sz0 := SS.out.s
      have sn0 := N2.out.s
      have v2 : Hid (OV G4 (w.heap.size + 2) (.slice (some ⟨g2, 0, none⟩) F.length d2) F) := hv.raise (by omega)
      have v1 : Hid (OV G4 (w.heap.size + 2) (.slice (some ⟨g1, 0, none⟩) G.length d1) G) := V1.out.keptS hgr (fun e => D12.out (by omega))
      have lo : g1 < G3.heap.size := (V1.out.lt _ rfl).2
      have D12 : Hid (¬ g1 = g2) := fun e => D12.out (by omega)
      clear lo
      clear SS V1 N2 hv hgr hor hlt sz0 sn0
      obtain ⟨x0, x1, x2, x3⟩ := ss.out.k.three'
      refine hK.out _ _ ?_ (fun hHeld => ?_)
      · exact ⟨x0, x1, x2⟩
      clear hK K x0 x1 x2 x3
      try simp only [List.foldl, Act.put, List.setIfInBounds_toArray, List.set_cons_zero, List.set_cons_succ]
      have SS := ss
      have V2 := v2
      have V1 := v1
      clear ss v2 v1
      refine wpAnyH_one (i := 10) (d := 13) (v := ?_) rfl rfl (by kernel_rfl) (by kernel_rfl) (by kernel_rfl) (fun _ _ _ h => h) (by rfl) (by assumption) ?_ ?_
      rotate_left 1
      · intro w hSw; (try dsimp only at hSw); go_simp <;> with_reducible rfl
      simp only [List.foldl, Act.put, List.setIfInBounds_toArray, List.set_cons_zero, List.set_cons_succ]
      obtain ⟨x0, x1, x2, x3⟩ := SS.out.k.three'
      obtain ⟨y0, y1, y2, y3⟩ := SS.out.j.three'
      refine wpAnyH_ready (rs := [11]) (by kernel_rfl) (by simp) ?_
      refine AllReadyH.cons rfl (fun K hK => ?_) AllReadyH.nil
      go_simp
      refine hK.out _ _ ?_ (fun hHeld => ?_)
      · exact ⟨(setThree_far _ _ _ (by omega)).trans x0, (setThree_far _ _ _ (by omega)).trans x1, (setThree_far _ _ _ (by omega)).trans x2⟩
      refine wpAnyH_done (by kernel_rfl) ?_ _
      have e0 := SS.out.s
      have q5 := SS.out.l
      have vv1 := V1.out
      have vv2 := V2.out
      have hne : ¬ g1 = g2 := fun e => D12.out (by omega)
      clear hHeld D12 SS V1 V2
      clear hK K
      go_wp2_with fail
      refine bodyPost_ret (v := .agg #[.int .i64 f, .slice (some ⟨g1, 0, none⟩) G.length d1, .slice (some ⟨g2, 0, none⟩) F.length d2]) (by simp [results, Try.results46, go_sem, y0, y1, y2]) rfl ⟨g1, d1, g2, d2, rfl, ?_, ?_, hne, ok1, ok2, ?_⟩
      · exact (vv1.kept (keptUnder (by omega) _ _ _)).mono (by omega)
      · exact (vv2.kept (keptUnder (by omega) _ _ _)).mono (by omega)
      · exact ((q5.setCell (by simp <;> omega) _).setCell (by simp <;> omega) _).setCell (by simp <;> omega) _
    refine AllReadyH.cons rfl (fun K hK => ?_) AllReadyH.nil
    go_simp
    have ss : Hid (St w #[.int .i64 f, .slice (some ⟨p1, q1, none⟩) G.length c1, .slice (some ⟨p2, q2, none⟩) F.length c2] (G1.alloc (.cells #[] 32))) := (SS.out.alloc _)
    have n2 : Hid (New w (G1.alloc (.cells #[] 32)) G1.heap.size) := (New.new SS.out)
    have n1 : Hid (New w (G1.alloc (.cells #[] 32)) n1z) := (N1.out.alloc _)
    have D12 : Hid (¬ n1z = G1.heap.size) := fun e => by have := N1.out.b.lt; omega
    clear SS N1
    obtain ⟨x0, x1, x2, x3⟩ := ss.out.k.three'
    refine hK.out _ _ ?_ (fun hHeld => ?_)
    · exact ⟨x0, x1, x2⟩
    clear hK K
    try simp only [List.foldl, Act.put, List.setIfInBounds_toArray, List.set_cons_zero, List.set_cons_succ]
    generalize hGe : (G1.alloc (.cells #[] 32)) = G5 at ss n2 n1 hHeld ⊢
    obtain ⟨n2z, hnz⟩ : ∃ z, G1.heap.size = z := ⟨_, rfl⟩
    rw [hnz] at n2 D12 ⊢
    clear hGe hnz x0 x1 x2 x3
    have SS := ss
    have N2 := n2
    have N1 := n1
    clear ss n2 n1
    refine wpAnyH_ready (rs := [5]) (by kernel_rfl) (by simp) ?_
    refine AllReadyH.cons rfl (fun K hK => ?_) AllReadyH.nil
    refine step_append_newv rfl (.tmp 5) (.tmp 7) rfl n1z rfl N1.out.b p1 q1 c1 G rfl B0 (h1.later cVal_keeps SS.out.l) l1 ?_
    intro g1 d1 G6 hv hgr hor hlt
    have ss : Hid (St w #[.int .i64 f, .slice (some ⟨p1, q1, none⟩) G.length c1, .slice (some ⟨p2, q2, none⟩) F.length c2] G6) := SS.out.grow hgr N1.out.s
    have sz0 := SS.out.s
    have sn0 := N1.out.s
    have v1 : Hid (OV G6 (w.heap.size + 2) (.slice (some ⟨g1, 0, none⟩) G.length d1) G) := hv.raise (by omega)
    have n2 : Hid (New w G6 n2z) := N2.out.kept hgr (fun e => D12.out (by omega))
    have lo := N2.out.b.lt
    have D12 : Hid (¬ n2z = g1) := fun e => D12.out (by omega)
    clear lo
    clear SS N1 N2 hv hgr hor hlt sz0 sn0
    obtain ⟨x0, x1, x2, x3⟩ := ss.out.k.three'
    refine hK.out _ _ ?_ (fun hHeld => ?_)
    · exact ⟨x0, x1, x2⟩
    clear hK K x0 x1 x2 x3
    try simp only [List.foldl, Act.put, List.setIfInBounds_toArray, List.set_cons_zero, List.set_cons_succ]
    have SS := ss
    have V1 := v1
    have N2 := n2
    clear ss v1 n2
    refine wpAnyH_ready (rs := [9]) (by kernel_rfl) (by simp) ?_
    refine AllReadyH.cons rfl (fun K hK => ?_) AllReadyH.nil
    refine step_append_newv rfl (.tmp 9) (.tmp 11) rfl n2z rfl N2.out.b p2 q2 c2 F rfl B0 (h2.later cVal_keeps SS.out.l) l2 ?_
    intro g2 d2 G7 hv hgr hor hlt
    have ss : Hid (St w #[.int .i64 f, .slice (some ⟨p1, q1, none⟩) G.length c1, .slice (some ⟨p2, q2, none⟩) F.length c2] G7) := SS.out.grow hgr N2.out.s
    have sz0 := SS.out.s
    have sn0 := N2.out.s
    have v2 : Hid (OV G7 (w.heap.size + 2) (.slice (some ⟨g2, 0, none⟩) F.length d2) F) := hv.raise (by omega)
    have v1 : Hid (OV G7 (w.heap.size + 2) (.slice (some ⟨g1, 0, none⟩) G.length d1) G) := V1.out.keptS hgr (fun e => D12.out (by omega))
    have lo : g1 < G6.heap.size := (V1.out.lt _ rfl).2
    have D12 : Hid (¬ g1 = g2) := fun e => D12.out (by omega)
    clear lo
    clear SS V1 N2 hv hgr hor hlt sz0 sn0
    obtain ⟨x0, x1, x2, x3⟩ := ss.out.k.three'
    refine hK.out _ _ ?_ (fun hHeld => ?_)
    · exact ⟨x0, x1, x2⟩
    clear hK K x0 x1 x2 x3
    try simp only [List.foldl, Act.put, List.setIfInBounds_toArray, List.set_cons_zero, List.set_cons_succ]
    have SS := ss
    have V2 := v2
    have V1 := v1
    clear ss v2 v1
    refine wpAnyH_one (i := 10) (d := 13) (v := ?_) rfl rfl (by kernel_rfl) (by kernel_rfl) (by kernel_rfl) (fun _ _ _ h => h) (by rfl) (by assumption) ?_ ?_
    rotate_left 1
    · intro w hSw; (try dsimp only at hSw); go_simp <;> with_reducible rfl
    simp only [List.foldl, Act.put, List.setIfInBounds_toArray, List.set_cons_zero, List.set_cons_succ]
    obtain ⟨x0, x1, x2, x3⟩ := SS.out.k.three'
    obtain ⟨y0, y1, y2, y3⟩ := SS.out.j.three'
    refine wpAnyH_ready (rs := [11]) (by kernel_rfl) (by simp) ?_
    refine AllReadyH.cons rfl (fun K hK => ?_) AllReadyH.nil
    go_simp
    refine hK.out _ _ ?_ (fun hHeld => ?_)
    · exact ⟨(setThree_far _ _ _ (by omega)).trans x0, (setThree_far _ _ _ (by omega)).trans x1, (setThree_far _ _ _ (by omega)).trans x2⟩
    refine wpAnyH_done (by kernel_rfl) ?_ _
    have e0 := SS.out.s
    have q5 := SS.out.l
    have vv1 := V1.out
    have vv2 := V2.out
    have hne : ¬ g1 = g2 := fun e => D12.out (by omega)
    clear hHeld D12 SS V1 V2
    clear hK K
    go_wp2_with fail
    refine bodyPost_ret (v := .agg #[.int .i64 f, .slice (some ⟨g1, 0, none⟩) G.length d1, .slice (some ⟨g2, 0, none⟩) F.length d2]) (by simp [results, Try.results46, go_sem, y0, y1, y2]) rfl ⟨g1, d1, g2, d2, rfl, ?_, ?_, hne, ok1, ok2, ?_⟩
    · exact (vv1.kept (keptUnder (by omega) _ _ _)).mono (by omega)
    · exact (vv2.kept (keptUnder (by omega) _ _ _)).mono (by omega)
    · exact ((q5.setCell (by simp <;> omega) _).setCell (by simp <;> omega) _).setCell (by simp <;> omega) _
  refine AllReadyH.cons rfl (fun K hK => ?_) AllReadyH.nil
  go_simp
  have ss : Hid (St w #[.int .i64 f, .slice (some ⟨p1, q1, none⟩) G.length c1, .slice (some ⟨p2, q2, none⟩) F.length c2] (W.alloc (.cells #[] 32)).drew) := (SS.out.alloc _).drew
  have n2 : Hid (New w (W.alloc (.cells #[] 32)).drew W.heap.size) := (New.new SS.out).drew
  clear SS
  obtain ⟨x0, x1, x2, x3⟩ := ss.out.k.three'
  refine hK.out _ _ ?_ (fun hHeld => ?_)
  · exact ⟨x0, x1, x2⟩
  clear hK K
  try simp only [List.foldl, Act.put, List.setIfInBounds_toArray, List.set_cons_zero, List.set_cons_succ]
  generalize hGe : (W.alloc (.cells #[] 32)).drew = G8 at ss n2 hHeld ⊢
  obtain ⟨n2z, hnz⟩ : ∃ z, W.heap.size = z := ⟨_, rfl⟩
  rw [hnz] at n2 ⊢
  clear hGe hnz x0 x1 x2 x3
  have SS := ss
  have N2 := n2
  clear ss n2
  refine wpAnyH_ready (rs := [2]) (by kernel_rfl) (by simp) ?_
  refine AllReadyH.cons rfl (fun K hK => ?_) AllReadyH.nil
  go_simp
  have ss : Hid (St w #[.int .i64 f, .slice (some ⟨p1, q1, none⟩) G.length c1, .slice (some ⟨p2, q2, none⟩) F.length c2] (G8.alloc (.cells #[] 32))) := (SS.out.alloc _)
  have n1 : Hid (New w (G8.alloc (.cells #[] 32)) G8.heap.size) := (New.new SS.out)
  have n2 : Hid (New w (G8.alloc (.cells #[] 32)) n2z) := (N2.out.alloc _)
  have D12 : Hid (¬ n2z = G8.heap.size) := fun e => by have := N2.out.b.lt; omega
  clear SS N2
  obtain ⟨x0, x1, x2, x3⟩ := ss.out.k.three'
  refine hK.out _ _ ?_ (fun hHeld => ?_)
  · exact ⟨x0, x1, x2⟩
  clear hK K
  try simp only [List.foldl, Act.put, List.setIfInBounds_toArray, List.set_cons_zero, List.set_cons_succ]
  generalize hGe : (G8.alloc (.cells #[] 32)) = G9 at ss n1 n2 hHeld ⊢
  obtain ⟨n1z, hnz⟩ : ∃ z, G8.heap.size = z := ⟨_, rfl⟩
  rw [hnz] at n1 D12 ⊢
  clear hGe hnz x0 x1 x2 x3
  have SS := ss
  have N1 := n1
  have N2 := n2
  clear ss n1 n2
  refine wpAnyH_ready (rs := [5]) (by kernel_rfl) (by simp) ?_
  refine AllReadyH.cons rfl (fun K hK => ?_) AllReadyH.nil
  refine step_append_newv rfl (.tmp 5) (.tmp 7) rfl n1z rfl N1.out.b p1 q1 c1 G rfl B0 (h1.later cVal_keeps SS.out.l) l1 ?_
  intro g1 d1 G10 hv hgr hor hlt
  have ss : Hid (St w #[.int .i64 f, .slice (some ⟨p1, q1, none⟩) G.length c1, .slice (some ⟨p2, q2, none⟩) F.length c2] G10) := SS.out.grow hgr N1.out.s
  have sz0 := SS.out.s
  have sn0 := N1.out.s
  have v1 : Hid (OV G10 (w.heap.size + 2) (.slice (some ⟨g1, 0, none⟩) G.length d1) G) := hv.raise (by omega)
  have n2 : Hid (New w G10 n2z) := N2.out.kept hgr (fun e => D12.out (by omega))
  have lo := N2.out.b.lt
  have D12 : Hid (¬ n2z = g1) := fun e => D12.out (by omega)
  clear lo
  clear SS N1 N2 hv hgr hor hlt sz0 sn0
  obtain ⟨x0, x1, x2, x3⟩ := ss.out.k.three'
  refine hK.out _ _ ?_ (fun hHeld => ?_)
  · exact ⟨x0, x1, x2⟩
  clear hK K x0 x1 x2 x3
  try simp only [List.foldl, Act.put, List.setIfInBounds_toArray, List.set_cons_zero, List.set_cons_succ]
  have SS := ss
  have V1 := v1
  have N2 := n2
  clear ss v1 n2
  refine wpAnyH_ready (rs := [9]) (by kernel_rfl) (by simp) ?_
  refine AllReadyH.cons rfl (fun K hK => ?_) AllReadyH.nil
  refine step_append_newv rfl (.tmp 9) (.tmp 11) rfl n2z rfl N2.out.b p2 q2 c2 F rfl B0 (h2.later cVal_keeps SS.out.l) l2 ?_
  intro g2 d2 G11 hv hgr hor hlt
  have ss : Hid (St w #[.int .i64 f, .slice (some ⟨p1, q1, none⟩) G.length c1, .slice (some ⟨p2, q2, none⟩) F.length c2] G11) := SS.out.grow hgr N2.out.s
  have sz0 := SS.out.s
  have sn0 := N2.out.s
  have v2 : Hid (OV G11 (w.heap.size + 2) (.slice (some ⟨g2, 0, none⟩) F.length d2) F) := hv.raise (by omega)
  have v1 : Hid (OV G11 (w.heap.size + 2) (.slice (some ⟨g1, 0, none⟩) G.length d1) G) := V1.out.keptS hgr (fun e => D12.out (by omega))
  have lo : g1 < G10.heap.size := (V1.out.lt _ rfl).2
  have D12 : Hid (¬ g1 = g2) := fun e => D12.out (by omega)
  clear lo
  clear SS V1 N2 hv hgr hor hlt sz0 sn0
  obtain ⟨x0, x1, x2, x3⟩ := ss.out.k.three'
  refine hK.out _ _ ?_ (fun hHeld => ?_)
  · exact ⟨x0, x1, x2⟩
  clear hK K x0 x1 x2 x3
  try simp only [List.foldl, Act.put, List.setIfInBounds_toArray, List.set_cons_zero, List.set_cons_succ]
  have SS := ss
  have V2 := v2
  have V1 := v1
  clear ss v2 v1
  refine wpAnyH_one (i := 10) (d := 13) (v := ?_) rfl rfl (by kernel_rfl) (by kernel_rfl) (by kernel_rfl) (fun _ _ _ h => h) (by rfl) (by assumption) ?_ ?_
  rotate_left 1
  · intro w hSw; (try dsimp only at hSw); go_simp <;> with_reducible rfl
  simp only [List.foldl, Act.put, List.setIfInBounds_toArray, List.set_cons_zero, List.set_cons_succ]
  obtain ⟨x0, x1, x2, x3⟩ := SS.out.k.three'
  obtain ⟨y0, y1, y2, y3⟩ := SS.out.j.three'
  refine wpAnyH_ready (rs := [11]) (by kernel_rfl) (by simp) ?_
  refine AllReadyH.cons rfl (fun K hK => ?_) AllReadyH.nil
  go_simp
  refine hK.out _ _ ?_ (fun hHeld => ?_)
  · exact ⟨(setThree_far _ _ _ (by omega)).trans x0, (setThree_far _ _ _ (by omega)).trans x1, (setThree_far _ _ _ (by omega)).trans x2⟩
  refine wpAnyH_done (by kernel_rfl) ?_ _
  have e0 := SS.out.s
  have q5 := SS.out.l
  have vv1 := V1.out
  have vv2 := V2.out
  have hne : ¬ g1 = g2 := fun e => D12.out (by omega)
  clear hHeld D12 SS V1 V2
  clear hK K
  go_wp2_with fail
  refine bodyPost_ret (v := .agg #[.int .i64 f, .slice (some ⟨g1, 0, none⟩) G.length d1, .slice (some ⟨g2, 0, none⟩) F.length d2]) (by simp [results, Try.results46, go_sem, y0, y1, y2]) rfl ⟨g1, d1, g2, d2, rfl, ?_, ?_, hne, ok1, ok2, ?_⟩
  · exact (vv1.kept (keptUnder (by omega) _ _ _)).mono (by omega)
  · exact (vv2.kept (keptUnder (by omega) _ _ _)).mono (by omega)
  · exact ((q5.setCell (by simp <;> omega) _).setCell (by simp <;> omega) _).setCell (by simp <;> omega) _

theorem own0v {w : World} {B n : Nat} (h : Blk w n #[] 32) (hB : B ≤ n) : w.ownsRow B 32 4 (.slice (some ⟨n, 0, none⟩) 0 0) 0 [] := own0 h hB

end Go.Proofs.Ytgiclehfhjjalaa
