import Derived.Test.YtcllkmdlheggkaaEu
namespace Go.Proofs.Ytcllkmdlheggkaa
open Go.RowKit
set_option linter.unusedVariables false
set_option linter.unusedSimpArgs false

theorem Blk.kept' {w w' : World} {n : Nat} {c : Array Value} {t : TypeId} {r : Option Nat} (h : Blk w n c t) (hg : w.grownBy w' r) (hr : ¬ r = some n) : Blk w' n c t := by
  unfold Blk; rw [hg.block n h.lt (fun e => hr e.symm)]; exact h
theorem Blk.drew {w : World} {n : Nat} {c : Array Value} {t : TypeId} (h : Blk w n c t) : Blk w.drew n c t := h
theorem own0 {w : World} {B n : Nat} (h : Blk w n #[] 3) (hB : B ≤ n) : VRow w B (.slice (some ⟨n, 0, none⟩) 0 0) [] :=
  ⟨by simp, Or.inr ⟨n, 0, #[], rfl, hB, h, Nat.le_refl _, by unfold maxLen; omega, by simp, by simp⟩⟩

theorem step_append_new {ops : Array Oper} {o : Oper} {a : Act} {w : World} {K : Act → World → Prop} {Q : Exit → Act → World → Prop} {E : Prop}
    (hg : o.guard = none) (s x : Operand) (hop : o.op = Op.call { callee := Callee.builtin Builtin.append, args := #[s, x], argTypes := #[24, 24] })
    (n : Nat) (hs : a.eval s = .slice (some ⟨n, 0, none⟩) 0 0) (hB : Blk w n #[] 3)
    (pb po c : Nat) (G : List Int) (hx : a.eval x = .slice (some ⟨pb, po, none⟩) G.length c) (hG : Ints w (some ⟨pb, po, none⟩) G) (hl : G.length ≤ 1048576)
    (hK : ∀ g c' w', VRow w' 0 (.slice (some ⟨g, 0, none⟩) G.length c') G → w.grownBy w' (some n) → (g = n ∨ w.heap.size ≤ g) → g < w'.heap.size → K (a.put o.dst (.slice (some ⟨g, 0, none⟩) G.length c')) w') :
    if Region.wanted o (yielded ops a.tmps) = true then Oper.wp Try.prog o a w K Q else E := by
  have hw : Region.wanted o (yielded ops a.tmps) = true := by simp [Region.wanted, hg]
  rw [if_pos hw]
  obtain ⟨i0, hi, hz0, hz1, hz2⟩ := info_parts Try.infoI
  by_cases he : G = []
  · subst he
    obtain ⟨w', hrun, r1, r2⟩ := run_append_fits (P := Try.prog) w 0 24 o.type 3 i0 1 Try.underlying24 hi hz1 n 0 0 [] (own0 hB (Nat.zero_le _)) ⟨pb, po, none⟩ 0 c [] rfl (by simp) (by simp) (by omega)
    have hx' : a.eval x = .slice (some ⟨pb, po, none⟩) 0 c := hx
    unfold Oper.wp
    simp [execOp, hop, resolve, invoke, builtin, hs, hx', hrun, Result.andThen]
    exact hK n 0 w' r1 r2 (Or.inl rfl) (World.ownsRow.lt r1 n rfl).2
  · have hpos : 0 < G.length := List.length_pos_iff.2 he
    obtain ⟨v', w', hrun, r1, r2⟩ := run_append_arg_grows (P := Try.prog) w 24 o.type 3 i0 (.int .i64 0) 1 8 Try.underlying24 hi hz0 hz1 hz2 rfl (by decide) ⟨n, 0, none⟩ 0 0 [] rfl (by simp) ⟨pb, po, none⟩ G.length c (G.map (Value.int .i64)) (by simp) (ints_cells hG) (by omega) (by unfold maxLen; omega) (by omega)
    rw [Nat.zero_add, List.nil_append] at r1
    rcases r1.2 with ⟨_, h0⟩ | ⟨g, cap, cur, rfl, hb, hgg, r⟩
    · omega
    unfold Oper.wp
    simp [execOp, hop, resolve, invoke, builtin, hs, hx, hrun, Result.andThen]
    exact hK g cap w' (VRow.mono r1 (Nat.zero_le _)) ⟨r2.os, r2.tape, r2.output, r2.size, fun k hk _ => r2.block k hk (by simp)⟩ (Or.inr hb) (World.ownsRow.lt r1 g rfl).2

/-- the boxes of an argument and of a result, both Ents. -/
structure St (w : World) (A : Array Value) (X : World) : Prop where
  l : Below w.heap.size w X
  k : Blk X w.heap.size A 26
  j : Blk X (w.heap.size + 1) #[.slice none 0 0, .slice none 0 0] 26
  s : w.heap.size + 2 ≤ X.heap.size
theorem St.alloc {w X : World} {A : Array Value} (h : St w A X) (o : Obj) : St w A (X.alloc o) := ⟨bl_alloc h.l o, h.k.alloc o, h.j.alloc o, by simp; have := h.s; omega⟩
theorem St.drew {w X : World} {A : Array Value} (h : St w A X) : St w A X.drew := ⟨bl_drew h.l, h.k, h.j, h.s⟩
theorem St.grow {w X Y : World} {A : Array Value} {n : Nat} (h : St w A X) (hg : X.grownBy Y (some n)) (hn : w.heap.size + 2 ≤ n) : St w A Y :=
  ⟨h.l.grown hg h.l.size (fun k e => by simp at e; omega), h.k.kept' hg (by simp; omega), h.j.kept' hg (by simp; omega), Nat.le_trans h.s hg.size⟩

/-- an empty block that is new. -/
structure New (w : World) (X : World) (n : Nat) : Prop where
  b : Blk X n #[] 3
  s : w.heap.size + 2 ≤ n
theorem New.new {w X : World} {A : Array Value} (h : St w A X) : New w (X.alloc (.cells #[] 3)) X.heap.size := ⟨Blk.new _ _ _, h.s⟩
theorem New.new1 {w X : World} {A : Array Value} (h : St w A X) (o : Obj) : New w ((X.alloc o).alloc (.cells #[] 3)) (X.heap.size + 1) := ⟨Blk.new' _ _ _ (by simp), by have := h.s; omega⟩
theorem New.alloc {w X : World} {n : Nat} (h : New w X n) (o : Obj) : New w (X.alloc o) n := ⟨h.b.alloc o, h.s⟩
theorem New.drew {w X : World} {n : Nat} (h : New w X n) : New w X.drew n := ⟨h.b, h.s⟩
theorem New.kept {w X Y : World} {n m : Nat} (h : New w X n) (hg : X.grownBy Y (some m)) (hn : ¬ m = n) : New w Y n := ⟨h.b.kept' hg (by simp; exact hn), h.s⟩

theorem VRow.alloc {w : World} {B : Nat} {v : Value} {G : List Int} (h : VRow w B v G) (o : Obj) : VRow (w.alloc o) B v G := h.later (bl_alloc (Below.refl _ w) o)
theorem VRow.keptS {w w' : World} {B g n len c : Nat} {G : List Int} (h : VRow w B (.slice (some ⟨g, 0, none⟩) len c) G) (hg : w.grownBy w' (some n)) (hn : ¬ g = n) : VRow w' B (.slice (some ⟨g, 0, none⟩) len c) G :=
  h.kept hg (fun k hk e => hn (by simp [Value.ownBlock] at hk e; omega))
theorem VRow.raise {w : World} {B B' g len c : Nat} {G : List Int} (h : VRow w B (.slice (some ⟨g, 0, none⟩) len c) G) (hB : B' ≤ g) : VRow w B' (.slice (some ⟨g, 0, none⟩) len c) G := by
  refine ⟨h.1, ?_⟩
  rcases h.2 with h' | ⟨g', cap', cur, h', hb, r⟩
  · exact Or.inl h'
  · have e := h'
    simp only [Value.slice.injEq, Option.some.injEq, Addr.mk.injEq, and_true] at e
    exact Or.inr ⟨g', cap', cur, h', by omega, r⟩

set_option maxHeartbeats 16000000 in
theorem l2Copy_any (p1 q1 c1 p2 q2 c2 : Nat) (G F : List Int) (w : World) (h1 : Ints w (some ⟨p1, q1, none⟩) G) (h2 : Ints w (some ⟨p2, q2, none⟩) F) (l1 : G.length ≤ 1048576) (l2 : F.length ≤ 1048576) :
    Calls Try.prog 35 #[.agg #[.slice (some ⟨p1, q1, none⟩) G.length c1, .slice (some ⟨p2, q2, none⟩) F.length c2]] w fun e w' => ∃ g c f d, e = .returned (.agg #[.slice (some ⟨g, 0, none⟩) G.length c, .slice (some ⟨f, 0, none⟩) F.length d]) ∧
      VRow w' w.heap.size (.slice (some ⟨g, 0, none⟩) G.length c) G ∧ VRow w' w.heap.size (.slice (some ⟨f, 0, none⟩) F.length d) F ∧ ¬ g = f ∧ Below w.heap.size w w' := by
  have hal := alloc_old
  have haf := alloc_oldf
  obtain ⟨K, J⟩ := blk2 w #[.slice (some ⟨p1, q1, none⟩) G.length c1, .slice (some ⟨p2, q2, none⟩) F.length c2] #[.slice none 0 0, .slice none 0 0] 26 26
  go_enter Try.func35, Try.ntmps35
  go_wp2_with fail
  obtain ⟨W, hW⟩ : ∃ W, W = ((w.alloc (.cells #[.slice (some ⟨p1, q1, none⟩) G.length c1, .slice (some ⟨p2, q2, none⟩) F.length c2] 26)).alloc (.cells #[.slice none 0 0, .slice none 0 0] 26)) := ⟨_, rfl⟩
  have L0 : Below w.heap.size w W := by rw [hW]; (repeat (first | with_reducible exact Below.refl _ _ | with_reducible refine bl_alloc ?_ _ | with_reducible refine bl_drewN ?_ _ | with_reducible refine bl_drew ?_ | with_reducible refine bl_setCell ?_ (by first | exact Nat.le_refl _ | (dsimp only; omega) | (simp <;> omega)) _ | with_reducible refine bl_trans ?_ (by with_reducible assumption)))
  have sW : w.heap.size + 2 ≤ W.heap.size := by rw [hW]; simp
  rw [← hW] at K J ⊢
  clear hW
  have S0 : St w #[.slice (some ⟨p1, q1, none⟩) G.length c1, .slice (some ⟨p2, q2, none⟩) F.length c2] W := ⟨L0, K, J, sW⟩
  clear K J L0 sW
  obtain ⟨x0, x1, x2⟩ := S0.k.two
  obtain ⟨y0, y1, y2⟩ := S0.j.two
  go_region_law (first
    | (refine step_append_new rfl (.tmp 3) (.tmp 5) rfl _ rfl (New.b (w := w) (by first | exact New.drew (New.alloc (New.new S0) _) | exact New.drew (New.new1 S0 _) | exact New.drew (New.new S0) | exact New.new S6 | exact New.kept (New.drew (New.alloc (New.new S0) _)) hg6 (by simp) | exact New.kept (New.drew (New.new1 S0 _)) hg6 (by simp))) p1 q1 c1 G rfl (h1.later (St.l (w := w) (by first | exact St.drew (St.alloc (St.alloc S0 _) _) | exact St.drew (St.alloc S0 _) | exact S6 | exact St.alloc S6 _))) l1 ?_; intro g5 d5 w5 hv5 hg5 ho5 hl5; have S5 := St.grow (by first | exact St.drew (St.alloc (St.alloc S0 _) _) | exact St.drew (St.alloc S0 _) | exact S6 | exact St.alloc S6 _) hg5 (by have h0 := S0.s; first | omega | (have h9 := S6.s; omega)); have hv6 := VRow.keptS (by first | exact hv6 | exact VRow.alloc hv6 _) hg5 (by (try simp only [World.size_alloc, World.size_drew] at ho6 ho5 hl6); omega); have hne : ¬ g6 = g5 := (by (try simp only [World.size_alloc, World.size_drew] at ho6 ho5 hl6 hl5); omega); obtain ⟨x0, x1, x2⟩ := S5.k.two; obtain ⟨y0, y1, y2⟩ := S5.j.two)
    | (refine step_append_new rfl (.tmp 3) (.tmp 5) rfl _ rfl (New.b (w := w) (by first | exact New.drew (New.alloc (New.new S0) _) | exact New.drew (New.new1 S0 _) | exact New.drew (New.new S0) | exact New.new S6 | exact New.kept (New.drew (New.alloc (New.new S0) _)) hg6 (by simp) | exact New.kept (New.drew (New.new1 S0 _)) hg6 (by simp))) p1 q1 c1 G rfl (h1.later (St.l (w := w) (by first | exact St.drew (St.alloc (St.alloc S0 _) _) | exact St.drew (St.alloc S0 _) | exact S6 | exact St.alloc S6 _))) l1 ?_; intro g5 d5 w5 hv5 hg5 ho5 hl5; have S5 := St.grow (by first | exact St.drew (St.alloc (St.alloc S0 _) _) | exact St.drew (St.alloc S0 _) | exact S6 | exact St.alloc S6 _) hg5 (by have h0 := S0.s; first | omega | (have h9 := S6.s; omega)); obtain ⟨x0, x1, x2⟩ := S5.k.two; obtain ⟨y0, y1, y2⟩ := S5.j.two)
    | (refine step_append_new rfl (.tmp 7) (.tmp 9) rfl _ rfl (New.b (w := w) (by first | exact New.drew (New.alloc (New.new S0) _) | exact New.drew (New.new1 S0 _) | exact New.drew (New.new S0) | exact New.new S5 | exact New.kept (New.drew (New.alloc (New.new S0) _)) hg5 (by simp) | exact New.kept (New.drew (New.new1 S0 _)) hg5 (by simp))) p2 q2 c2 F rfl (h2.later (St.l (w := w) (by first | exact St.drew (St.alloc (St.alloc S0 _) _) | exact St.drew (St.alloc S0 _) | exact S5 | exact St.alloc S5 _))) l2 ?_; intro g6 d6 w6 hv6 hg6 ho6 hl6; have S6 := St.grow (by first | exact St.drew (St.alloc (St.alloc S0 _) _) | exact St.drew (St.alloc S0 _) | exact S5 | exact St.alloc S5 _) hg6 (by have h0 := S0.s; first | omega | (have h9 := S5.s; omega)); have hv5 := VRow.keptS (by first | exact hv5 | exact VRow.alloc hv5 _) hg6 (by (try simp only [World.size_alloc, World.size_drew] at ho5 ho6 hl5); omega); have hne : ¬ g5 = g6 := (by (try simp only [World.size_alloc, World.size_drew] at ho5 ho6 hl5 hl6); omega); obtain ⟨x0, x1, x2⟩ := S6.k.two; obtain ⟨y0, y1, y2⟩ := S6.j.two)
    | (refine step_append_new rfl (.tmp 7) (.tmp 9) rfl _ rfl (New.b (w := w) (by first | exact New.drew (New.alloc (New.new S0) _) | exact New.drew (New.new1 S0 _) | exact New.drew (New.new S0) | exact New.new S5 | exact New.kept (New.drew (New.alloc (New.new S0) _)) hg5 (by simp) | exact New.kept (New.drew (New.new1 S0 _)) hg5 (by simp))) p2 q2 c2 F rfl (h2.later (St.l (w := w) (by first | exact St.drew (St.alloc (St.alloc S0 _) _) | exact St.drew (St.alloc S0 _) | exact S5 | exact St.alloc S5 _))) l2 ?_; intro g6 d6 w6 hv6 hg6 ho6 hl6; have S6 := St.grow (by first | exact St.drew (St.alloc (St.alloc S0 _) _) | exact St.drew (St.alloc S0 _) | exact S5 | exact St.alloc S5 _) hg6 (by have h0 := S0.s; first | omega | (have h9 := S5.s; omega)); obtain ⟨x0, x1, x2⟩ := S6.k.two; obtain ⟨y0, y1, y2⟩ := S6.j.two))
  all_goals
    have q5 := S5.l
    have q6 := S6.l
    have e0 := S0.s
    have e5 := S5.s
    have e6 := S6.s
    have b5 : w.heap.size + 2 ≤ g5 := by (try simp only [World.size_alloc, World.size_drew] at ho5); omega
    have b6 : w.heap.size + 2 ≤ g6 := by (try simp only [World.size_alloc, World.size_drew] at ho6); omega
    have hne' : ¬ g5 = g6 := by first | exact hne | exact fun e => hne e.symm
    clear e0 e5 e6 ho5 ho6 hl5 hl6 hg5 hg6 hne
    go_wp2_with fail
    refine bodyPost_ret (v := .agg #[.slice (some ⟨g5, 0, none⟩) G.length d5, .slice (some ⟨g6, 0, none⟩) F.length d6]) (by simp [results, Try.results35, go_sem, y0, y1]) rfl ⟨g5, d5, g6, d6, rfl, ?_, ?_, hne', ?_⟩
    · exact ((hv5.raise (by omega)).other (by simp [Value.ownBlock]; omega) _ _).other (by simp [Value.ownBlock]; omega) _ _
    · exact ((hv6.raise (by omega)).other (by simp [Value.ownBlock]; omega) _ _).other (by simp [Value.ownBlock]; omega) _ _
    · (repeat (first | with_reducible exact Below.refl _ _ | with_reducible refine bl_alloc ?_ _ | with_reducible refine bl_drewN ?_ _ | with_reducible refine bl_drew ?_ | with_reducible refine bl_setCell ?_ (by first | exact Nat.le_refl _ | (dsimp only; omega) | (simp <;> omega)) _ | with_reducible refine bl_trans ?_ (by with_reducible assumption)))
end Go.Proofs.Ytcllkmdlheggkaa
