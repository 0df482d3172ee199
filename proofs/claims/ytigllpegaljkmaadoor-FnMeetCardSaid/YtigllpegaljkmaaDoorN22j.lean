import Derived.Test.YtigllpegaljkmaaDoorG60j
import Derived.Test.YtigllpegaljkmaaDoorN1j
namespace Go.Proofs.YtigllpegaljkmaaDoor
open Go.RowKit
set_option linter.unusedVariables false
set_option linter.unusedSimpArgs false

theorem wpList_append_num (w : World) {ops : Array Oper} {rest : List Oper} {o : Oper} {a : Act} {Q : Exit → Act → World → Prop}
    (hg : o.guard = none) (s x : Operand) (hop : o.op = Op.call { callee := Callee.builtin Builtin.append, args := #[s, x], argTypes := #[30, 30] })
    (B : Nat) (v : Value) (F : List Int) (hs : a.eval s = v) (hv : VRow w B v F) (sb : Nat) (z : Int) (hx : a.eval x = .slice (some ⟨sb, 0, none⟩) 1 1) (hz : w.cell? ⟨sb, 0, none⟩ = some (.int .i64 z)) (hl : F.length ≤ 1048576) (hB : B ≤ w.heap.size)
    (hK : ∀ v' w', VRow w' B v' (F ++ [z]) → w.grownBy w' v.ownBlock → wpList Tryd.prog ops Q rest (a.put o.dst v') w') :
    wpList Tryd.prog ops Q (o :: rest) a w := by
  obtain ⟨ie, hie, he0, he1, he2⟩ := info_parts Tryd.infoI
  refine wpList_append_own _ hg s x 30 hop B 3 ie (.int .i64 0) 1 8 Tryd.underlying30 hie he0 he1 he2 rfl (by decide) v F.length (F.map (Value.int .i64)) hs hv ⟨sb, 0, none⟩ 1 1 [.int .i64 z] hx rfl ?_ ?_ (by unfold maxLen; omega) (by omega) hB ?_
  · intro j u hj
    match j, hj with
    | 0, hj => simp at hj; subst hj; simpa [Addr.add] using hz
  · intro u hu; simp at hu; subst hu; rfl
  · intro v' w' h1 h2 _
    refine hK v' w' ?_ h2
    unfold VRow
    rw [List.length_append, List.length_singleton, List.map_append]
    exact h1
/-- a list of numbers being drawn. -/
structure Dgi (n : Nat) (W X : World) (v : Value) (P : List Int) : Prop where
  kp : Keep n W X
  cu : Cur n X
  nw : n < W.heap.size
  o : VRow X W.heap.size v P
theorem VRow.keptX {w w' : World} {B : Nat} {v : Value} {G : List Int} {r : Option Nat} (h : VRow w B v G) (hg : w.grownBy w' r) (hr : ∀ k, v.ownBlock = some k → ¬ r = some k) : VRow w' B v G := by
  cases hv : v.ownBlock with
  | none => exact World.ownsRow.kept h hg (Or.inl hv)
  | some k => exact World.ownsRow.kept h hg (Or.inr (by rw [hv]; exact fun e => hr k hv e.symm))
theorem Dgi.call {n : Nat} {W X Y : World} {v : Value} {P : List Int} (h : Dgi n W X v P) (hk : Keep n X Y) (hc : Cur n Y) : Dgi n W Y v P :=
  ⟨h.kp.trans hk, hc, h.nw, h.o.keptX hk.grown (fun k e e2 => by have := (h.o.lt k e).1; have := h.nw; simp at e2; omega)⟩
theorem Dgi.alloc {n : Nat} {W X : World} {v : Value} {P : List Int} (h : Dgi n W X v P) (b : Obj) : Dgi n W (X.alloc b) v P :=
  h.call ((Keep.refl n X).alloc (Nat.le_of_lt h.cu.lt) b) (h.cu.alloc b)
theorem Dgi.more {n : Nat} {W X Y : World} {v v' : Value} {L M : List Int} (h : Dgi n W X v L) (hO : VRow Y W.heap.size v' M) (hg : X.grownBy Y v.ownBlock) : Dgi n W Y v' M := by
  have h1 := h.nw
  have h4 := h.cu.lt
  have hb := fun q hq => (h.o.lt q hq).1
  have bY : Below (n + 1) X Y := (Below.refl _ _).grown hg (by omega) (fun q hq => by have := hb q hq; omega)
  exact ⟨⟨h.kp.1.trans (bY.mono (by omega)), fun k hk hl => (hg.block k (by have := h.kp.1.size; omega) (fun e => by have := hb k e.symm; omega)).trans (h.kp.2 k hk hl)⟩, h.cu.below bY, h.nw, hO⟩
theorem Dgi.slice {n : Nat} {W X : World} {v : Value} {L : List Int} (h : Dgi n W X v L) : ∃ s c, v = .slice s L.length c := by
  obtain ⟨s, c, e, _⟩ := h.o.slice
  exact ⟨s, c, e⟩
theorem Dgi.new {n : Nat} {W : World} (hc : Cur n W) : Dgi n W (W.alloc (.cells #[] 3)) (.slice (some ⟨W.heap.size, 0, none⟩) 0 0) [] :=
  ⟨(Keep.refl n W).alloc (Nat.le_of_lt hc.lt) _, hc.alloc _, hc.lt, ⟨rfl, Or.inr ⟨W.heap.size, 0, _, rfl, Nat.le_refl _, Blk.new W #[] 3, Nat.le_refl _, by unfold maxLen; omega, rfl, rfl⟩⟩⟩
theorem wpList_draw_num {n : Nat} {W X : World} {v : Value} {L : List Int} (h : Dgi n W X v L) (p : Int) (hl : L.length ≤ 1048576) {ops : Array Oper} {rest : List Oper} {o : Oper} {a : Act} {Q : Exit → Act → World → Prop}
    (hg : o.guard = none) (s x : Operand) (hop : o.op = Op.call { callee := Callee.builtin Builtin.append, args := #[s, x], argTypes := #[30, 30] })
    (hs : a.eval s = v) (hx : a.eval x = .slice (some ⟨X.heap.size, 0, none⟩) 1 1)
    (hK : ∀ v' w', Dgi n W w' v' (L ++ [p]) → wpList Tryd.prog ops Q rest (a.put o.dst v') w') :
    wpList Tryd.prog ops Q (o :: rest) a (X.alloc (.cells #[.int .i64 p] 3)) := by
  have hz0 := (Blk.new X #[.int .i64 p] 3).cell 0
  have D := h.alloc (.cells #[.int .i64 p] 3)
  exact wpList_append_num _ hg s x hop W.heap.size v L hs D.o X.heap.size p hx hz0 hl D.kp.1.size fun v' w' h1 h2 => hK v' w' (D.more h1 h2)
def Wide (P : List Int) : Prop := ∀ v ∈ P, -9223372036854775808 ≤ v ∧ v ≤ 9223372036854775807
theorem Wide.more {P : List Int} (h : Wide P) {x : Int} (hx : -9223372036854775808 ≤ x ∧ x ≤ 9223372036854775807) : Wide (P ++ [x]) := by
  intro v hv
  rcases List.mem_append.1 hv with hv | hv
  · exact h v hv
  · simp at hv; subst hv; exact hx
theorem ints_two {w : World} {pb : Nat} {a b : Int} (h : Blk w pb #[.int .i64 a, .int .i64 b] 3) : Ints w (some ⟨pb, 0, none⟩) [a, b] := by
  refine Or.inr ⟨pb, 0, rfl, h.lt, fun j hj => ?_⟩
  match j, hj with
  | 0, _ => exact h.cell 0
  | 1, _ => exact h.cell 1
theorem ints_nine {w : World} {pb : Nat} {a0 a1 a2 a3 a4 a5 a6 a7 a8 : Int} (h : Blk w pb #[.int .i64 a0, .int .i64 a1, .int .i64 a2, .int .i64 a3, .int .i64 a4, .int .i64 a5, .int .i64 a6, .int .i64 a7, .int .i64 a8] 3) : Ints w (some ⟨pb, 0, none⟩) [a0, a1, a2, a3, a4, a5, a6, a7, a8] := by
  refine Or.inr ⟨pb, 0, rfl, h.lt, fun j hj => ?_⟩
  match j, hj with
  | 0, _ => exact h.cell 0
  | 1, _ => exact h.cell 1
  | 2, _ => exact h.cell 2
  | 3, _ => exact h.cell 3
  | 4, _ => exact h.cell 4
  | 5, _ => exact h.cell 5
  | 6, _ => exact h.cell 6
  | 7, _ => exact h.cell 7
  | 8, _ => exact h.cell 8

set_option maxHeartbeats 2000000 in
theorem l18Workers_any (n : Nat) (w : World) (hC : Cur n w) :
    Calls Tryd.prog 15 #[.pointer (some ⟨n, 0, none⟩)] w fun e w' => ∃ r : Int, e = .returned (.int .i64 r) ∧ Keep n w w' ∧ Cur n w' := by
  have kb := Blk.new w #[.int .i64 1, .int .i64 2, .int .i64 3, .int .i64 4, .int .i64 8, .int .i64 2, .int .i64 3, .int .i64 0, .int .i64 9] 3
  have hn := hC.lt
  have hk := (Keep.refl n w).alloc (Nat.le_of_lt hn) (.cells #[.int .i64 1, .int .i64 2, .int .i64 3, .int .i64 4, .int .i64 8, .int .i64 2, .int .i64 3, .int .i64 0, .int .i64 9] 3)
  have hc := hC.alloc (.cells #[.int .i64 1, .int .i64 2, .int .i64 3, .int .i64 4, .int .i64 8, .int .i64 2, .int .i64 3, .int .i64 0, .int .i64 9] 3)
  go_enter Tryd.func15, Tryd.ntmps15
  go_wp2_with fail
  refine (l1PickInt_any n w.heap.size 0 9 [1, 2, 3, 4, 8, 2, 3, 0, 9] _ hc (ints_nine kb) (by simp) (by simp) (by omega)).mono ?_
  rintro e w2 ⟨r, rfl, _, hk2, hc2⟩
  go_wp2_with fail
  go_ret
  exact ⟨r, rfl, hk.trans hk2, hc2⟩

end Go.Proofs.YtigllpegaljkmaaDoor
