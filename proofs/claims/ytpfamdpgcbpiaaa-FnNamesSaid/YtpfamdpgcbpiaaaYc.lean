import Derived.Test.YtpfamdpgcbpiaaaYa
import Derived.Deep.AppendLies
import Derived.Deep.RegionLaw
namespace Go.Proofs.Ytpfamdpgcbpiaaa
open Go.RowKit Go.Maps Go.WideMaps
set_option linter.unusedVariables false
set_option linter.unusedSimpArgs false
set_option maxRecDepth 100000

theorem step_append_dcl {ops : Array Oper} {o : Oper} {a : Act} {w : World} {K : Act → World → Prop} {Q : Exit → Act → World → Prop} {E : Prop}
    (hg : o.guard = none) (s x : Operand) (hop : o.op = Op.call { callee := Callee.builtin Builtin.append, args := #[s, x], argTypes := #[32, 32] })
    (Bs : Nat) (v : Value) (L : List (ByteArray × Int)) (hs : a.eval s = v) (hv : DRow w Bs v L)
    (sb : Nat) (p : ByteArray × Int) (hx : a.eval x = .slice (some ⟨sb, 0, none⟩) 1 1) (hb : Blk w sb #[.string p.1, .int .i64 p.2] 38) (hl : L.length ≤ 1048576) (hB : Bs ≤ w.heap.size)
    (hK : ∀ g cap w', DRow w' Bs (.slice (some ⟨g, 0, none⟩) (L ++ [p]).length cap) (L ++ [p]) → w.grownBy w' v.ownBlock → (v.ownBlock = some g ∨ g = w.heap.size) → g < w'.heap.size → K (a.put o.dst (.slice (some ⟨g, 0, none⟩) (L ++ [p]).length cap)) w') :
    if Region.wanted o (yielded ops a.tmps) = true then Oper.wp Try.prog o a w K Q else E := by
  obtain ⟨i0, hi, hz0, hz1, hz2⟩ := info_parts Try.infoD
  refine step_append_lies _ hg s x _ hop Bs 38 i0 (.agg #[.string ByteArray.empty, .int .i64 0]) 2 24 Try.underlying32 hi hz0 hz1 hz2 rfl (by decide) v L.length (dcells L) hs hv ⟨sb, 0, none⟩ 1 1 (dcells [p]) hx rfl ?_ (dcells_one _) (by omega) (by unfold maxLen; omega) (by omega) hB w.heap.size rfl ?_
  · intro j u hj
    have := hb.cell j
    rw [Go.WideShapes.add_plain, Nat.zero_add, this]
    simpa [dcells] using hj
  · intro g cap w' h1 h2 h3 h4
    have e : (L ++ [p]).length = L.length + 1 := by simp
    have := hK g cap w' (by unfold DRow; rw [dcells_app, e]; exact h1) h2 h3 h4
    rw [e] at this
    exact this

theorem wpList_append_dcl {ops : Array Oper} {rest : List Oper} {o : Oper} {a : Act} {w : World} {Q : Exit → Act → World → Prop}
    (hg : o.guard = none) (s x : Operand) (hop : o.op = Op.call { callee := Callee.builtin Builtin.append, args := #[s, x], argTypes := #[32, 32] })
    (Bs : Nat) (v : Value) (L : List (ByteArray × Int)) (hs : a.eval s = v) (hv : DRow w Bs v L)
    (sb : Nat) (p : ByteArray × Int) (hx : a.eval x = .slice (some ⟨sb, 0, none⟩) 1 1) (hb : Blk w sb #[.string p.1, .int .i64 p.2] 38) (hl : L.length ≤ 1048576) (hB : Bs ≤ w.heap.size)
    (hK : ∀ g cap w', DRow w' Bs (.slice (some ⟨g, 0, none⟩) (L ++ [p]).length cap) (L ++ [p]) → w.grownBy w' v.ownBlock → (v.ownBlock = some g ∨ g = w.heap.size) → g < w'.heap.size → wpList Try.prog ops Q rest (a.put o.dst (.slice (some ⟨g, 0, none⟩) (L ++ [p]).length cap)) w') :
    wpList Try.prog ops Q (o :: rest) a w := by
  obtain ⟨i0, hi, hz0, hz1, hz2⟩ := info_parts Try.infoD
  refine wpList_append_lies _ hg s x _ hop Bs 38 i0 (.agg #[.string ByteArray.empty, .int .i64 0]) 2 24 Try.underlying32 hi hz0 hz1 hz2 rfl (by decide) v L.length (dcells L) hs hv ⟨sb, 0, none⟩ 1 1 (dcells [p]) hx rfl ?_ (dcells_one _) (by omega) (by unfold maxLen; omega) (by omega) hB w.heap.size rfl ?_
  · intro j u hj
    have := hb.cell j
    rw [Go.WideShapes.add_plain, Nat.zero_add, this]
    simpa [dcells] using hj
  · intro g cap w' h1 h2 h3 h4
    have e : (L ++ [p]).length = L.length + 1 := by simp
    have := hK g cap w' (by unfold DRow; rw [dcells_app, e]; exact h1) h2 h3 h4
    rw [e] at this
    exact this

/-- a Reg under way whose columns grow. -/
structure Rh (n : Nat) (W X : World) (zb rb ga ca g2 g3 : Nat) (A : List (ByteArray × Int)) : Prop where
  z : Blk X zb #[.slice none 0 0, .slice none 0 0, .slice none 0 0] 34
  k : Blk X rb #[.slice (some ⟨ga, 0, none⟩) A.length ca, .slice (some ⟨g2, 0, none⟩) 4 4, .slice (some ⟨g3, 0, none⟩) 2 2] 34
  a : DRow X W.heap.size (.slice (some ⟨ga, 0, none⟩) A.length ca) A
  q : Blk X g2 stdQ 38
  s : Blk X g3 stdS 38
  u : Cur n X
  kp : Keep n W X
  na : Nms A
  ne : (¬ zb = rb ∧ ¬ zb = g2 ∧ ¬ zb = g3 ∧ ¬ rb = g2 ∧ ¬ rb = g3 ∧ ¬ g2 = g3) ∧ ¬ ga = zb ∧ ¬ ga = rb ∧ ¬ ga = g2 ∧ ¬ ga = g3
  ge : W.heap.size ≤ zb ∧ W.heap.size ≤ rb ∧ W.heap.size ≤ ga ∧ W.heap.size ≤ g2 ∧ W.heap.size ≤ g3 ∧ n < W.heap.size
theorem DRow.alloc {w : World} {B : Nat} {v : Value} {L : List (ByteArray × Int)} (h : DRow w B v L) (o : Obj) : DRow (w.alloc o) B v L := h.later (bl_alloc (Below.refl _ _) o)
theorem Rh.alloc {n : Nat} {W X : World} {zb rb ga ca g2 g3 : Nat} {A : List (ByteArray × Int)} (h : Rh n W X zb rb ga ca g2 g3 A) (o : Obj) : Rh n W (X.alloc o) zb rb ga ca g2 g3 A :=
  ⟨h.z.alloc o, h.k.alloc o, h.a.alloc o, h.q.alloc o, h.s.alloc o, h.u.alloc o, h.kp.alloc (Nat.le_of_lt h.u.lt) o, h.na, h.ne, h.ge⟩
theorem Rh.drew {n : Nat} {W X : World} {zb rb ga ca g2 g3 : Nat} {A : List (ByteArray × Int)} (h : Rh n W X zb rb ga ca g2 g3 A) : Rh n W X.drew zb rb ga ca g2 g3 A :=
  ⟨h.z, h.k, h.a, h.q, h.s, h.u, h.kp.drew, h.na, h.ne, h.ge⟩
theorem Blk.grown {w w' : World} {m g : Nat} {c : Array Value} {t : TypeId} (h : Blk w m c t) (hg : w.grownBy w' (some g)) (hn : ¬ m = g) : Blk w' m c t := by
  unfold Blk
  rw [hg.block m h.lt (fun e => hn (by simpa using e))]
  exact h
theorem Rh.box {n : Nat} {W X Y : World} {zb rb ga ca g2 g3 : Nat} {A : List (ByteArray × Int)} (h : Rh n W X zb rb ga ca g2 g3 A) (hg : X.grownBy Y (some ga)) : Blk Y rb #[.slice (some ⟨ga, 0, none⟩) A.length ca, .slice (some ⟨g2, 0, none⟩) 4 4, .slice (some ⟨g3, 0, none⟩) 2 2] 34 :=
  h.k.grown hg (by have := h.ne; omega)
theorem Rh.push {n : Nat} {W X Y : World} {zb rb ga ca g2 g3 g' c' l : Nat} {A : List (ByteArray × Int)} {p : ByteArray × Int} (h : Rh n W X zb rb ga ca g2 g3 A) (hl : l = (A ++ [p]).length) (hp : p.1.size ≤ maxLen) (hr : DRow Y W.heap.size (.slice (some ⟨g', 0, none⟩) l c') (A ++ [p])) (hg : X.grownBy Y (some ga)) (ho : some ga = some g' ∨ g' = X.heap.size) :
    Rh n W (Y.setCell ⟨rb, 0, none⟩ (.slice (some ⟨g', 0, none⟩) l c')) zb rb g' c' g2 g3 (A ++ [p]) := by
  subst hl
  have d := h.ne
  have e := h.ge
  have lz := h.z.lt
  have lk := h.k.lt
  have lq := h.q.lt
  have ls := h.s.lt
  have hg' : (g' = ga ∨ g' = X.heap.size) := by
    rcases ho with h' | h'
    · left; simpa using h'.symm
    · exact Or.inr h'
  have kp := h.kp.1.size
  refine ⟨(h.z.grown hg (by omega)).other (by omega) _ _, (h.k.grown hg (by omega)).set 0 _, ?_, (h.q.grown hg (by omega)).other (by omega) _ _, (h.s.grown hg (by omega)).other (by omega) _ _, (h.u.grown hg (by omega)).set (by dsimp only; omega) _, (h.kp.of_grown hg (by omega) (by omega)).setNew (by dsimp only; omega) (by dsimp only; omega) _, ?_, ⟨d.1, by omega⟩, by omega⟩
  · refine World.ownsRow.kept hr (row := some rb) ⟨rfl, rfl, rfl, by simp, fun k hk hne => Below.heap_setCell Y ⟨rb, 0, none⟩ _ k (by dsimp only; exact fun e => hne (by rw [e]))⟩ (Or.inr ?_)
    simp [Value.ownBlock]; omega
  · intro x hx
    rcases List.mem_append.1 hx with hx | hx
    · exact h.na x hx
    · simp at hx; subst hx; exact hp
theorem stdP_row {w : World} {B g : Nat} (h : Blk w g stdP 38) (hB : B ≤ g) : ∃ A : List (ByteArray × Int), A.length = 5 ∧ Nms A ∧ DRow w B (.slice (some ⟨g, 0, none⟩) A.length 5) A := by
  refine ⟨[(⟨#[80, 111, 115]⟩, 3), (⟨#[86, 101, 108]⟩, 3), (⟨#[72, 112]⟩, 1), (⟨#[77, 97, 115, 115]⟩, 2), (⟨#[84, 97, 103]⟩, 4)], rfl, ?_, by simp [dcells], Or.inr ⟨g, 5, stdP, rfl, hB, h, Nat.le_refl _, by unfold maxLen; omega, rfl, rfl⟩⟩
  intro p hp
  simp only [List.mem_cons, List.not_mem_nil, or_false] at hp
  rcases hp with rfl | rfl | rfl | rfl | rfl <;> decide
theorem Rg.grow {n : Nat} {W X : World} {zb rb g : Nat} (h : Rg n W X zb rb g (g + 1) (g + 2) #[.slice none 0 0, .slice none 0 0, .slice none 0 0] #[.slice (some ⟨g, 0, none⟩) 5 5, .slice (some ⟨g + 1, 0, none⟩) 4 4, .slice (some ⟨g + 2, 0, none⟩) 2 2] stdP stdQ stdS) : ∃ A : List (ByteArray × Int), A.length = 5 ∧ Rh n W X zb rb g 5 (g + 1) (g + 2) A := by
  have e := h.ge
  have d := h.ne
  obtain ⟨A, hA, nA, rA⟩ := stdP_row (B := W.heap.size) h.p (by omega)
  refine ⟨A, hA, h.z, ?_, rA, h.q, h.s, h.u, h.kp, nA, by omega, by omega⟩
  rw [hA]; exact h.k
theorem Rh.leaves {n : Nat} {W X : World} {zb rb ga ca g2 g3 : Nat} {A : List (ByteArray × Int)} (h : Rh n W X zb rb ga ca g2 g3 A) (hl : A.length ≤ 20) (u0 u1 u2 : Value) : Rgd n W (.returned (.agg #[.slice (some ⟨ga, 0, none⟩) A.length ca, .slice (some ⟨g2, 0, none⟩) 4 4, .slice (some ⟨g3, 0, none⟩) 2 2])) (((X.setCell ⟨zb, 0, none⟩ u0).setCell ⟨zb, 1, none⟩ u1).setCell ⟨zb, 2, none⟩ u2) := by
  have e := h.ge
  have d := h.ne
  obtain ⟨B, hB, nB, dB⟩ := stdQ_arr.reads ((h.q.other (m := zb) (by omega) 0 u0).other (m := zb) (by omega) 1 u1 |>.other (m := zb) (by omega) 2 u2) (Nat.le_refl 4)
  obtain ⟨C, hC, nC, dC⟩ := stdS_arr.reads ((h.s.other (m := zb) (by omega) 0 u0).other (m := zb) (by omega) 1 u1 |>.other (m := zb) (by omega) 2 u2) (Nat.le_refl 2)
  refine ⟨ga, g2, some ⟨g3, 0, none⟩, ca, 4, 2, A, B, C, by rw [hB, hC], ?_, dB, dC, ⟨h.na, nB, nC⟩, by omega, ⟨by omega, by omega, fun p3 e => by cases e; omega⟩, Or.inr ⟨g3, rfl⟩, ((h.kp.setNew (by dsimp only; omega) (by dsimp only; omega) _).setNew (by dsimp only; omega) (by dsimp only; omega) _).setNew (by dsimp only; omega) (by dsimp only; omega) _, ((h.u.set (by dsimp only; omega) _).set (by dsimp only; omega) _).set (by dsimp only; omega) _⟩
  exact ((h.a.decls.other (by omega) _ _).other (by omega) _ _).other (by omega) _ _
end Go.Proofs.Ytpfamdpgcbpiaaa
