import Derived.Test.YtgcfhoojjgcpiaaDoorAb
import Derived.Deep.MidRow
import Derived.Deep.WholeRow
namespace Go.Proofs.YtgcfhoojjgcpiaaDoor
open Go.RowKit
set_option linter.unusedVariables false
set_option linter.unusedSimpArgs false

theorem part_row (zs : List Bool) (i : Nat) (w : World) : (Go.part 49 (tch zs) (i * 12)).run Tryd.prog w = .ok (.agg (tch (seg i zs))) w := by
  have hz : (sizeOf 49).run Tryd.prog w = .ok 12 w := by
    have h1 := Tryd.infoNS
    cases hq : Tryd.prog.info? 49 with
    | none => rw [hq] at h1; cases h1
    | some i =>
      rw [hq] at h1
      simp only [Option.map_some, Option.some.injEq] at h1
      simp [sizeOf, typeInfo, hq, h1]
  have ha : (isAgg 49).run Tryd.prog w = .ok true w := by simp [isAgg, run_underlying Tryd.underlying49]
  simp only [Go.part, Sem.run_bind, ha, Result.andThen_ok, if_true, hz, Sem.run_pure, tch_extract]
theorem idx_bit (X : List Bool) (hX : X.length = 12) (n : Nat) (hn : n < 12) (w : World) : (Instr.index 49 (.agg (tch X)) (.int .i64 (n : Int))).run Tryd.prog w = .ok (.bool (X.getD n false)) w := by
  obtain ⟨i0, hi, hz0, hz1, hz2⟩ := info_parts Tryd.infoBo
  have hz : (sizeOf 4).run Tryd.prog w = .ok 1 w := by simp [sizeOf, typeInfo, hi, hz1]
  have px : (Go.part 4 (tch X) n).run Tryd.prog w = .ok (.bool (X.getD n false)) w := by
    simp [Go.part, isAgg, run_underlying Tryd.underlying4, tch, show n < X.length by omega]
  simp [Instr.index, asIntOf, run_underlying Tryd.underlying49, hz, px, show (n : Int) < 12 by omega, hn, show ¬ 12 ≤ n by omega]
theorem seg_at {O : List Bool} (h : O.length = 108) {i n : Nat} (hi : i < 9) (hn : n < 12) : (seg i O).getD n false = O.getD (i * 12 + n) false := by
  simp [seg, List.getElem?_take, hn, List.getElem?_drop]

/-- the first m places of O, joined to S. -/
def Mix (S O : List Bool) (m : Nat) (T : List Bool) : Prop := T.length = 108 ∧ ∀ j, j < 108 → T.getD j false = (S.getD j false || (decide (j < m) && O.getD j false))
theorem Mix.start {S : List Bool} (O : List Bool) (h : S.length = 108) : Mix S O 0 S := ⟨h, fun j _ => by simp⟩
theorem Mix.step {S O T : List Bool} {m : Nat} (h : Mix S O m T) (hm : m < 108) {b : Bool} (hb : b = (T.getD m false || O.getD m false)) : Mix S O (m + 1) (T.set m b) := by
  refine ⟨by simp [h.1], fun j hj => ?_⟩
  have hT := h.2 j hj
  by_cases e : j = m
  · subst e
    have : (T.set j b).getD j false = b := by simp [List.getD, h.1, hm]
    rw [this, hb, hT]
    simp
  · have : (T.set m b).getD j false = T.getD j false := by simp [List.getD, List.getElem?_set, Ne.symm e]
    rw [this, hT]
    have : decide (j < m + 1) = decide (j < m) := by
      by_cases q : j < m <;> simp [q] <;> omega
    rw [this]
def orL (S O : List Bool) : List Bool := List.zipWith (· || ·) S O
theorem Mix.done {S O T : List Bool} (h : Mix S O 108 T) (hS : S.length = 108) (hO : O.length = 108) : T = orL S O := by
  apply List.ext_getElem (by simp [orL, hS, hO, h.1])
  intro j h1 h2
  have := h.2 j (by have := h.1; omega)
  have hj : j < 108 := by have := h.1; omega
  simp only [hj, decide_true, Bool.true_and] at this
  simp only [orL, List.getElem_zipWith]
  simpa [List.getD, h1, hS, hO, hj] using this
theorem orL_len {S O : List Bool} (hS : S.length = 108) (hO : O.length = 108) : (orL S O).length = 108 := by simp [orL, hS, hO]
def allOr (Ls : List (List Bool)) : List Bool := Ls.foldl orL (List.replicate 108 false)
theorem or_flags (a b c d : Bool) : allOr [flg a b, flg c d] = flg (a || c) (b || d) := by
  cases a <;> cases b <;> cases c <;> cases d <;> decide
theorem allOr_succ {Ls : List (List Bool)} {k : Nat} {O : List Bool} (h : Ls[k]? = some O) : allOr (Ls.take (k + 1)) = orL (allOr (Ls.take k)) O := by
  unfold allOr
  rw [List.take_add_one, h]
  simp
theorem allOr_len {Ls : List (List Bool)} (h : ∀ O ∈ Ls, O.length = 108) : (allOr Ls).length = 108 := by
  unfold allOr
  suffices ∀ (Ls : List (List Bool)) (S : List Bool), S.length = 108 → (∀ O ∈ Ls, O.length = 108) → (Ls.foldl orL S).length = 108 from this Ls _ (by simp) h
  intro Ls
  induction Ls with
  | nil => intro S hS _; exact hS
  | cons a l ih => intro S hS hl; exact ih _ (orL_len hS (hl a (by simp))) (fun O hO => hl O (by simp [hO]))

/-- a set of what is touched, as an element of a list. -/
def cTch (w : World) (B : Nat) (cs : List Value) (xs : List Bool) : Prop := cs = xs.map Value.bool ∧ xs.length = 108
theorem cTch_keeps : KeepsE cTch := fun _ _ _ _ _ _ h => h

theorem wpList_load_run {w : World} {ops : Array Oper} {rest : List Oper} {o : Oper} {a : Act} {Q : Exit → Act → World → Prop}
    (hg : o.guard = none) (t : TypeId) (x : Operand) (hop : o.op = Op.load t x) (p : Addr) (hx : a.eval x = .pointer (some p)) (v : Value) (hr : (loadVar t p).run Tryd.prog w = .ok v w)
    (hK : wpList Tryd.prog ops Q rest (a.put o.dst v) w) : wpList Tryd.prog ops Q (o :: rest) a w :=
  wpList_plain hg fun K hK' => by
    unfold Oper.wp execOp
    simp only [hop, hx, Instr.loadAt, Instr.sureAddr, Sem.run_bind, Sem.run_pure, Result.andThen_ok, hr]
    exact hK' _ _ hK
theorem wpList_store_new {w : World} {ops : Array Oper} {rest : List Oper} {o : Oper} {a : Act} {Q : Exit → Act → World → Prop}
    (hg : o.guard = none) (t : TypeId) (x y : Operand) (hop : o.op = Op.store t x y) (c0 : Array Value) (cells : Array Value) (hx : a.eval x = .pointer (some ⟨w.heap.size, 0, none⟩)) (hy : a.eval y = .agg cells)
    (hi : (Tryd.prog.info? t).map (·.size) = some cells.size) (hs : c0.size = cells.size) (h1 : cells.all (·.oneCell') = true)
    (hK : wpList Tryd.prog ops Q rest (a.put o.dst undef) (w.alloc (.cells cells t))) : wpList Tryd.prog ops Q (o :: rest) a (w.alloc (.cells c0 t)) := by
  refine wpList_store_row hg t x y hop w.heap.size cells hx hy t c0 (heap_alloc_new w _) hi hs h1 ?_
  rw [World.setRow_alloc_new]
  exact hK
end Go.Proofs.YtgcfhoojjgcpiaaDoor
