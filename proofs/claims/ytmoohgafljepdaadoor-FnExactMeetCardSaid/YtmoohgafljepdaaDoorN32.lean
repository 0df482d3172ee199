import Derived.Test.YtmoohgafljepdaaDoorN31
import Derived.Deep.RegionHeld3
namespace Go.Proofs.YtmoohgafljepdaaDoor
open Go.RowKit
set_option linter.unusedVariables false
set_option linter.unusedSimpArgs false

/-- the nodes in memory are the ways. -/
structure NOk (w : World) (B : Nat) (X : List (Value × Int × Int × Int)) (Q : List Way) : Prop where
  len : X.length = Q.length
  row : ∀ (j : Nat) x q, X[j]? = some x → Q[j]? = some q → ∃ sa ca, x.1 = .slice sa q.1.length ca ∧ VRow w B (.slice sa q.1.length ca) q.1
  zero : ∀ x q, X[0]? = some x → Q[0]? = some q → x.2.1 = -1 ∧ q.2 = []
  back : ∀ (j : Nat) x q, 0 < j → X[j]? = some x → Q[j]? = some q → ∃ (f : Nat) (p : Way), f < j ∧ x.2.1 = (f : Int) ∧ Q[f]? = some p ∧ q.2 = p.2 ++ [(x.2.2.1, x.2.2.2)]
theorem NOk.later {w w' : World} {B : Nat} {X : List (Value × Int × Int × Int)} {Q : List Way} (h : NOk w B X Q) (hb : Below w.heap.size w w') : NOk w' B X Q :=
  ⟨h.len, fun j x q hx hq => by obtain ⟨sa, ca, e, hv⟩ := h.row j x q hx hq; exact ⟨sa, ca, e, hv.later hb⟩, h.zero, h.back⟩
theorem NOk.grown {w w' : World} {B C : Nat} {u : Value} {X Y : List (Value × Int × Int × Int)} {Q : List Way} (h : NOk w B X Q) (hY : NRow w C u Y) (hg : w.grownBy w' u.ownBlock) : NOk w' B X Q :=
  ⟨h.len, fun j x q hx hq => by obtain ⟨sa, ca, e, hv⟩ := h.row j x q hx hq; exact ⟨sa, ca, e, hv.keptN hY hg⟩, h.zero, h.back⟩
theorem NOk.snoc {w : World} {B : Nat} {X : List (Value × Int × Int × Int)} {Q : List Way} (h : NOk w B X Q) {sa : Option Addr} {ca : Nat} {A : List Int} (hv : VRow w B (.slice sa A.length ca) A) {f : Nat} {p : Way} (hf : f < Q.length) (hp : Q[f]? = some p) (k t : Int) : NOk w B (X ++ [(.slice sa A.length ca, (f : Int), k, t)]) (Q ++ [(A, p.2 ++ [(k, t)])]) := by
  have hl := h.len
  have key : ∀ (j : Nat) x q, (X ++ [(Value.slice sa A.length ca, (f : Int), k, t)])[j]? = some x → (Q ++ [(A, p.2 ++ [(k, t)])])[j]? = some q → (j < X.length ∧ X[j]? = some x ∧ Q[j]? = some q) ∨ (j = X.length ∧ x = (.slice sa A.length ca, (f : Int), k, t) ∧ q = (A, p.2 ++ [(k, t)])) := by
    intro j x q hx hq
    by_cases hj : j < X.length
    · rw [List.getElem?_append_left hj] at hx
      rw [List.getElem?_append_left (by omega)] at hq
      exact Or.inl ⟨hj, hx, hq⟩
    · have hjl := (List.getElem?_eq_some_iff.1 hx).1
      simp at hjl
      have hj' : j = X.length := by omega
      subst hj'
      rw [List.getElem?_append_right (Nat.le_refl _), Nat.sub_self] at hx
      rw [List.getElem?_append_right (by omega), hl, Nat.sub_self] at hq
      simp at hx hq
      exact Or.inr ⟨rfl, hx.symm, hq.symm⟩
  refine ⟨by simp [hl], fun j x q hx hq => ?_, fun x q hx hq => ?_, fun j x q h0 hx hq => ?_⟩
  · rcases key j x q hx hq with ⟨_, h1, h2⟩ | ⟨_, rfl, rfl⟩
    · exact h.row j x q h1 h2
    · exact ⟨sa, ca, rfl, hv⟩
  · rcases key 0 x q hx hq with ⟨_, h1, h2⟩ | ⟨h0, _, _⟩
    · exact h.zero x q h1 h2
    · omega
  · rcases key j x q hx hq with ⟨_, h1, h2⟩ | ⟨hj, rfl, rfl⟩
    · obtain ⟨f', p', g1, g2, g3, g4⟩ := h.back j x q h0 h1 h2
      exact ⟨f', p', g1, g2, by rw [List.getElem?_append_left (List.getElem?_eq_some_iff.1 g3).1]; exact g3, g4⟩
    · exact ⟨f, p, by omega, rfl, by rw [List.getElem?_append_left hf]; exact hp, rfl⟩
theorem Tryd.infoNode : (Tryd.prog.info? 40).map (fun i => (i.zero, i.size, i.bytes)) = some (some (.agg #[.slice none 0 0, .int .i64 0, .int .i64 0, .int .i64 0]), 4, 48) := by kernel_rfl
theorem one_slice (s : Option Addr) (n c : Nat) : (Value.slice s n c).oneCell' = true := rfl
/-- a node more. -/
theorem wpList_append_node (w : World) {ops : Array Oper} {rest : List Oper} {o : Oper} {a : Act} {Q : Exit → Act → World → Prop}
    (hg : o.guard = none) (s x : Operand) (hop : o.op = Op.call { callee := Callee.builtin Builtin.append, args := #[s, x], argTypes := #[41, 41] })
    (B : Nat) (v : Value) (X : List (Value × Int × Int × Int)) (hs : a.eval s = v) (hv : NRow w B v X) (sb : Nat) (sa : Option Addr) (na ca : Nat) (f k t : Int) (hx : a.eval x = .slice (some ⟨sb, 0, none⟩) 1 1) (hb : Blk w sb #[.slice sa na ca, .int .i64 f, .int .i64 k, .int .i64 t] 40) (hl : X.length ≤ 1048576) (hB : B ≤ w.heap.size)
    (hK : ∀ v' w', NRow w' B v' (X ++ [(.slice sa na ca, f, k, t)]) → w.grownBy w' v.ownBlock → wpList Tryd.prog ops Q rest (a.put o.dst v') w') :
    wpList Tryd.prog ops Q (o :: rest) a w := by
  obtain ⟨ie, hie, he0, he1, he2⟩ := info_parts Tryd.infoNode
  refine wpList_append_own _ hg s x 41 hop B 40 ie _ 4 48 Tryd.underlying41 hie he0 he1 he2 rfl (by decide) v X.length (X.flatMap nc) hs hv ⟨sb, 0, none⟩ 1 1 [.slice sa na ca, .int .i64 f, .int .i64 k, .int .i64 t] hx rfl ?_ ?_ (by unfold maxLen; omega) (by omega) hB ?_
  · intro j u hj
    rw [Addr.add_lit, Nat.zero_add, hb.cell j]
    rw [← hj]
    simp
  · intro u hu
    simp at hu
    rcases hu with rfl | rfl | rfl | rfl <;> rfl
  · intro v' w' h1 h2 _
    refine hK v' w' ?_ h2
    unfold NRow
    rw [List.length_append, List.length_singleton, List.flatMap_append]
    exact h1
theorem grown_nr {B : Nat} {W X Y : World} {v : Value} {L : List (Value × Int × Int × Int)} (hb : Below B W X) (hB : B ≤ X.heap.size) (hv : NRow X B v L) (hg : X.grownBy Y v.ownBlock) : Below B W Y :=
  hb.grown hg hB (fun q hq => (hv.lt q hq).1)
theorem NRow.shape {w : World} {B : Nat} {v : Value} {L : List (Value × Int × Int × Int)} (h : NRow w B v L) : ∃ s c, v = .slice s L.length c := by
  rcases h.2 with ⟨rfl, h2⟩ | ⟨g, cap, cur, rfl, _⟩
  · exact ⟨none, 0, by rw [h2]⟩
  · exact ⟨_, _, rfl⟩
theorem NRow.new {w : World} {b : Nat} {sa : Option Addr} {na ca : Nat} {f k t : Int} (h : Blk w b #[.slice sa na ca, .int .i64 f, .int .i64 k, .int .i64 t] 40) : NRow w b (.slice (some ⟨b, 0, none⟩) 1 1) [(.slice sa na ca, f, k, t)] :=
  ⟨rfl, Or.inr ⟨b, 1, _, rfl, Nat.le_refl _, h, Nat.le_refl _, by unfold maxLen; omega, rfl, rfl⟩⟩
theorem NRow.mono {w : World} {B B' : Nat} {v : Value} {X : List (Value × Int × Int × Int)} (h : NRow w B v X) (hB : B' ≤ B) : NRow w B' v X := by
  refine ⟨h.1, ?_⟩
  rcases h.2 with h' | ⟨g, cap', cur, h', hb, r⟩
  · exact Or.inl h'
  · exact Or.inr ⟨g, cap', cur, h', Nat.le_trans hB hb, r⟩
theorem NRow.keptM {w w' : World} {B C : Nat} {v u : Value} {X : List (Value × Int × Int × Int)} {M : List (Int × Int)} (h : NRow w B v X) (hM : MRow w C u M) (hg : w.grownBy w' u.ownBlock) : NRow w' B v X := by
  cases hv : v.ownBlock with
  | none => exact World.ownsRow.kept h hg (Or.inl hv)
  | some k =>
    refine World.ownsRow.kept h hg (Or.inr ?_)
    intro e
    cases hu : u.ownBlock with
    | none => rw [hu, hv] at e; cases e
    | some m =>
      obtain ⟨c, fr, hb⟩ := hM.blk hu
      obtain ⟨c2, fr2, hb2⟩ := h.blk hv
      rw [hv, hu] at e
      cases e
      rw [hb] at hb2
      simp at hb2
/-- moves onto a list of moves of the call's own. -/
theorem wpList_append_mv2 (w : World) {ops : Array Oper} {rest : List Oper} {o : Oper} {a : Act} {Q : Exit → Act → World → Prop}
    (hg : o.guard = none) (s x : Operand) (hop : o.op = Op.call { callee := Callee.builtin Builtin.append, args := #[s, x], argTypes := #[24, 24] })
    (B : Nat) (v : Value) (F : List (Int × Int)) (hs : a.eval s = v) (hv : MRow w B v F) (g c : Nat) (M : List (Int × Int)) (hx : a.eval x = .slice (some ⟨g, 0, none⟩) M.length c) (C : Nat) (hM : MRow w C (.slice (some ⟨g, 0, none⟩) M.length c) M) (hl : F.length ≤ 1048576) (hl2 : M.length ≤ 1048576) (hB : B ≤ w.heap.size)
    (hK : ∀ v' w', MRow w' B v' (F ++ M) → w.grownBy w' v.ownBlock → wpList Tryd.prog ops Q rest (a.put o.dst v') w') :
    wpList Tryd.prog ops Q (o :: rest) a w := by
  obtain ⟨ie, hie, he0, he1, he2⟩ := info_parts Tryd.infoMove
  refine wpList_append_own _ hg s x 24 hop B 38 ie (.agg #[.int .i64 0, .int .i64 0]) 2 16 Tryd.underlying24 hie he0 he1 he2 rfl (by decide) v F.length (ecells F) hs hv ⟨g, 0, none⟩ M.length c (ecells M) hx (ecells_len M) ?_ ?_ (by unfold maxLen; omega) (by omega) hB ?_
  · intro j u hj
    have hjl := (List.getElem?_eq_some_iff.1 hj).1
    rw [Addr.add_lit, Nat.zero_add, World.ownsRow.cellAt hM j (by rw [ecells_len] at hjl; omega)]
    exact hj
  · intro u hu
    simp only [ecells, List.mem_flatMap] at hu
    obtain ⟨p, _, hp⟩ := hu
    simp at hp
    rcases hp with rfl | rfl <;> rfl
  · intro v' w' h1 h2 _
    refine hK v' w' ?_ h2
    unfold MRow
    rw [List.length_append, ecells_app]
    exact h1
theorem NRow.ne_box {w : World} {B xb : Nat} {v : Value} {X : List (Value × Int × Int × Int)} {a b c d : Value} {t : TypeId} (h : NRow w B v X) (hk : Blk w xb #[a, b, c, d] t) (h2 : 2 ≤ X.length) : ¬ v.ownBlock = some xb := by
  intro e
  rcases h.2 with ⟨rfl, _⟩ | ⟨g, cap, cur, rfl, _, hg, hc, _, hs, _⟩
  · simp [Value.ownBlock] at e
  · simp only [Value.ownBlock, Option.some.injEq] at e
    subst e
    unfold Blk at hk
    rw [hg] at hk
    simp at hk
    have := congrArg Array.size hk.1
    simp at this
    omega
theorem any_take {Q : List Way} {A : List Int} {j : Nat} {q : Way} (h : Q[j]? = some q) : (Q.take (j + 1)).any (fun p => decide (p.1 = A)) = ((Q.take j).any (fun p => decide (p.1 = A)) || decide (q.1 = A)) := by
  rw [List.take_add_one, h]
  simp [List.any_append]
end Go.Proofs.YtmoohgafljepdaaDoor
