import Derived.Test.YtigllpegaljkmaaDoorN10j
import Derived.Test.YtigllpegaljkmaaDoorN21j
import Derived.Test.YtigllpegaljkmaaDoorN30j
import Derived.Great.BuildSlice
import Derived.Deep.RegionHeld3
namespace Go.Proofs.YtigllpegaljkmaaDoor
open Go.RowKit
set_option linter.unusedVariables false
set_option linter.unusedSimpArgs false

set_option maxHeartbeats 2000000 in
theorem l4Equal_any (s t : Option Addr) (c d : Nat) (A B : List Int) (w : World) (hA : Ints w s A) (hB : Ints w t B) (he : A.length = B.length) (hl : A.length ≤ 1048576) :
    Calls Tryd.prog 27 #[.slice s A.length c, .slice t B.length d] w fun e w' => e = .returned (.bool (decide (A = B))) ∧ Below w.heap.size w w' := by
  have HA : Hid (Ints w s A) := hA
  have HB : Hid (Ints w t B) := hB
  have HEq : Hid (A.length = B.length) := he
  rw [← he]
  have tn : (((A.length : Nat) : Int) != ((A.length : Nat) : Int)) = false := by simp
  clear hA hB he
  go_enter Tryd.func27, Tryd.ntmps27
  go_wp2_with fail
  go_loopw [5] (fun iv wr => ∃ k : Nat, k ≤ A.length ∧ iv = .int .i64 k ∧ Hid (∀ j, j < k → A[j]?.getD 0 = B[j]?.getD 0) ∧ Hid (Below w.heap.size w wr)) (fun iv _ => A.length - (intOf iv).toNat)
  case atStart => exact ⟨0, Nat.zero_le _, rfl, fun j hj => absurd hj (Nat.not_lt_zero _), Below.refl _ _⟩
  case round =>
    obtain ⟨k, hk, rfl, hall, hb⟩ := hrel
    by_cases hlt : k < A.length
    · obtain ⟨pb, po, rfl, hp, hcA⟩ := (HA.out.later hb.out).get (k := k) hlt
      obtain ⟨qb, qo, rfl, hq, hcB⟩ := (HB.out.later hb.out).get (k := k) (by rw [← HEq.out]; exact hlt)
      have c1 := hcA k hlt
      have c2 := hcB k (by rw [← HEq.out]; exact hlt)
      obtain ⟨a, ha⟩ : ∃ a, Hid (A[k]?.getD 0 = a) := ⟨_, rfl⟩
      obtain ⟨b, hbb⟩ : ∃ b, Hid (B[k]?.getD 0 = b) := ⟨_, rfl⟩
      rw [ha.out] at c1
      rw [hbb.out] at c2
      have t0 : decide ((k : Int) < (A.length : Int)) = true := by simp; omega
      have kI : (k : Int) < (A.length : Int) := by omega
      clear hcA hcB
      by_cases hab : a = b
      · subst hab
        have tab : (a != a) = false := by simp
        have hn : Hid (∀ j, j < k + 1 → A[j]?.getD 0 = B[j]?.getD 0) := by
          intro j hj
          by_cases e : j = k
          · subst e; rw [ha.out, hbb.out]
          · exact hall.out j (by omega)
        go_wp2_with fail
        go_region
        all_goals
          go_wp2_with fail
          go_roundw
          case rel => exact ⟨k + 1, by omega, by go_num, hn, bl_drewN hb.out _⟩
          case measure => simp [intOf]; omega
      · have tab : (a != b) = true := by simp [bne, hab]
        have hne : Hid (decide (A = B) = false) := by
          have : ¬ A = B := fun e => hab (by rw [← ha.out, ← hbb.out, e])
          simp [Hid, this]
        go_wp2_with fail
        go_region
        all_goals
          go_wp2_with fail
          go_ret
          exact ⟨ret_bool' hne.out.symm, bl_drewN hb.out _⟩
    · have t0 : decide ((k : Int) < (A.length : Int)) = false := by simp; omega
      have hyes : Hid (decide (A = B) = true) := by
        have : A = B := by
          apply List.ext_getElem?
          intro j
          by_cases hj : j < A.length
          · have := hall.out j (by omega)
            rw [List.getElem?_eq_getElem hj, List.getElem?_eq_getElem (by rw [← HEq.out]; exact hj)] at this ⊢
            simpa using this
          · rw [List.getElem?_eq_none (by omega), List.getElem?_eq_none (by rw [← HEq.out]; omega)]
        simp [Hid, this]
      go_wp2_with fail
      go_ret
      exact ⟨ret_bool' hyes.out.symm, hb.out⟩

/-! the list of nodes in memory -/
def nc (x : Value × Int × Int × Int) : List Value := [x.1, .int .i64 x.2.1, .int .i64 x.2.2.1, .int .i64 x.2.2.2]
def NRow (w : World) (B : Nat) (v : Value) (X : List (Value × Int × Int × Int)) : Prop := w.ownsRow B 64 4 v X.length (X.flatMap nc)
theorem nc_len (X : List (Value × Int × Int × Int)) : (X.flatMap nc).length = X.length * 4 := by
  induction X with
  | nil => rfl
  | cons x X ih => simp [List.flatMap_cons, ih, nc]; omega
theorem nc_at : ∀ (X : List (Value × Int × Int × Int)) (j : Nat) (x : Value × Int × Int × Int), X[j]? = some x → (X.flatMap nc)[j * 4]? = some x.1 ∧ (X.flatMap nc)[j * 4 + 1]? = some (.int .i64 x.2.1) ∧ (X.flatMap nc)[j * 4 + 2]? = some (.int .i64 x.2.2.1) ∧ (X.flatMap nc)[j * 4 + 3]? = some (.int .i64 x.2.2.2)
  | y :: X, 0, x, h => by simp at h; subst h; exact ⟨rfl, rfl, rfl, rfl⟩
  | y :: X, j + 1, x, h => by
    have := nc_at X j x (by simpa using h)
    have e : (y :: X).flatMap nc = y.1 :: .int .i64 y.2.1 :: .int .i64 y.2.2.1 :: .int .i64 y.2.2.2 :: X.flatMap nc := rfl
    rw [e, show (j + 1) * 4 = j * 4 + 1 + 1 + 1 + 1 by omega]
    simpa using this
theorem NRow.later {w w' : World} {B : Nat} {v : Value} {X : List (Value × Int × Int × Int)} (h : NRow w B v X) (hb : Below w.heap.size w w') : NRow w' B v X := by
  refine World.ownsRow.kept h (grown_of_below hb) ?_
  cases v.ownBlock with
  | none => exact Or.inl rfl
  | some b => exact Or.inr (by simp)
theorem NRow.lt {w : World} {B : Nat} {v : Value} {X : List (Value × Int × Int × Int)} (h : NRow w B v X) : ∀ k, v.ownBlock = some k → B ≤ k ∧ k < w.heap.size := World.ownsRow.lt h
theorem NRow.get {w : World} {B : Nat} {v : Value} {X : List (Value × Int × Int × Int)} (h : NRow w B v X) {j : Nat} {x : Value × Int × Int × Int} (hj : X[j]? = some x) : ∃ g c, v = .slice (some ⟨g, 0, none⟩) X.length c ∧ g < w.heap.size ∧ w.cell? ⟨g, j * 4, none⟩ = some x.1 ∧ w.cell? ⟨g, j * 4 + 1, none⟩ = some (.int .i64 x.2.1) ∧ w.cell? ⟨g, j * 4 + 2, none⟩ = some (.int .i64 x.2.2.1) ∧ w.cell? ⟨g, j * 4 + 3, none⟩ = some (.int .i64 x.2.2.2) := by
  have hjl := (List.getElem?_eq_some_iff.1 hj).1
  obtain ⟨h1, h2⟩ := h
  rcases h2 with ⟨_, h3⟩ | ⟨g, cap, cur, rfl, hb, hg, r⟩
  · omega
  · have h : w.ownsRow B 64 4 (.slice (some ⟨g, 0, none⟩) X.length cap) X.length (X.flatMap nc) := ⟨h1, Or.inr ⟨g, cap, cur, rfl, hb, hg, r⟩⟩
    obtain ⟨a, b, c, d⟩ := nc_at X j x hj
    have hl := nc_len X
    refine ⟨g, cap, rfl, (Array.getElem?_eq_some_iff.1 hg).1, ?_, ?_, ?_, ?_⟩
    · rw [World.ownsRow.cellAt h (j * 4) (by omega), a]
    · rw [World.ownsRow.cellAt h (j * 4 + 1) (by omega), b]
    · rw [World.ownsRow.cellAt h (j * 4 + 2) (by omega), c]
    · rw [World.ownsRow.cellAt h (j * 4 + 3) (by omega), d]
theorem NRow.blk {w : World} {B : Nat} {v : Value} {X : List (Value × Int × Int × Int)} (h : NRow w B v X) {m : Nat} (hm : v.ownBlock = some m) : ∃ c fr, w.heap[m]? = some (.cells c 64 fr) := by
  rcases h.2 with ⟨rfl, _⟩ | ⟨g, cap, cur, rfl, _, hg, _⟩
  · simp [Value.ownBlock] at hm
  · simp only [Value.ownBlock, Option.some.injEq] at hm
    subst hm
    exact ⟨_, _, hg⟩
theorem VRow.keptN {w w' : World} {B C : Nat} {v u : Value} {A : List Int} {X : List (Value × Int × Int × Int)} (h : VRow w B v A) (hX : NRow w C u X) (hg : w.grownBy w' u.ownBlock) : VRow w' B v A := by
  cases hv : v.ownBlock with
  | none => exact World.ownsRow.kept h hg (Or.inl hv)
  | some k =>
    refine World.ownsRow.kept h hg (Or.inr ?_)
    intro e
    cases hu : u.ownBlock with
    | none => rw [hu, hv] at e; cases e
    | some m =>
      obtain ⟨c, fr, hb⟩ := hX.blk hu
      refine h.apart hb (by decide) ?_
      rw [e, hu]
theorem MRow.keptN {w w' : World} {B C : Nat} {v u : Value} {M : List (Int × Int)} {X : List (Value × Int × Int × Int)} (h : MRow w B v M) (hX : NRow w C u X) (hg : w.grownBy w' u.ownBlock) : MRow w' B v M := by
  cases hv : v.ownBlock with
  | none => exact World.ownsRow.kept h hg (Or.inl hv)
  | some k =>
    refine World.ownsRow.kept h hg (Or.inr ?_)
    intro e
    cases hu : u.ownBlock with
    | none => rw [hu, hv] at e; cases e
    | some m =>
      obtain ⟨c, fr, hb⟩ := hX.blk hu
      obtain ⟨c2, fr2, hb2⟩ := h.blk hv
      rw [hv, hu] at e
      cases e
      rw [hb] at hb2
      simp at hb2
end Go.Proofs.YtigllpegaljkmaaDoor
namespace Go.Proofs.YtigllpegaljkmaaDoor
open Go.RowKit
set_option linter.unusedVariables false
set_option linter.unusedSimpArgs false

/-- the nodes in memory are the ways. -/
structure NOk (w : World) (B : Nat) (X : List (Value × Int × Int × Int)) (Q : List Way) : Prop where
  len : X.length = Q.length
  row : ∀ (j : Nat) x q, X[j]? = some x → Q[j]? = some q → ∃ sa ca, x.1 = .slice sa q.1.length ca ∧ VRow w B (.slice sa q.1.length ca) q.1
  zero : ∀ x q, X[0]? = some x → Q[0]? = some q → x.2.1 = -1 ∧ q.2 = []
  back : ∀ (j : Nat) x q, 0 < j → X[j]? = some x → Q[j]? = some q → ∃ (f : Nat) (p : Way), f < j ∧ x.2.1 = (f : Int) ∧ Q[f]? = some p ∧ q.2 = p.2 ++ [(x.2.2.1, x.2.2.2)]
theorem NOk.later {w w' : World} {B : Nat} {X : List (Value × Int × Int × Int)} {Q : List Way} (h : NOk w B X Q) (hb : Below w.heap.size w w') : NOk w' B X Q :=
  ⟨h.len, fun j x q hx hq => by obtain ⟨sa, ca, e, hv⟩ := h.row j x q hx hq; exact ⟨sa, ca, e, hv.later hb⟩, h.zero, h.back⟩
theorem NOk.grown {w w' : World} {B C : Nat} {u : Value} {X Y : List (Value × Int × Int × Int)} {Q : List Way} (h : NOk w B X Q) (hY : NRow w C u Y) (hg : w.grownBy w' u.ownBlock) : NOk w' B X Q :=
  ⟨h.len, fun j x q hx hq => by obtain ⟨sa, ca, e, hv⟩ := h.row j x q hx hq; exact ⟨sa, ca, e, hv.keptN hY hg⟩, h.zero, h.back⟩
theorem NOk.snoc {w : World} {B : Nat} {X : List (Value × Int × Int × Int)} {Q : List Way} (h : NOk w B X Q) {sa : Option Addr} {ca : Nat} {A : List Int} (hv : VRow w B (.slice sa A.length ca) A) {f : Nat} {p : Way} (hf : f < Q.length) (hp : Q[f]? = some p) (k t : Int) : NOk w B (X ++ [(.slice sa A.length ca, (f : Int), k, t)]) (Q ++ [(A, p.2 ++ [(k, t)])]) := by
  have hl := h.len
  have key : ∀ (j : Nat) x q, (X ++ [(Value.slice sa A.length ca, (f : Int), k, t)])[j]? = some x → (Q ++ [(A, p.2 ++ [(k, t)])])[j]? = some q → (j < X.length ∧ X[j]? = some x ∧ Q[j]? = some q) ∨ (j = X.length ∧ x = (.slice sa A.length ca, (f : Int), k, t) ∧ q = (A, p.2 ++ [(k, t)])) := by
    intro j x q hx hq
    by_cases hj : j < X.length
    · rw [List.getElem?_append_left hj] at hx
      rw [List.getElem?_append_left (by omega)] at hq
      exact Or.inl ⟨hj, hx, hq⟩
    · have hjl := (List.getElem?_eq_some_iff.1 hx).1
      simp at hjl
      have hj' : j = X.length := by omega
      subst hj'
      rw [List.getElem?_append_right (Nat.le_refl _), Nat.sub_self] at hx
      rw [List.getElem?_append_right (by omega), hl, Nat.sub_self] at hq
      simp at hx hq
      exact Or.inr ⟨rfl, hx.symm, hq.symm⟩
  refine ⟨by simp [hl], fun j x q hx hq => ?_, fun x q hx hq => ?_, fun j x q h0 hx hq => ?_⟩
  · rcases key j x q hx hq with ⟨_, h1, h2⟩ | ⟨_, rfl, rfl⟩
    · exact h.row j x q h1 h2
    · exact ⟨sa, ca, rfl, hv⟩
  · rcases key 0 x q hx hq with ⟨_, h1, h2⟩ | ⟨h0, _, _⟩
    · exact h.zero x q h1 h2
    · omega
  · rcases key j x q hx hq with ⟨_, h1, h2⟩ | ⟨hj, rfl, rfl⟩
    · obtain ⟨f', p', g1, g2, g3, g4⟩ := h.back j x q h0 h1 h2
      exact ⟨f', p', g1, g2, by rw [List.getElem?_append_left (List.getElem?_eq_some_iff.1 g3).1]; exact g3, g4⟩
    · exact ⟨f, p, by omega, rfl, by rw [List.getElem?_append_left hf]; exact hp, rfl⟩
theorem Tryd.infoNode : (Tryd.prog.info? 64).map (fun i => (i.zero, i.size, i.bytes)) = some (some (.agg #[.slice none 0 0, .int .i64 0, .int .i64 0, .int .i64 0]), 4, 48) := by kernel_rfl
theorem one_slice (s : Option Addr) (n c : Nat) : (Value.slice s n c).oneCell' = true := rfl
/-- a node more. -/
theorem wpList_append_node (w : World) {ops : Array Oper} {rest : List Oper} {o : Oper} {a : Act} {Q : Exit → Act → World → Prop}
    (hg : o.guard = none) (s x : Operand) (hop : o.op = Op.call { callee := Callee.builtin Builtin.append, args := #[s, x], argTypes := #[65, 65] })
    (B : Nat) (v : Value) (X : List (Value × Int × Int × Int)) (hs : a.eval s = v) (hv : NRow w B v X) (sb : Nat) (sa : Option Addr) (na ca : Nat) (f k t : Int) (hx : a.eval x = .slice (some ⟨sb, 0, none⟩) 1 1) (hb : Blk w sb #[.slice sa na ca, .int .i64 f, .int .i64 k, .int .i64 t] 64) (hl : X.length ≤ 1048576) (hB : B ≤ w.heap.size)
    (hK : ∀ v' w', NRow w' B v' (X ++ [(.slice sa na ca, f, k, t)]) → w.grownBy w' v.ownBlock → wpList Tryd.prog ops Q rest (a.put o.dst v') w') :
    wpList Tryd.prog ops Q (o :: rest) a w := by
  obtain ⟨ie, hie, he0, he1, he2⟩ := info_parts Tryd.infoNode
  refine wpList_append_own _ hg s x 65 hop B 64 ie _ 4 48 Tryd.underlying65 hie he0 he1 he2 rfl (by decide) v X.length (X.flatMap nc) hs hv ⟨sb, 0, none⟩ 1 1 [.slice sa na ca, .int .i64 f, .int .i64 k, .int .i64 t] hx rfl ?_ ?_ (by unfold maxLen; omega) (by omega) hB ?_
  · intro j u hj
    rw [Addr.add_lit, Nat.zero_add, hb.cell j]
    rw [← hj]
    simp
  · intro u hu
    simp at hu
    rcases hu with rfl | rfl | rfl | rfl <;> rfl
  · intro v' w' h1 h2 _
    refine hK v' w' ?_ h2
    unfold NRow
    rw [List.length_append, List.length_singleton, List.flatMap_append]
    exact h1
theorem grown_nr {B : Nat} {W X Y : World} {v : Value} {L : List (Value × Int × Int × Int)} (hb : Below B W X) (hB : B ≤ X.heap.size) (hv : NRow X B v L) (hg : X.grownBy Y v.ownBlock) : Below B W Y :=
  hb.grown hg hB (fun q hq => (hv.lt q hq).1)
theorem NRow.shape {w : World} {B : Nat} {v : Value} {L : List (Value × Int × Int × Int)} (h : NRow w B v L) : ∃ s c, v = .slice s L.length c := by
  rcases h.2 with ⟨rfl, h2⟩ | ⟨g, cap, cur, rfl, _⟩
  · exact ⟨none, 0, by rw [h2]⟩
  · exact ⟨_, _, rfl⟩
theorem NRow.new {w : World} {b : Nat} {sa : Option Addr} {na ca : Nat} {f k t : Int} (h : Blk w b #[.slice sa na ca, .int .i64 f, .int .i64 k, .int .i64 t] 64) : NRow w b (.slice (some ⟨b, 0, none⟩) 1 1) [(.slice sa na ca, f, k, t)] :=
  ⟨rfl, Or.inr ⟨b, 1, _, rfl, Nat.le_refl _, h, Nat.le_refl _, by unfold maxLen; omega, rfl, rfl⟩⟩
theorem NRow.mono {w : World} {B B' : Nat} {v : Value} {X : List (Value × Int × Int × Int)} (h : NRow w B v X) (hB : B' ≤ B) : NRow w B' v X := by
  refine ⟨h.1, ?_⟩
  rcases h.2 with h' | ⟨g, cap', cur, h', hb, r⟩
  · exact Or.inl h'
  · exact Or.inr ⟨g, cap', cur, h', Nat.le_trans hB hb, r⟩
theorem NRow.keptM {w w' : World} {B C : Nat} {v u : Value} {X : List (Value × Int × Int × Int)} {M : List (Int × Int)} (h : NRow w B v X) (hM : MRow w C u M) (hg : w.grownBy w' u.ownBlock) : NRow w' B v X := by
  cases hv : v.ownBlock with
  | none => exact World.ownsRow.kept h hg (Or.inl hv)
  | some k =>
    refine World.ownsRow.kept h hg (Or.inr ?_)
    intro e
    cases hu : u.ownBlock with
    | none => rw [hu, hv] at e; cases e
    | some m =>
      obtain ⟨c, fr, hb⟩ := hM.blk hu
      obtain ⟨c2, fr2, hb2⟩ := h.blk hv
      rw [hv, hu] at e
      cases e
      rw [hb] at hb2
      simp at hb2
/-- moves onto a list of moves of the call's own. -/
theorem wpList_append_mv2 (w : World) {ops : Array Oper} {rest : List Oper} {o : Oper} {a : Act} {Q : Exit → Act → World → Prop}
    (hg : o.guard = none) (s x : Operand) (hop : o.op = Op.call { callee := Callee.builtin Builtin.append, args := #[s, x], argTypes := #[27, 27] })
    (B : Nat) (v : Value) (F : List (Int × Int)) (hs : a.eval s = v) (hv : MRow w B v F) (g c : Nat) (M : List (Int × Int)) (hx : a.eval x = .slice (some ⟨g, 0, none⟩) M.length c) (C : Nat) (hM : MRow w C (.slice (some ⟨g, 0, none⟩) M.length c) M) (hl : F.length ≤ 1048576) (hl2 : M.length ≤ 1048576) (hB : B ≤ w.heap.size)
    (hK : ∀ v' w', MRow w' B v' (F ++ M) → w.grownBy w' v.ownBlock → wpList Tryd.prog ops Q rest (a.put o.dst v') w') :
    wpList Tryd.prog ops Q (o :: rest) a w := by
  obtain ⟨ie, hie, he0, he1, he2⟩ := info_parts Tryd.infoMove
  refine wpList_append_own _ hg s x 27 hop B 62 ie (.agg #[.int .i64 0, .int .i64 0]) 2 16 Tryd.underlying27 hie he0 he1 he2 rfl (by decide) v F.length (ecells F) hs hv ⟨g, 0, none⟩ M.length c (ecells M) hx (ecells_len M) ?_ ?_ (by unfold maxLen; omega) (by omega) hB ?_
  · intro j u hj
    have hjl := (List.getElem?_eq_some_iff.1 hj).1
    rw [Addr.add_lit, Nat.zero_add, World.ownsRow.cellAt hM j (by rw [ecells_len] at hjl; omega)]
    exact hj
  · intro u hu
    simp only [ecells, List.mem_flatMap] at hu
    obtain ⟨p, _, hp⟩ := hu
    simp at hp
    rcases hp with rfl | rfl <;> rfl
  · intro v' w' h1 h2 _
    refine hK v' w' ?_ h2
    unfold MRow
    rw [List.length_append, ecells_app]
    exact h1
theorem NRow.ne_box {w : World} {B xb : Nat} {v : Value} {X : List (Value × Int × Int × Int)} {a b c d : Value} {t : TypeId} (h : NRow w B v X) (hk : Blk w xb #[a, b, c, d] t) (h2 : 2 ≤ X.length) : ¬ v.ownBlock = some xb := by
  intro e
  rcases h.2 with ⟨rfl, _⟩ | ⟨g, cap, cur, rfl, _, hg, hc, _, hs, _⟩
  · simp [Value.ownBlock] at e
  · simp only [Value.ownBlock, Option.some.injEq] at e
    subst e
    unfold Blk at hk
    rw [hg] at hk
    simp at hk
    have := congrArg Array.size hk.1
    simp at this
    omega
theorem any_take {Q : List Way} {A : List Int} {j : Nat} {q : Way} (h : Q[j]? = some q) : (Q.take (j + 1)).any (fun p => decide (p.1 = A)) = ((Q.take j).any (fun p => decide (p.1 = A)) || decide (q.1 = A)) := by
  rw [List.take_add_one, h]
  simp [List.any_append]
end Go.Proofs.YtigllpegaljkmaaDoor
