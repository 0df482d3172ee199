import Derived.Test.YtbgeobpdojmdaaaDoorG20
import Derived.Test.YtbgeobpdojmdaaaDoorG8b
namespace Go.Proofs.YtbgeobpdojmdaaaDoor
open Go.RowKit
set_option linter.unusedVariables false
set_option linter.unusedSimpArgs false

/-- is there a number between? -/
def btw (R : Nat → Nat → Bool) (n a b : Nat) : Bool := (List.range n).any fun x => R a x && R x b
/-- the edges from a to the first b numbers; from the first a numbers. -/
def redRow (R : Nat → Nat → Bool) (n a : Nat) : Nat → List (Int × Int)
  | 0 => []
  | b + 1 => if R a b && !btw R n a b then redRow R n a b ++ [((a : Int), (b : Int))] else redRow R n a b
def redA (R : Nat → Nat → Bool) (n : Nat) : Nat → List (Int × Int)
  | 0 => []
  | a + 1 => redA R n a ++ redRow R n a n
theorem redRow_len (R : Nat → Nat → Bool) (n a : Nat) : ∀ b, (redRow R n a b).length ≤ b
  | 0 => by simp [redRow]
  | b + 1 => by
    have := redRow_len R n a b
    unfold redRow
    split
    · simp; omega
    · omega
theorem redA_len (R : Nat → Nat → Bool) (n : Nat) : ∀ a, (redA R n a).length ≤ a * n
  | 0 => by simp [redA]
  | a + 1 => by
    have h1 := redA_len R n a
    have h2 := redRow_len R n a n
    rw [redA, List.length_append, Nat.succ_mul]; omega
/-- the list under way. -/
def redP (R : Nat → Nat → Bool) (n a b : Nat) : List (Int × Int) := redA R n a ++ redRow R n a b
theorem redP_hit (R : Nat → Nat → Bool) (n a b : Nat) (h1 : R a b = true) (h2 : btw R n a b = false) : redP R n a (b + 1) = redP R n a b ++ [((a : Int), (b : Int))] := by
  simp [redP, redRow, h1, h2]
theorem redP_miss (R : Nat → Nat → Bool) (n a b : Nat) (h : (R a b && !btw R n a b) = false) : redP R n a (b + 1) = redP R n a b := by
  unfold redP; rw [redRow, h]; simp
theorem redP_next (R : Nat → Nat → Bool) (n a : Nat) : redP R n a n = redP R n (a + 1) 0 := by simp [redP, redA, redRow]
theorem redP_len (R : Nat → Nat → Bool) (n a b : Nat) (hn : n ≤ 16) (ha : a ≤ n) (hb : b ≤ n) : (redP R n a b).length ≤ 272 := by
  have h1 := redA_len R n a
  have h2 := redRow_len R n a b
  have h3 : a * n ≤ 16 * 16 := Nat.mul_le_mul (by omega) hn
  unfold redP; rw [List.length_append]; omega
theorem clo_flip (R : Nat → Nat → Bool) : ∀ (k i j : Nat), clo (fun x y => R y x) k i j = clo R k j i
  | 0, i, j => rfl
  | k + 1, i, j => by
    simp only [clo, stp]
    rw [clo_flip R k i j, clo_flip R k i k, clo_flip R k k j]
    cases clo R k j i <;> cases clo R k k i <;> cases clo R k j k <;> rfl
theorem clo_sup {R : Nat → Nat → Bool} {n : Nat} (h : Sup R n) : ∀ k, Sup (clo R k) n
  | 0 => h
  | k + 1 => by
    intro i j hij
    simp only [clo, stp, Bool.or_eq_true, Bool.and_eq_true] at hij
    rcases hij with hij | ⟨h1, h2⟩
    · exact clo_sup h k i j hij
    · exact ⟨(clo_sup h k i k h1).1, (clo_sup h k k j h2).2⟩
theorem btw_bits {R : Nat → Nat → Bool} {n a b : Nat} (h : Sup R n) (hn : n ≤ 16) : (nb (fun x => R a x && R x b) == 0) = !btw R n a b := by
  rw [nb_is_zero]
  unfold btw
  rw [Bool.eq_iff_iff]
  simp only [List.all_eq_true, List.mem_range, Bool.not_eq_true', List.any_eq_false]
  constructor
  · intro g x hx
    have := g x (by omega)
    simp [this]
  · intro g x hx
    by_cases e : x < n
    · simpa using g x e
    · cases hr : R a x
      · rfl
      · have := (h a x hr).2; omega
def redB (n : Int) (L : List (Int × Int)) : List (Int × Int) := if (canB n L).isSome then redP (clo (eR L) 16) n.toNat n.toNat 0 else []
theorem redB_len (n : Int) (L : List (Int × Int)) : (redB n L).length ≤ 1048576 := by
  unfold redB
  split
  · rename_i h
    cases hg : gOk n L
    · simp [canB, hg] at h
    · obtain ⟨m, rfl, hm, _⟩ := gOk_open hg
      have := redP_len (clo (eR L) 16) m m 0 hm (Nat.le_refl _) (Nat.zero_le _)
      simp; omega
  · simp

/-- an edge more onto a list of edges of the call's own. -/
theorem wpList_append_edge (w : World) {ops : Array Oper} {rest : List Oper} {o : Oper} {a : Act} {Q : Exit → Act → World → Prop}
    (hg : o.guard = none) (s x : Operand) (hop : o.op = Op.call { callee := Callee.builtin Builtin.append, args := #[s, x], argTypes := #[24, 24] })
    (B : Nat) (v : Value) (F : List (Int × Int)) (hs : a.eval s = v) (hv : ERow w B v F) (sb : Nat) (p q : Int) (hx : a.eval x = .slice (some ⟨sb, 0, none⟩) 1 1) (hz0 : w.cell? ⟨sb, 0, none⟩ = some (.int .i64 p)) (hz1 : w.cell? ⟨sb, 1, none⟩ = some (.int .i64 q)) (hl : F.length ≤ 1048576) (hB : B ≤ w.heap.size)
    (hK : ∀ v' w', ERow w' B v' (F ++ [(p, q)]) → w.grownBy w' v.ownBlock → wpList Tryd.prog ops Q rest (a.put o.dst v') w') :
    wpList Tryd.prog ops Q (o :: rest) a w := by
  obtain ⟨ie, hie, he0, he1, he2⟩ := info_parts Tryd.infoEdge
  refine wpList_append_own _ hg s x 24 hop B 47 ie (.agg #[.int .i64 0, .int .i64 0]) 2 16 Tryd.underlying24 hie he0 he1 he2 rfl (by decide) v F.length (ecells F) hs hv ⟨sb, 0, none⟩ 1 1 [.int .i64 p, .int .i64 q] hx rfl ?_ ?_ (by unfold maxLen; omega) (by omega) hB ?_
  · intro j u hj
    match j, hj with
    | 0, hj => simp at hj; subst hj; simpa [Addr.add] using hz0
    | 1, hj => simp at hj; subst hj; simpa [Addr.add] using hz1
  · intro u hu
    simp at hu
    rcases hu with rfl | rfl <;> rfl
  · intro v' w' h1 h2 _
    refine hK v' w' ?_ h2
    unfold ERow
    rw [List.length_append, List.length_singleton, ecells_app]
    exact h1
theorem ERow.apart {w : World} {B : Nat} {v : Value} {O : List (Int × Int)} (h : ERow w B v O) {m : Nat} {c : Array Value} {t : TypeId} {fr : Nat × Nat} (hb : w.heap[m]? = some (.cells c t fr)) (ht : ¬ t = 47) : ¬ v.ownBlock = some m := by
  rcases h.2 with ⟨rfl, _⟩ | ⟨g, cap, cur, rfl, _, hg, _⟩
  · simp [Value.ownBlock]
  · simp only [Value.ownBlock, Option.some.injEq]
    intro e
    subst e
    rw [hg] at hb
    simp at hb
    exact ht hb.2.1.symm
end Go.Proofs.YtbgeobpdojmdaaaDoor
