import Derived.Test.YtknallkcengbbaaGreatDoorEc
namespace Go.Proofs.YtknallkcengbbaaGreatDoor
open Go.RowKit
set_option linter.unusedVariables false

/-- two values of two cells, as boxes one behind the other. -/
theorem blk2 (w : World) (c d : Array Value) (t u : TypeId) : Blk ((w.alloc (.cells c t)).alloc (.cells d u)) w.heap.size c t ∧ Blk ((w.alloc (.cells c t)).alloc (.cells d u)) (w.heap.size + 1) d u :=
  ⟨(Blk.new w c t).alloc _, Blk.new' _ d u (by simp)⟩

theorem decide_pair {A B C D : List Int} : decide ((A, B) = (C, D)) = (decide (A = C) && decide (B = D)) := by
  rw [Bool.eq_iff_iff]; simp

set_option maxHeartbeats 1000000 in
theorem l1In_any (x lo hi : Int) (w : World) :
    Calls Tryz.prog 47 #[.int .i64 x, .int .i64 lo, .int .i64 hi] w fun e w' => e = .returned (.bool (decide (lo ≤ x) && decide (x ≤ hi))) ∧ w' = w := by
  by_cases h1 : lo ≤ x
  · go_enter Tryz.func47, Tryz.ntmps47
    go_wp2
    go_ret
    exact ⟨ret_bool' (by simp [h1]), rfl⟩
  · go_enter Tryz.func47, Tryz.ntmps47
    go_wp2
    go_ret
    exact ⟨ret_bool' (by simp; omega), rfl⟩

theorem okE_badG {G F : List Int} {k : Nat} (hk : k < G.length) (h : ¬ (0 ≤ G[k]?.getD 0 ∧ G[k]?.getD 0 ≤ 1000000)) : okE G F = false := by
  simp only [okE, decide_eq_false_iff_not]
  exact fun g => h (g.2.1 _ (getD_mem hk))
theorem okE_badF {G F : List Int} {k : Nat} (hk : k < F.length) (h : ¬ (0 ≤ F[k]?.getD 0 ∧ F[k]?.getD 0 < G.length)) : okE G F = false := by
  simp only [okE, decide_eq_false_iff_not]
  exact fun g => h (g.2.2.1 _ (getD_mem hk))
theorem nodup_take {F : List Int} (h : F.Nodup) (k : Nat) : (F.take k).Nodup := h.sublist (List.take_sublist k F)
theorem nodup_snoc {A : List Int} {x : Int} : (A ++ [x]).Nodup ↔ A.Nodup ∧ ¬ x ∈ A := by
  rw [List.nodup_append]
  constructor
  · rintro ⟨h1, _, h3⟩
    exact ⟨h1, fun hx => h3 x hx x (by simp) rfl⟩
  · rintro ⟨h1, h2⟩
    refine ⟨h1, by simp, fun a ha b hb e => ?_⟩
    simp at hb
    subst hb
    exact h2 (e ▸ ha)
theorem okE_dup {G F : List Int} {k : Nat} (hk : k < F.length) (h : F[k]?.getD 0 ∈ F.take k) : okE G F = false := by
  simp only [okE, decide_eq_false_iff_not]
  intro g
  have := nodup_take g.2.2.2 (k + 1)
  rw [take_succ' F k hk, nodup_snoc] at this
  exact this.2 h
theorem okE_long {G F : List Int} (h : ¬ G.length ≤ 2000) : okE G F = false := by
  simp only [okE, decide_eq_false_iff_not]
  exact fun g => h g.1
theorem okE_much {G F : List Int} (h : ¬ F.length ≤ G.length) : okE G F = false := by
  rw [okE_eq]
  cases hb : freeB F G.length
  · simp
  · exact absurd (free_len hb) h
theorem okE_good {G F : List Int} (hn : G.length ≤ 2000) (hG : ∀ g ∈ G, 0 ≤ g ∧ g ≤ 1000000) (hF : ∀ f ∈ F, 0 ≤ f ∧ f < G.length) (hd : F.Nodup) : okE G F = true := by
  simp only [okE, decide_eq_true_eq]
  exact ⟨hn, hG, hF, hd⟩

/-- which places have been seen. -/
def Seen (w : World) (B sb n : Nat) (A : List Int) : Prop :=
  ∃ bs : List Bool, w.ownsRow B 4 1 (.slice (some ⟨sb, 0, none⟩) n n) n (bs.map Value.bool) ∧ ∀ p, p < n → bs[p]? = some (decide ((p : Int) ∈ A))

theorem Seen.new {w : World} {B sb n : Nat} (h : w.ownsRow B 4 1 (.slice (some ⟨sb, 0, none⟩) n n) n (List.replicate n (.bool false))) : Seen w B sb n [] :=
  ⟨List.replicate n false, by rw [List.map_replicate]; exact h, fun p hp => by simp [hp]⟩
theorem Seen.cell {w : World} {B sb n : Nat} {A : List Int} (h : Seen w B sb n A) {p : Nat} (hp : p < n) : w.cell? ⟨sb, p, none⟩ = some (.bool (decide ((p : Int) ∈ A))) ∧ w.frozen? ⟨sb, p, none⟩ = false := by
  obtain ⟨bs, h1, h2⟩ := h
  refine ⟨?_, World.ownsRow.frozenAt h1 p⟩
  rw [World.ownsRow.cellAt h1 p (by omega)]
  simp [h2 p hp]
theorem Seen.set {w : World} {B sb n : Nat} {A : List Int} (h : Seen w B sb n A) {p : Nat} (hp : p < n) : Seen (w.setCell ⟨sb, p, none⟩ (.bool true)) B sb n (A ++ [(p : Int)]) := by
  obtain ⟨bs, h1, h2⟩ := h
  have hl : bs.length = n := by have := h1.1; simp at this; exact this
  refine ⟨bs.set p true, by rw [List.map_set]; exact (World.ownsRow.stored h1 p _).1, fun q hq => ?_⟩
  by_cases e : p = q
  · subst e; simp [hl, hp]
  · rw [List.getElem?_set_ne e, h2 q hq]
    have : ¬ (q : Int) = (p : Int) := by omega
    simp [this]

theorem Tryz.infoB : (Tryz.prog.info? 4).map (fun i => (i.zero, i.size, i.bytes)) = some (some (.bool false), 1, 1) := by kernel_rfl

end Go.Proofs.YtknallkcengbbaaGreatDoor
