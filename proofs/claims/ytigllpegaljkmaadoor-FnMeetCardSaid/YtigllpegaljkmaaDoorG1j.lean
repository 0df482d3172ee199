import Derived.Test.YtigllpegaljkmaaDoorEdj
import Derived.Deep.QuietTactic
import Derived.BigQuiet
namespace Go.Proofs.YtigllpegaljkmaaDoor
open Go.RowKit
set_option linter.unusedVariables false

/-- the cells of a list of edges. -/
def ecells (L : List (Int × Int)) : List Value := L.flatMap fun p => [.int .i64 p.1, .int .i64 p.2]
theorem ecells_nil : ecells [] = [] := rfl
theorem ecells_app (L M : List (Int × Int)) : ecells (L ++ M) = ecells L ++ ecells M := by simp [ecells]
theorem ecells_len : ∀ L : List (Int × Int), (ecells L).length = L.length * 2
  | [] => rfl
  | p :: L => by
    have := ecells_len L
    simp [ecells] at this ⊢; omega
theorem ecells_get : ∀ (L : List (Int × Int)) (j : Nat) (p : Int × Int), L[j]? = some p → (ecells L)[2 * j]? = some (.int .i64 p.1) ∧ (ecells L)[2 * j + 1]? = some (.int .i64 p.2)
  | q :: L, 0, p, h => by
    simp at h; subst h; exact ⟨rfl, rfl⟩
  | q :: L, j + 1, p, h => by
    have := ecells_get L j p (by simpa using h)
    have e : ecells (q :: L) = .int .i64 q.1 :: .int .i64 q.2 :: ecells L := rfl
    rw [e, show 2 * (j + 1) = 2 * j + 1 + 1 by omega, show 2 * j + 1 + 1 + 1 = (2 * j + 1) + 1 + 1 by omega]
    simpa using this

/-- a list of edges of the call's own. -/
def ERow (w : World) (B : Nat) (v : Value) (L : List (Int × Int)) : Prop := w.ownsRow B 45 2 v L.length (ecells L)

theorem ERow.nil (w : World) (B : Nat) : ERow w B (.slice none 0 0) [] := World.ownsRow_nil _ _ _ _
theorem ERow.form {w : World} {B : Nat} {v : Value} {L : List (Int × Int)} (h : ERow w B v L) :
    (v = .slice none 0 0 ∧ L = []) ∨ ∃ g cap, v = .slice (some ⟨g, 0, none⟩) L.length cap ∧ B ≤ g ∧ g < w.heap.size ∧ ∀ j p, L[j]? = some p → w.cell? ⟨g, 2 * j, none⟩ = some (.int .i64 p.1) ∧ w.cell? ⟨g, 2 * j + 1, none⟩ = some (.int .i64 p.2) ∧ w.frozen? ⟨g, 2 * j, none⟩ = false ∧ w.frozen? ⟨g, 2 * j + 1, none⟩ = false := by
  rcases h.2 with ⟨h1, h2⟩ | ⟨g, cap, cur, rfl, hb, hg, r⟩
  · exact Or.inl ⟨h1, List.length_eq_zero_iff.1 h2⟩
  · refine Or.inr ⟨g, cap, rfl, hb, (Array.getElem?_eq_some_iff.1 hg).1, fun j p hp => ?_⟩
    have hj : j < L.length := (List.getElem?_eq_some_iff.1 hp).1
    obtain ⟨e1, e2⟩ := ecells_get L j p hp
    exact ⟨by rw [World.ownsRow.cellAt h (2 * j) (by omega), e1], by rw [World.ownsRow.cellAt h (2 * j + 1) (by omega), e2], World.ownsRow.frozenAt h _, World.ownsRow.frozenAt h _⟩
theorem ERow.mono {w : World} {B B' : Nat} {v : Value} {L : List (Int × Int)} (h : ERow w B v L) (hB : B' ≤ B) : ERow w B' v L := by
  refine ⟨h.1, ?_⟩
  rcases h.2 with h' | ⟨g, cap', cur, h', hb, r⟩
  · exact Or.inl h'
  · exact Or.inr ⟨g, cap', cur, h', Nat.le_trans hB hb, r⟩
theorem grown_of_below {w w' : World} (hb : Below w.heap.size w w') : w.grownBy w' none := ⟨hb.os, hb.tape, hb.output, hb.size, fun k hk _ => hb.block k hk⟩
theorem ERow.later {w w' : World} {B : Nat} {v : Value} {L : List (Int × Int)} (h : ERow w B v L) (hb : Below w.heap.size w w') : ERow w' B v L := by
  refine World.ownsRow.kept h (grown_of_below hb) ?_
  cases v.ownBlock with
  | none => exact Or.inl rfl
  | some b => exact Or.inr (by simp)
theorem ERow.lt {w : World} {B : Nat} {v : Value} {L : List (Int × Int)} (h : ERow w B v L) : ∀ k, v.ownBlock = some k → B ≤ k ∧ k < w.heap.size := World.ownsRow.lt h

/-- only block b may have turned. -/
theorem Blk.kept {w w' : World} {n b : Nat} {c : Array Value} {t : TypeId} (h : Blk w n c t) (hg : w.grownBy w' (some b)) (hn : ¬ n = b) : Blk w' n c t := by
  unfold Blk; rw [hg.block n h.lt (by simp; exact hn)]; exact h
theorem ERow.kept {w w' : World} {B b : Nat} {v : Value} {L : List (Int × Int)} (h : ERow w B v L) (hg : w.grownBy w' (some b)) (hn : ¬ v.ownBlock = some b) : ERow w' B v L := World.ownsRow.kept h hg (Or.inr hn)
theorem Row.kept {w w' : World} {B b g n cap : Nat} {G : List Int} (h : Row w B (some ⟨g, 0, none⟩) n cap G) (hg : w.grownBy w' (some b)) (hn : ¬ g = b) : Row w' B (some ⟨g, 0, none⟩) n cap G := World.ownsRow.kept h hg (Or.inr (by simp [Value.ownBlock]; exact hn))
theorem grown_below {w w' : World} {b : Nat} (hg : w.grownBy w' (some b)) {B : Nat} (h : B ≤ b) (hB : B ≤ w.heap.size) : Below B w w' :=
  ⟨hg.os, hg.tape, hg.output, hg.size, fun k hk => hg.block k (by omega) (by simp; omega)⟩
theorem grown_refl (w : World) (r : Option Nat) : w.grownBy w r := ⟨rfl, rfl, rfl, Nat.le_refl _, fun _ _ _ => rfl⟩
theorem grown_trans {a b c : World} {r : Option Nat} (h : a.grownBy b r) (g : b.grownBy c r) : a.grownBy c r :=
  ⟨g.os.trans h.os, g.tape.trans h.tape, g.output.trans h.output, Nat.le_trans h.size g.size, fun k hk hr => (g.block k (Nat.lt_of_lt_of_le hk h.size) hr).trans (h.block k hk hr)⟩

theorem Row.grown_set {w : World} {B g n cap : Nat} {G : List Int} (h : Row w B (some ⟨g, 0, none⟩) n cap G) (j : Nat) (x : Int) : w.grownBy (w.setCell ⟨g, j, none⟩ (.int .i64 x)) (some g) := (World.ownsRow.stored h j (.int .i64 x)).2

/-- the marks of n edges, from k on. -/
def emarks (k : Int) : Nat → List (Int × Int)
  | 0 => []
  | n + 1 => emarks k n ++ [(k + 2 * n, k + 2 * n + 1)]
theorem emarks_len (k : Int) : ∀ n, (emarks k n).length = n
  | 0 => rfl
  | n + 1 => by simp [emarks, emarks_len k n]
theorem emarks_get (k : Int) : ∀ (n j : Nat), j < n → (emarks k n)[j]? = some (k + 2 * j, k + 2 * j + 1)
  | n + 1, j, h => by
    by_cases e : j < n
    · rw [emarks, List.getElem?_append_left (by rw [emarks_len]; exact e), emarks_get k n j e]
    · have : j = n := by omega
      subst this
      rw [emarks, List.getElem?_append_right (by rw [emarks_len]; omega), emarks_len]; simp

theorem ecells_set (A : List (Int × Int)) (p : Int × Int) (C : List (Int × Int)) (a b : Int) : ((ecells (A ++ p :: C)).set (2 * A.length) (.int .i64 a)).set (2 * A.length + 1) (.int .i64 b) = ecells (A ++ (a, b) :: C) := by
  rw [ecells_app, ecells_app]
  have e1 : ecells (p :: C) = .int .i64 p.1 :: .int .i64 p.2 :: ecells C := rfl
  have e2 : ecells ((a, b) :: C) = .int .i64 a :: .int .i64 b :: ecells C := rfl
  have l : (ecells A).length = 2 * A.length := by rw [ecells_len]; omega
  rw [e1, e2, List.set_append_right _ _ (by omega), l, Nat.sub_self, List.set_append_right _ _ (by omega), l, show 2 * A.length + 1 - 2 * A.length = 1 by omega]
  rfl

theorem ERow.put {w : World} {B g cap : Nat} {L : List (Int × Int)} {A : List (Int × Int)} {p : Int × Int} {C : List (Int × Int)} (h : ERow w B (.slice (some ⟨g, 0, none⟩) L.length cap) L) (hL : L = A ++ p :: C) (a b : Int) :
    ERow ((w.setCell ⟨g, 2 * A.length, none⟩ (.int .i64 a)).setCell ⟨g, 2 * A.length + 1, none⟩ (.int .i64 b)) B (.slice (some ⟨g, 0, none⟩) L.length cap) (A ++ (a, b) :: C) ∧
    w.grownBy ((w.setCell ⟨g, 2 * A.length, none⟩ (.int .i64 a)).setCell ⟨g, 2 * A.length + 1, none⟩ (.int .i64 b)) (some g) := by
  obtain ⟨h1, g1⟩ := World.ownsRow.stored h (2 * A.length) (.int .i64 a)
  obtain ⟨h2, g2⟩ := World.ownsRow.stored h1 (2 * A.length + 1) (.int .i64 b)
  refine ⟨?_, grown_trans g1 g2⟩
  have e : (A ++ (a, b) :: C).length = L.length := by rw [hL]; simp
  unfold ERow
  rw [e, ← ecells_set A p C a b, ← hL]
  exact h2


/-- a list of edges, as it can be read: cells two by two. -/
def EList (w : World) (v : Value) (L : List (Int × Int)) : Prop :=
  (∃ s c, v = .slice s 0 c ∧ L = []) ∨ ∃ g c, v = .slice (some ⟨g, 0, none⟩) L.length c ∧ g < w.heap.size ∧ ∀ j, j < L.length → w.cell? ⟨g, j * 2, none⟩ = some (.int .i64 (L[j]?.getD (0, 0)).1) ∧ w.cell? ⟨g, j * 2 + 1, none⟩ = some (.int .i64 (L[j]?.getD (0, 0)).2)
theorem EList.later {w w' : World} {v : Value} {L : List (Int × Int)} (h : EList w v L) (hb : Below w.heap.size w w') : EList w' v L := by
  rcases h with h0 | ⟨g, c, rfl, h1, h2⟩
  · exact Or.inl h0
  · exact Or.inr ⟨g, c, rfl, Nat.lt_of_lt_of_le h1 hb.size, fun j hj => ⟨(hb.cell (p := ⟨g, j * 2, none⟩) h1).trans (h2 j hj).1, (hb.cell (p := ⟨g, j * 2 + 1, none⟩) h1).trans (h2 j hj).2⟩⟩
theorem ERow.list {w : World} {B : Nat} {v : Value} {L : List (Int × Int)} (h : ERow w B v L) : EList w v L := by
  rcases h.form with ⟨rfl, rfl⟩ | ⟨g, cap, rfl, h1, h2, h3⟩
  · exact Or.inl ⟨none, 0, rfl, rfl⟩
  · refine Or.inr ⟨g, cap, rfl, h2, fun j hj => ?_⟩
    obtain ⟨a, b, _, _⟩ := h3 j (L[j]?.getD (0, 0)) (by simp [hj])
    rw [Nat.mul_comm j 2]
    exact ⟨a, b⟩

theorem EList.get {w : World} {v : Value} {L : List (Int × Int)} (h : EList w v L) {k : Nat} (hk : k < L.length) :
    ∃ g c, v = .slice (some ⟨g, 0, none⟩) L.length c ∧ ∀ w', Below w.heap.size w w' → w'.cell? ⟨g, k * 2, none⟩ = some (.int .i64 (L[k]?.getD (0, 0)).1) ∧ w'.cell? ⟨g, k * 2 + 1, none⟩ = some (.int .i64 (L[k]?.getD (0, 0)).2) := by
  rcases h with ⟨s, c, _, rfl⟩ | ⟨g, c, rfl, h1, h2⟩
  · simp at hk
  · exact ⟨g, c, rfl, fun w' hb => ⟨(hb.cell (p := ⟨g, k * 2, none⟩) h1).trans (h2 k hk).1, (hb.cell (p := ⟨g, k * 2 + 1, none⟩) h1).trans (h2 k hk).2⟩⟩
theorem EList.shape {w : World} {v : Value} {L : List (Int × Int)} (h : EList w v L) : ∃ s c, v = .slice s L.length c := by
  rcases h with ⟨s, c, rfl, rfl⟩ | ⟨g, c, rfl, _⟩
  · exact ⟨s, c, rfl⟩
  · exact ⟨_, c, rfl⟩

end Go.Proofs.YtigllpegaljkmaaDoor
