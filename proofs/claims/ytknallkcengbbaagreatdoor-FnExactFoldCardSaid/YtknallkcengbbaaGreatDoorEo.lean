import Derived.Test.YtknallkcengbbaaGreatDoorEd
import Derived.Test.YtknallkcengbbaaGreatDoorEf
namespace Go.Proofs.YtknallkcengbbaaGreatDoor
open Go.RowKit
set_option linter.unusedVariables false

theorem rows2_ints {w : World} {B g f : Nat} {G F : List Int} (h : Rows2 w B g f G F) : Ints w (some ⟨g, 0, none⟩) G ∧ Ints w (some ⟨f, 0, none⟩) F := ⟨h.1.ints.1, h.2.1.ints.1⟩

/-- the cells of a list of things. -/
def ecells (L : List (Int × Int)) : List Value := L.flatMap fun p => [.int .i64 p.1, .int .i64 p.2]
theorem ecells_nil : ecells [] = [] := rfl
theorem ecells_app (L M : List (Int × Int)) : ecells (L ++ M) = ecells L ++ ecells M := by simp [ecells]
theorem ecells_len : ∀ L : List (Int × Int), (ecells L).length = L.length * 2
  | [] => rfl
  | p :: L => by
    have := ecells_len L
    simp [ecells] at this ⊢; omega
theorem ecells_get : ∀ (L : List (Int × Int)) (j : Nat) (p : Int × Int), L[j]? = some p → (ecells L)[2 * j]? = some (.int .i64 p.1) ∧ (ecells L)[2 * j + 1]? = some (.int .i64 p.2)
  | q :: L, 0, p, h => by
    simp at h; subst h; exact ⟨rfl, rfl⟩
  | q :: L, j + 1, p, h => by
    have := ecells_get L j p (by simpa using h)
    have e : ecells (q :: L) = .int .i64 q.1 :: .int .i64 q.2 :: ecells L := rfl
    rw [e, show 2 * (j + 1) = 2 * j + 1 + 1 by omega, show 2 * j + 1 + 1 + 1 = (2 * j + 1) + 1 + 1 by omega]
    simpa using this

theorem grown_of_below {w w' : World} (hb : Below w.heap.size w w') : w.grownBy w' none := ⟨hb.os, hb.tape, hb.output, hb.size, fun k hk _ => hb.block k hk⟩
/-- only block b may have turned. -/
theorem Blk.kept {w w' : World} {n b : Nat} {c : Array Value} {t : TypeId} (h : Blk w n c t) (hg : w.grownBy w' (some b)) (hn : ¬ n = b) : Blk w' n c t := by
  unfold Blk; rw [hg.block n h.lt (by simp; exact hn)]; exact h
theorem Row.kept {w w' : World} {B b g n cap : Nat} {G : List Int} (h : Row w B (some ⟨g, 0, none⟩) n cap G) (hg : w.grownBy w' (some b)) (hn : ¬ g = b) : Row w' B (some ⟨g, 0, none⟩) n cap G := World.ownsRow.kept h hg (Or.inr (by simp [Value.ownBlock]; exact hn))
theorem grown_below {w w' : World} {b : Nat} (hg : w.grownBy w' (some b)) {B : Nat} (h : B ≤ b) (hB : B ≤ w.heap.size) : Below B w w' :=
  ⟨hg.os, hg.tape, hg.output, hg.size, fun k hk => hg.block k (by omega) (by simp; omega)⟩
theorem grown_refl (w : World) (r : Option Nat) : w.grownBy w r := ⟨rfl, rfl, rfl, Nat.le_refl _, fun _ _ _ => rfl⟩
theorem grown_trans {a b c : World} {r : Option Nat} (h : a.grownBy b r) (g : b.grownBy c r) : a.grownBy c r :=
  ⟨g.os.trans h.os, g.tape.trans h.tape, g.output.trans h.output, Nat.le_trans h.size g.size, fun k hk hr => (g.block k (Nat.lt_of_lt_of_le hk h.size) hr).trans (h.block k hk hr)⟩

theorem Row.grown_set {w : World} {B g n cap : Nat} {G : List Int} (h : Row w B (some ⟨g, 0, none⟩) n cap G) (j : Nat) (x : Int) : w.grownBy (w.setCell ⟨g, j, none⟩ (.int .i64 x)) (some g) := (World.ownsRow.stored h j (.int .i64 x)).2

set_option maxHeartbeats 2000000 in
theorem markInts_any (B g cap : Nat) (G : List Int) (k : Int) (w : World) (h : Row w B (some ⟨g, 0, none⟩) G.length cap G) (hl : G.length ≤ 1048576) (k0 : 0 ≤ k) (k1 : k ≤ 8388608) :
    Calls Tryz.prog 15 #[.slice (some ⟨g, 0, none⟩) G.length cap, .int .i64 k] w fun e w' => e = .returned (.int .i64 (k + G.length)) ∧ w.grownBy w' (some g) := by
  go_enter Tryz.func15, Tryz.ntmps15
  go_wp2_with fail
  go_loopw [1, 5] (fun c i wr => ∃ m : Nat, m ≤ G.length ∧ i = .int .i64 m ∧ c = .int .i64 (k + m) ∧ (∃ G', Row wr B (some ⟨g, 0, none⟩) G.length cap G') ∧ w.grownBy wr (some g)) (fun _ i _ => G.length - (intOf i).toNat)
  case atStart => exact ⟨0, Nat.zero_le _, rfl, by simp, ⟨G, h⟩, grown_refl _ _⟩
  case round =>
    obtain ⟨m, hm, rfl, rfl, ⟨G', hr⟩, hg⟩ := hrel
    by_cases hlt : m < G.length
    · obtain ⟨y, hy⟩ : ∃ y, wr.cell? ⟨g, m, none⟩ = some (.int .i64 y) := ⟨_, (hr.cell m hlt).1⟩
      have hf := (hr.cell m hlt).2
      go_wp2_with fail
      go_roundw
      case rel => exact ⟨m + 1, by omega, by go_num, by go_num, ⟨_, hr.set m _⟩, grown_trans hg (hr.grown_set m _)⟩
      case measure => simp [intOf]; omega
    · have hm' : m = G.length := by omega
      subst hm'
      go_wp2_with fail
      go_ret
      exact ⟨rfl, hg⟩

/-- the marks of n things, from k on. -/
def emarks (k : Int) : Nat → List (Int × Int)
  | 0 => []
  | n + 1 => emarks k n ++ [(k + 2 * n, k + 2 * n + 1)]
theorem emarks_len (k : Int) : ∀ n, (emarks k n).length = n
  | 0 => rfl
  | n + 1 => by simp [emarks, emarks_len k n]
theorem emarks_get (k : Int) : ∀ (n j : Nat), j < n → (emarks k n)[j]? = some (k + 2 * j, k + 2 * j + 1)
  | n + 1, j, h => by
    by_cases e : j < n
    · rw [emarks, List.getElem?_append_left (by rw [emarks_len]; exact e), emarks_get k n j e]
    · have : j = n := by omega
      subst this
      rw [emarks, List.getElem?_append_right (by rw [emarks_len]; omega), emarks_len]; simp

theorem ecells_set (A : List (Int × Int)) (p : Int × Int) (C : List (Int × Int)) (a b : Int) : ((ecells (A ++ p :: C)).set (2 * A.length) (.int .i64 a)).set (2 * A.length + 1) (.int .i64 b) = ecells (A ++ (a, b) :: C) := by
  rw [ecells_app, ecells_app]
  have e1 : ecells (p :: C) = .int .i64 p.1 :: .int .i64 p.2 :: ecells C := rfl
  have e2 : ecells ((a, b) :: C) = .int .i64 a :: .int .i64 b :: ecells C := rfl
  have l : (ecells A).length = 2 * A.length := by rw [ecells_len]; omega
  rw [e1, e2, List.set_append_right _ _ (by omega), l, Nat.sub_self, List.set_append_right _ _ (by omega), l, show 2 * A.length + 1 - 2 * A.length = 1 by omega]
  rfl

end Go.Proofs.YtknallkcengbbaaGreatDoor
