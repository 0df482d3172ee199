import Derived.Test.YtofpkbnocbmgkaaEd
import Derived.Test.YtofpkbnocbmgkaaEf
namespace Go.Proofs.Ytofpkbnocbmgkaa
open Go.RowKit
set_option linter.unusedVariables false

theorem rows2_ints {w : World} {B g f : Nat} {G F : List Int} (h : Rows2 w B g f G F) : Ints w (some ⟨g, 0, none⟩) G ∧ Ints w (some ⟨f, 0, none⟩) F := ⟨h.1.ints.1, h.2.1.ints.1⟩

set_option maxHeartbeats 1000000 in
theorem entAt_any (s1 s2 : Option Addr) (c1 c2 : Nat) (G F : List Int) (q : Nat) (x : Int) (w : World) (h1 : Ints w s1 G) (hq : q < G.length) (hx : G[q]?.getD 0 = x) (l1 : G.length ≤ 1048576) :
    Calls Try.prog 111 #[.agg #[.slice s1 G.length c1, .slice s2 F.length c2], .int .i64 q] w fun e w' => e = .returned (.agg #[.int .i64 q, .int .i64 x]) ∧ Below w.heap.size w w' := by
  have hal := alloc_old
  have haf := alloc_oldf
  obtain ⟨x0, x1, x2⟩ := (Blk.new w #[.slice s1 G.length c1, .slice s2 F.length c2] 45).two
  obtain ⟨pb, po, rfl, hp, hc⟩ := h1.get hq
  have d1 : w.cell? ⟨pb, po + q, none⟩ = some (.int .i64 x) := by rw [← hx]; exact hc q hq
  clear hc hx h1
  go_enter Try.func111, Try.ntmps111
  go_wp2_with fail
  refine bodyPost_ret (v := .agg #[.int .i64 q, .int .i64 x]) (by simp [results, Try.results111, go_sem]) rfl ⟨rfl, ?_⟩
  (repeat (first | with_reducible exact Below.refl _ _ | with_reducible refine bl_alloc ?_ _ | with_reducible refine bl_drewN ?_ _ | with_reducible refine bl_drew ?_ | with_reducible refine bl_setCell ?_ (by first | exact Nat.le_refl _ | (dsimp only; omega) | (simp <;> omega)) _ | with_reducible refine bl_trans ?_ (by with_reducible assumption)))

/-- the cells of a list of things. -/
def ecells (L : List (Int × Int)) : List Value := L.flatMap fun p => [.int .i64 p.1, .int .i64 p.2]
theorem ecells_nil : ecells [] = [] := rfl
theorem ecells_app (L M : List (Int × Int)) : ecells (L ++ M) = ecells L ++ ecells M := by simp [ecells]
theorem ecells_len : ∀ L : List (Int × Int), (ecells L).length = L.length * 2
  | [] => rfl
  | p :: L => by
    have := ecells_len L
    simp [ecells] at this ⊢; omega
theorem ecells_get : ∀ (L : List (Int × Int)) (j : Nat) (p : Int × Int), L[j]? = some p → (ecells L)[2 * j]? = some (.int .i64 p.1) ∧ (ecells L)[2 * j + 1]? = some (.int .i64 p.2)
  | q :: L, 0, p, h => by
    simp at h; subst h; exact ⟨rfl, rfl⟩
  | q :: L, j + 1, p, h => by
    have := ecells_get L j p (by simpa using h)
    have e : ecells (q :: L) = .int .i64 q.1 :: .int .i64 q.2 :: ecells L := rfl
    rw [e, show 2 * (j + 1) = 2 * j + 1 + 1 by omega, show 2 * j + 1 + 1 + 1 = (2 * j + 1) + 1 + 1 by omega]
    simpa using this

/-- a list of things of the call's own. -/
def ERow (w : World) (B : Nat) (v : Value) (L : List (Int × Int)) : Prop := w.ownsRow B 51 2 v L.length (ecells L)

theorem ERow.nil (w : World) (B : Nat) : ERow w B (.slice none 0 0) [] := World.ownsRow_nil _ _ _ _
theorem ERow.form {w : World} {B : Nat} {v : Value} {L : List (Int × Int)} (h : ERow w B v L) :
    (v = .slice none 0 0 ∧ L = []) ∨ ∃ g cap, v = .slice (some ⟨g, 0, none⟩) L.length cap ∧ B ≤ g ∧ g < w.heap.size ∧ ∀ j p, L[j]? = some p → w.cell? ⟨g, 2 * j, none⟩ = some (.int .i64 p.1) ∧ w.cell? ⟨g, 2 * j + 1, none⟩ = some (.int .i64 p.2) ∧ w.frozen? ⟨g, 2 * j, none⟩ = false ∧ w.frozen? ⟨g, 2 * j + 1, none⟩ = false := by
  rcases h.2 with ⟨h1, h2⟩ | ⟨g, cap, cur, rfl, hb, hg, r⟩
  · exact Or.inl ⟨h1, List.length_eq_zero_iff.1 h2⟩
  · refine Or.inr ⟨g, cap, rfl, hb, (Array.getElem?_eq_some_iff.1 hg).1, fun j p hp => ?_⟩
    have hj : j < L.length := (List.getElem?_eq_some_iff.1 hp).1
    obtain ⟨e1, e2⟩ := ecells_get L j p hp
    exact ⟨by rw [World.ownsRow.cellAt h (2 * j) (by omega), e1], by rw [World.ownsRow.cellAt h (2 * j + 1) (by omega), e2], World.ownsRow.frozenAt h _, World.ownsRow.frozenAt h _⟩
theorem ERow.mono {w : World} {B B' : Nat} {v : Value} {L : List (Int × Int)} (h : ERow w B v L) (hB : B' ≤ B) : ERow w B' v L := by
  refine ⟨h.1, ?_⟩
  rcases h.2 with h' | ⟨g, cap', cur, h', hb, r⟩
  · exact Or.inl h'
  · exact Or.inr ⟨g, cap', cur, h', Nat.le_trans hB hb, r⟩
theorem grown_of_below {w w' : World} (hb : Below w.heap.size w w') : w.grownBy w' none := ⟨hb.os, hb.tape, hb.output, hb.size, fun k hk _ => hb.block k hk⟩
theorem ERow.later {w w' : World} {B : Nat} {v : Value} {L : List (Int × Int)} (h : ERow w B v L) (hb : Below w.heap.size w w') : ERow w' B v L := by
  refine World.ownsRow.kept h (grown_of_below hb) ?_
  cases v.ownBlock with
  | none => exact Or.inl rfl
  | some b => exact Or.inr (by simp)
theorem ERow.lt {w : World} {B : Nat} {v : Value} {L : List (Int × Int)} (h : ERow w B v L) : ∀ k, v.ownBlock = some k → B ≤ k ∧ k < w.heap.size := World.ownsRow.lt h

/-- only block b may have turned. -/
theorem Blk.kept {w w' : World} {n b : Nat} {c : Array Value} {t : TypeId} (h : Blk w n c t) (hg : w.grownBy w' (some b)) (hn : ¬ n = b) : Blk w' n c t := by
  unfold Blk; rw [hg.block n h.lt (by simp; exact hn)]; exact h
theorem ERow.kept {w w' : World} {B b : Nat} {v : Value} {L : List (Int × Int)} (h : ERow w B v L) (hg : w.grownBy w' (some b)) (hn : ¬ v.ownBlock = some b) : ERow w' B v L := World.ownsRow.kept h hg (Or.inr hn)
theorem Row.kept {w w' : World} {B b g n cap : Nat} {G : List Int} (h : Row w B (some ⟨g, 0, none⟩) n cap G) (hg : w.grownBy w' (some b)) (hn : ¬ g = b) : Row w' B (some ⟨g, 0, none⟩) n cap G := World.ownsRow.kept h hg (Or.inr (by simp [Value.ownBlock]; exact hn))
theorem grown_below {w w' : World} {b : Nat} (hg : w.grownBy w' (some b)) {B : Nat} (h : B ≤ b) (hB : B ≤ w.heap.size) : Below B w w' :=
  ⟨hg.os, hg.tape, hg.output, hg.size, fun k hk => hg.block k (by omega) (by simp; omega)⟩
theorem grown_refl (w : World) (r : Option Nat) : w.grownBy w r := ⟨rfl, rfl, rfl, Nat.le_refl _, fun _ _ _ => rfl⟩
theorem grown_trans {a b c : World} {r : Option Nat} (h : a.grownBy b r) (g : b.grownBy c r) : a.grownBy c r :=
  ⟨g.os.trans h.os, g.tape.trans h.tape, g.output.trans h.output, Nat.le_trans h.size g.size, fun k hk hr => (g.block k (Nat.lt_of_lt_of_le hk h.size) hr).trans (h.block k hk hr)⟩

theorem Row.grown_set {w : World} {B g n cap : Nat} {G : List Int} (h : Row w B (some ⟨g, 0, none⟩) n cap G) (j : Nat) (x : Int) : w.grownBy (w.setCell ⟨g, j, none⟩ (.int .i64 x)) (some g) := (World.ownsRow.stored h j (.int .i64 x)).2

set_option maxHeartbeats 2000000 in
theorem markInts_any (B g cap : Nat) (G : List Int) (k : Int) (w : World) (h : Row w B (some ⟨g, 0, none⟩) G.length cap G) (hl : G.length ≤ 1048576) (k0 : 0 ≤ k) (k1 : k ≤ 8388608) :
    Calls Try.prog 22 #[.slice (some ⟨g, 0, none⟩) G.length cap, .int .i64 k] w fun e w' => e = .returned (.int .i64 (k + G.length)) ∧ w.grownBy w' (some g) := by
  go_enter Try.func22, Try.ntmps22
  go_wp2_with fail
  go_loopw [1, 5] (fun c i wr => ∃ m : Nat, m ≤ G.length ∧ i = .int .i64 m ∧ c = .int .i64 (k + m) ∧ (∃ G', Row wr B (some ⟨g, 0, none⟩) G.length cap G') ∧ w.grownBy wr (some g)) (fun _ i _ => G.length - (intOf i).toNat)
  case atStart => exact ⟨0, Nat.zero_le _, rfl, by simp, ⟨G, h⟩, grown_refl _ _⟩
  case round =>
    obtain ⟨m, hm, rfl, rfl, ⟨G', hr⟩, hg⟩ := hrel
    by_cases hlt : m < G.length
    · obtain ⟨y, hy⟩ : ∃ y, wr.cell? ⟨g, m, none⟩ = some (.int .i64 y) := ⟨_, (hr.cell m hlt).1⟩
      have hf := (hr.cell m hlt).2
      go_wp2_with fail
      go_roundw
      case rel => exact ⟨m + 1, by omega, by go_num, by go_num, ⟨_, hr.set m _⟩, grown_trans hg (hr.grown_set m _)⟩
      case measure => simp [intOf]; omega
    · have hm' : m = G.length := by omega
      subst hm'
      go_wp2_with fail
      go_ret
      exact ⟨rfl, hg⟩

set_option maxHeartbeats 2000000 in
theorem markEnts_any (B g f c d : Nat) (G F : List Int) (w : World) (h1 : Row w B (some ⟨g, 0, none⟩) G.length c G) (h2 : Row w B (some ⟨f, 0, none⟩) F.length d F) (hgf : ¬ g = f) (hl : G.length + F.length ≤ 1048576) :
    Calls Try.prog 53 #[.agg #[.slice (some ⟨g, 0, none⟩) G.length c, .slice (some ⟨f, 0, none⟩) F.length d], .int .i64 1] w fun e w' => e = .returned (.int .i64 (1 + G.length + F.length)) ∧
      (∃ wa wb, w.grownBy wa none ∧ wa.grownBy wb (some g) ∧ wb.grownBy w' (some f)) := by
  have hal := alloc_old
  have haf := alloc_oldf
  have k0 := Blk.new w #[.slice (some ⟨g, 0, none⟩) G.length c, .slice (some ⟨f, 0, none⟩) F.length d] 45
  go_enter Try.func53, Try.ntmps53
  go_wp2_with fail
  refine (markInts_any B g c G 1 _ (h1.later (by (repeat (first | with_reducible exact Below.refl _ _ | with_reducible refine bl_alloc ?_ _ | with_reducible refine bl_drewN ?_ _ | with_reducible refine bl_drew ?_ | with_reducible refine bl_setCell ?_ (by first | exact Nat.le_refl _ | (dsimp only; omega) | (simp <;> omega)) _ | with_reducible refine bl_trans ?_ (by with_reducible assumption))))) (by omega) (by omega) (by omega)).mono ?_
  rintro e w1 ⟨rfl, hg1⟩
  have k1 := k0.kept hg1 (by have := h1.lt; omega)
  obtain ⟨x0, x1, x2⟩ := k1.two
  have h2' := (h2.later (bl_alloc (Below.refl _ w) (.cells #[.slice (some ⟨g, 0, none⟩) G.length c, .slice (some ⟨f, 0, none⟩) F.length d] 45))).kept hg1 (fun e => hgf e.symm)
  go_wp2_with fail
  refine (markInts_any B f d F _ _ h2' (by omega) (by omega) (by omega)).mono ?_
  rintro e w2 ⟨rfl, hg2⟩
  go_wp2_with fail
  go_ret
  exact ⟨rfl, _, w1, grown_of_below (bl_alloc (Below.refl _ w) _), hg1, hg2⟩

/-- the marks of n things, from k on. -/
def emarks (k : Int) : Nat → List (Int × Int)
  | 0 => []
  | n + 1 => emarks k n ++ [(k + 2 * n, k + 2 * n + 1)]
theorem emarks_len (k : Int) : ∀ n, (emarks k n).length = n
  | 0 => rfl
  | n + 1 => by simp [emarks, emarks_len k n]
theorem emarks_get (k : Int) : ∀ (n j : Nat), j < n → (emarks k n)[j]? = some (k + 2 * j, k + 2 * j + 1)
  | n + 1, j, h => by
    by_cases e : j < n
    · rw [emarks, List.getElem?_append_left (by rw [emarks_len]; exact e), emarks_get k n j e]
    · have : j = n := by omega
      subst this
      rw [emarks, List.getElem?_append_right (by rw [emarks_len]; omega), emarks_len]; simp

theorem ecells_set (A : List (Int × Int)) (p : Int × Int) (C : List (Int × Int)) (a b : Int) : ((ecells (A ++ p :: C)).set (2 * A.length) (.int .i64 a)).set (2 * A.length + 1) (.int .i64 b) = ecells (A ++ (a, b) :: C) := by
  rw [ecells_app, ecells_app]
  have e1 : ecells (p :: C) = .int .i64 p.1 :: .int .i64 p.2 :: ecells C := rfl
  have e2 : ecells ((a, b) :: C) = .int .i64 a :: .int .i64 b :: ecells C := rfl
  have l : (ecells A).length = 2 * A.length := by rw [ecells_len]; omega
  rw [e1, e2, List.set_append_right _ _ (by omega), l, Nat.sub_self, List.set_append_right _ _ (by omega), l, show 2 * A.length + 1 - 2 * A.length = 1 by omega]
  rfl

theorem ERow.put {w : World} {B g cap : Nat} {L : List (Int × Int)} {A : List (Int × Int)} {p : Int × Int} {C : List (Int × Int)} (h : ERow w B (.slice (some ⟨g, 0, none⟩) L.length cap) L) (hL : L = A ++ p :: C) (a b : Int) :
    ERow ((w.setCell ⟨g, 2 * A.length, none⟩ (.int .i64 a)).setCell ⟨g, 2 * A.length + 1, none⟩ (.int .i64 b)) B (.slice (some ⟨g, 0, none⟩) L.length cap) (A ++ (a, b) :: C) ∧
    w.grownBy ((w.setCell ⟨g, 2 * A.length, none⟩ (.int .i64 a)).setCell ⟨g, 2 * A.length + 1, none⟩ (.int .i64 b)) (some g) := by
  obtain ⟨h1, g1⟩ := World.ownsRow.stored h (2 * A.length) (.int .i64 a)
  obtain ⟨h2, g2⟩ := World.ownsRow.stored h1 (2 * A.length + 1) (.int .i64 b)
  refine ⟨?_, grown_trans g1 g2⟩
  have e : (A ++ (a, b) :: C).length = L.length := by rw [hL]; simp
  unfold ERow
  rw [e, ← ecells_set A p C a b, ← hL]
  exact h2
end Go.Proofs.Ytofpkbnocbmgkaa
