import Derived.Test.YtmoohgafljepdaaDoorN10
import Derived.Test.YtmoohgafljepdaaDoorN21
import Derived.Test.YtmoohgafljepdaaDoorN30
import Derived.Great.BuildSlice
namespace Go.Proofs.YtmoohgafljepdaaDoor
open Go.RowKit
set_option linter.unusedVariables false
set_option linter.unusedSimpArgs false

set_option maxHeartbeats 2000000 in
theorem l4Equal_any (s t : Option Addr) (c d : Nat) (A B : List Int) (w : World) (hA : Ints w s A) (hB : Ints w t B) (he : A.length = B.length) (hl : A.length ≤ 1048576) :
    Calls Tryd.prog 17 #[.slice s A.length c, .slice t B.length d] w fun e w' => e = .returned (.bool (decide (A = B))) ∧ Below w.heap.size w w' := by
  have HA : Hid (Ints w s A) := hA
  have HB : Hid (Ints w t B) := hB
  have HEq : Hid (A.length = B.length) := he
  rw [← he]
  have tn : (((A.length : Nat) : Int) != ((A.length : Nat) : Int)) = false := by simp
  clear hA hB he
  go_enter Tryd.func17, Tryd.ntmps17
  go_wp2_with fail
  go_loopw [5] (fun iv wr => ∃ k : Nat, k ≤ A.length ∧ iv = .int .i64 k ∧ Hid (∀ j, j < k → A[j]?.getD 0 = B[j]?.getD 0) ∧ Hid (Below w.heap.size w wr)) (fun iv _ => A.length - (intOf iv).toNat)
  case atStart => exact ⟨0, Nat.zero_le _, rfl, fun j hj => absurd hj (Nat.not_lt_zero _), Below.refl _ _⟩
  case round =>
    obtain ⟨k, hk, rfl, hall, hb⟩ := hrel
    by_cases hlt : k < A.length
    · obtain ⟨pb, po, rfl, hp, hcA⟩ := (HA.out.later hb.out).get (k := k) hlt
      obtain ⟨qb, qo, rfl, hq, hcB⟩ := (HB.out.later hb.out).get (k := k) (by rw [← HEq.out]; exact hlt)
      have c1 := hcA k hlt
      have c2 := hcB k (by rw [← HEq.out]; exact hlt)
      obtain ⟨a, ha⟩ : ∃ a, Hid (A[k]?.getD 0 = a) := ⟨_, rfl⟩
      obtain ⟨b, hbb⟩ : ∃ b, Hid (B[k]?.getD 0 = b) := ⟨_, rfl⟩
      rw [ha.out] at c1
      rw [hbb.out] at c2
      have t0 : decide ((k : Int) < (A.length : Int)) = true := by simp; omega
      have kI : (k : Int) < (A.length : Int) := by omega
      clear hcA hcB
      by_cases hab : a = b
      · subst hab
        have tab : (a != a) = false := by simp
        have hn : Hid (∀ j, j < k + 1 → A[j]?.getD 0 = B[j]?.getD 0) := by
          intro j hj
          by_cases e : j = k
          · subst e; rw [ha.out, hbb.out]
          · exact hall.out j (by omega)
        go_wp2_with fail
        go_region
        all_goals
          go_wp2_with fail
          go_roundw
          case rel => exact ⟨k + 1, by omega, by go_num, hn, bl_drewN hb.out _⟩
          case measure => simp [intOf]; omega
      · have tab : (a != b) = true := by simp [bne, hab]
        have hne : Hid (decide (A = B) = false) := by
          have : ¬ A = B := fun e => hab (by rw [← ha.out, ← hbb.out, e])
          simp [Hid, this]
        go_wp2_with fail
        go_region
        all_goals
          go_wp2_with fail
          go_ret
          exact ⟨ret_bool' hne.out.symm, bl_drewN hb.out _⟩
    · have t0 : decide ((k : Int) < (A.length : Int)) = false := by simp; omega
      have hyes : Hid (decide (A = B) = true) := by
        have : A = B := by
          apply List.ext_getElem?
          intro j
          by_cases hj : j < A.length
          · have := hall.out j (by omega)
            rw [List.getElem?_eq_getElem hj, List.getElem?_eq_getElem (by rw [← HEq.out]; exact hj)] at this ⊢
            simpa using this
          · rw [List.getElem?_eq_none (by omega), List.getElem?_eq_none (by rw [← HEq.out]; omega)]
        simp [Hid, this]
      go_wp2_with fail
      go_ret
      exact ⟨ret_bool' hyes.out.symm, hb.out⟩

/-! the list of nodes in memory -/
def nc (x : Value × Int × Int × Int) : List Value := [x.1, .int .i64 x.2.1, .int .i64 x.2.2.1, .int .i64 x.2.2.2]
def NRow (w : World) (B : Nat) (v : Value) (X : List (Value × Int × Int × Int)) : Prop := w.ownsRow B 40 4 v X.length (X.flatMap nc)
theorem nc_len (X : List (Value × Int × Int × Int)) : (X.flatMap nc).length = X.length * 4 := by
  induction X with
  | nil => rfl
  | cons x X ih => simp [List.flatMap_cons, ih, nc]; omega
theorem nc_at : ∀ (X : List (Value × Int × Int × Int)) (j : Nat) (x : Value × Int × Int × Int), X[j]? = some x → (X.flatMap nc)[j * 4]? = some x.1 ∧ (X.flatMap nc)[j * 4 + 1]? = some (.int .i64 x.2.1) ∧ (X.flatMap nc)[j * 4 + 2]? = some (.int .i64 x.2.2.1) ∧ (X.flatMap nc)[j * 4 + 3]? = some (.int .i64 x.2.2.2)
  | y :: X, 0, x, h => by simp at h; subst h; exact ⟨rfl, rfl, rfl, rfl⟩
  | y :: X, j + 1, x, h => by
    have := nc_at X j x (by simpa using h)
    have e : (y :: X).flatMap nc = y.1 :: .int .i64 y.2.1 :: .int .i64 y.2.2.1 :: .int .i64 y.2.2.2 :: X.flatMap nc := rfl
    rw [e, show (j + 1) * 4 = j * 4 + 1 + 1 + 1 + 1 by omega]
    simpa using this
theorem NRow.later {w w' : World} {B : Nat} {v : Value} {X : List (Value × Int × Int × Int)} (h : NRow w B v X) (hb : Below w.heap.size w w') : NRow w' B v X := by
  refine World.ownsRow.kept h (grown_of_below hb) ?_
  cases v.ownBlock with
  | none => exact Or.inl rfl
  | some b => exact Or.inr (by simp)
theorem NRow.lt {w : World} {B : Nat} {v : Value} {X : List (Value × Int × Int × Int)} (h : NRow w B v X) : ∀ k, v.ownBlock = some k → B ≤ k ∧ k < w.heap.size := World.ownsRow.lt h
theorem NRow.get {w : World} {B : Nat} {v : Value} {X : List (Value × Int × Int × Int)} (h : NRow w B v X) {j : Nat} {x : Value × Int × Int × Int} (hj : X[j]? = some x) : ∃ g c, v = .slice (some ⟨g, 0, none⟩) X.length c ∧ g < w.heap.size ∧ w.cell? ⟨g, j * 4, none⟩ = some x.1 ∧ w.cell? ⟨g, j * 4 + 1, none⟩ = some (.int .i64 x.2.1) ∧ w.cell? ⟨g, j * 4 + 2, none⟩ = some (.int .i64 x.2.2.1) ∧ w.cell? ⟨g, j * 4 + 3, none⟩ = some (.int .i64 x.2.2.2) := by
  have hjl := (List.getElem?_eq_some_iff.1 hj).1
  obtain ⟨h1, h2⟩ := h
  rcases h2 with ⟨_, h3⟩ | ⟨g, cap, cur, rfl, hb, hg, r⟩
  · omega
  · have h : w.ownsRow B 40 4 (.slice (some ⟨g, 0, none⟩) X.length cap) X.length (X.flatMap nc) := ⟨h1, Or.inr ⟨g, cap, cur, rfl, hb, hg, r⟩⟩
    obtain ⟨a, b, c, d⟩ := nc_at X j x hj
    have hl := nc_len X
    refine ⟨g, cap, rfl, (Array.getElem?_eq_some_iff.1 hg).1, ?_, ?_, ?_, ?_⟩
    · rw [World.ownsRow.cellAt h (j * 4) (by omega), a]
    · rw [World.ownsRow.cellAt h (j * 4 + 1) (by omega), b]
    · rw [World.ownsRow.cellAt h (j * 4 + 2) (by omega), c]
    · rw [World.ownsRow.cellAt h (j * 4 + 3) (by omega), d]
theorem NRow.blk {w : World} {B : Nat} {v : Value} {X : List (Value × Int × Int × Int)} (h : NRow w B v X) {m : Nat} (hm : v.ownBlock = some m) : ∃ c fr, w.heap[m]? = some (.cells c 40 fr) := by
  rcases h.2 with ⟨rfl, _⟩ | ⟨g, cap, cur, rfl, _, hg, _⟩
  · simp [Value.ownBlock] at hm
  · simp only [Value.ownBlock, Option.some.injEq] at hm
    subst hm
    exact ⟨_, _, hg⟩
theorem VRow.keptN {w w' : World} {B C : Nat} {v u : Value} {A : List Int} {X : List (Value × Int × Int × Int)} (h : VRow w B v A) (hX : NRow w C u X) (hg : w.grownBy w' u.ownBlock) : VRow w' B v A := by
  cases hv : v.ownBlock with
  | none => exact World.ownsRow.kept h hg (Or.inl hv)
  | some k =>
    refine World.ownsRow.kept h hg (Or.inr ?_)
    intro e
    cases hu : u.ownBlock with
    | none => rw [hu, hv] at e; cases e
    | some m =>
      obtain ⟨c, fr, hb⟩ := hX.blk hu
      refine h.apart hb (by decide) ?_
      rw [e, hu]
theorem MRow.keptN {w w' : World} {B C : Nat} {v u : Value} {M : List (Int × Int)} {X : List (Value × Int × Int × Int)} (h : MRow w B v M) (hX : NRow w C u X) (hg : w.grownBy w' u.ownBlock) : MRow w' B v M := by
  cases hv : v.ownBlock with
  | none => exact World.ownsRow.kept h hg (Or.inl hv)
  | some k =>
    refine World.ownsRow.kept h hg (Or.inr ?_)
    intro e
    cases hu : u.ownBlock with
    | none => rw [hu, hv] at e; cases e
    | some m =>
      obtain ⟨c, fr, hb⟩ := hX.blk hu
      obtain ⟨c2, fr2, hb2⟩ := h.blk hv
      rw [hv, hu] at e
      cases e
      rw [hb] at hb2
      simp at hb2
end Go.Proofs.YtmoohgafljepdaaDoor
