import Derived.Test.YtcllkmdlheggkaaFg
import Derived.Test.YtcllkmdlheggkaaFd
namespace Go.Proofs.Ytcllkmdlheggkaa
open Go.RowKit
set_option linter.unusedVariables false
set_option linter.unusedSimpArgs false

/-- what is taken of right things: the lists, the thing, the code. -/
def take1 (G F : List Int) : List Int × List Int × (Int × Int) × Int :=
  if 0 < F.length then (G, F.dropLast, (F.getLastD 0, G[(F.getLastD 0).toNat]?.getD 0), 0) else if 2000 ≤ G.length then (G, F, (0, 0), 3) else (G ++ [0], F, ((G.length : Int), 0), 0)

theorem grown1_fr {g : Nat} {a b : World} (h : Fr g g a b) : a.grownBy b (some g) := ⟨h.os, h.tape, h.output, h.size, fun k hk hne => h.block k hk (fun e => hne (by rw [e])) (fun e => hne (by rw [e]))⟩
theorem grown1_below {g : Nat} {a b : World} (h : Below a.heap.size a b) : a.grownBy b (some g) := ⟨h.os, h.tape, h.output, h.size, fun k hk _ => h.block k hk⟩

/-- what l2Take leaves. -/
def Took (O : List Int × List Int × (Int × Int) × Int) (B g0 : Nat) (w : World) (e : Ending) (w' : World) : Prop :=
  ∃ g1 c1 f1 d1, e = .returned (.tuple #[.agg #[.slice (some ⟨g1, 0, none⟩) O.1.length c1, .slice (some ⟨f1, 0, none⟩) O.2.1.length d1], .agg #[.int .i64 O.2.2.1.1, .int .i64 O.2.2.1.2], .int .i64 O.2.2.2]) ∧ VRow w' B (.slice (some ⟨g1, 0, none⟩) O.1.length c1) O.1 ∧ VRow w' B (.slice (some ⟨f1, 0, none⟩) O.2.1.length d1) O.2.1 ∧ ¬ g1 = f1 ∧ w.grownBy w' (some g0)

theorem l2Take_all (B g0 c0 f0 d0 : Nat) (G F : List Int) (w : World) (h1 : VRow w B (.slice (some ⟨g0, 0, none⟩) G.length c0) G) (h2 : VRow w B (.slice (some ⟨f0, 0, none⟩) F.length d0) F) (hne : ¬ g0 = f0)
    (hin : 0 < F.length → ∃ q : Nat, F.getLastD 0 = (q : Int) ∧ q < G.length) (l1 : G.length ≤ 1048576) (l2 : F.length ≤ 1048576) (hB : B ≤ w.heap.size) :
    Calls Try.prog 37 #[.agg #[.slice (some ⟨g0, 0, none⟩) G.length c0, .slice (some ⟨f0, 0, none⟩) F.length d0]] w fun e w' => Took (take1 G F) B g0 w e w' := by
  by_cases hF : 0 < F.length
  · obtain ⟨q, hq1, hq2⟩ := hin hF
    refine (l2Take_free B g0 c0 f0 d0 G F q _ w h1 h2 hne hF hq1 hq2 rfl l1 l2 hB).mono ?_
    rintro e w' ⟨f1, d1, rfl, v, hne1, hb⟩
    rw [show take1 G F = (G, F.dropLast, ((q : Int), G[q]?.getD 0), 0) by simp only [take1, if_pos hF, hq1]; simp]
    exact ⟨g0, c0, f1, d1, rfl, h1.later hb, v, hne1, grown1_below hb⟩
  · by_cases hG : 2000 ≤ G.length
    · refine (l2Take_full' g0 c0 f0 d0 G F w hF hG l1).mono ?_
      rintro e w' ⟨rfl, hb⟩
      rw [show take1 G F = (G, F, (0, 0), 3) by simp only [take1, if_neg hF, if_pos hG]]
      exact ⟨g0, c0, f0, d0, rfl, h1.later hb, h2.later hb, hne, grown1_below hb⟩
    · clear hin
      refine (l2Take_grow' B g0 c0 f0 d0 G F w hF h1 hne (h2.ge).2 (by omega) hB).mono ?_
      rintro e w' ⟨g1, c1, rfl, v, hne1, hf⟩
      rw [show take1 G F = (G ++ [0], F, ((G.length : Int), 0), 0) by simp only [take1, if_neg hF, if_neg hG]]
      refine ⟨g1, c1, f0, d0, by simp, by simpa using v, h2.kept (grown1_fr hf) (fun k hk e => by simp [Value.ownBlock] at hk e; omega), hne1, grown1_fr hf⟩

/-- the things of k takes. -/
def GK (G F : List Int) (k : Nat) : List Int := G ++ List.replicate (k - F.length) 0
def FK (F : List Int) (k : Nat) : List Int := F.take (F.length - k)
def takeAt (G F : List Int) (k : Nat) : Int × Int :=
  if k < F.length then (F[F.length - 1 - k]?.getD 0, G[(F[F.length - 1 - k]?.getD 0).toNat]?.getD 0) else ((G.length : Int) + k - F.length, 0)
def aheadK (G F : List Int) (n : Nat) : List (Int × Int) := (List.range n).map (takeAt G F)
theorem aheadK_succ (G F : List Int) (n : Nat) : aheadK G F (n + 1) = aheadK G F n ++ [takeAt G F n] := by simp [aheadK, List.range_succ]
theorem aheadK_len (G F : List Int) (n : Nat) : (aheadK G F n).length = n := by simp [aheadK]
theorem GK_len (G F : List Int) (k : Nat) : (GK G F k).length = G.length + (k - F.length) := by simp [GK]
theorem FK_len (F : List Int) (k : Nat) : (FK F k).length = F.length - k := by simp [FK]
theorem GK_zero (G F : List Int) : GK G F 0 = G := by simp [GK]
theorem FK_zero (F : List Int) : FK F 0 = F := by simp [FK]

theorem FK_last {F : List Int} {k : Nat} (h : k < F.length) : (FK F k).getLastD 0 = F[F.length - 1 - k]?.getD 0 := by
  have hl : 0 < (FK F k).length := by rw [FK_len]; omega
  rw [← last_eq hl, FK_len, FK, List.getElem?_take_of_lt (by omega)]
  congr 2
  omega
theorem FK_drop {F : List Int} {k : Nat} (h : k < F.length) : (FK F k).dropLast = FK F (k + 1) := by
  rw [← take_eq, FK_len, FK, FK, List.take_take]
  congr 1
  omega

theorem take1_step {G F : List Int} {k : Nat} (hG : G.length ≤ 2000) (hF : F.length ≤ G.length) (hk : k < F.length + 2000 - G.length) : take1 (GK G F k) (FK F k) = (GK G F (k + 1), FK F (k + 1), takeAt G F k, 0) := by
  by_cases h : k < F.length
  · have hl : 0 < (FK F k).length := by rw [FK_len]; omega
    have hg : GK G F k = G := by simp [GK, show k - F.length = 0 by omega]
    have hg' : GK G F (k + 1) = G := by simp [GK, show k + 1 - F.length = 0 by omega]
    rw [take1, if_pos hl, FK_drop h, FK_last h, hg, hg', takeAt, if_pos h]
  · have hl : ¬ 0 < (FK F k).length := by rw [FK_len]; omega
    have h2 : ¬ 2000 ≤ (GK G F k).length := by rw [GK_len]; omega
    have h3 : GK G F k ++ [0] = GK G F (k + 1) := by
      rw [GK, GK, List.append_assoc, show k + 1 - F.length = (k - F.length) + 1 by omega, List.replicate_succ']
    have h4 : FK F k = FK F (k + 1) := by simp [FK, show F.length - k = 0 by omega, show F.length - (k + 1) = 0 by omega]
    rw [take1, if_neg hl, if_neg h2, h3, ← h4, takeAt, if_neg h, GK_len]
    congr 3
    congr 1
    omega
theorem take1_full {G F : List Int} {k : Nat} (hG : G.length ≤ 2000) (hF : F.length ≤ G.length) (hk : k = F.length + 2000 - G.length) : take1 (GK G F k) (FK F k) = (GK G F k, FK F k, (0, 0), 3) := by
  have hl : ¬ 0 < (FK F k).length := by rw [FK_len]; omega
  have h2 : 2000 ≤ (GK G F k).length := by rw [GK_len]; omega
  rw [take1, if_neg hl, if_pos h2]
theorem FK_in {G F : List Int} {k : Nat} (hin : ∀ f ∈ F, 0 ≤ f ∧ f < G.length) (hl : 0 < (FK F k).length) : ∃ q : Nat, (FK F k).getLastD 0 = (q : Int) ∧ q < (GK G F k).length := by
  have h : k < F.length := by rw [FK_len] at hl; omega
  rw [FK_last h]
  have := hin _ (getD_mem (F := F) (k := F.length - 1 - k) (by omega))
  exact ⟨(F[F.length - 1 - k]?.getD 0).toNat, by omega, by rw [GK_len]; omega⟩

/-- the things ahead, and whether there are so many. -/
def aheadOk (G F : List Int) (n : Int) : Bool := okE G F && decide (0 ≤ n ∧ n ≤ (F.length : Int) + 2000 - G.length)
def aheadL (G F : List Int) (n : Int) : List (Int × Int) := if aheadOk G F n = true then aheadK G F n.toNat else []
end Go.Proofs.Ytcllkmdlheggkaa
