import Derived.Test.YtknallkcengbbaaGreatDoorTb
import Derived.Test.YtknallkcengbbaaGreatDoorWd
namespace Go.Proofs.YtknallkcengbbaaGreatDoor
open Go.RowKit
set_option linter.unusedVariables false
set_option linter.unusedSimpArgs false

theorem flat_at {k : Nat} : ∀ (U : List (List Value)) (j : Nat) (c : List Value), (∀ c ∈ U, c.length = k) → U[j]? = some c → ∀ i, i < k → U.flatten[j * k + i]? = c[i]?
  | q :: U, 0, c, hU, h, i, hi => by
    simp at h; subst h
    rw [List.flatten_cons, List.getElem?_append_left (by rw [hU q (by simp)]; omega)]
    congr 1; omega
  | q :: U, j + 1, c, hU, h, i, hi => by
    have := flat_at U j c (fun c hc => hU c (by simp [hc])) (by simpa using h) i hi
    have hq := hU q (by simp)
    rw [List.flatten_cons, List.getElem?_append_right (by rw [hq, Nat.succ_mul]; omega), hq, ← this]
    congr 1; rw [Nat.succ_mul]; omega
theorem flat_size {k : Nat} : ∀ U : List (List Value), (∀ c ∈ U, c.length = k) → U.flatten.length = U.length * k
  | [], _ => by simp
  | q :: U, hU => by
    have := flat_size U (fun c hc => hU c (by simp [hc]))
    rw [List.flatten_cons, List.length_append, hU q (by simp), this, List.length_cons, Nat.succ_mul]; omega

/-- a list under way: k of its elements are there, noughts behind them. -/
def Mk {α : Type} (q : Nat) (E : World → Nat → List Value → α → Prop) (z : List Value) (T : TypeId) (w : World) (B g : Nat) (L : List α) (k : Nat) : Prop :=
  z.length = q ∧ k ≤ L.length ∧ ∃ U : List (List Value), U.length = k ∧ (∀ c ∈ U, c.length = q) ∧ (∀ (j : Nat) c a, U[j]? = some c → L[j]? = some a → E w (g + 1) c a) ∧ w.ownsRow B T q (.slice (some ⟨g, 0, none⟩) L.length L.length) L.length (U ++ List.replicate (L.length - k) z).flatten

theorem made_flat (z : Array Value) (n : Nat) : (madeCells z (n * z.size)).toList = (List.replicate n z.toList).flatten := by
  apply List.ext_getElem?
  intro j
  have hU : ∀ c ∈ List.replicate n z.toList, c.length = z.size := fun c hc => by rw [List.eq_of_mem_replicate hc]; simp
  by_cases hj : j < n * z.size
  · have hz : 0 < z.size := by
      rcases Nat.eq_zero_or_pos z.size with h | h
      · rw [h] at hj; omega
      · exact h
    have hi : j / z.size < n := Nat.div_lt_of_lt_mul (by rw [Nat.mul_comm]; exact hj)
    have hm : j % z.size < z.size := Nat.mod_lt _ hz
    have := flat_at (k := z.size) (List.replicate n z.toList) (j / z.size) z.toList hU (by simp [hi]) (j % z.size) hm
    rw [Nat.mul_comm, Nat.div_add_mod] at this
    rw [this]
    simp [madeCells, hj, hm]
  · rw [List.getElem?_eq_none (by simp [madeCells]; omega), List.getElem?_eq_none (by rw [flat_size _ hU]; simp; omega)]

theorem Mk.start {α : Type} {q : Nat} {E : World → Nat → List Value → α → Prop} {z : Array Value} {T : TypeId} {w : World} {B g : Nat} {L : List α} (hq : z.size = q) (h : w.ownsRow B T q (.slice (some ⟨g, 0, none⟩) L.length L.length) L.length (madeCells z (L.length * q)).toList) : Mk q E z.toList T w B g L 0 := by
  subst hq
  refine ⟨by simp, Nat.zero_le _, [], rfl, fun c hc => by simp at hc, fun j c a hc => by simp at hc, ?_⟩
  rw [made_flat] at h
  simpa using h
theorem Mk.later {α : Type} {q : Nat} {E : World → Nat → List Value → α → Prop} (hE : KeepsE E) {z : List Value} {T : TypeId} {w w' : World} {B g : Nat} {L : List α} {k : Nat} (h : Mk q E z T w B g L k) (hb : Below w.heap.size w w') : Mk q E z T w' B g L k := by
  obtain ⟨h1, h2, U, h3, h4, h5, h6⟩ := h
  refine ⟨h1, h2, U, h3, h4, fun j c a hc ha => hE _ _ _ _ _ (Kept.of hb _) (h5 j c a hc ha), ?_⟩
  refine World.ownsRow.kept h6 (grown_of_below hb) ?_
  cases (Value.slice (some ⟨g, 0, none⟩) L.length L.length).ownBlock with
  | none => exact Or.inl rfl
  | some b => exact Or.inr (by simp)
theorem Mk.at {α : Type} {q : Nat} {E : World → Nat → List Value → α → Prop} {z : List Value} {T : TypeId} {w : World} {B g : Nat} {L : List α} {k : Nat} (h : Mk q E z T w B g L k) (hk : k < L.length) : B ≤ g ∧ g < w.heap.size ∧ (∀ o, w.frozen? ⟨g, o, none⟩ = false) ∧ ∀ i u, z[i]? = some u → w.cell? ⟨g, k * q + i, none⟩ = some u := by
  obtain ⟨h1, h2, U, h3, h4, h5, h6⟩ := h
  have hlt := World.ownsRow.lt h6 g rfl
  refine ⟨hlt.1, hlt.2, fun o => World.ownsRow.frozenAt h6 o, fun i u hu => ?_⟩
  have hi : i < q := by rw [← h1]; exact (List.getElem?_eq_some_iff.1 hu).1
  have hx : (k + 1) * q ≤ L.length * q := Nat.mul_le_mul_right _ hk
  rw [Nat.succ_mul] at hx
  have hU : ∀ c ∈ U ++ List.replicate (L.length - k) z, c.length = q := by
    intro c hc
    rcases List.mem_append.1 hc with hc | hc
    · exact h4 c hc
    · rw [List.eq_of_mem_replicate hc]; exact h1
  have hz : (U ++ List.replicate (L.length - k) z)[k]? = some z := by
    rw [List.getElem?_append_right (by omega), h3, Nat.sub_self, List.getElem?_replicate, if_pos (by omega)]
  rw [World.ownsRow.cellAt h6 (k * q + i) (by omega), flat_at _ k z hU hz i hi, hu]
theorem Mk.push {α : Type} {q : Nat} {E : World → Nat → List Value → α → Prop} (hE : KeepsE E) {z c : List Value} {T : TypeId} {w w' : World} {B g : Nat} {L : List α} {k : Nat} {a : α} (h : Mk q E z T w B g L k) (hk : L[k]? = some a) (hc : c.length = q) (hEc : E w (g + 1) c a) (hkept : Kept (g + 1) w w')
    (hrow : ∀ A C : List Value, A.length = k * q → w.ownsRow B T q (.slice (some ⟨g, 0, none⟩) L.length L.length) L.length (A ++ (z ++ C)) → w'.ownsRow B T q (.slice (some ⟨g, 0, none⟩) L.length L.length) L.length (A ++ (c ++ C))) : Mk q E z T w' B g L (k + 1) := by
  obtain ⟨h1, h2, U, h3, h4, h5, h6⟩ := h
  have hlt : k < L.length := (List.getElem?_eq_some_iff.1 hk).1
  refine ⟨h1, hlt, U ++ [c], by simp [h3], ?_, ?_, ?_⟩
  · intro d hd
    rcases List.mem_append.1 hd with hd | hd
    · exact h4 d hd
    · simp at hd; subst hd; exact hc
  · intro j d b hd hb
    by_cases e : j < k
    · rw [List.getElem?_append_left (by omega)] at hd
      exact hE _ _ _ _ _ hkept (h5 j d b hd hb)
    · have ej : j = k := by
        have := (List.getElem?_eq_some_iff.1 hd).1
        simp [h3] at this; omega
      subst ej
      rw [hk] at hb
      cases hb
      rw [List.getElem?_append_right (by omega), h3] at hd
      simp at hd
      subst hd
      exact hE _ _ _ _ _ hkept hEc
  · have e : L.length - k = (L.length - (k + 1)) + 1 := by omega
    rw [e, List.replicate_succ] at h6
    have := hrow U.flatten (List.replicate (L.length - (k + 1)) z).flatten (by rw [flat_size U h4, h3]) (by simpa using h6)
    simpa using this
theorem Mk.done {α : Type} {q : Nat} {E : World → Nat → List Value → α → Prop} (hD : DropsE E) {z : List Value} {T : TypeId} {w : World} {B g : Nat} {L : List α} (h : Mk q E z T w B g L L.length) : Els q E w g (some ⟨g, 0, none⟩) L := by
  obtain ⟨h1, h2, U, h3, h4, h5, h6⟩ := h
  have hlt := World.ownsRow.lt h6 g rfl
  rw [Nat.sub_self] at h6
  simp only [List.replicate_zero, List.append_nil] at h6
  refine Or.inr ⟨g, 0, rfl, Nat.le_refl _, hlt.2, fun j a ha => ?_, fun _ j => World.ownsRow.frozenAt h6 j⟩
  have hj : j < L.length := (List.getElem?_eq_some_iff.1 ha).1
  obtain ⟨c, hc⟩ := get_some (L := U) (k := j) (by omega)
  refine ⟨c, h4 c (List.mem_of_getElem? hc), fun i u hu => ?_, hD _ _ _ _ _ (Nat.le_succ g) (h5 j c a hc ha)⟩
  have hi : i < q := by rw [← h4 c (List.mem_of_getElem? hc)]; exact (List.getElem?_eq_some_iff.1 hu).1
  have hx : (j + 1) * q ≤ L.length * q := Nat.mul_le_mul_right _ hj
  rw [Nat.succ_mul] at hx
  rw [Nat.zero_add, World.ownsRow.cellAt h6 (j * q + i) (by omega), flat_at U j c h4 hc i hi, hu]

theorem put1 {w : World} {B g n q k : Nat} {T : TypeId} {A C : List Value} {x u : Value} (hq : q = 1) (hA : A.length = k * q) (h : w.ownsRow B T q (.slice (some ⟨g, 0, none⟩) n n) n (A ++ ([x] ++ C))) : (w.setCell ⟨g, k, none⟩ u).ownsRow B T q (.slice (some ⟨g, 0, none⟩) n n) n (A ++ ([u] ++ C)) := by
  subst hq
  have := (World.ownsRow.stored h (A.length + 0) u).1
  rw [set_mid _ _ _ _ _ (by simp)] at this
  have e : A.length + 0 = k := by omega
  rw [e] at this
  exact this
theorem put2 {w : World} {B g n k : Nat} {T : TypeId} {A C : List Value} {x y u v : Value} (hA : A.length = k * 2) (h : w.ownsRow B T 2 (.slice (some ⟨g, 0, none⟩) n n) n (A ++ ([x, y] ++ C))) : ((w.setCell ⟨g, k * 2, none⟩ u).setCell ⟨g, k * 2 + 1, none⟩ v).ownsRow B T 2 (.slice (some ⟨g, 0, none⟩) n n) n (A ++ ([u, v] ++ C)) := by
  have h1 := (World.ownsRow.stored h (A.length + 0) u).1
  rw [set_mid _ _ _ _ _ (by simp)] at h1
  have h2 := (World.ownsRow.stored h1 (A.length + 1) v).1
  rw [set_mid _ _ _ _ _ (by simp), hA] at h2
  exact h2
theorem put3 {w : World} {B g n k : Nat} {T : TypeId} {A C : List Value} {x0 x1 x2 u0 u1 u2 : Value} (hA : A.length = k * 3) (h : w.ownsRow B T 3 (.slice (some ⟨g, 0, none⟩) n n) n (A ++ ([x0, x1, x2] ++ C))) : (((w.setCell ⟨g, k * 3, none⟩ u0).setCell ⟨g, k * 3 + 1, none⟩ u1).setCell ⟨g, k * 3 + 2, none⟩ u2).ownsRow B T 3 (.slice (some ⟨g, 0, none⟩) n n) n (A ++ ([u0, u1, u2] ++ C)) := by
  have h1 := (World.ownsRow.stored h (A.length + 0) u0).1
  rw [set_mid _ _ _ _ _ (by simp)] at h1
  have h2 := (World.ownsRow.stored h1 (A.length + 1) u1).1
  rw [set_mid _ _ _ _ _ (by simp)] at h2
  have h3 := (World.ownsRow.stored h2 (A.length + 2) u2).1
  rw [set_mid _ _ _ _ _ (by simp), hA] at h3
  exact h3
theorem put4 {w : World} {B g n k : Nat} {T : TypeId} {A C : List Value} {x0 x1 x2 x3 u0 u1 u2 u3 : Value} (hA : A.length = k * 4) (h : w.ownsRow B T 4 (.slice (some ⟨g, 0, none⟩) n n) n (A ++ ([x0, x1, x2, x3] ++ C))) : ((((w.setCell ⟨g, k * 4, none⟩ u0).setCell ⟨g, k * 4 + 1, none⟩ u1).setCell ⟨g, k * 4 + 2, none⟩ u2).setCell ⟨g, k * 4 + 3, none⟩ u3).ownsRow B T 4 (.slice (some ⟨g, 0, none⟩) n n) n (A ++ ([u0, u1, u2, u3] ++ C)) := by
  have h1 := (World.ownsRow.stored h (A.length + 0) u0).1
  rw [set_mid _ _ _ _ _ (by simp)] at h1
  have h2 := (World.ownsRow.stored h1 (A.length + 1) u1).1
  rw [set_mid _ _ _ _ _ (by simp)] at h2
  have h3 := (World.ownsRow.stored h2 (A.length + 2) u2).1
  rw [set_mid _ _ _ _ _ (by simp)] at h3
  have h4 := (World.ownsRow.stored h3 (A.length + 3) u3).1
  rw [set_mid _ _ _ _ _ (by simp), hA] at h4
  exact h4
end Go.Proofs.YtknallkcengbbaaGreatDoor
