import Derived.Test.YtknallkcengbbaaGreatDoorEp
import Derived.Deep.QuietTactic
import Derived.BigQuiet
namespace Go.Proofs.YtknallkcengbbaaGreatDoor
open Go.RowKit
set_option linter.unusedVariables false

/-- the blocks from B on are as they were. -/
def Kept (B : Nat) (w w' : World) : Prop := w.heap.size ≤ w'.heap.size ∧ ∀ k, B ≤ k → k < w.heap.size → w'.heap[k]? = w.heap[k]?
theorem Kept.refl (B : Nat) (w : World) : Kept B w w := ⟨Nat.le_refl _, fun _ _ _ => rfl⟩
theorem Kept.trans {B : Nat} {a b c : World} (h : Kept B a b) (g : Kept B b c) : Kept B a c :=
  ⟨Nat.le_trans h.1 g.1, fun k h1 h2 => (g.2 k h1 (Nat.lt_of_lt_of_le h2 h.1)).trans (h.2 k h1 h2)⟩
theorem Kept.of {w w' : World} (h : Below w.heap.size w w') (B : Nat) : Kept B w w' := ⟨h.size, fun k _ h2 => h.block k h2⟩
theorem Kept.set {B : Nat} (w : World) {p : Addr} (hp : p.block < B) (u : Value) : Kept B w (w.setCell p u) :=
  ⟨by simp, fun k h1 _ => Below.heap_setCell w p u k (by omega)⟩
theorem Kept.cell {B : Nat} {w w' : World} (h : Kept B w w') {b o : Nat} (hb : B ≤ b) (hl : b < w.heap.size) : w'.cell? ⟨b, o, none⟩ = w.cell? ⟨b, o, none⟩ :=
  World.cell?_of_block (w := w) (h.2 b hb hl)

/-- a value: kind, whole number, two floats. -/
abbrev V4 := Int × Int × Nat × Nat
abbrev E2 := Int × Int
structure Tab where
  cols : List Int
  rows : List E2
  cells : List (List V4)
structure Wd where
  gens : List Int
  free : List Int
  tabs : List Tab
  res : List V4

/-- a list in memory, k cells an element, all its blocks from B on (and where B is not 0 they can be written). -/
def Els {α : Type} (k : Nat) (E : World → Nat → List Value → α → Prop) (w : World) (B : Nat) (s : Option Addr) (L : List α) : Prop :=
  L = [] ∨ ∃ b o, s = some ⟨b, o, none⟩ ∧ B ≤ b ∧ b < w.heap.size ∧ (∀ j a, L[j]? = some a → ∃ cs, cs.length = k ∧ (∀ i u, cs[i]? = some u → w.cell? ⟨b, o + j * k + i, none⟩ = some u) ∧ E w B cs a) ∧ (0 < B → ∀ j, w.frozen? ⟨b, j, none⟩ = false)

def cInt (w : World) (B : Nat) (cs : List Value) (n : Int) : Prop := cs = [.int .i64 n]
def cEnt (w : World) (B : Nat) (cs : List Value) (p : E2) : Prop := cs = [.int .i64 p.1, .int .i64 p.2]
def okV (v : V4) : Prop := (-9223372036854775808 ≤ v.2.1 ∧ v.2.1 ≤ 9223372036854775807) ∧ v.2.2.1 < 18446744073709551616 ∧ v.2.2.2 < 18446744073709551616
def vcells (v : V4) : List Value := [.int .i64 v.1, .int .i64 v.2.1, .float .f64 v.2.2.1, .float .f64 v.2.2.2]
def cVal (w : World) (B : Nat) (cs : List Value) (v : V4) : Prop := cs = vcells v ∧ okV v
def cVals (w : World) (B : Nat) (cs : List Value) (L : List V4) : Prop := ∃ s c, cs = [.slice s L.length c] ∧ Els 4 cVal w B s L
def cTab (w : World) (B : Nat) (cs : List Value) (t : Tab) : Prop :=
  ∃ s1 c1 s2 c2 s3 c3, cs = [.slice s1 t.cols.length c1, .slice s2 t.rows.length c2, .slice s3 t.cells.length c3] ∧ Els 1 cInt w B s1 t.cols ∧ Els 2 cEnt w B s2 t.rows ∧ Els 1 cVals w B s3 t.cells

def KeepsE {α : Type} (E : World → Nat → List Value → α → Prop) : Prop := ∀ w w' B cs a, Kept B w w' → E w B cs a → E w' B cs a
def DropsE {α : Type} (E : World → Nat → List Value → α → Prop) : Prop := ∀ w B B' cs a, B' ≤ B → E w B cs a → E w B' cs a

theorem Els.kept {α : Type} {k : Nat} {E : World → Nat → List Value → α → Prop} (hE : KeepsE E) {w w' : World} {B : Nat} {s : Option Addr} {L : List α} (h : Els k E w B s L) (hk : Kept B w w') : Els k E w' B s L := by
  rcases h with h0 | ⟨b, o, rfl, h1, h2, h3, hz⟩
  · exact Or.inl h0
  · refine Or.inr ⟨b, o, rfl, h1, Nat.lt_of_lt_of_le h2 hk.1, fun j a ha => ?_, fun hB j => (World.frozen?_of_block (w := w) (a := ⟨b, j, none⟩) (hk.2 b h1 h2)).trans (hz hB j)⟩
    obtain ⟨cs, e1, e2, e3⟩ := h3 j a ha
    exact ⟨cs, e1, fun i u hu => (hk.cell h1 h2).trans (e2 i u hu), hE _ _ _ _ _ hk e3⟩
theorem Els.drop {α : Type} {k : Nat} {E : World → Nat → List Value → α → Prop} (hE : DropsE E) {w : World} {B B' : Nat} {s : Option Addr} {L : List α} (h : Els k E w B s L) (hB : B' ≤ B) : Els k E w B' s L := by
  rcases h with h0 | ⟨b, o, rfl, h1, h2, h3, hz⟩
  · exact Or.inl h0
  · refine Or.inr ⟨b, o, rfl, Nat.le_trans hB h1, h2, fun j a ha => ?_, fun h0 j => hz (by omega) j⟩
    obtain ⟨cs, e1, e2, e3⟩ := h3 j a ha
    exact ⟨cs, e1, e2, hE _ _ _ _ _ hB e3⟩
theorem Els.nil {α : Type} {k : Nat} {E : World → Nat → List Value → α → Prop} {w : World} {B : Nat} {s : Option Addr} : Els k E w B s ([] : List α) := Or.inl rfl

theorem cInt_keeps : KeepsE cInt := fun _ _ _ _ _ _ h => h
theorem cEnt_keeps : KeepsE cEnt := fun _ _ _ _ _ _ h => h
theorem cVal_keeps : KeepsE cVal := fun _ _ _ _ _ _ h => h
theorem cVals_keeps : KeepsE cVals := fun _ _ _ _ _ hk ⟨s, c, e, h⟩ => ⟨s, c, e, h.kept cVal_keeps hk⟩
theorem cTab_keeps : KeepsE cTab := fun _ _ _ _ _ hk ⟨s1, c1, s2, c2, s3, c3, e, h1, h2, h3⟩ => ⟨s1, c1, s2, c2, s3, c3, e, h1.kept cInt_keeps hk, h2.kept cEnt_keeps hk, h3.kept cVals_keeps hk⟩
theorem cInt_drops : DropsE cInt := fun _ _ _ _ _ _ h => h
theorem cEnt_drops : DropsE cEnt := fun _ _ _ _ _ _ h => h
theorem cVal_drops : DropsE cVal := fun _ _ _ _ _ _ h => h
theorem cVals_drops : DropsE cVals := fun _ _ _ _ _ hB ⟨s, c, e, h⟩ => ⟨s, c, e, h.drop cVal_drops hB⟩
theorem cTab_drops : DropsE cTab := fun _ _ _ _ _ hB ⟨s1, c1, s2, c2, s3, c3, e, h1, h2, h3⟩ => ⟨s1, c1, s2, c2, s3, c3, e, h1.drop cInt_drops hB, h2.drop cEnt_drops hB, h3.drop cVals_drops hB⟩

theorem eInt_cells {w : World} {B : Nat} {s : Option Addr} {L : List Int} (h : Els 1 cInt w B s L) {j : Nat} {a : Int} (ha : L[j]? = some a) :
    ∃ b o, s = some ⟨b, o, none⟩ ∧ B ≤ b ∧ b < w.heap.size ∧ w.cell? ⟨b, o + j, none⟩ = some (.int .i64 a) := by
  rcases h with rfl | ⟨b, o, rfl, h1, h2, h3, hz⟩
  · simp at ha
  · obtain ⟨cs, e1, e2, e3⟩ := h3 j a ha
    subst e3
    exact ⟨b, o, rfl, h1, h2, by simpa using e2 0 _ rfl⟩
theorem eEnt_cells {w : World} {B : Nat} {s : Option Addr} {L : List E2} (h : Els 2 cEnt w B s L) {j : Nat} {a : E2} (ha : L[j]? = some a) :
    ∃ b o, s = some ⟨b, o, none⟩ ∧ B ≤ b ∧ b < w.heap.size ∧ w.cell? ⟨b, o + j * 2, none⟩ = some (.int .i64 a.1) ∧ w.cell? ⟨b, o + j * 2 + 1, none⟩ = some (.int .i64 a.2) := by
  rcases h with rfl | ⟨b, o, rfl, h1, h2, h3, hz⟩
  · simp at ha
  · obtain ⟨cs, e1, e2, e3⟩ := h3 j a ha
    subst e3
    exact ⟨b, o, rfl, h1, h2, e2 0 _ rfl, e2 1 _ rfl⟩
theorem eVal_cells {w : World} {B : Nat} {s : Option Addr} {L : List V4} (h : Els 4 cVal w B s L) {j : Nat} {a : V4} (ha : L[j]? = some a) :
    ∃ b o, s = some ⟨b, o, none⟩ ∧ B ≤ b ∧ b < w.heap.size ∧ okV a ∧ w.cell? ⟨b, o + j * 4, none⟩ = some (.int .i64 a.1) ∧ w.cell? ⟨b, o + j * 4 + 1, none⟩ = some (.int .i64 a.2.1) ∧ w.cell? ⟨b, o + j * 4 + 2, none⟩ = some (.float .f64 a.2.2.1) ∧ w.cell? ⟨b, o + j * 4 + 3, none⟩ = some (.float .f64 a.2.2.2) := by
  rcases h with rfl | ⟨b, o, rfl, h1, h2, h3, hz⟩
  · simp at ha
  · obtain ⟨cs, e1, e2, e3, e4⟩ := h3 j a ha
    subst e3
    exact ⟨b, o, rfl, h1, h2, e4, e2 0 _ rfl, e2 1 _ rfl, e2 2 _ rfl, e2 3 _ rfl⟩
theorem eVals_cells {w : World} {B : Nat} {s : Option Addr} {L : List (List V4)} (h : Els 1 cVals w B s L) {j : Nat} {a : List V4} (ha : L[j]? = some a) :
    ∃ b o, s = some ⟨b, o, none⟩ ∧ B ≤ b ∧ b < w.heap.size ∧ ∃ s' c', w.cell? ⟨b, o + j, none⟩ = some (.slice s' a.length c') ∧ Els 4 cVal w B s' a := by
  rcases h with rfl | ⟨b, o, rfl, h1, h2, h3, hz⟩
  · simp at ha
  · obtain ⟨cs, e1, e2, s', c', rfl, e4⟩ := h3 j a ha
    exact ⟨b, o, rfl, h1, h2, s', c', by simpa using e2 0 _ rfl, e4⟩
theorem eTab_cells {w : World} {B : Nat} {s : Option Addr} {L : List Tab} (h : Els 3 cTab w B s L) {j : Nat} {t : Tab} (ha : L[j]? = some t) :
    ∃ b o, s = some ⟨b, o, none⟩ ∧ B ≤ b ∧ b < w.heap.size ∧ ∃ s1 c1 s2 c2 s3 c3, w.cell? ⟨b, o + j * 3, none⟩ = some (.slice s1 t.cols.length c1) ∧ w.cell? ⟨b, o + j * 3 + 1, none⟩ = some (.slice s2 t.rows.length c2) ∧ w.cell? ⟨b, o + j * 3 + 2, none⟩ = some (.slice s3 t.cells.length c3) ∧
      Els 1 cInt w B s1 t.cols ∧ Els 2 cEnt w B s2 t.rows ∧ Els 1 cVals w B s3 t.cells := by
  rcases h with rfl | ⟨b, o, rfl, h1, h2, h3, hz⟩
  · simp at ha
  · obtain ⟨cs, e1, e2, s1, c1, s2, c2, s3, c3, rfl, f1, f2, f3⟩ := h3 j t ha
    exact ⟨b, o, rfl, h1, h2, s1, c1, s2, c2, s3, c3, e2 0 _ rfl, e2 1 _ rfl, e2 2 _ rfl, f1, f2, f3⟩

theorem Els.ints {w : World} {B : Nat} {s : Option Addr} {L : List Int} (h : Els 1 cInt w B s L) : Ints w s L := by
  rcases h with h0 | ⟨b, o, rfl, h1, h2, h3, hz⟩
  · exact Or.inl h0
  · refine Or.inr ⟨b, o, rfl, h2, fun j hj => ?_⟩
    obtain ⟨cs, e1, e2, e3⟩ := h3 j (L[j]?.getD 0) (by simp [hj])
    subst e3
    have := e2 0 _ rfl
    rw [Nat.mul_one, Nat.add_zero] at this
    exact this
theorem Els.later {α : Type} {k : Nat} {E : World → Nat → List Value → α → Prop} (hE : KeepsE E) {w w' : World} {B : Nat} {s : Option Addr} {L : List α} (h : Els k E w B s L) (hb : Below w.heap.size w w') : Els k E w' B s L := h.kept hE (Kept.of hb B)

/-- the cells of a row, element by element. -/
theorem flat_get {α : Type} {k : Nat} {f : α → List Value} (hf : ∀ a, (f a).length = k) : ∀ (L : List α) (j : Nat) (a : α), L[j]? = some a → ∀ i, i < k → (L.flatMap f)[j * k + i]? = (f a)[i]?
  | q :: L, 0, a, h, i, hi => by
    simp at h; subst h
    rw [List.flatMap_cons, List.getElem?_append_left (by rw [hf]; omega)]
    congr 1; omega
  | q :: L, j + 1, a, h, i, hi => by
    have := flat_get hf L j a (by simpa using h) i hi
    rw [List.flatMap_cons, List.getElem?_append_right (by rw [hf, Nat.succ_mul]; omega), hf, ← this]
    congr 1; rw [Nat.succ_mul]; omega
theorem flat_len {α : Type} {k : Nat} {f : α → List Value} (hf : ∀ a, (f a).length = k) : ∀ L : List α, (L.flatMap f).length = L.length * k
  | [] => by simp
  | q :: L => by rw [List.flatMap_cons, List.length_append, hf, flat_len hf L, List.length_cons, Nat.succ_mul]; omega
theorem set_mid (A M C : List Value) (i : Nat) (u : Value) (hi : i < M.length) : (A ++ (M ++ C)).set (A.length + i) u = A ++ (M.set i u ++ C) := by
  rw [List.set_append_right _ _ (by omega), show A.length + i - A.length = i by omega, List.set_append_left _ _ hi]
/-- an own row is a list that can be read. -/
theorem els_of_row {α : Type} {k : Nat} {E : World → Nat → List Value → α → Prop} {f : α → List Value} (hf : ∀ a, (f a).length = k) {w : World} {B g cap : Nat} {T : TypeId} {L : List α} (h : w.ownsRow B T k (.slice (some ⟨g, 0, none⟩) L.length cap) L.length (L.flatMap f)) (hE : ∀ a ∈ L, E w B (f a) a) :
    Els k E w B (some ⟨g, 0, none⟩) L := by
  have hlt := World.ownsRow.lt h g rfl
  refine Or.inr ⟨g, 0, rfl, hlt.1, hlt.2, fun j a ha => ⟨f a, hf a, fun i u hu => ?_, hE a (List.mem_of_getElem? ha)⟩, fun _ j => World.ownsRow.frozenAt h j⟩
  have hi : i < k := by rw [← hf a]; exact (List.getElem?_eq_some_iff.1 hu).1
  have hj : j < L.length := (List.getElem?_eq_some_iff.1 ha).1
  have hx : (j + 1) * k ≤ L.length * k := Nat.mul_le_mul_right _ hj
  rw [Nat.succ_mul] at hx
  rw [Nat.zero_add, World.ownsRow.cellAt h (j * k + i) (by omega), flat_get hf L j a ha i hi, hu]
end Go.Proofs.YtknallkcengbbaaGreatDoor
