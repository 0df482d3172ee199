import Derived.Test.YtbgeobpdojmdaaaGreatSq04
namespace Go.Proofs.YtbgeobpdojmdaaaGreat
set_option linter.unusedVariables false
section
open Go.RowKit
def Kept (B : Nat) (w w' : World) : Prop := w.heap.size ≤ w'.heap.size ∧ ∀ k, B ≤ k → k < w.heap.size → w'.heap[k]? = w.heap[k]?
theorem Kept.refl (B : Nat) (w : World) : Kept B w w := ⟨Nat.le_refl _, fun _ _ _ => rfl⟩
theorem Kept.trans {B : Nat} {a b c : World} (h : Kept B a b) (g : Kept B b c) : Kept B a c :=
 ⟨Nat.le_trans h.1 g.1, fun k h1 h2 => (g.2 k h1 (Nat.lt_of_lt_of_le h2 h.1)).trans (h.2 k h1 h2)⟩
theorem Kept.of {w w' : World} (h : Below w.heap.size w w') (B : Nat) : Kept B w w' := ⟨h.size, fun k _ h2 => h.block k h2⟩
theorem Kept.set {B : Nat} (w : World) {p : Addr} (hp : p.block < B) (u : Value) : Kept B w (w.setCell p u) :=
 ⟨by simp, fun k h1 _ => Below.heap_setCell w p u k (by omega)⟩
theorem Kept.cell {B : Nat} {w w' : World} (h : Kept B w w') {b o : Nat} (hb : B ≤ b) (hl : b < w.heap.size) : w'.cell? ⟨b, o, none⟩ = w.cell? ⟨b, o, none⟩ :=
 World.cell?_of_block (w := w) (h.2 b hb hl)
abbrev V4 := Int × Int × Nat × Nat
abbrev E2 := Int × Int
structure Tab where
 cols : List Int
 rows : List E2
 cells : List (List V4)
structure Wd where
 gens : List Int
 free : List Int
 tabs : List Tab
 res : List V4
def Els {α : Type} (k : Nat) (E : World → Nat → List Value → α → Prop) (w : World) (B : Nat) (s : Option Addr) (L : List α) : Prop :=
 L = [] ∨ ∃ b o, s = some ⟨b, o, none⟩ ∧ B ≤ b ∧ b < w.heap.size ∧ (∀ j a, L[j]? = some a → ∃ cs, cs.length = k ∧ (∀ i u, cs[i]? = some u → w.cell? ⟨b, o + j * k + i, none⟩ = some u) ∧ E w B cs a) ∧ (0 < B → ∀ j, w.frozen? ⟨b, j, none⟩ = false)
def cInt (w : World) (B : Nat) (cs : List Value) (n : Int) : Prop := cs = [.int .i64 n]
def cEnt (w : World) (B : Nat) (cs : List Value) (p : E2) : Prop := cs = [.int .i64 p.1, .int .i64 p.2]
def okV (v : V4) : Prop := (-9223372036854775808 ≤ v.2.1 ∧ v.2.1 ≤ 9223372036854775807) ∧ v.2.2.1 < 18446744073709551616 ∧ v.2.2.2 < 18446744073709551616
def vcells (v : V4) : List Value := [.int .i64 v.1, .int .i64 v.2.1, .float .f64 v.2.2.1, .float .f64 v.2.2.2]
def cVal (w : World) (B : Nat) (cs : List Value) (v : V4) : Prop := cs = vcells v ∧ okV v
def cVals (w : World) (B : Nat) (cs : List Value) (L : List V4) : Prop := ∃ s c, cs = [.slice s L.length c] ∧ Els 4 cVal w B s L
def cTab (w : World) (B : Nat) (cs : List Value) (t : Tab) : Prop :=
 ∃ s1 c1 s2 c2 s3 c3, cs = [.slice s1 t.cols.length c1, .slice s2 t.rows.length c2, .slice s3 t.cells.length c3] ∧ Els 1 cInt w B s1 t.cols ∧ Els 2 cEnt w B s2 t.rows ∧ Els 1 cVals w B s3 t.cells
def KeepsE {α : Type} (E : World → Nat → List Value → α → Prop) : Prop := ∀ w w' B cs a, Kept B w w' → E w B cs a → E w' B cs a
def DropsE {α : Type} (E : World → Nat → List Value → α → Prop) : Prop := ∀ w B B' cs a, B' ≤ B → E w B cs a → E w B' cs a
theorem Els.kept {α : Type} {k : Nat} {E : World → Nat → List Value → α → Prop} (hE : KeepsE E) {w w' : World} {B : Nat} {s : Option Addr} {L : List α} (h : Els k E w B s L) (hk : Kept B w w') : Els k E w' B s L := by
 rcases h with h0 | ⟨b, o, rfl, h1, h2, h3, hz⟩
 ·
  exact Or.inl h0
 refine Or.inr ⟨b, o, rfl, h1, Nat.lt_of_lt_of_le h2 hk.1, fun j a ha => ?_, fun hB j => (World.frozen?_of_block (w := w) (a := ⟨b, j, none⟩) (hk.2 b h1 h2)).trans (hz hB j)⟩
 obtain ⟨cs, e1, e2, e3⟩ := h3 j a ha
 exact ⟨cs, e1, fun i u hu => (hk.cell h1 h2).trans (e2 i u hu), hE _ _ _ _ _ hk e3⟩
theorem Els.drop {α : Type} {k : Nat} {E : World → Nat → List Value → α → Prop} (hE : DropsE E) {w : World} {B B' : Nat} {s : Option Addr} {L : List α} (h : Els k E w B s L) (hB : B' ≤ B) : Els k E w B' s L := by
 rcases h with h0 | ⟨b, o, rfl, h1, h2, h3, hz⟩
 ·
  exact Or.inl h0
 refine Or.inr ⟨b, o, rfl, Nat.le_trans hB h1, h2, fun j a ha => ?_, fun h0 j => hz (by omega) j⟩
 obtain ⟨cs, e1, e2, e3⟩ := h3 j a ha
 exact ⟨cs, e1, e2, hE _ _ _ _ _ hB e3⟩
theorem Els.nil {α : Type} {k : Nat} {E : World → Nat → List Value → α → Prop} {w : World} {B : Nat} {s : Option Addr} : Els k E w B s ([] : List α) := Or.inl rfl
theorem cInt_keeps : KeepsE cInt := fun _ _ _ _ _ _ h => h
theorem cEnt_keeps : KeepsE cEnt := fun _ _ _ _ _ _ h => h
theorem cVal_keeps : KeepsE cVal := fun _ _ _ _ _ _ h => h
theorem cVals_keeps : KeepsE cVals := fun _ _ _ _ _ hk ⟨s, c, e, h⟩ => ⟨s, c, e, h.kept cVal_keeps hk⟩
theorem cTab_keeps : KeepsE cTab := fun _ _ _ _ _ hk ⟨s1, c1, s2, c2, s3, c3, e, h1, h2, h3⟩ => ⟨s1, c1, s2, c2, s3, c3, e, h1.kept cInt_keeps hk, h2.kept cEnt_keeps hk, h3.kept cVals_keeps hk⟩
theorem cInt_drops : DropsE cInt := fun _ _ _ _ _ _ h => h
theorem cEnt_drops : DropsE cEnt := fun _ _ _ _ _ _ h => h
theorem cVal_drops : DropsE cVal := fun _ _ _ _ _ _ h => h
theorem cVals_drops : DropsE cVals := fun _ _ _ _ _ hB ⟨s, c, e, h⟩ => ⟨s, c, e, h.drop cVal_drops hB⟩
theorem cTab_drops : DropsE cTab := fun _ _ _ _ _ hB ⟨s1, c1, s2, c2, s3, c3, e, h1, h2, h3⟩ => ⟨s1, c1, s2, c2, s3, c3, e, h1.drop cInt_drops hB, h2.drop cEnt_drops hB, h3.drop cVals_drops hB⟩
theorem eInt_cells {w : World} {B : Nat} {s : Option Addr} {L : List Int} (h : Els 1 cInt w B s L) {j : Nat} {a : Int} (ha : L[j]? = some a) :
  ∃ b o, s = some ⟨b, o, none⟩ ∧ B ≤ b ∧ b < w.heap.size ∧ w.cell? ⟨b, o + j, none⟩ = some (.int .i64 a) := by
 rcases h with rfl | ⟨b, o, rfl, h1, h2, h3, hz⟩
 ·
  simp at ha
 obtain ⟨cs, e1, e2, e3⟩ := h3 j a ha
 subst e3
 exact ⟨b, o, rfl, h1, h2, by simpa using e2 0 _ rfl⟩
theorem eEnt_cells {w : World} {B : Nat} {s : Option Addr} {L : List E2} (h : Els 2 cEnt w B s L) {j : Nat} {a : E2} (ha : L[j]? = some a) :
  ∃ b o, s = some ⟨b, o, none⟩ ∧ B ≤ b ∧ b < w.heap.size ∧ w.cell? ⟨b, o + j * 2, none⟩ = some (.int .i64 a.1) ∧ w.cell? ⟨b, o + j * 2 + 1, none⟩ = some (.int .i64 a.2) := by
 rcases h with rfl | ⟨b, o, rfl, h1, h2, h3, hz⟩
 ·
  simp at ha
 obtain ⟨cs, e1, e2, e3⟩ := h3 j a ha
 subst e3
 exact ⟨b, o, rfl, h1, h2, e2 0 _ rfl, e2 1 _ rfl⟩
theorem eVal_cells {w : World} {B : Nat} {s : Option Addr} {L : List V4} (h : Els 4 cVal w B s L) {j : Nat} {a : V4} (ha : L[j]? = some a) :
  ∃ b o, s = some ⟨b, o, none⟩ ∧ B ≤ b ∧ b < w.heap.size ∧ okV a ∧ w.cell? ⟨b, o + j * 4, none⟩ = some (.int .i64 a.1) ∧ w.cell? ⟨b, o + j * 4 + 1, none⟩ = some (.int .i64 a.2.1) ∧ w.cell? ⟨b, o + j * 4 + 2, none⟩ = some (.float .f64 a.2.2.1) ∧ w.cell? ⟨b, o + j * 4 + 3, none⟩ = some (.float .f64 a.2.2.2) := by
 rcases h with rfl | ⟨b, o, rfl, h1, h2, h3, hz⟩
 ·
  simp at ha
 obtain ⟨cs, e1, e2, e3, e4⟩ := h3 j a ha
 subst e3
 exact ⟨b, o, rfl, h1, h2, e4, e2 0 _ rfl, e2 1 _ rfl, e2 2 _ rfl, e2 3 _ rfl⟩
theorem eVals_cells {w : World} {B : Nat} {s : Option Addr} {L : List (List V4)} (h : Els 1 cVals w B s L) {j : Nat} {a : List V4} (ha : L[j]? = some a) :
  ∃ b o, s = some ⟨b, o, none⟩ ∧ B ≤ b ∧ b < w.heap.size ∧ ∃ s' c', w.cell? ⟨b, o + j, none⟩ = some (.slice s' a.length c') ∧ Els 4 cVal w B s' a := by
 rcases h with rfl | ⟨b, o, rfl, h1, h2, h3, hz⟩
 ·
  simp at ha
 obtain ⟨cs, e1, e2, s', c', rfl, e4⟩ := h3 j a ha
 exact ⟨b, o, rfl, h1, h2, s', c', by simpa using e2 0 _ rfl, e4⟩
theorem eTab_cells {w : World} {B : Nat} {s : Option Addr} {L : List Tab} (h : Els 3 cTab w B s L) {j : Nat} {t : Tab} (ha : L[j]? = some t) :
  ∃ b o, s = some ⟨b, o, none⟩ ∧ B ≤ b ∧ b < w.heap.size ∧ ∃ s1 c1 s2 c2 s3 c3, w.cell? ⟨b, o + j * 3, none⟩ = some (.slice s1 t.cols.length c1) ∧ w.cell? ⟨b, o + j * 3 + 1, none⟩ = some (.slice s2 t.rows.length c2) ∧ w.cell? ⟨b, o + j * 3 + 2, none⟩ = some (.slice s3 t.cells.length c3) ∧
   Els 1 cInt w B s1 t.cols ∧ Els 2 cEnt w B s2 t.rows ∧ Els 1 cVals w B s3 t.cells := by
 rcases h with rfl | ⟨b, o, rfl, h1, h2, h3, hz⟩
 ·
  simp at ha
 obtain ⟨cs, e1, e2, s1, c1, s2, c2, s3, c3, rfl, f1, f2, f3⟩ := h3 j t ha
 exact ⟨b, o, rfl, h1, h2, s1, c1, s2, c2, s3, c3, e2 0 _ rfl, e2 1 _ rfl, e2 2 _ rfl, f1, f2, f3⟩
theorem Els.ints {w : World} {B : Nat} {s : Option Addr} {L : List Int} (h : Els 1 cInt w B s L) : Ints w s L := by
 rcases h with h0 | ⟨b, o, rfl, h1, h2, h3, hz⟩
 ·
  exact Or.inl h0
 refine Or.inr ⟨b, o, rfl, h2, fun j hj => ?_⟩
 obtain ⟨cs, e1, e2, e3⟩ := h3 j (L[j]?.getD 0) (by simp [hj])
 subst e3
 have := e2 0 _ rfl
 rw [Nat.mul_one, Nat.add_zero] at this
 exact this
theorem Els.later {α : Type} {k : Nat} {E : World → Nat → List Value → α → Prop} (hE : KeepsE E) {w w' : World} {B : Nat} {s : Option Addr} {L : List α} (h : Els k E w B s L) (hb : Below w.heap.size w w') : Els k E w' B s L := h.kept hE (Kept.of hb B)
theorem flat_get {α : Type} {k : Nat} {f : α → List Value} (hf : ∀ a, (f a).length = k) : ∀ (L : List α) (j : Nat) (a : α), L[j]? = some a → ∀ i, i < k → (L.flatMap f)[j * k + i]? = (f a)[i]?
 | q :: L, 0, a, h, i, hi => by
  simp at h; subst h
  rw [List.flatMap_cons, List.getElem?_append_left (by rw [hf]; omega)]
  congr 1; omega
 | q :: L, j + 1, a, h, i, hi => by
  have := flat_get hf L j a (by simpa using h) i hi
  rw [List.flatMap_cons, List.getElem?_append_right (by rw [hf, Nat.succ_mul]; omega), hf, ← this]
  congr 1; rw [Nat.succ_mul]; omega
theorem flat_len {α : Type} {k : Nat} {f : α → List Value} (hf : ∀ a, (f a).length = k) : ∀ L : List α, (L.flatMap f).length = L.length * k
 | [] => by simp
 | q :: L => by rw [List.flatMap_cons, List.length_append, hf, flat_len hf L, List.length_cons, Nat.succ_mul]; omega
theorem set_mid (A M C : List Value) (i : Nat) (u : Value) (hi : i < M.length) : (A ++ (M ++ C)).set (A.length + i) u = A ++ (M.set i u ++ C) := by
 rw [List.set_append_right _ _ (by omega), show A.length + i - A.length = i by omega, List.set_append_left _ _ hi]
theorem els_of_row {α : Type} {k : Nat} {E : World → Nat → List Value → α → Prop} {f : α → List Value} (hf : ∀ a, (f a).length = k) {w : World} {B g cap : Nat} {T : TypeId} {L : List α} (h : w.ownsRow B T k (.slice (some ⟨g, 0, none⟩) L.length cap) L.length (L.flatMap f)) (hE : ∀ a ∈ L, E w B (f a) a) :
  Els k E w B (some ⟨g, 0, none⟩) L := by
 have hlt := World.ownsRow.lt h g rfl
 refine Or.inr ⟨g, 0, rfl, hlt.1, hlt.2, fun j a ha => ⟨f a, hf a, fun i u hu => ?_, hE a (List.mem_of_getElem? ha)⟩, fun _ j => World.ownsRow.frozenAt h j⟩
 have hi : i < k := by rw [← hf a]; exact (List.getElem?_eq_some_iff.1 hu).1
 have hj : j < L.length := (List.getElem?_eq_some_iff.1 ha).1
 have hx : (j + 1) * k ≤ L.length * k := Nat.mul_le_mul_right _ hj
 rw [Nat.succ_mul] at hx
 rw [Nat.zero_add, World.ownsRow.cellAt h (j * k + i) (by omega), flat_get hf L j a ha i hi, hu]
end
section
open Go.RowKit
set_option linter.unusedSimpArgs false
def Szd (left : Int) (p : Prop) (e : Ending) : Prop := ∃ r : Int, e = .returned (.int .i64 r) ∧ (r = -1 ∨ (0 ≤ r ∧ r ≤ left ∧ p))
theorem szInts_gen (s : Option Addr) (n c : Nat) (left : Int) (w : World) (h0 : 0 ≤ left) (h1 : left ≤ 1048576) (hn : n ≤ 9223372036854775807) :
  Calls Tryz.prog 49 #[.slice s n c, .int .i64 left] w fun e w' => Szd left (n ≤ 1048576) e ∧ w' = w := by
 by_cases h : left < n
 ·
  exact (szInts_neg s n c left w h0 h1 hn h).mono fun e w' ⟨he, hw⟩ => ⟨⟨_, he, Or.inl rfl⟩, hw⟩
 exact (szInts_pos s n c left w h0 h1 hn h).mono fun e w' ⟨he, hw⟩ => ⟨⟨_, he, Or.inr ⟨by omega, by omega, by omega⟩⟩, hw⟩
set_option maxHeartbeats 1000000 in
theorem szEntS_gen (s : Option Addr) (n c : Nat) (left : Int) (w : World) (h0 : 0 ≤ left) (h1 : left ≤ 1048576) (hn : n ≤ 9223372036854775807) :
  Calls Tryz.prog 89 #[.slice s n c, .int .i64 left] w fun e w' => Szd left (n ≤ 1048576) e ∧ w' = w := by
 by_cases h : left < n
 ·
  go_enter Tryz.func89, Tryz.ntmps89
  go_wp2
  go_ret; exact ⟨⟨_, rfl, Or.inl rfl⟩, rfl⟩
 go_enter Tryz.func89, Tryz.ntmps89
 go_wp2
 go_ret; exact ⟨⟨_, rfl, Or.inr ⟨by omega, by omega, by omega⟩⟩, rfl⟩
set_option maxHeartbeats 1000000 in
theorem szValS_gen (s : Option Addr) (n c : Nat) (left : Int) (w : World) (h0 : 0 ≤ left) (h1 : left ≤ 1048576) (hn : n ≤ 9223372036854775807) :
  Calls Tryz.prog 23 #[.slice s n c, .int .i64 left] w fun e w' => Szd left (n ≤ 1048576) e ∧ w' = w := by
 by_cases h : left < n
 ·
  go_enter Tryz.func23, Tryz.ntmps23
  go_wp2
  go_ret; exact ⟨⟨_, rfl, Or.inl rfl⟩, rfl⟩
 go_enter Tryz.func23, Tryz.ntmps23
 go_wp2
 go_ret; exact ⟨⟨_, rfl, Or.inr ⟨by omega, by omega, by omega⟩⟩, rfl⟩
set_option maxHeartbeats 1000000 in
theorem szEnts_gen (s1 s2 : Option Addr) (n1 n2 c1 c2 : Nat) (left : Int) (w : World) (h0 : 0 ≤ left) (h9 : left ≤ 1048576) (h1 : n1 ≤ 9223372036854775807) (h2 : n2 ≤ 9223372036854775807) :
  Calls Tryz.prog 21 #[.agg #[.slice s1 n1 c1, .slice s2 n2 c2], .int .i64 left] w fun e w' => Szd left (n1 ≤ 1048576 ∧ n2 ≤ 1048576) e ∧ Below w.heap.size w w' := by
 go_enter Tryz.func21, Tryz.ntmps21
 go_wp2_with fail; refine (szInts_gen s1 n1 c1 left _ h0 h9 h1).mono ?_
 rintro e w' ⟨⟨r, rfl, hr⟩, rfl⟩
 rcases hr with rfl | ⟨r0, r1, rn⟩
 ·
  go_wp2_with fail; go_ret; refine ⟨⟨_, rfl, Or.inl rfl⟩, ?_⟩
  exact blq
 have t1 : decide (r < 0) = false := by simp; omega
 go_wp2_with fail; refine (szInts_gen s2 n2 c2 r _ r0 (by omega) h2).mono ?_
 rintro e w' ⟨⟨q, rfl, hq⟩, rfl⟩
 rcases hq with rfl | ⟨q0, q1, qn⟩
 ·
  go_wp2_with fail; go_ret; refine ⟨⟨_, rfl, Or.inl rfl⟩, ?_⟩
  exact blq
 have t2 : decide (q < 0) = false := by simp; omega
 go_wp2_with fail; go_ret; refine ⟨⟨_, rfl, Or.inr ⟨q0, by omega, rn, qn⟩⟩, ?_⟩
 exact blq
def mLL (L : List (List V4)) : Prop := L.length ≤ 9223372036854775807 ∧ ∀ l ∈ L, l.length ≤ 9223372036854775807
def mTab (t : Tab) : Prop := t.cols.length ≤ 9223372036854775807 ∧ t.rows.length ≤ 9223372036854775807 ∧ mLL t.cells
def mTabs (L : List Tab) : Prop := L.length ≤ 9223372036854775807 ∧ ∀ t ∈ L, mTab t
def kLL (L : List (List V4)) : Prop := L.length ≤ 1048576 ∧ ∀ l ∈ L, l.length ≤ 1048576
def kTab (t : Tab) : Prop := t.cols.length ≤ 1048576 ∧ t.rows.length ≤ 1048576 ∧ kLL t.cells
def kTabs (L : List Tab) : Prop := L.length ≤ 1048576 ∧ ∀ t ∈ L, kTab t
def mW (W : Wd) : Prop := W.gens.length ≤ 9223372036854775807 ∧ W.free.length ≤ 9223372036854775807 ∧ mTabs W.tabs ∧ W.res.length ≤ 9223372036854775807
def kW (W : Wd) : Prop := W.gens.length ≤ 1048576 ∧ W.free.length ≤ 1048576 ∧ kTabs W.tabs ∧ W.res.length ≤ 1048576
theorem get_some {α : Type} {L : List α} {k : Nat} (h : k < L.length) : ∃ a, L[k]? = some a := ⟨L[k], by simp [h]⟩
set_option maxHeartbeats 2000000 in
theorem szValSS_gen (s : Option Addr) (c : Nat) (L : List (List V4)) (B : Nat) (left : Int) (w : World) (hL : Els 1 cVals w B s L) (hm : mLL L) (h0 : 0 ≤ left) (h1 : left ≤ 1048576) :
  Calls Tryz.prog 90 #[.slice s L.length c, .int .i64 left] w fun e w' => Szd left (kLL L) e ∧ Below w.heap.size w w' := by
 have tw : IntKind.i64.wrap (left - (L.length : Int)) = left - (L.length : Int) := by have := hm.1; rw [IntKind.wrap_i64]; omega
 by_cases h : (L.length : Int) ≤ left
 ·
  have t1 : decide (left - (L.length : Int) < 0) = false := by simp; omega
  have hl : L.length ≤ 1048576 := by omega
  go_enter Tryz.func90, Tryz.ntmps90
  go_wp2_with fail; clear tw t1; go_loopw [1, 5] (fun x i wr => ∃ (k : Nat) (r : Int), k ≤ L.length ∧ i = .int .i64 k ∧ x = .int .i64 r ∧ 0 ≤ r ∧ r ≤ left ∧ (∀ j l, j < k → L[j]? = some l → l.length ≤ 1048576) ∧ Below w.heap.size w wr) (fun _ i _ => L.length - (intOf i).toNat)
  case atStart => exact ⟨0, _, Nat.zero_le _, rfl, rfl, by omega, by omega, fun j l hj => by omega, Below.refl _ _⟩
  obtain ⟨k, r, hk, rfl, rfl, r0, r1, hq, hb⟩ := hrel
  have HQ : Hid (∀ j l, j < k → L[j]? = some l → l.length ≤ 1048576) := hq
  clear hq; by_cases hlt : k < L.length
  ·
   obtain ⟨l, hl0⟩ := get_some hlt
   obtain ⟨b, o, rfl, hB, hp, s', c', e1, e2⟩ := eVals_cells (hL.later cVals_keeps hb) hl0
   have hn := hm.2 l (List.mem_of_getElem? hl0)
   have HL : Hid (L[k]? = some l) := hl0
   clear hL hm hl0; go_wp2_with fail; refine (szValS_gen s' l.length c' r _ r0 (by omega) hn).mono ?_
   rintro e w2 ⟨⟨q, rfl, hq⟩, rfl⟩
   rcases hq with rfl | ⟨q0, q1, qn⟩
   ·
    go_wp2_with fail; go_ret; exact ⟨⟨_, rfl, Or.inl rfl⟩, hb⟩
   have t2 : decide (q < 0) = false := by simp; omega
   go_wp2_with fail; go_roundw
   case rel =>
    refine ⟨k + 1, q, by omega, by go_num, rfl, q0, by omega, fun j l' hj hl' => ?_, hb⟩
    by_cases e : j = k
    ·
     subst e
     have := HL.out
     rw [this] at hl'
     cases hl'
     exact qn
    exact HQ.out j l' (by omega) hl'
   case measure => simp [intOf]; omega
  go_wp2_with fail; go_ret; refine ⟨⟨_, rfl, Or.inr ⟨r0, r1, hl, fun l hl' => ?_⟩⟩, hb⟩
  obtain ⟨j, hj, rfl⟩ := List.getElem_of_mem hl'
  exact HQ.out j _ (by omega) (by simp [hj])
 have t1 : decide (left - (L.length : Int) < 0) = true := by simp; omega
 go_enter Tryz.func90, Tryz.ntmps90
 go_wp2_with fail; go_ret; exact ⟨⟨_, rfl, Or.inl rfl⟩, Below.refl _ _⟩
set_option maxHeartbeats 2000000 in
theorem szTable_gen (s1 s2 s3 : Option Addr) (c1 c2 c3 : Nat) (t : Tab) (B : Nat) (left : Int) (w : World) (h3 : Els 1 cVals w B s3 t.cells) (hm : mTab t) (h0 : 0 ≤ left) (h1 : left ≤ 1048576) :
  Calls Tryz.prog 50 #[.agg #[.slice s1 t.cols.length c1, .slice s2 t.rows.length c2, .slice s3 t.cells.length c3], .int .i64 left] w fun e w' => Szd left (kTab t) e ∧ Below w.heap.size w w' := by
 obtain ⟨m1, m2, m3⟩ := hm
 have k0 := Blk.new w #[.slice s1 t.cols.length c1, .slice s2 t.rows.length c2, .slice s3 t.cells.length c3] 108
 have L0 : Below w.heap.size w (w.alloc (.cells #[.slice s1 t.cols.length c1, .slice s2 t.rows.length c2, .slice s3 t.cells.length c3] 108)) := bl_alloc (Below.refl _ _) _
 have x0 := k0.cell 0
 have x1 := k0.cell 1
 have x2 := k0.cell 2
 go_enter Tryz.func50, Tryz.ntmps50
 go_wp2_with fail; refine (szInts_gen s1 _ c1 left _ h0 h1 m1).mono ?_
 rintro e w' ⟨⟨r, rfl, hr⟩, rfl⟩
 rcases hr with rfl | ⟨r0, r1, rn⟩
 ·
  go_wp2_with fail; go_ret; exact ⟨⟨_, rfl, Or.inl rfl⟩, L0⟩
 have t1 : decide (r < 0) = false := by simp; omega
 go_wp2_with fail; refine (szEntS_gen s2 _ c2 r _ r0 (by omega) m2).mono ?_
 rintro e w' ⟨⟨q, rfl, hq⟩, rfl⟩
 rcases hq with rfl | ⟨q0, q1, qn⟩
 ·
  go_wp2_with fail; go_ret; exact ⟨⟨_, rfl, Or.inl rfl⟩, L0⟩
 have t2 : decide (q < 0) = false := by simp; omega
 go_wp2_with fail; refine (szValSS_gen s3 c3 t.cells B q _ (h3.later cVals_keeps L0) m3 q0 (by omega)).mono ?_
 rintro e w2 ⟨⟨p, rfl, hp⟩, hb2⟩
 rcases hp with rfl | ⟨p0, p1, pn⟩
 ·
  go_wp2_with fail; go_ret; exact ⟨⟨_, rfl, Or.inl rfl⟩, bl_trans L0 hb2⟩
 have t3 : decide (p < 0) = false := by simp; omega
 go_wp2_with fail; go_ret; exact ⟨⟨_, rfl, Or.inr ⟨p0, by omega, rn, qn, pn⟩⟩, bl_trans L0 hb2⟩
set_option maxHeartbeats 2000000 in
theorem szTableS_gen (s : Option Addr) (c : Nat) (L : List Tab) (B : Nat) (left : Int) (w : World) (hL : Els 3 cTab w B s L) (hm : mTabs L) (h0 : 0 ≤ left) (h1 : left ≤ 1048576) :
  Calls Tryz.prog 22 #[.slice s L.length c, .int .i64 left] w fun e w' => Szd left (kTabs L) e ∧ Below w.heap.size w w' := by
 have tw : IntKind.i64.wrap (left - (L.length : Int)) = left - (L.length : Int) := by have := hm.1; rw [IntKind.wrap_i64]; omega
 by_cases h : (L.length : Int) ≤ left
 ·
  have t1 : decide (left - (L.length : Int) < 0) = false := by simp; omega
  have hl : L.length ≤ 1048576 := by omega
  go_enter Tryz.func22, Tryz.ntmps22
  go_wp2_with fail; clear tw t1; go_loopw [1, 5] (fun x i wr => ∃ (k : Nat) (r : Int), k ≤ L.length ∧ i = .int .i64 k ∧ x = .int .i64 r ∧ 0 ≤ r ∧ r ≤ left ∧ (∀ j l, j < k → L[j]? = some l → kTab l) ∧ Below w.heap.size w wr) (fun _ i _ => L.length - (intOf i).toNat)
  case atStart => exact ⟨0, _, Nat.zero_le _, rfl, rfl, by omega, by omega, fun j l hj => by omega, Below.refl _ _⟩
  obtain ⟨k, r, hk, rfl, rfl, r0, r1, hq, hb⟩ := hrel
  have HQ : Hid (∀ j l, j < k → L[j]? = some l → kTab l) := hq
  clear hq; by_cases hlt : k < L.length
  ·
   obtain ⟨t, hl0⟩ := get_some hlt
   obtain ⟨b, o, rfl, hB, hp, s1, c1, s2, c2, s3, c3, e1, e2, e3, f1, f2, f3⟩ := eTab_cells (hL.later cTab_keeps hb) hl0
   have hn := hm.2 t (List.mem_of_getElem? hl0)
   have HL : Hid (L[k]? = some t) := hl0
   clear hL hm hl0; go_wp2_with fail; refine (szTable_gen s1 s2 s3 c1 c2 c3 t B r _ f3 hn r0 (by omega)).mono ?_
   rintro e w2 ⟨⟨q, rfl, hq⟩, hb2⟩
   rcases hq with rfl | ⟨q0, q1, qn⟩
   ·
    go_wp2_with fail; go_ret; exact ⟨⟨_, rfl, Or.inl rfl⟩, bl_trans hb hb2⟩
   have t2 : decide (q < 0) = false := by simp; omega
   go_wp2_with fail; go_roundw
   case rel =>
    refine ⟨k + 1, q, by omega, by go_num, rfl, q0, by omega, fun j l' hj hl' => ?_, bl_trans hb hb2⟩
    by_cases e : j = k
    ·
     subst e
     have := HL.out
     rw [this] at hl'
     cases hl'
     exact qn
    exact HQ.out j l' (by omega) hl'
   case measure => simp [intOf]; omega
  go_wp2_with fail; go_ret; refine ⟨⟨_, rfl, Or.inr ⟨r0, r1, hl, fun l hl' => ?_⟩⟩, hb⟩
  obtain ⟨j, hj, rfl⟩ := List.getElem_of_mem hl'
  exact HQ.out j _ (by omega) (by simp [hj])
 have t1 : decide (left - (L.length : Int) < 0) = true := by simp; omega
 go_enter Tryz.func22, Tryz.ntmps22
 go_wp2_with fail; go_ret; exact ⟨⟨_, rfl, Or.inl rfl⟩, Below.refl _ _⟩
def wv (a1 a2 a3 a4 : Option Addr) (c1 c2 c3 c4 : Nat) (W : Wd) : Array Value := #[.slice a1 W.gens.length c1, .slice a2 W.free.length c2, .slice a3 W.tabs.length c3, .slice a4 W.res.length c4]
structure InW (w : World) (B : Nat) (a1 a2 a3 a4 : Option Addr) (W : Wd) : Prop where
 g : Els 1 cInt w B a1 W.gens
 f : Els 1 cInt w B a2 W.free
 t : Els 3 cTab w B a3 W.tabs
 r : Els 4 cVal w B a4 W.res
theorem InW.kept {w w' : World} {B : Nat} {a1 a2 a3 a4 : Option Addr} {W : Wd} (h : InW w B a1 a2 a3 a4 W) (hk : Kept B w w') : InW w' B a1 a2 a3 a4 W :=
 ⟨h.g.kept cInt_keeps hk, h.f.kept cInt_keeps hk, h.t.kept cTab_keeps hk, h.r.kept cVal_keeps hk⟩
theorem InW.later {w w' : World} {B : Nat} {a1 a2 a3 a4 : Option Addr} {W : Wd} (h : InW w B a1 a2 a3 a4 W) (hb : Below w.heap.size w w') : InW w' B a1 a2 a3 a4 W := h.kept (Kept.of hb B)
theorem InW.drop {w : World} {B B' : Nat} {a1 a2 a3 a4 : Option Addr} {W : Wd} (h : InW w B a1 a2 a3 a4 W) (hB : B' ≤ B) : InW w B' a1 a2 a3 a4 W :=
 ⟨h.g.drop cInt_drops hB, h.f.drop cInt_drops hB, h.t.drop cTab_drops hB, h.r.drop cVal_drops hB⟩
set_option maxHeartbeats 2000000 in
theorem szWorld_gen (a1 a2 a3 a4 : Option Addr) (c1 c2 c3 c4 : Nat) (W : Wd) (B : Nat) (left : Int) (w : World) (hW : InW w B a1 a2 a3 a4 W) (hm : mW W) (h0 : 0 ≤ left) (h1 : left ≤ 1048576) :
  Calls Tryz.prog 5 #[.agg #[.slice a1 W.gens.length c1, .slice a2 W.free.length c2, .slice a3 W.tabs.length c3, .slice a4 W.res.length c4], .int .i64 left] w fun e w' => Szd left (kW W) e ∧ Below w.heap.size w w' := by
 obtain ⟨m1, m2, m3, m4⟩ := hm
 have k0 := Blk.new w #[.slice a1 W.gens.length c1, .slice a2 W.free.length c2, .slice a3 W.tabs.length c3, .slice a4 W.res.length c4] 31
 have L0 : Below w.heap.size w (w.alloc (.cells #[.slice a1 W.gens.length c1, .slice a2 W.free.length c2, .slice a3 W.tabs.length c3, .slice a4 W.res.length c4] 31)) := bl_alloc (Below.refl _ _) _
 have x0 := k0.cell 0
 have x1 := k0.cell 1
 have x2 := k0.cell 2
 have x3 := k0.cell 3
 go_enter Tryz.func5, Tryz.ntmps5
 go_wp2_with fail; refine (szEnts_gen a1 a2 _ _ c1 c2 left _ h0 h1 m1 m2).mono ?_
 rintro e w1 ⟨⟨r, rfl, hr⟩, hb1⟩
 have L1 := bl_trans L0 hb1
 have K1 := k0.later hb1
 clear k0 x0 x1 x2 x3; have x0 := K1.cell 0
 have x1 := K1.cell 1
 have x2 := K1.cell 2
 have x3 := K1.cell 3
 rcases hr with rfl | ⟨r0, r1, rn, rm⟩
 ·
  go_wp2_with fail; go_ret; exact ⟨⟨_, rfl, Or.inl rfl⟩, L1⟩
 have t1 : decide (r < 0) = false := by simp; omega
 go_wp2_with fail; refine (szTableS_gen a3 c3 W.tabs B r _ (hW.t.later cTab_keeps L1) m3 r0 (by omega)).mono ?_
 rintro e w2 ⟨⟨q, rfl, hq⟩, hb2⟩
 have L2 := bl_trans L1 hb2
 have K2 := K1.later hb2
 clear K1 x0 x1 x2 x3; have x0 := K2.cell 0
 have x1 := K2.cell 1
 have x2 := K2.cell 2
 have x3 := K2.cell 3
 rcases hq with rfl | ⟨q0, q1, qn⟩
 ·
  go_wp2_with fail; go_ret; exact ⟨⟨_, rfl, Or.inl rfl⟩, L2⟩
 have t2 : decide (q < 0) = false := by simp; omega
 go_wp2_with fail; refine (szValS_gen a4 _ c4 q _ q0 (by omega) m4).mono ?_
 rintro e w3 ⟨⟨p, rfl, hp⟩, rfl⟩
 rcases hp with rfl | ⟨p0, p1, pn⟩
 ·
  go_wp2_with fail; go_ret; exact ⟨⟨_, rfl, Or.inl rfl⟩, L2⟩
 have t3 : decide (p < 0) = false := by simp; omega
 go_wp2_with fail; go_ret; exact ⟨⟨_, rfl, Or.inr ⟨p0, by omega, rn, rm, qn, pn⟩⟩, L2⟩
end
end Go.Proofs.YtbgeobpdojmdaaaGreat
