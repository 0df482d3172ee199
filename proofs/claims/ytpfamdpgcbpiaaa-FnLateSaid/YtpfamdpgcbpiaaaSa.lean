import Derived.Test.YtpfamdpgcbpiaaaBk
import Derived.Test.YtpfamdpgcbpiaaaWd
import Derived.Deep.QuietTactic
import Derived.BigQuiet
import Derived.Deep.RegionHeld3
import Derived.Deep.AppendLies
import Derived.Deep.RegionLaw
namespace Go.Proofs.Ytpfamdpgcbpiaaa
open Go.RowKit
set_option linter.unusedVariables false
set_option linter.unusedSimpArgs false

theorem ret_bool' {a b : Bool} (h : a = b) : Ending.returned (.bool a) = .returned (.bool b) := by rw [h]
theorem bcell2 {W w1 : World} (hb : Below W.heap.size W w1) : (∀ b o, (W.cell? ⟨b, o, none⟩).isSome = true → w1.cell? ⟨b, o, none⟩ = W.cell? ⟨b, o, none⟩) ∧ (∀ b o, (W.cell? ⟨b, o, none⟩).isSome = true → w1.frozen? ⟨b, o, none⟩ = W.frozen? ⟨b, o, none⟩) := by
  refine ⟨fun b o h => ?_, fun b o h => ?_⟩
  · obtain ⟨v, hv⟩ := Option.isSome_iff_exists.1 h
    exact hb.cell (p := ⟨b, o, none⟩) (World.block_lt_of_cell? _ _ hv)
  · obtain ⟨v, hv⟩ := Option.isSome_iff_exists.1 h
    exact hb.frozen (p := ⟨b, o, none⟩) (World.block_lt_of_cell? _ _ hv)
theorem alloc_old (W : World) (ob : Obj) (b o : Nat) (h : (W.cell? ⟨b, o, none⟩).isSome = true) : (W.alloc ob).cell? ⟨b, o, none⟩ = W.cell? ⟨b, o, none⟩ :=
  (bcell2 (bl_alloc (Below.refl _ W) ob)).1 b o h
theorem alloc_oldf (W : World) (ob : Obj) (b o : Nat) (h : (W.cell? ⟨b, o, none⟩).isSome = true) : (W.alloc ob).frozen? ⟨b, o, none⟩ = W.frozen? ⟨b, o, none⟩ :=
  (bcell2 (bl_alloc (Below.refl _ W) ob)).2 b o h
/-- two values of two cells, as boxes one behind the other. -/
theorem blk2 (w : World) (c d : Array Value) (t u : TypeId) : Blk ((w.alloc (.cells c t)).alloc (.cells d u)) w.heap.size c t ∧ Blk ((w.alloc (.cells c t)).alloc (.cells d u)) (w.heap.size + 1) d u :=
  ⟨(Blk.new w c t).alloc _, Blk.new' _ d u (by simp)⟩
set_option maxHeartbeats 1000000 in
theorem l1In_any (x lo hi : Int) (w : World) :
    Calls Try.prog 32 #[.int .i64 x, .int .i64 lo, .int .i64 hi] w fun e w' => e = .returned (.bool (decide (lo ≤ x) && decide (x ≤ hi))) ∧ w' = w := by
  by_cases h1 : lo ≤ x
  · go_enter Try.func32, Try.ntmps32
    go_wp2
    go_ret
    exact ⟨ret_bool' (by simp [h1]), rfl⟩
  · go_enter Try.func32, Try.ntmps32
    go_wp2
    go_ret
    exact ⟨ret_bool' (by simp; omega), rfl⟩
theorem grown_of_below {w w' : World} (hb : Below w.heap.size w w') : w.grownBy w' none := ⟨hb.os, hb.tape, hb.output, hb.size, fun k hk _ => hb.block k hk⟩
/-- only block b may have turned. -/
theorem Blk.kept {w w' : World} {n b : Nat} {c : Array Value} {t : TypeId} (h : Blk w n c t) (hg : w.grownBy w' (some b)) (hn : ¬ n = b) : Blk w' n c t := by
  unfold Blk; rw [hg.block n h.lt (by simp; exact hn)]; exact h
theorem grown_below {w w' : World} {b : Nat} (hg : w.grownBy w' (some b)) {B : Nat} (h : B ≤ b) (hB : B ≤ w.heap.size) : Below B w w' :=
  ⟨hg.os, hg.tape, hg.output, hg.size, fun k hk => hg.block k (by omega) (by simp; omega)⟩
theorem grown_refl (w : World) (r : Option Nat) : w.grownBy w r := ⟨rfl, rfl, rfl, Nat.le_refl _, fun _ _ _ => rfl⟩
theorem grown_trans {a b c : World} {r : Option Nat} (h : a.grownBy b r) (g : b.grownBy c r) : a.grownBy c r :=
  ⟨g.os.trans h.os, g.tape.trans h.tape, g.output.trans h.output, Nat.le_trans h.size g.size, fun k hk hr => (g.block k (Nat.lt_of_lt_of_le hk h.size) hr).trans (h.block k hk hr)⟩
theorem Blk.three' {w : World} {n : Nat} {a b c : Value} {t : TypeId} (h : Blk w n #[a, b, c] t) : w.cell? ⟨n, 0, none⟩ = some a ∧ w.cell? ⟨n, 1, none⟩ = some b ∧ w.cell? ⟨n, 2, none⟩ = some c ∧ ∀ o, w.frozen? ⟨n, o, none⟩ = false := ⟨h.cell 0, h.cell 1, h.cell 2, h.frozen⟩
theorem Blk.four' {w : World} {n : Nat} {a b c d : Value} {t : TypeId} (h : Blk w n #[a, b, c, d] t) : w.cell? ⟨n, 0, none⟩ = some a ∧ w.cell? ⟨n, 1, none⟩ = some b ∧ w.cell? ⟨n, 2, none⟩ = some c ∧ w.cell? ⟨n, 3, none⟩ = some d ∧ ∀ o, w.frozen? ⟨n, o, none⟩ = false := ⟨h.cell 0, h.cell 1, h.cell 2, h.cell 3, h.frozen⟩
/-- the blocks from B on are as they were. -/
def Kept (B : Nat) (w w' : World) : Prop := w.heap.size ≤ w'.heap.size ∧ ∀ k, B ≤ k → k < w.heap.size → w'.heap[k]? = w.heap[k]?
theorem Kept.refl (B : Nat) (w : World) : Kept B w w := ⟨Nat.le_refl _, fun _ _ _ => rfl⟩
theorem Kept.trans {B : Nat} {a b c : World} (h : Kept B a b) (g : Kept B b c) : Kept B a c :=
  ⟨Nat.le_trans h.1 g.1, fun k h1 h2 => (g.2 k h1 (Nat.lt_of_lt_of_le h2 h.1)).trans (h.2 k h1 h2)⟩
theorem Kept.of {w w' : World} (h : Below w.heap.size w w') (B : Nat) : Kept B w w' := ⟨h.size, fun k _ h2 => h.block k h2⟩
theorem Kept.set {B : Nat} (w : World) {p : Addr} (hp : p.block < B) (u : Value) : Kept B w (w.setCell p u) :=
  ⟨by simp, fun k h1 _ => Below.heap_setCell w p u k (by omega)⟩
theorem Kept.cell {B : Nat} {w w' : World} (h : Kept B w w') {b o : Nat} (hb : B ≤ b) (hl : b < w.heap.size) : w'.cell? ⟨b, o, none⟩ = w.cell? ⟨b, o, none⟩ :=
  World.cell?_of_block (w := w) (h.2 b hb hl)
/-- a value: kind, whole number, two floats. -/
abbrev V4 := Int × Int × Nat × Nat
/-- a list in memory, k cells an element, all its blocks from B on. -/
def Els {α : Type} (k : Nat) (E : World → Nat → List Value → α → Prop) (w : World) (B : Nat) (s : Option Addr) (L : List α) : Prop :=
  L = [] ∨ ∃ b o, s = some ⟨b, o, none⟩ ∧ B ≤ b ∧ b < w.heap.size ∧ ∀ j a, L[j]? = some a → ∃ cs, cs.length = k ∧ (∀ i u, cs[i]? = some u → w.cell? ⟨b, o + j * k + i, none⟩ = some u) ∧ E w B cs a
def okV (v : V4) : Prop := (-9223372036854775808 ≤ v.2.1 ∧ v.2.1 ≤ 9223372036854775807) ∧ v.2.2.1 < 18446744073709551616 ∧ v.2.2.2 < 18446744073709551616
def vcells (v : V4) : List Value := [.int .i64 v.1, .int .i64 v.2.1, .float .f64 v.2.2.1, .float .f64 v.2.2.2]
def cVal (w : World) (B : Nat) (cs : List Value) (v : V4) : Prop := cs = vcells v ∧ okV v
def KeepsE {α : Type} (E : World → Nat → List Value → α → Prop) : Prop := ∀ w w' B cs a, Kept B w w' → E w B cs a → E w' B cs a
def DropsE {α : Type} (E : World → Nat → List Value → α → Prop) : Prop := ∀ w B B' cs a, B' ≤ B → E w B cs a → E w B' cs a
theorem Els.kept {α : Type} {k : Nat} {E : World → Nat → List Value → α → Prop} (hE : KeepsE E) {w w' : World} {B : Nat} {s : Option Addr} {L : List α} (h : Els k E w B s L) (hk : Kept B w w') : Els k E w' B s L := by
  rcases h with h0 | ⟨b, o, rfl, h1, h2, h3⟩
  · exact Or.inl h0
  · refine Or.inr ⟨b, o, rfl, h1, Nat.lt_of_lt_of_le h2 hk.1, fun j a ha => ?_⟩
    obtain ⟨cs, e1, e2, e3⟩ := h3 j a ha
    exact ⟨cs, e1, fun i u hu => (hk.cell h1 h2).trans (e2 i u hu), hE _ _ _ _ _ hk e3⟩
theorem Els.drop {α : Type} {k : Nat} {E : World → Nat → List Value → α → Prop} (hE : DropsE E) {w : World} {B B' : Nat} {s : Option Addr} {L : List α} (h : Els k E w B s L) (hB : B' ≤ B) : Els k E w B' s L := by
  rcases h with h0 | ⟨b, o, rfl, h1, h2, h3⟩
  · exact Or.inl h0
  · refine Or.inr ⟨b, o, rfl, Nat.le_trans hB h1, h2, fun j a ha => ?_⟩
    obtain ⟨cs, e1, e2, e3⟩ := h3 j a ha
    exact ⟨cs, e1, e2, hE _ _ _ _ _ hB e3⟩
theorem Els.nil {α : Type} {k : Nat} {E : World → Nat → List Value → α → Prop} {w : World} {B : Nat} {s : Option Addr} : Els k E w B s ([] : List α) := Or.inl rfl
theorem cVal_keeps : KeepsE cVal := fun _ _ _ _ _ _ h => h
theorem cVal_drops : DropsE cVal := fun _ _ _ _ _ _ h => h
theorem eVal_cells {w : World} {B : Nat} {s : Option Addr} {L : List V4} (h : Els 4 cVal w B s L) {j : Nat} {a : V4} (ha : L[j]? = some a) :
    ∃ b o, s = some ⟨b, o, none⟩ ∧ B ≤ b ∧ b < w.heap.size ∧ okV a ∧ w.cell? ⟨b, o + j * 4, none⟩ = some (.int .i64 a.1) ∧ w.cell? ⟨b, o + j * 4 + 1, none⟩ = some (.int .i64 a.2.1) ∧ w.cell? ⟨b, o + j * 4 + 2, none⟩ = some (.float .f64 a.2.2.1) ∧ w.cell? ⟨b, o + j * 4 + 3, none⟩ = some (.float .f64 a.2.2.2) := by
  rcases h with rfl | ⟨b, o, rfl, h1, h2, h3⟩
  · simp at ha
  · obtain ⟨cs, e1, e2, e3, e4⟩ := h3 j a ha
    subst e3
    exact ⟨b, o, rfl, h1, h2, e4, e2 0 _ rfl, e2 1 _ rfl, e2 2 _ rfl, e2 3 _ rfl⟩
theorem Els.later {α : Type} {k : Nat} {E : World → Nat → List Value → α → Prop} (hE : KeepsE E) {w w' : World} {B : Nat} {s : Option Addr} {L : List α} (h : Els k E w B s L) (hb : Below w.heap.size w w') : Els k E w' B s L := h.kept hE (Kept.of hb B)
/-- the cells of a row, element by element. -/
theorem flat_get {α : Type} {k : Nat} {f : α → List Value} (hf : ∀ a, (f a).length = k) : ∀ (L : List α) (j : Nat) (a : α), L[j]? = some a → ∀ i, i < k → (L.flatMap f)[j * k + i]? = (f a)[i]?
  | q :: L, 0, a, h, i, hi => by
    simp at h; subst h
    rw [List.flatMap_cons, List.getElem?_append_left (by rw [hf]; omega)]
    congr 1; omega
  | q :: L, j + 1, a, h, i, hi => by
    have := flat_get hf L j a (by simpa using h) i hi
    rw [List.flatMap_cons, List.getElem?_append_right (by rw [hf, Nat.succ_mul]; omega), hf, ← this]
    congr 1; rw [Nat.succ_mul]; omega
theorem flat_len {α : Type} {k : Nat} {f : α → List Value} (hf : ∀ a, (f a).length = k) : ∀ L : List α, (L.flatMap f).length = L.length * k
  | [] => by simp
  | q :: L => by rw [List.flatMap_cons, List.length_append, hf, flat_len hf L, List.length_cons, Nat.succ_mul]; omega
theorem set_mid (A M C : List Value) (i : Nat) (u : Value) (hi : i < M.length) : (A ++ (M ++ C)).set (A.length + i) u = A ++ (M.set i u ++ C) := by
  rw [List.set_append_right _ _ (by omega), show A.length + i - A.length = i by omega, List.set_append_left _ _ hi]
/-- an own row is a list that can be read. -/
theorem els_of_row {α : Type} {k : Nat} {E : World → Nat → List Value → α → Prop} {f : α → List Value} (hf : ∀ a, (f a).length = k) {w : World} {B g cap : Nat} {T : TypeId} {L : List α} (h : w.ownsRow B T k (.slice (some ⟨g, 0, none⟩) L.length cap) L.length (L.flatMap f)) (hE : ∀ a ∈ L, E w B (f a) a) :
    Els k E w B (some ⟨g, 0, none⟩) L := by
  have hlt := World.ownsRow.lt h g rfl
  refine Or.inr ⟨g, 0, rfl, hlt.1, hlt.2, fun j a ha => ⟨f a, hf a, fun i u hu => ?_, hE a (List.mem_of_getElem? ha)⟩⟩
  have hi : i < k := by rw [← hf a]; exact (List.getElem?_eq_some_iff.1 hu).1
  have hj : j < L.length := (List.getElem?_eq_some_iff.1 ha).1
  have hx : (j + 1) * k ≤ L.length * k := Nat.mul_le_mul_right _ hj
  rw [Nat.succ_mul] at hx
  rw [Nat.zero_add, World.ownsRow.cellAt h (j * k + i) (by omega), flat_get hf L j a ha i hi, hu]
theorem get_some {α : Type} {L : List α} {k : Nat} (h : k < L.length) : ∃ a, L[k]? = some a := ⟨L[k], by simp [h]⟩
theorem flat_at {k : Nat} : ∀ (U : List (List Value)) (j : Nat) (c : List Value), (∀ c ∈ U, c.length = k) → U[j]? = some c → ∀ i, i < k → U.flatten[j * k + i]? = c[i]?
  | q :: U, 0, c, hU, h, i, hi => by
    simp at h; subst h
    rw [List.flatten_cons, List.getElem?_append_left (by rw [hU q (by simp)]; omega)]
    congr 1; omega
  | q :: U, j + 1, c, hU, h, i, hi => by
    have := flat_at U j c (fun c hc => hU c (by simp [hc])) (by simpa using h) i hi
    have hq := hU q (by simp)
    rw [List.flatten_cons, List.getElem?_append_right (by rw [hq, Nat.succ_mul]; omega), hq, ← this]
    congr 1; rw [Nat.succ_mul]; omega
theorem flat_size {k : Nat} : ∀ U : List (List Value), (∀ c ∈ U, c.length = k) → U.flatten.length = U.length * k
  | [], _ => by simp
  | q :: U, hU => by
    have := flat_size U (fun c hc => hU c (by simp [hc]))
    rw [List.flatten_cons, List.length_append, hU q (by simp), this, List.length_cons, Nat.succ_mul]; omega
/-- a list under way: k of its elements are there, noughts behind them. -/
def Mk {α : Type} (q : Nat) (E : World → Nat → List Value → α → Prop) (z : List Value) (T : TypeId) (w : World) (B g : Nat) (L : List α) (k : Nat) : Prop :=
  z.length = q ∧ k ≤ L.length ∧ ∃ U : List (List Value), U.length = k ∧ (∀ c ∈ U, c.length = q) ∧ (∀ (j : Nat) c a, U[j]? = some c → L[j]? = some a → E w (g + 1) c a) ∧ w.ownsRow B T q (.slice (some ⟨g, 0, none⟩) L.length L.length) L.length (U ++ List.replicate (L.length - k) z).flatten
theorem made_flat (z : Array Value) (n : Nat) : (madeCells z (n * z.size)).toList = (List.replicate n z.toList).flatten := by
  apply List.ext_getElem?
  intro j
  have hU : ∀ c ∈ List.replicate n z.toList, c.length = z.size := fun c hc => by rw [List.eq_of_mem_replicate hc]; simp
  by_cases hj : j < n * z.size
  · have hz : 0 < z.size := by
      rcases Nat.eq_zero_or_pos z.size with h | h
      · rw [h] at hj; omega
      · exact h
    have hi : j / z.size < n := Nat.div_lt_of_lt_mul (by rw [Nat.mul_comm]; exact hj)
    have hm : j % z.size < z.size := Nat.mod_lt _ hz
    have := flat_at (k := z.size) (List.replicate n z.toList) (j / z.size) z.toList hU (by simp [hi]) (j % z.size) hm
    rw [Nat.mul_comm, Nat.div_add_mod] at this
    rw [this]
    simp [madeCells, hj, hm]
  · rw [List.getElem?_eq_none (by simp [madeCells]; omega), List.getElem?_eq_none (by rw [flat_size _ hU]; simp; omega)]
theorem Mk.start {α : Type} {q : Nat} {E : World → Nat → List Value → α → Prop} {z : Array Value} {T : TypeId} {w : World} {B g : Nat} {L : List α} (hq : z.size = q) (h : w.ownsRow B T q (.slice (some ⟨g, 0, none⟩) L.length L.length) L.length (madeCells z (L.length * q)).toList) : Mk q E z.toList T w B g L 0 := by
  subst hq
  refine ⟨by simp, Nat.zero_le _, [], rfl, fun c hc => by simp at hc, fun j c a hc => by simp at hc, ?_⟩
  rw [made_flat] at h
  simpa using h
theorem Mk.later {α : Type} {q : Nat} {E : World → Nat → List Value → α → Prop} (hE : KeepsE E) {z : List Value} {T : TypeId} {w w' : World} {B g : Nat} {L : List α} {k : Nat} (h : Mk q E z T w B g L k) (hb : Below w.heap.size w w') : Mk q E z T w' B g L k := by
  obtain ⟨h1, h2, U, h3, h4, h5, h6⟩ := h
  refine ⟨h1, h2, U, h3, h4, fun j c a hc ha => hE _ _ _ _ _ (Kept.of hb _) (h5 j c a hc ha), ?_⟩
  refine World.ownsRow.kept h6 (grown_of_below hb) ?_
  cases (Value.slice (some ⟨g, 0, none⟩) L.length L.length).ownBlock with
  | none => exact Or.inl rfl
  | some b => exact Or.inr (by simp)
theorem Mk.at {α : Type} {q : Nat} {E : World → Nat → List Value → α → Prop} {z : List Value} {T : TypeId} {w : World} {B g : Nat} {L : List α} {k : Nat} (h : Mk q E z T w B g L k) (hk : k < L.length) : B ≤ g ∧ g < w.heap.size ∧ (∀ o, w.frozen? ⟨g, o, none⟩ = false) ∧ ∀ i u, z[i]? = some u → w.cell? ⟨g, k * q + i, none⟩ = some u := by
  obtain ⟨h1, h2, U, h3, h4, h5, h6⟩ := h
  have hlt := World.ownsRow.lt h6 g rfl
  refine ⟨hlt.1, hlt.2, fun o => World.ownsRow.frozenAt h6 o, fun i u hu => ?_⟩
  have hi : i < q := by rw [← h1]; exact (List.getElem?_eq_some_iff.1 hu).1
  have hx : (k + 1) * q ≤ L.length * q := Nat.mul_le_mul_right _ hk
  rw [Nat.succ_mul] at hx
  have hU : ∀ c ∈ U ++ List.replicate (L.length - k) z, c.length = q := by
    intro c hc
    rcases List.mem_append.1 hc with hc | hc
    · exact h4 c hc
    · rw [List.eq_of_mem_replicate hc]; exact h1
  have hz : (U ++ List.replicate (L.length - k) z)[k]? = some z := by
    rw [List.getElem?_append_right (by omega), h3, Nat.sub_self, List.getElem?_replicate, if_pos (by omega)]
  rw [World.ownsRow.cellAt h6 (k * q + i) (by omega), flat_at _ k z hU hz i hi, hu]
theorem Mk.push {α : Type} {q : Nat} {E : World → Nat → List Value → α → Prop} (hE : KeepsE E) {z c : List Value} {T : TypeId} {w w' : World} {B g : Nat} {L : List α} {k : Nat} {a : α} (h : Mk q E z T w B g L k) (hk : L[k]? = some a) (hc : c.length = q) (hEc : E w (g + 1) c a) (hkept : Kept (g + 1) w w')
    (hrow : ∀ A C : List Value, A.length = k * q → w.ownsRow B T q (.slice (some ⟨g, 0, none⟩) L.length L.length) L.length (A ++ (z ++ C)) → w'.ownsRow B T q (.slice (some ⟨g, 0, none⟩) L.length L.length) L.length (A ++ (c ++ C))) : Mk q E z T w' B g L (k + 1) := by
  obtain ⟨h1, h2, U, h3, h4, h5, h6⟩ := h
  have hlt : k < L.length := (List.getElem?_eq_some_iff.1 hk).1
  refine ⟨h1, hlt, U ++ [c], by simp [h3], ?_, ?_, ?_⟩
  · intro d hd
    rcases List.mem_append.1 hd with hd | hd
    · exact h4 d hd
    · simp at hd; subst hd; exact hc
  · intro j d b hd hb
    by_cases e : j < k
    · rw [List.getElem?_append_left (by omega)] at hd
      exact hE _ _ _ _ _ hkept (h5 j d b hd hb)
    · have ej : j = k := by
        have := (List.getElem?_eq_some_iff.1 hd).1
        simp [h3] at this; omega
      subst ej
      rw [hk] at hb
      cases hb
      rw [List.getElem?_append_right (by omega), h3] at hd
      simp at hd
      subst hd
      exact hE _ _ _ _ _ hkept hEc
  · have e : L.length - k = (L.length - (k + 1)) + 1 := by omega
    rw [e, List.replicate_succ] at h6
    have := hrow U.flatten (List.replicate (L.length - (k + 1)) z).flatten (by rw [flat_size U h4, h3]) (by simpa using h6)
    simpa using this
theorem Mk.done {α : Type} {q : Nat} {E : World → Nat → List Value → α → Prop} (hD : DropsE E) {z : List Value} {T : TypeId} {w : World} {B g : Nat} {L : List α} (h : Mk q E z T w B g L L.length) : Els q E w g (some ⟨g, 0, none⟩) L := by
  obtain ⟨h1, h2, U, h3, h4, h5, h6⟩ := h
  have hlt := World.ownsRow.lt h6 g rfl
  rw [Nat.sub_self] at h6
  simp only [List.replicate_zero, List.append_nil] at h6
  refine Or.inr ⟨g, 0, rfl, Nat.le_refl _, hlt.2, fun j a ha => ?_⟩
  have hj : j < L.length := (List.getElem?_eq_some_iff.1 ha).1
  obtain ⟨c, hc⟩ := get_some (L := U) (k := j) (by omega)
  refine ⟨c, h4 c (List.mem_of_getElem? hc), fun i u hu => ?_, hD _ _ _ _ _ (Nat.le_succ g) (h5 j c a hc ha)⟩
  have hi : i < q := by rw [← h4 c (List.mem_of_getElem? hc)]; exact (List.getElem?_eq_some_iff.1 hu).1
  have hx : (j + 1) * q ≤ L.length * q := Nat.mul_le_mul_right _ hj
  rw [Nat.succ_mul] at hx
  rw [Nat.zero_add, World.ownsRow.cellAt h6 (j * q + i) (by omega), flat_at U j c h4 hc i hi, hu]
theorem put4 {w : World} {B g n k : Nat} {T : TypeId} {A C : List Value} {x0 x1 x2 x3 u0 u1 u2 u3 : Value} (hA : A.length = k * 4) (h : w.ownsRow B T 4 (.slice (some ⟨g, 0, none⟩) n n) n (A ++ ([x0, x1, x2, x3] ++ C))) : ((((w.setCell ⟨g, k * 4, none⟩ u0).setCell ⟨g, k * 4 + 1, none⟩ u1).setCell ⟨g, k * 4 + 2, none⟩ u2).setCell ⟨g, k * 4 + 3, none⟩ u3).ownsRow B T 4 (.slice (some ⟨g, 0, none⟩) n n) n (A ++ ([u0, u1, u2, u3] ++ C)) := by
  have h1 := (World.ownsRow.stored h (A.length + 0) u0).1
  rw [set_mid _ _ _ _ _ (by simp)] at h1
  have h2 := (World.ownsRow.stored h1 (A.length + 1) u1).1
  rw [set_mid _ _ _ _ _ (by simp)] at h2
  have h3 := (World.ownsRow.stored h2 (A.length + 2) u2).1
  rw [set_mid _ _ _ _ _ (by simp)] at h3
  have h4 := (World.ownsRow.stored h3 (A.length + 3) u3).1
  rw [set_mid _ _ _ _ _ (by simp), hA] at h4
  exact h4
/-- the values that a mark leaves: its counter, cell by cell. -/
def mV1 (k : Int) : V4 := (k, k + 1, floatOfInt .f64 (k + 1 + 1), floatOfInt .f64 (k + 1 + 1 + 1))
def mVs (k : Int) (n : Nat) : List V4 := (List.range n).map fun (i : Nat) => mV1 (k + 4 * (i : Int))
theorem mVs_len (k : Int) (n : Nat) : (mVs k n).length = n := by simp [mVs]
theorem mVs_succ (k : Int) (n : Nat) : mVs k (n + 1) = mVs k n ++ [mV1 (k + 4 * (n : Int))] := by simp [mVs, List.range_succ]
theorem mVs_at (k : Int) (n j : Nat) (h : j < n) : (mVs k n)[j]? = some (mV1 (k + 4 * (j : Int))) := by simp [mVs, h]
theorem vcells_len (v : V4) : (vcells v).length = 4 := rfl
def VR (w : World) (B g n cap : Nat) (L : List V4) : Prop := w.ownsRow B 64 4 (.slice (some ⟨g, 0, none⟩) n cap) n (L.flatMap vcells)
theorem VR.lt {w : World} {B g n cap : Nat} {L : List V4} (h : VR w B g n cap L) : B ≤ g ∧ g < w.heap.size := World.ownsRow.lt h g rfl
theorem VR.cells {w : World} {B g n cap : Nat} {L : List V4} (h : VR w B g n cap L) (hn : L.length = n) {j : Nat} {a : V4} (ha : L[j]? = some a) : w.cell? ⟨g, j * 4, none⟩ = some (.int .i64 a.1) ∧ w.cell? ⟨g, j * 4 + 1, none⟩ = some (.int .i64 a.2.1) ∧ w.cell? ⟨g, j * 4 + 2, none⟩ = some (.float .f64 a.2.2.1) ∧ w.cell? ⟨g, j * 4 + 3, none⟩ = some (.float .f64 a.2.2.2) ∧ ∀ o, w.frozen? ⟨g, o, none⟩ = false := by
  have hj : j < L.length := (List.getElem?_eq_some_iff.1 ha).1
  have e : ∀ i u, (vcells a)[i]? = some u → w.cell? ⟨g, j * 4 + i, none⟩ = some u := by
    intro i u hu
    have hi : i < 4 := (List.getElem?_eq_some_iff.1 hu).1
    rw [World.ownsRow.cellAt h (j * 4 + i) (by omega), flat_get vcells_len L j a ha i hi, hu]
  exact ⟨e 0 _ rfl, e 1 _ rfl, e 2 _ rfl, e 3 _ rfl, fun o => World.ownsRow.frozenAt h o⟩
theorem VR.put {w : World} {B g n cap : Nat} {A C : List V4} {p q : V4} (h : VR w B g n cap (A ++ p :: C)) :
    VR ((((w.setCell ⟨g, A.length * 4, none⟩ (.int .i64 q.1)).setCell ⟨g, A.length * 4 + 1, none⟩ (.int .i64 q.2.1)).setCell ⟨g, A.length * 4 + 2, none⟩ (.float .f64 q.2.2.1)).setCell ⟨g, A.length * 4 + 3, none⟩ (.float .f64 q.2.2.2)) B g n cap (A ++ q :: C) := by
  have hA : (A.flatMap vcells).length = A.length * 4 := flat_len vcells_len A
  have e1 : (A ++ p :: C).flatMap vcells = A.flatMap vcells ++ (vcells p ++ C.flatMap vcells) := by simp
  have e2 : (A ++ q :: C).flatMap vcells = A.flatMap vcells ++ (vcells q ++ C.flatMap vcells) := by simp
  unfold VR at h ⊢
  rw [e1] at h
  rw [e2]
  have h1 := (World.ownsRow.stored h ((A.flatMap vcells).length + 0) (.int .i64 q.1)).1
  rw [set_mid _ _ _ _ _ (by simp [vcells])] at h1
  have h2 := (World.ownsRow.stored h1 ((A.flatMap vcells).length + 1) (.int .i64 q.2.1)).1
  rw [set_mid _ _ _ _ _ (by simp [vcells])] at h2
  have h3 := (World.ownsRow.stored h2 ((A.flatMap vcells).length + 2) (.float .f64 q.2.2.1)).1
  rw [set_mid _ _ _ _ _ (by simp [vcells])] at h3
  have h4 := (World.ownsRow.stored h3 ((A.flatMap vcells).length + 3) (.float .f64 q.2.2.2)).1
  rw [set_mid _ _ _ _ _ (by simp [vcells]), hA] at h4
  exact h4
/-- nothing that was there turns but block g. -/
def Only (g : Nat) (w w' : World) : Prop := w.os = w'.os ∧ w.heap.size ≤ w'.heap.size ∧ (∀ W : World, ∀ B, B ≤ g → Below B W w → Below B W w') ∧ ∀ k, ¬ k = g → k < w.heap.size → w'.heap[k]? = w.heap[k]?
theorem Only.refl (g : Nat) (w : World) : Only g w w := ⟨rfl, Nat.le_refl _, fun _ _ _ h => h, fun _ _ _ => rfl⟩
theorem Only.set {g : Nat} {w w' : World} (h : Only g w w') (o : Nat) (u : Value) : Only g w (w'.setCell ⟨g, o, none⟩ u) :=
  ⟨h.1.trans rfl, by simpa using h.2.1, fun W B hB hW => (h.2.2.1 W B hB hW).setCell hB u, fun k hk hl => (Below.heap_setCell w' ⟨g, o, none⟩ u k (by dsimp only; omega)).trans (h.2.2.2 k hk hl)⟩
theorem Only.kept {g B : Nat} {w w' : World} (h : Only g w w') (hB : g < B) : Kept B w w' := ⟨h.2.1, fun k hk hl => h.2.2.2 k (by omega) hl⟩
theorem Only.trans {g : Nat} {a b c : World} (h : Only g a b) (k : Only g b c) : Only g a c :=
  ⟨h.1.trans k.1, Nat.le_trans h.2.1 k.2.1, fun W B hB hW => k.2.2.1 W B hB (h.2.2.1 W B hB hW), fun i hi hl => (k.2.2.2 i hi (Nat.lt_of_lt_of_le hl h.2.1)).trans (h.2.2.2 i hi hl)⟩
theorem Only.of {g : Nat} {a b : World} (h : Below a.heap.size a b) (hg : g < a.heap.size) : Only g a b :=
  ⟨h.os.symm, h.size, fun W B hB hW => hW.trans (h.mono (by omega)), fun i _ hl => h.block i hl⟩
def OV (w : World) (B : Nat) (v : Value) (L : List V4) : Prop := w.ownsRow B 64 4 v L.length (L.flatMap vcells)
theorem OV.form {w : World} {B : Nat} {v : Value} {L : List V4} (h : OV w B v L) : (v = .slice none 0 0 ∧ L = []) ∨ ∃ g cap, v = .slice (some ⟨g, 0, none⟩) L.length cap ∧ B ≤ g ∧ VR w B g L.length cap L := by
  rcases h.2 with ⟨h1, h2⟩ | ⟨g, cap, cur, rfl, hb, r⟩
  · exact Or.inl ⟨h1, List.length_eq_zero_iff.1 h2⟩
  · exact Or.inr ⟨g, cap, rfl, hb, h⟩
theorem OV.later {w w' : World} {B : Nat} {v : Value} {L : List V4} (h : OV w B v L) (hb : Below w.heap.size w w') : OV w' B v L := by
  refine World.ownsRow.kept h (grown_of_below hb) ?_
  cases v.ownBlock with
  | none => exact Or.inl rfl
  | some b => exact Or.inr (by simp)
theorem OV.kept {w w' : World} {B : Nat} {v : Value} {L : List V4} (h : OV w B v L) (hk : Kept B w w') : OV w' B v L := by
  refine ⟨h.1, ?_⟩
  rcases h.2 with h' | ⟨g, cap', cur, h', hb, hg, r⟩
  · exact Or.inl h'
  · exact Or.inr ⟨g, cap', cur, h', hb, (hk.2 g hb (Array.getElem?_eq_some_iff.1 hg).1).trans hg, r⟩
/-- .. seen from blocks that lie below. -/
theorem OV.under {w w' : World} {B C : Nat} {v : Value} {L : List V4} (h : OV w B v L) (hb : Below C w w') (hv : ∀ g, v.ownBlock = some g → g < C) : OV w' B v L := by
  refine ⟨h.1, ?_⟩
  rcases h.2 with h' | ⟨g, cap', cur, h', hb', hg, r⟩
  · exact Or.inl h'
  · refine Or.inr ⟨g, cap', cur, h', hb', ?_, r⟩
    subst h'
    exact (hb.block g (hv g rfl)).trans hg
theorem OV.shape {w : World} {B : Nat} {v : Value} {L : List V4} (h : OV w B v L) : ∃ s c, v = .slice s L.length c := by
  rcases h.form with ⟨rfl, rfl⟩ | ⟨g, cap, rfl, _⟩
  · exact ⟨_, _, rfl⟩
  · exact ⟨_, _, rfl⟩
theorem OV.els {w : World} {B : Nat} {s : Option Addr} {n c : Nat} {L : List V4} (h : OV w B (.slice s n c) L) (ok : ∀ v ∈ L, okV v) : Els 4 cVal w B s L := by
  rcases h.form with ⟨h1, rfl⟩ | ⟨g, cap, h1, _, hr⟩
  · exact Or.inl rfl
  · simp only [Value.slice.injEq] at h1
    obtain ⟨rfl, rfl, rfl⟩ := h1
    exact els_of_row vcells_len h (fun a ha => ⟨rfl, ok a ha⟩)
theorem ofInt_lt' (n : Int) : floatOfInt .f64 n < 18446744073709551616 := by
  have := floatOfInt_wf .f64 n
  simpa [Lit.wf] using this
theorem Blk.same {w w' : World} {n : Nat} {c : Array Value} {t : TypeId} (h : Blk w n c t) (hb : w'.heap[n]? = w.heap[n]?) : Blk w' n c t := by unfold Blk; rw [hb]; exact h
/-- what a copy of a list leaves. -/
def Made {α : Type} (q : Nat) (E : World → Nat → List Value → α → Prop) (w : World) (L : List α) (e : Ending) (w' : World) : Prop :=
  ∃ g, e = .returned (.slice (some ⟨g, 0, none⟩) L.length L.length) ∧ w.heap.size ≤ g ∧ Els q E w' g (some ⟨g, 0, none⟩) L ∧ Below w.heap.size w w'
theorem Try.infoV : (Try.prog.info? 64).map (fun i => (i.zero, i.size, i.bytes)) = some (some (.agg #[.int .i64 0, .int .i64 0, .float .f64 0, .float .f64 0]), 4, 32) := by kernel_rfl
theorem boxTwo (w : World) (c d : Array Value) (t u : TypeId) : Blk ((w.alloc (.cells c t)).alloc (.cells d u)) w.heap.size c t ∧ Blk ((w.alloc (.cells c t)).alloc (.cells d u)) (w.heap.size + 1) d u ∧ Below w.heap.size w ((w.alloc (.cells c t)).alloc (.cells d u)) :=
  ⟨(blk2 w c d t u).1, (blk2 w c d t u).2, bl_alloc (bl_alloc (Below.refl _ _) _) _⟩
def okV4 (v : V4) : Bool := okB v.1 v.2.1 v.2.2.1 v.2.2.2
/-- a right value of a kind. -/
def vofB (k : Int) (v : V4) : Bool := v.1 == k && okV4 v
theorem kcell {W w1 : World} {b o : Nat} {v : Value} (hb : Below W.heap.size W w1) (h : W.cell? ⟨b, o, none⟩ = some v) : w1.cell? ⟨b, o, none⟩ = some v := (hb.cell (p := ⟨b, o, none⟩) (World.block_lt_of_cell? _ _ h)).trans h
end Go.Proofs.Ytpfamdpgcbpiaaa
