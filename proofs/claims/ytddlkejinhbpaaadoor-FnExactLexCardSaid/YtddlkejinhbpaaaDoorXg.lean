import Derived.Test.YtddlkejinhbpaaaDoorBk
import Derived.Test.YtddlkejinhbpaaaDoorXe
import Derived.Deep.RegionHeld3
import Derived.Deep.AppendLies
import Derived.Deep.RegionLaw
import Derived.Maps.AppendAt
namespace Go.Proofs.YtddlkejinhbpaaaDoor
open Go.RowKit
set_option linter.unusedVariables false
set_option linter.unusedSimpArgs false

theorem ret_bool' {a b : Bool} (h : a = b) : Ending.returned (.bool a) = .returned (.bool b) := by rw [h]
theorem bcell2 {W w1 : World} (hb : Below W.heap.size W w1) : (∀ b o, (W.cell? ⟨b, o, none⟩).isSome = true → w1.cell? ⟨b, o, none⟩ = W.cell? ⟨b, o, none⟩) ∧ (∀ b o, (W.cell? ⟨b, o, none⟩).isSome = true → w1.frozen? ⟨b, o, none⟩ = W.frozen? ⟨b, o, none⟩) := by
  refine ⟨fun b o h => ?_, fun b o h => ?_⟩
  · obtain ⟨v, hv⟩ := Option.isSome_iff_exists.1 h
    exact hb.cell (p := ⟨b, o, none⟩) (World.block_lt_of_cell? _ _ hv)
  · obtain ⟨v, hv⟩ := Option.isSome_iff_exists.1 h
    exact hb.frozen (p := ⟨b, o, none⟩) (World.block_lt_of_cell? _ _ hv)
theorem alloc_old (W : World) (ob : Obj) (b o : Nat) (h : (W.cell? ⟨b, o, none⟩).isSome = true) : (W.alloc ob).cell? ⟨b, o, none⟩ = W.cell? ⟨b, o, none⟩ :=
  (bcell2 (bl_alloc (Below.refl _ W) ob)).1 b o h
theorem alloc_oldf (W : World) (ob : Obj) (b o : Nat) (h : (W.cell? ⟨b, o, none⟩).isSome = true) : (W.alloc ob).frozen? ⟨b, o, none⟩ = W.frozen? ⟨b, o, none⟩ :=
  (bcell2 (bl_alloc (Below.refl _ W) ob)).2 b o h
theorem grown_of_below {w w' : World} (hb : Below w.heap.size w w') : w.grownBy w' none := ⟨hb.os, hb.tape, hb.output, hb.size, fun k hk _ => hb.block k hk⟩
/-- only block b may have turned. -/
theorem Blk.kept {w w' : World} {n b : Nat} {c : Array Value} {t : TypeId} (h : Blk w n c t) (hg : w.grownBy w' (some b)) (hn : ¬ n = b) : Blk w' n c t := by
  unfold Blk; rw [hg.block n h.lt (by simp; exact hn)]; exact h
theorem grown_below {w w' : World} {b : Nat} (hg : w.grownBy w' (some b)) {B : Nat} (h : B ≤ b) (hB : B ≤ w.heap.size) : Below B w w' :=
  ⟨hg.os, hg.tape, hg.output, hg.size, fun k hk => hg.block k (by omega) (by simp; omega)⟩
theorem grown_refl (w : World) (r : Option Nat) : w.grownBy w r := ⟨rfl, rfl, rfl, Nat.le_refl _, fun _ _ _ => rfl⟩
theorem grown_trans {a b c : World} {r : Option Nat} (h : a.grownBy b r) (g : b.grownBy c r) : a.grownBy c r :=
  ⟨g.os.trans h.os, g.tape.trans h.tape, g.output.trans h.output, Nat.le_trans h.size g.size, fun k hk hr => (g.block k (Nat.lt_of_lt_of_le hk h.size) hr).trans (h.block k hk hr)⟩
theorem Blk.three' {w : World} {n : Nat} {a b c : Value} {t : TypeId} (h : Blk w n #[a, b, c] t) : w.cell? ⟨n, 0, none⟩ = some a ∧ w.cell? ⟨n, 1, none⟩ = some b ∧ w.cell? ⟨n, 2, none⟩ = some c ∧ ∀ o, w.frozen? ⟨n, o, none⟩ = false := ⟨h.cell 0, h.cell 1, h.cell 2, h.frozen⟩
theorem Blk.four' {w : World} {n : Nat} {a b c d : Value} {t : TypeId} (h : Blk w n #[a, b, c, d] t) : w.cell? ⟨n, 0, none⟩ = some a ∧ w.cell? ⟨n, 1, none⟩ = some b ∧ w.cell? ⟨n, 2, none⟩ = some c ∧ w.cell? ⟨n, 3, none⟩ = some d ∧ ∀ o, w.frozen? ⟨n, o, none⟩ = false := ⟨h.cell 0, h.cell 1, h.cell 2, h.cell 3, h.frozen⟩
/-- the blocks from B on are as they were. -/
def Kept (B : Nat) (w w' : World) : Prop := w.heap.size ≤ w'.heap.size ∧ ∀ k, B ≤ k → k < w.heap.size → w'.heap[k]? = w.heap[k]?
theorem Kept.refl (B : Nat) (w : World) : Kept B w w := ⟨Nat.le_refl _, fun _ _ _ => rfl⟩
theorem Kept.trans {B : Nat} {a b c : World} (h : Kept B a b) (g : Kept B b c) : Kept B a c :=
  ⟨Nat.le_trans h.1 g.1, fun k h1 h2 => (g.2 k h1 (Nat.lt_of_lt_of_le h2 h.1)).trans (h.2 k h1 h2)⟩
theorem Kept.of {w w' : World} (h : Below w.heap.size w w') (B : Nat) : Kept B w w' := ⟨h.size, fun k _ h2 => h.block k h2⟩
theorem Kept.set {B : Nat} (w : World) {p : Addr} (hp : p.block < B) (u : Value) : Kept B w (w.setCell p u) :=
  ⟨by simp, fun k h1 _ => Below.heap_setCell w p u k (by omega)⟩
theorem Kept.cell {B : Nat} {w w' : World} (h : Kept B w w') {b o : Nat} (hb : B ≤ b) (hl : b < w.heap.size) : w'.cell? ⟨b, o, none⟩ = w.cell? ⟨b, o, none⟩ :=
  World.cell?_of_block (w := w) (h.2 b hb hl)
/-- the cells of a row, element by element. -/
theorem flat_get {α : Type} {k : Nat} {f : α → List Value} (hf : ∀ a, (f a).length = k) : ∀ (L : List α) (j : Nat) (a : α), L[j]? = some a → ∀ i, i < k → (L.flatMap f)[j * k + i]? = (f a)[i]?
  | q :: L, 0, a, h, i, hi => by
    simp at h; subst h
    rw [List.flatMap_cons, List.getElem?_append_left (by rw [hf]; omega)]
    congr 1; omega
  | q :: L, j + 1, a, h, i, hi => by
    have := flat_get hf L j a (by simpa using h) i hi
    rw [List.flatMap_cons, List.getElem?_append_right (by rw [hf, Nat.succ_mul]; omega), hf, ← this]
    congr 1; rw [Nat.succ_mul]; omega
theorem flat_len {α : Type} {k : Nat} {f : α → List Value} (hf : ∀ a, (f a).length = k) : ∀ L : List α, (L.flatMap f).length = L.length * k
  | [] => by simp
  | q :: L => by rw [List.flatMap_cons, List.length_append, hf, flat_len hf L, List.length_cons, Nat.succ_mul]; omega
theorem set_mid (A M C : List Value) (i : Nat) (u : Value) (hi : i < M.length) : (A ++ (M ++ C)).set (A.length + i) u = A ++ (M.set i u ++ C) := by
  rw [List.set_append_right _ _ (by omega), show A.length + i - A.length = i by omega, List.set_append_left _ _ hi]
theorem get_some {α : Type} {L : List α} {k : Nat} (h : k < L.length) : ∃ a, L[k]? = some a := ⟨L[k], by simp [h]⟩
theorem Blk.same {w w' : World} {n : Nat} {c : Array Value} {t : TypeId} (h : Blk w n c t) (hb : w'.heap[n]? = w.heap[n]?) : Blk w' n c t := by unfold Blk; rw [hb]; exact h
theorem Blk.kept' {w w' : World} {n : Nat} {c : Array Value} {t : TypeId} {r : Option Nat} (h : Blk w n c t) (hg : w.grownBy w' r) (hr : ¬ r = some n) : Blk w' n c t := by
  unfold Blk; rw [hg.block n h.lt (fun e => hr e.symm)]; exact h
theorem Blk.drew {w : World} {n : Nat} {c : Array Value} {t : TypeId} (h : Blk w n c t) : Blk w.drew n c t := h
/-- a token: kind, place, text, whole number, real. -/
abbrev Tk := Int × Int × ByteArray × Int × Nat
def tcells (t : Tk) : List Value := [.int .i64 t.1, .int .i64 t.2.1, .string t.2.2.1, .int .i64 t.2.2.2.1, .float .f64 t.2.2.2.2]
theorem tcells_len (v : Tk) : (tcells v).length = 5 := rfl
def TR (w : World) (B g n cap : Nat) (L : List Tk) : Prop := w.ownsRow B 30 5 (.slice (some ⟨g, 0, none⟩) n cap) n (L.flatMap tcells)
theorem TR.lt {w : World} {B g n cap : Nat} {L : List Tk} (h : TR w B g n cap L) : B ≤ g ∧ g < w.heap.size := World.ownsRow.lt h g rfl
theorem TR.cells {w : World} {B g n cap : Nat} {L : List Tk} (h : TR w B g n cap L) (hn : L.length = n) {j : Nat} {a : Tk} (ha : L[j]? = some a) : w.cell? ⟨g, j * 5, none⟩ = some (.int .i64 a.1) ∧ w.cell? ⟨g, j * 5 + 1, none⟩ = some (.int .i64 a.2.1) ∧ w.cell? ⟨g, j * 5 + 2, none⟩ = some (.string a.2.2.1) ∧ w.cell? ⟨g, j * 5 + 3, none⟩ = some (.int .i64 a.2.2.2.1) ∧ w.cell? ⟨g, j * 5 + 4, none⟩ = some (.float .f64 a.2.2.2.2) ∧ ∀ o, w.frozen? ⟨g, o, none⟩ = false := by
  have hj : j < L.length := (List.getElem?_eq_some_iff.1 ha).1
  have e : ∀ i u, (tcells a)[i]? = some u → w.cell? ⟨g, j * 5 + i, none⟩ = some u := by
    intro i u hu
    have hi : i < 5 := (List.getElem?_eq_some_iff.1 hu).1
    rw [World.ownsRow.cellAt h (j * 5 + i) (by omega), flat_get tcells_len L j a ha i hi, hu]
  exact ⟨e 0 _ rfl, e 1 _ rfl, e 2 _ rfl, e 3 _ rfl, e 4 _ rfl, fun o => World.ownsRow.frozenAt h o⟩
theorem tcells_one (L : List Tk) : ∀ u ∈ L.flatMap tcells, u.oneCell' = true := by
  intro u hu
  simp only [List.mem_flatMap] at hu
  obtain ⟨t, _, ht⟩ := hu
  simp only [tcells, List.mem_cons, List.not_mem_nil, or_false] at ht
  rcases ht with rfl | rfl | rfl | rfl | rfl <;> rfl
theorem info_parts {P : Program} {e : TypeId} {z : Value} {s b : Nat} (h : (P.info? e).map (fun i => (i.zero, i.size, i.bytes)) = some (some z, s, b)) : ∃ i, P.info? e = some i ∧ i.zero = some z ∧ i.size = s ∧ i.bytes = b := by
  cases h0 : P.info? e with
  | none => rw [h0] at h; cases h
  | some i =>
    rw [h0] at h
    simp only [Option.map_some, Option.some.injEq, Prod.mk.injEq] at h
    exact ⟨i, rfl, h.1, h.2.1, h.2.2⟩
theorem Tryd.infoT : (Tryd.prog.info? 30).map (fun i => (i.zero, i.size, i.bytes)) = some (some (.agg #[.int .i64 0, .int .i64 0, .string ByteArray.empty, .int .i64 0, .float .f64 0]), 5, 48) := by kernel_rfl
def OT (w : World) (B : Nat) (v : Value) (L : List Tk) : Prop := w.ownsRow B 30 5 v L.length (L.flatMap tcells)
theorem OT.form {w : World} {B : Nat} {v : Value} {L : List Tk} (h : OT w B v L) : (v = .slice none 0 0 ∧ L = []) ∨ ∃ g cap, v = .slice (some ⟨g, 0, none⟩) L.length cap ∧ B ≤ g ∧ TR w B g L.length cap L := by
  rcases h.2 with ⟨h1, h2⟩ | ⟨g, cap, cur, rfl, hb, r⟩
  · exact Or.inl ⟨h1, List.length_eq_zero_iff.1 h2⟩
  · exact Or.inr ⟨g, cap, rfl, hb, h⟩
theorem OT.later {w w' : World} {B : Nat} {v : Value} {L : List Tk} (h : OT w B v L) (hb : Below w.heap.size w w') : OT w' B v L := by
  refine World.ownsRow.kept h (grown_of_below hb) ?_
  cases v.ownBlock with
  | none => exact Or.inl rfl
  | some b => exact Or.inr (by simp)
theorem OT.kept {w w' : World} {B : Nat} {v : Value} {L : List Tk} (h : OT w B v L) (hk : Kept B w w') : OT w' B v L := by
  refine ⟨h.1, ?_⟩
  rcases h.2 with h' | ⟨g, cap', cur, h', hb, hg, r⟩
  · exact Or.inl h'
  · exact Or.inr ⟨g, cap', cur, h', hb, (hk.2 g hb (Array.getElem?_eq_some_iff.1 hg).1).trans hg, r⟩
/-- .. seen from blocks that lie below. -/
theorem OT.under {w w' : World} {B C : Nat} {v : Value} {L : List Tk} (h : OT w B v L) (hb : Below C w w') (hv : ∀ g, v.ownBlock = some g → g < C) : OT w' B v L := by
  refine ⟨h.1, ?_⟩
  rcases h.2 with h' | ⟨g, cap', cur, h', hb', hg, r⟩
  · exact Or.inl h'
  · refine Or.inr ⟨g, cap', cur, h', hb', ?_, r⟩
    subst h'
    exact (hb.block g (hv g rfl)).trans hg
theorem OT.shape {w : World} {B : Nat} {v : Value} {L : List Tk} (h : OT w B v L) : ∃ s c, v = .slice s L.length c := by
  rcases h.form with ⟨rfl, rfl⟩ | ⟨g, cap, rfl, _⟩
  · exact ⟨_, _, rfl⟩
  · exact ⟨_, _, rfl⟩
theorem OT.mono {w : World} {B B' : Nat} {v : Value} {L : List Tk} (h : OT w B v L) (hB : B' ≤ B) : OT w B' v L := by
  refine ⟨h.1, ?_⟩
  rcases h.2 with h' | ⟨g, cap', cur, h', hb, r⟩
  · exact Or.inl h'
  · exact Or.inr ⟨g, cap', cur, h', Nat.le_trans hB hb, r⟩
/-- nothing turns but the blocks from B on, and of what was there the list's own. -/
def Just (v : Value) (B : Nat) (w w' : World) : Prop := Below B w w' ∧ ∀ k, ¬ v.ownBlock = some k → k < w.heap.size → w'.heap[k]? = w.heap[k]?
theorem Just.refl (v : Value) (B : Nat) (w : World) : Just v B w w := ⟨Below.refl _ _, fun _ _ _ => rfl⟩
/-- two lists share no block. -/
def Ap (v u : Value) : Prop := ∀ g, v.ownBlock = some g → ¬ u.ownBlock = some g
theorem OT.same {w w' : World} {B : Nat} {u : Value} {L : List Tk} (h : OT w B u L) (hs : ∀ g, u.ownBlock = some g → g < w.heap.size → w'.heap[g]? = w.heap[g]?) : OT w' B u L := by
  refine ⟨h.1, ?_⟩
  rcases h.2 with h' | ⟨g, cap', cur, h', hb', hg, r⟩
  · exact Or.inl h'
  · refine Or.inr ⟨g, cap', cur, h', hb', ?_, r⟩
    subst h'
    exact (hs g rfl (Array.getElem?_eq_some_iff.1 hg).1).trans hg
theorem OT.just {w w' : World} {B C : Nat} {v u : Value} {L : List Tk} (h : OT w B u L) (hj : Just v C w w') (ha : Ap v u) : OT w' B u L :=
  h.same fun g hg hl => hj.2 g (fun e => ha g e hg) hl
theorem OT.lt {w : World} {B : Nat} {v : Value} {L : List Tk} (h : OT w B v L) : ∀ g, v.ownBlock = some g → B ≤ g ∧ g < w.heap.size := World.ownsRow.lt h
theorem OT.alloc {w : World} {B : Nat} {v : Value} {G : List Tk} (h : OT w B v G) (o : Obj) : OT (w.alloc o) B v G := h.later (bl_alloc (Below.refl _ w) o)
theorem OT.grown {w w' : World} {B : Nat} {v : Value} {G : List Tk} {r : Option Nat} (h : OT w B v G) (hg : w.grownBy w' r) (hn : ∀ k, v.ownBlock = some k → ¬ r = some k) : OT w' B v G :=
  h.same fun g hg' hl => hg.block g hl (fun e => hn g hg' e.symm)
theorem grown_setCell (w : World) (n o : Nat) (u : Value) : w.grownBy (w.setCell ⟨n, o, none⟩ u) (some n) :=
  ⟨rfl, rfl, rfl, by simp, fun k hk hne => Below.heap_setCell w ⟨n, o, none⟩ u k (by dsimp only; exact fun e => hne (by rw [e]))⟩
theorem OT.other {w : World} {B : Nat} {v : Value} {G : List Tk} (h : OT w B v G) {n : Nat} (hn : ¬ v.ownBlock = some n) (o : Nat) (u : Value) : OT (w.setCell ⟨n, o, none⟩ u) B v G :=
  h.grown (grown_setCell w n o u) (fun k hk e => hn (by cases e; exact hk))
theorem OT.cap {w : World} {B : Nat} {s : Option Addr} {n c : Nat} {L : List Tk} (h : OT w B (.slice s n c) L) : n ≤ c := by
  rcases h.2 with ⟨h1, _⟩ | ⟨g, cap, cur, h1, _, _, h2, _⟩
  · simp only [Value.slice.injEq] at h1; omega
  · simp only [Value.slice.injEq] at h1
    obtain ⟨_, rfl, rfl⟩ := h1
    exact h2
/-- where an append leaves the list: where it was, or in the next block. -/
def Near (w : World) (v v' : Value) : Prop := ∀ g, v'.ownBlock = some g → v.ownBlock = some g ∨ g = w.heap.size
theorem OT.one {w : World} {b : Nat} {t : Tk} (h : Blk w b #[.int .i64 t.1, .int .i64 t.2.1, .string t.2.2.1, .int .i64 t.2.2.2.1, .float .f64 t.2.2.2.2] 30) : OT w b (.slice (some ⟨b, 0, none⟩) 1 1) [t] :=
  ⟨rfl, Or.inr ⟨b, 1, _, rfl, Nat.le_refl _, h, Nat.le_refl _, by unfold maxLen; omega, rfl, rfl⟩⟩
theorem append_tok (w : World) (ty : TypeId) (Bs : Nat) (s : Option Addr) (c : Nat) (L : List Tk) (hv : OT w Bs (.slice s L.length c) L) (b : Nat) (t : Tk) (hb : Blk w b #[.int .i64 t.1, .int .i64 t.2.1, .string t.2.2.1, .int .i64 t.2.2.2.1, .float .f64 t.2.2.2.2] 30) (hl : L.length ≤ 4194304) (hB : Bs ≤ w.heap.size) :
    ∃ s' c' w', (Builtin.append_ #[22, 22] ty #[.slice s L.length c, .slice (some ⟨b, 0, none⟩) 1 1]).run Tryd.prog w = .ok (.slice s' (L ++ [t]).length c') w' ∧ OT w' Bs (.slice s' (L ++ [t]).length c') (L ++ [t]) ∧ w.grownBy w' (Value.slice s L.length c).ownBlock ∧ Near w (.slice s L.length c) (.slice s' (L ++ [t]).length c') := by
  obtain ⟨i0, hi, hz0, hz1, hz2⟩ := info_parts Tryd.infoT
  have hnews : ∀ j u, (tcells t)[j]? = some u → w.cell? ((⟨b, 0, none⟩ : Addr).add j) = some u := by
    intro j u hu
    have hj : j < 5 := (List.getElem?_eq_some_iff.1 hu).1
    have e : ((⟨b, 0, none⟩ : Addr).add j) = ⟨b, j, none⟩ := by rw [Go.WideShapes.add_plain, Nat.zero_add]
    rw [e]
    match j, hj with
    | 0, _ => exact (hb.cell 0).trans hu
    | 1, _ => exact (hb.cell 1).trans hu
    | 2, _ => exact (hb.cell 2).trans hu
    | 3, _ => exact (hb.cell 3).trans hu
    | 4, _ => exact (hb.cell 4).trans hu
  obtain ⟨v', w', hrun, h2, h3, _, h5⟩ := run_append_own_at (P := Tryd.prog) w Bs 22 ty 30 i0 (.agg #[.int .i64 0, .int .i64 0, .string ByteArray.empty, .int .i64 0, .float .f64 0]) 5 48 Tryd.underlying22 hi hz0 hz1 hz2 rfl (by decide) (.slice s L.length c) L.length (L.flatMap tcells) hv ⟨b, 0, none⟩ 1 1 (tcells t) rfl hnews (by intro u hu; exact tcells_one [t] u (by simpa using hu)) (by unfold maxLen; omega) (by omega) hB
  have hO : OT w' Bs v' (L ++ [t]) := by
    unfold OT
    rw [List.length_append, List.flatMap_append]
    simpa using h2
  obtain ⟨s', c', rfl⟩ := hO.shape
  refine ⟨s', c', w', hrun, hO, h3, ?_⟩
  intro q hq
  rcases h5 with h5 | h5
  · left; rw [← h5]; exact hq
  · right; rw [h5] at hq; cases hq; rfl
end Go.Proofs.YtddlkejinhbpaaaDoor
