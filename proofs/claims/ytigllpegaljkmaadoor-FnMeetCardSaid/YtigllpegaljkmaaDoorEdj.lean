import Derived.Test.YtigllpegaljkmaaDoorBasej
import Derived.Laws.OwnMore
namespace Go.Proofs.YtigllpegaljkmaaDoor
open Go.RowKit

/-- a slice of whole numbers, as it can be read. -/
def Ints (w : World) (sl : Option Addr) (G : List Int) : Prop :=
  G = [] ∨ ∃ pb po, sl = some ⟨pb, po, none⟩ ∧ pb < w.heap.size ∧ ∀ j, j < G.length → w.cell? ⟨pb, po + j, none⟩ = some (.int .i64 (G.getD j 0))

theorem Ints.later {w w' : World} {sl : Option Addr} {G : List Int} (h : Ints w sl G) (hb : Below w.heap.size w w') : Ints w' sl G := by
  rcases h with h0 | ⟨pb, po, h0, h1, h2⟩
  · exact Or.inl h0
  · exact Or.inr ⟨pb, po, h0, Nat.lt_of_lt_of_le h1 hb.size, fun j hj => (hb.cell (p := ⟨pb, po + j, none⟩) h1).trans (h2 j hj)⟩

/-- .. and one of the call's own. -/
def Row (w : World) (B : Nat) (sl : Option Addr) (n cap : Nat) (G : List Int) : Prop :=
  w.ownsRow B 3 1 (.slice sl n cap) n (G.map (Value.int .i64))

theorem Row.ints {w : World} {B n cap : Nat} {sl : Option Addr} {G : List Int} (h : Row w B sl n cap G) : Ints w sl G ∧ n = G.length := by
  have hl : n = G.length := by have := h.1; simp at this; omega
  refine ⟨?_, hl⟩
  rcases h.2 with ⟨h', h0⟩ | ⟨g, cap', cur, h', hb, hg, r⟩
  · left
    exact List.length_eq_zero_iff.1 (by omega)
  · right
    simp only [Value.slice.injEq] at h'
    obtain ⟨rfl, -, rfl⟩ := h'
    refine ⟨g, 0, rfl, (Array.getElem?_eq_some_iff.1 hg).1, fun j hj => ?_⟩
    rw [Nat.zero_add, World.ownsRow.cellAt h j (by omega)]
    simp [hj]

/-- right things. -/
def okE (G F : List Int) : Bool := decide (G.length ≤ 2000 ∧ (∀ g ∈ G, 0 ≤ g ∧ g ≤ 1000000) ∧ (∀ f ∈ F, 0 ≤ f ∧ f < G.length) ∧ F.Nodup)

/-- which places stand in a list, as bits of 32 words; and which twice. -/
def Bits (pre : List Nat) (once twice : List (BitVec 64)) : Prop :=
  once.length = 32 ∧ twice.length = 32 ∧ ∀ p, p < 2048 →
    (once.getD (p / 64) 0).getLsbD (p % 64) = decide (p ∈ pre) ∧ (twice.getD (p / 64) 0).getLsbD (p % 64) = decide (2 ≤ pre.count p)

theorem rep_getD (n i : Nat) : (List.replicate n (0 : BitVec 64)).getD i 0 = 0 := by
  by_cases h : i < n <;> simp [List.getD, h]

theorem bits_nil : Bits [] (List.replicate 32 0) (List.replicate 32 0) := by
  refine ⟨by simp, by simp, fun p hp => ?_⟩
  rw [rep_getD]; simp

theorem bit_lsb (n i : Nat) (hi : i < 64) : ((1#64) <<< n).getLsbD i = decide (i = n) := by
  simp only [BitVec.getLsbD_shiftLeft, BitVec.getLsbD_one]
  by_cases h : i = n
  · subst h; simp [hi]
  · simp [h, hi]; omega

theorem bits_step {pre : List Nat} {once twice : List (BitVec 64)} {q : Nat} (hq : q < 2048) (h : Bits pre once twice) :
    Bits (pre ++ [q]) (once.set (q / 64) (once.getD (q / 64) 0 ||| (1#64) <<< (q % 64)))
      (twice.set (q / 64) (twice.getD (q / 64) 0 ||| (once.getD (q / 64) 0 &&& (1#64) <<< (q % 64)))) := by
  obtain ⟨h1, h2, h3⟩ := h
  refine ⟨by simp [h1], by simp [h2], fun p hp => ?_⟩
  obtain ⟨a, b⟩ := h3 p hp
  have l1 : q / 64 < once.length := by omega
  have l2 : q / 64 < twice.length := by omega
  have l3 : p % 64 < 64 := Nat.mod_lt _ (by omega)
  by_cases e : q / 64 = p / 64
  · have c1 : (once.set (q / 64) (once.getD (q / 64) 0 ||| (1#64) <<< (q % 64))).getD (p / 64) 0 = once.getD (p / 64) 0 ||| (1#64) <<< (q % 64) := by
      rw [← e]; simp [List.getD, l1]
    have c2 : (twice.set (q / 64) (twice.getD (q / 64) 0 ||| (once.getD (q / 64) 0 &&& (1#64) <<< (q % 64)))).getD (p / 64) 0 = twice.getD (p / 64) 0 ||| (once.getD (p / 64) 0 &&& (1#64) <<< (q % 64)) := by
      rw [← e]; simp [List.getD, l2]
    rw [c1, c2, BitVec.getLsbD_or, BitVec.getLsbD_or, BitVec.getLsbD_and, a, b, bit_lsb _ _ l3]
    by_cases f : p = q
    · subst f
      by_cases m : p ∈ pre
      · have := List.count_pos_iff.2 m
        simp [m]
      · have := List.count_eq_zero_of_not_mem m
        simp [m, this]
    · have g : ¬ p % 64 = q % 64 := by omega
      have k : List.count p [q] = 0 := by simp [Ne.symm f]
      simp [f, g, List.count_append, k]
  · have c1 : ∀ x, (once.set (q / 64) x).getD (p / 64) 0 = once.getD (p / 64) 0 := by intro x; simp [List.getD, List.getElem?_set_ne e]
    have c2 : ∀ x, (twice.set (q / 64) x).getD (p / 64) 0 = twice.getD (p / 64) 0 := by intro x; simp [List.getD, List.getElem?_set_ne e]
    have f : ¬ p = q := by intro h; subst h; exact e rfl
    rw [c1, c2, a, b]
    simp [f, List.count_append]
    rw [List.count_cons]; simp [Ne.symm f]

theorem bits_end {pre : List Nat} {once twice : List (BitVec 64)} (hp : ∀ q ∈ pre, q < 2048) (h : Bits pre once twice) : twice = List.replicate 32 0 ↔ pre.Nodup := by
  obtain ⟨h1, h2, h3⟩ := h
  constructor
  · intro e
    rw [List.nodup_iff_count]
    intro q
    by_cases m : q ∈ pre
    · have := (h3 q (hp q m)).2
      rw [e] at this
      rw [rep_getD] at this
      simp at this
      omega
    · have := List.count_eq_zero_of_not_mem m; omega
  · intro e
    rw [List.nodup_iff_count] at e
    apply List.ext_getElem (by simp [h2])
    intro i g1 g2
    simp only [List.getElem_replicate]
    apply BitVec.eq_of_getLsbD_eq
    intro j hj
    have := (h3 (64 * i + j) (by omega)).2
    have d1 : (64 * i + j) / 64 = i := by omega
    have d2 : (64 * i + j) % 64 = j := by omega
    have d3 : ¬ 2 ≤ pre.count (64 * i + j) := by have := e (64 * i + j); omega
    rw [d1, d2] at this
    simp [List.getD, g1, d3] at this
    simpa using this

theorem nodup_bound : ∀ (n : Nat) (l : List Nat), l.Nodup → (∀ q ∈ l, q < n) → l.length ≤ n := by
  intro n
  induction n with
  | zero =>
    intro l _ hb
    match l, hb with
    | [], _ => simp
    | q :: t, hb => exact absurd (hb q (by simp)) (by omega)
  | succ n ih =>
    intro l hn hb
    have h := ih (l.erase n) (hn.erase n) (fun q hq => by
      have h1 := hb q (List.mem_of_mem_erase hq)
      have h2 : q ≠ n := by
        intro e; subst e
        exact absurd hq (by simpa using hn.not_mem_erase)
      omega)
    have := List.length_erase (a := n) (l := l)
    split at this <;> omega


theorem take_succ' (F : List Int) (k : Nat) (h : k < F.length) : F.take (k + 1) = F.take k ++ [F[k]?.getD 0] := by
  rw [List.take_add_one, List.getElem?_eq_getElem h]; rfl

theorem getD_mem {F : List Int} {k : Nat} (h : k < F.length) : F[k]?.getD 0 ∈ F := by
  rw [List.getElem?_eq_getElem h]; exact List.getElem_mem h

/-- what a list of free places comes to. -/
def freeB (F : List Int) (n : Nat) : Bool := decide ((∀ f ∈ F, 0 ≤ f ∧ f < n) ∧ F.Nodup)
def gensB (G : List Int) : Bool := decide (∀ g ∈ G, 0 ≤ g ∧ g ≤ 1000000)

theorem okE_eq (G F : List Int) : okE G F = (decide (G.length ≤ 2000) && gensB G && freeB F G.length) := by
  unfold okE gensB freeB
  rw [Bool.eq_iff_iff]; simp [and_assoc]

theorem nodup_nat {F : List Int} (h : ∀ f ∈ F, 0 ≤ f) : (F.map Int.toNat).Nodup ↔ F.Nodup := by
  constructor
  · intro g
    unfold List.Nodup at g ⊢
    rw [List.pairwise_map] at g
    exact g.imp (fun {a b} hab e => hab (by rw [e]))
  · intro g
    unfold List.Nodup at g ⊢
    rw [List.pairwise_map]
    exact List.Pairwise.imp_of_mem (fun {a b} ha hb hab => by have := h a ha; have := h b hb; omega) g

theorem free_len {F : List Int} {n : Nat} (h : freeB F n = true) : F.length ≤ n := by
  simp only [freeB, decide_eq_true_eq] at h
  have := nodup_bound n (F.map Int.toNat) ((nodup_nat fun f hf => (h.1 f hf).1).2 h.2) (fun q hq => by
    obtain ⟨f, hf, rfl⟩ := List.mem_map.1 hq
    have := h.1 f hf; omega)
  simpa using this

end Go.Proofs.YtigllpegaljkmaaDoor
namespace Go.Proofs.YtigllpegaljkmaaDoor
open Go.RowKit
set_option linter.unusedVariables false

theorem ret_int {a b : Int} (h : a = b) : Ending.returned (.int .i64 a) = .returned (.int .i64 b) := by rw [h]
theorem ret_bool' {a b : Bool} (h : a = b) : Ending.returned (.bool a) = .returned (.bool b) := by rw [h]

theorem Tryd.infoI : (Tryd.prog.info? 3).map (fun i => (i.zero, i.size, i.bytes)) = some (some (.int .i64 0), 1, 8) := by kernel_rfl

/-- the first k of G, noughts behind them. -/
def part (G : List Int) (k : Nat) : List Int := G.take k ++ List.replicate (G.length - k) 0
theorem part_zero (G : List Int) : part G 0 = List.replicate G.length 0 := by simp [part]
theorem part_all (G : List Int) : part G G.length = G := by simp [part]
theorem part_set (G : List Int) (k : Nat) (h : k < G.length) : (part G k).set k (G[k]?.getD 0) = part G (k + 1) := by
  unfold part
  rw [take_succ' G k h, List.set_append_right _ _ (by simp; omega)]
  have e : G.length - k = (G.length - (k + 1)) + 1 := by omega
  rw [e, List.replicate_succ, List.length_take, Nat.min_eq_left (by omega), Nat.sub_self, List.set_cons_zero]
  simp

theorem Row.set {w : World} {B g n cap : Nat} {G : List Int} (h : Row w B (some ⟨g, 0, none⟩) n cap G) (j : Nat) (x : Int) : Row (w.setCell ⟨g, j, none⟩ (.int .i64 x)) B (some ⟨g, 0, none⟩) n cap (G.set j x) := by
  have := (World.ownsRow.stored h j (.int .i64 x)).1
  unfold Row
  rw [List.map_set]; exact this

theorem Row.cell {w : World} {B g n cap : Nat} {G : List Int} (h : Row w B (some ⟨g, 0, none⟩) n cap G) (j : Nat) (hj : j < n) : w.cell? ⟨g, j, none⟩ = some (.int .i64 (G[j]?.getD 0)) ∧ w.frozen? ⟨g, j, none⟩ = false := by
  have hl : n = G.length := by have := h.1; simp at this; omega
  refine ⟨?_, World.ownsRow.frozenAt h j⟩
  rw [World.ownsRow.cellAt h j (by omega)]
  have : j < G.length := by omega
  simp [this]

theorem Ints.get {w : World} {sl : Option Addr} {G : List Int} (h : Ints w sl G) {k : Nat} (hk : k < G.length) :
    ∃ pb po, sl = some ⟨pb, po, none⟩ ∧ pb < w.heap.size ∧ ∀ j, j < G.length → w.cell? ⟨pb, po + j, none⟩ = some (.int .i64 (G[j]?.getD 0)) := by
  rcases h with h0 | ⟨pb, po, h0, h1, h2⟩
  · subst h0; simp at hk
  · exact ⟨pb, po, h0, h1, fun j hj => by rw [h2 j hj]; simp⟩

end Go.Proofs.YtigllpegaljkmaaDoor
namespace Go.Proofs.YtigllpegaljkmaaDoor
open Go.RowKit

/-- a block of cells that no one has frozen. -/
def Blk (w : World) (n : Nat) (c : Array Value) (t : TypeId) : Prop := w.heap[n]? = some (.cells c t (0, 0))
theorem Blk.lt {w : World} {n : Nat} {c : Array Value} {t : TypeId} (h : Blk w n c t) : n < w.heap.size := (Array.getElem?_eq_some_iff.1 h).1
theorem Blk.new (w : World) (c : Array Value) (t : TypeId) : Blk (w.alloc (.cells c t)) w.heap.size c t := heap_alloc_new w _
theorem Blk.new' (w : World) (c : Array Value) (t : TypeId) {n : Nat} (h : n = w.heap.size) : Blk (w.alloc (.cells c t)) n c t := by subst h; exact heap_alloc_new w _
theorem Blk.later {w w' : World} {n : Nat} {c : Array Value} {t : TypeId} (h : Blk w n c t) (hb : Below w.heap.size w w') : Blk w' n c t := by
  unfold Blk; rw [hb.block n h.lt]; exact h
theorem Blk.alloc {w : World} {n : Nat} {c : Array Value} {t : TypeId} (h : Blk w n c t) (o : Obj) : Blk (w.alloc o) n c t := h.later (bl_alloc (Below.refl _ w) o)
theorem Blk.set {w : World} {n : Nat} {c : Array Value} {t : TypeId} (h : Blk w n c t) (o : Nat) (u : Value) : Blk (w.setCell ⟨n, o, none⟩ u) n (c.setIfInBounds o u) t := heap_setCell_same w n o c t u h
theorem Blk.other {w : World} {n : Nat} {c : Array Value} {t : TypeId} (h : Blk w n c t) {m : Nat} (hm : ¬ n = m) (o : Nat) (u : Value) : Blk (w.setCell ⟨m, o, none⟩ u) n c t := by
  unfold Blk; rw [heap_setCell_other w ⟨m, o, none⟩ n u (fun e => hm (by simpa using e))]; exact h
theorem Blk.cell {w : World} {n : Nat} {c : Array Value} {t : TypeId} (h : Blk w n c t) (o : Nat) : w.cell? ⟨n, o, none⟩ = c[o]? := cell_of_row w n o c t (0, 0) h
theorem Blk.frozen {w : World} {n : Nat} {c : Array Value} {t : TypeId} (h : Blk w n c t) (o : Nat) : w.frozen? ⟨n, o, none⟩ = false := frozen_of_row w n o c t h
theorem Blk.two {w : World} {n : Nat} {a b : Value} {t : TypeId} (h : Blk w n #[a, b] t) : w.cell? ⟨n, 0, none⟩ = some a ∧ w.cell? ⟨n, 1, none⟩ = some b ∧ ∀ o, w.frozen? ⟨n, o, none⟩ = false := ⟨h.cell 0, h.cell 1, h.frozen⟩
end Go.Proofs.YtigllpegaljkmaaDoor
namespace Go.Proofs.YtigllpegaljkmaaDoor
open Go.RowKit
set_option linter.unusedVariables false

theorem Row.mono {w : World} {B B' : Nat} {sl : Option Addr} {n cap : Nat} {G : List Int} (h : Row w B sl n cap G) (hB : B' ≤ B) : Row w B' sl n cap G := by
  refine ⟨h.1, ?_⟩
  rcases h.2 with h' | ⟨g, cap', cur, h', hb, r⟩
  · exact Or.inl h'
  · exact Or.inr ⟨g, cap', cur, h', Nat.le_trans hB hb, r⟩

theorem Row.later {w w' : World} {B : Nat} {sl : Option Addr} {n cap : Nat} {G : List Int} (h : Row w B sl n cap G) (hb : Below w.heap.size w w') : Row w' B sl n cap G := by
  refine ⟨h.1, ?_⟩
  rcases h.2 with h' | ⟨g, cap', cur, h', hB, hg, r⟩
  · exact Or.inl h'
  · exact Or.inr ⟨g, cap', cur, h', hB, by rw [hb.block g (Array.getElem?_eq_some_iff.1 hg).1]; exact hg, r⟩

theorem Row.other {w : World} {B b : Nat} {g n cap : Nat} {G : List Int} (h : Row w B (some ⟨g, 0, none⟩) n cap G) (hb : ¬ g = b) (o : Nat) (u : Value) : Row (w.setCell ⟨b, o, none⟩ u) B (some ⟨g, 0, none⟩) n cap G := by
  refine ⟨h.1, ?_⟩
  rcases h.2 with h' | ⟨g', cap', cur, h', hB, hg, r⟩
  · exact Or.inl h'
  · simp only [Value.slice.injEq, Option.some.injEq, Addr.mk.injEq, and_true, true_and] at h'
    obtain ⟨rfl, rfl⟩ := h'
    exact Or.inr ⟨g, cap, cur, rfl, hB, by rw [Below.heap_setCell _ _ _ _ hb]; exact hg, r⟩

theorem Row.lt {w : World} {B : Nat} {g n cap : Nat} {G : List Int} (h : Row w B (some ⟨g, 0, none⟩) n cap G) : B ≤ g ∧ g < w.heap.size := by
  rcases h.2 with ⟨h', _⟩ | ⟨g', cap', cur, h', hB, hg, r⟩
  · simp at h'
  · simp only [Value.slice.injEq, Option.some.injEq, Addr.mk.injEq, and_true, true_and] at h'
    obtain ⟨rfl, rfl⟩ := h'
    exact ⟨hB, (Array.getElem?_eq_some_iff.1 hg).1⟩

theorem Ints.alloc {w : World} {sl : Option Addr} {G : List Int} (h : Ints w sl G) (o : Obj) : Ints (w.alloc o) sl G := h.later (bl_alloc (Below.refl _ w) o)

theorem bcell2 {W w1 : World} (hb : Below W.heap.size W w1) : (∀ b o, (W.cell? ⟨b, o, none⟩).isSome = true → w1.cell? ⟨b, o, none⟩ = W.cell? ⟨b, o, none⟩) ∧ (∀ b o, (W.cell? ⟨b, o, none⟩).isSome = true → w1.frozen? ⟨b, o, none⟩ = W.frozen? ⟨b, o, none⟩) := by
  refine ⟨fun b o h => ?_, fun b o h => ?_⟩
  · obtain ⟨v, hv⟩ := Option.isSome_iff_exists.1 h
    exact hb.cell (p := ⟨b, o, none⟩) (World.block_lt_of_cell? _ _ hv)
  · obtain ⟨v, hv⟩ := Option.isSome_iff_exists.1 h
    exact hb.frozen (p := ⟨b, o, none⟩) (World.block_lt_of_cell? _ _ hv)
theorem alloc_old (W : World) (ob : Obj) (b o : Nat) (h : (W.cell? ⟨b, o, none⟩).isSome = true) : (W.alloc ob).cell? ⟨b, o, none⟩ = W.cell? ⟨b, o, none⟩ :=
  (bcell2 (bl_alloc (Below.refl _ W) ob)).1 b o h
theorem alloc_oldf (W : World) (ob : Obj) (b o : Nat) (h : (W.cell? ⟨b, o, none⟩).isSome = true) : (W.alloc ob).frozen? ⟨b, o, none⟩ = W.frozen? ⟨b, o, none⟩ :=
  (bcell2 (bl_alloc (Below.refl _ W) ob)).2 b o h

theorem cell3 (w : World) (c : Array Value) (t : TypeId) (o1 o2 : Obj) (i : Nat) : (((w.alloc (.cells c t)).alloc o1).alloc o2).cell? ⟨w.heap.size, i, none⟩ = c[i]? := by
  rw [World.cell?_alloc_lt _ _ _ (by simp; omega), World.cell?_alloc_lt _ _ _ (by simp), World.cell?_alloc_new]

/-- two rows of the call's own, apart. -/
def Rows2 (w : World) (B : Nat) (g f : Nat) (G F : List Int) : Prop :=
  Row w B (some ⟨g, 0, none⟩) G.length G.length G ∧ Row w B (some ⟨f, 0, none⟩) F.length F.length F ∧ ¬ g = f
theorem Rows2.later {w w' : World} {B g f : Nat} {G F : List Int} (h : Rows2 w B g f G F) (hb : Below w.heap.size w w') : Rows2 w' B g f G F := ⟨h.1.later hb, h.2.1.later hb, h.2.2⟩
theorem Rows2.mono {w : World} {B B' g f : Nat} {G F : List Int} (h : Rows2 w B g f G F) (hB : B' ≤ B) : Rows2 w B' g f G F := ⟨h.1.mono hB, h.2.1.mono hB, h.2.2⟩

theorem ext_getD {A B : List Int} (hl : A.length = B.length) (h : ∀ j, j < A.length → A[j]?.getD 0 = B[j]?.getD 0) : A = B := by
  apply List.ext_getElem hl
  intro j h1 h2
  have := h j h1
  simpa [h1, h2] using this

end Go.Proofs.YtigllpegaljkmaaDoor
namespace Go.Proofs.YtigllpegaljkmaaDoor
open Go.RowKit
set_option linter.unusedVariables false

/-- two values of two cells, as boxes one behind the other. -/
theorem blk2 (w : World) (c d : Array Value) (t u : TypeId) : Blk ((w.alloc (.cells c t)).alloc (.cells d u)) w.heap.size c t ∧ Blk ((w.alloc (.cells c t)).alloc (.cells d u)) (w.heap.size + 1) d u :=
  ⟨(Blk.new w c t).alloc _, Blk.new' _ d u (by simp)⟩

theorem decide_pair {A B C D : List Int} : decide ((A, B) = (C, D)) = (decide (A = C) && decide (B = D)) := by
  rw [Bool.eq_iff_iff]; simp

set_option maxHeartbeats 1000000 in
theorem l1In_any (x lo hi : Int) (w : World) :
    Calls Tryd.prog 24 #[.int .i64 x, .int .i64 lo, .int .i64 hi] w fun e w' => e = .returned (.bool (decide (lo ≤ x) && decide (x ≤ hi))) ∧ w' = w := by
  by_cases h1 : lo ≤ x
  · go_enter Tryd.func24, Tryd.ntmps24
    go_wp2
    go_ret
    exact ⟨ret_bool' (by simp [h1]), rfl⟩
  · go_enter Tryd.func24, Tryd.ntmps24
    go_wp2
    go_ret
    exact ⟨ret_bool' (by simp; omega), rfl⟩

theorem okE_badG {G F : List Int} {k : Nat} (hk : k < G.length) (h : ¬ (0 ≤ G[k]?.getD 0 ∧ G[k]?.getD 0 ≤ 1000000)) : okE G F = false := by
  simp only [okE, decide_eq_false_iff_not]
  exact fun g => h (g.2.1 _ (getD_mem hk))
theorem okE_badF {G F : List Int} {k : Nat} (hk : k < F.length) (h : ¬ (0 ≤ F[k]?.getD 0 ∧ F[k]?.getD 0 < G.length)) : okE G F = false := by
  simp only [okE, decide_eq_false_iff_not]
  exact fun g => h (g.2.2.1 _ (getD_mem hk))
theorem nodup_take {F : List Int} (h : F.Nodup) (k : Nat) : (F.take k).Nodup := h.sublist (List.take_sublist k F)
theorem nodup_snoc {A : List Int} {x : Int} : (A ++ [x]).Nodup ↔ A.Nodup ∧ ¬ x ∈ A := by
  rw [List.nodup_append]
  constructor
  · rintro ⟨h1, _, h3⟩
    exact ⟨h1, fun hx => h3 x hx x (by simp) rfl⟩
  · rintro ⟨h1, h2⟩
    refine ⟨h1, by simp, fun a ha b hb e => ?_⟩
    simp at hb
    subst hb
    exact h2 (e ▸ ha)
theorem okE_dup {G F : List Int} {k : Nat} (hk : k < F.length) (h : F[k]?.getD 0 ∈ F.take k) : okE G F = false := by
  simp only [okE, decide_eq_false_iff_not]
  intro g
  have := nodup_take g.2.2.2 (k + 1)
  rw [take_succ' F k hk, nodup_snoc] at this
  exact this.2 h
theorem okE_long {G F : List Int} (h : ¬ G.length ≤ 2000) : okE G F = false := by
  simp only [okE, decide_eq_false_iff_not]
  exact fun g => h g.1
theorem okE_much {G F : List Int} (h : ¬ F.length ≤ G.length) : okE G F = false := by
  rw [okE_eq]
  cases hb : freeB F G.length
  · simp
  · exact absurd (free_len hb) h
theorem okE_good {G F : List Int} (hn : G.length ≤ 2000) (hG : ∀ g ∈ G, 0 ≤ g ∧ g ≤ 1000000) (hF : ∀ f ∈ F, 0 ≤ f ∧ f < G.length) (hd : F.Nodup) : okE G F = true := by
  simp only [okE, decide_eq_true_eq]
  exact ⟨hn, hG, hF, hd⟩

/-- which places have been seen. -/
def Seen (w : World) (B sb n : Nat) (A : List Int) : Prop :=
  ∃ bs : List Bool, w.ownsRow B 4 1 (.slice (some ⟨sb, 0, none⟩) n n) n (bs.map Value.bool) ∧ ∀ p, p < n → bs[p]? = some (decide ((p : Int) ∈ A))

theorem Seen.new {w : World} {B sb n : Nat} (h : w.ownsRow B 4 1 (.slice (some ⟨sb, 0, none⟩) n n) n (List.replicate n (.bool false))) : Seen w B sb n [] :=
  ⟨List.replicate n false, by rw [List.map_replicate]; exact h, fun p hp => by simp [hp]⟩
theorem Seen.cell {w : World} {B sb n : Nat} {A : List Int} (h : Seen w B sb n A) {p : Nat} (hp : p < n) : w.cell? ⟨sb, p, none⟩ = some (.bool (decide ((p : Int) ∈ A))) ∧ w.frozen? ⟨sb, p, none⟩ = false := by
  obtain ⟨bs, h1, h2⟩ := h
  refine ⟨?_, World.ownsRow.frozenAt h1 p⟩
  rw [World.ownsRow.cellAt h1 p (by omega)]
  simp [h2 p hp]
theorem Seen.set {w : World} {B sb n : Nat} {A : List Int} (h : Seen w B sb n A) {p : Nat} (hp : p < n) : Seen (w.setCell ⟨sb, p, none⟩ (.bool true)) B sb n (A ++ [(p : Int)]) := by
  obtain ⟨bs, h1, h2⟩ := h
  have hl : bs.length = n := by have := h1.1; simp at this; exact this
  refine ⟨bs.set p true, by rw [List.map_set]; exact (World.ownsRow.stored h1 p _).1, fun q hq => ?_⟩
  by_cases e : p = q
  · subst e; simp [hl, hp]
  · rw [List.getElem?_set_ne e, h2 q hq]
    have : ¬ (q : Int) = (p : Int) := by omega
    simp [this]

theorem Tryd.infoB : (Tryd.prog.info? 4).map (fun i => (i.zero, i.size, i.bytes)) = some (some (.bool false), 1, 1) := by kernel_rfl

end Go.Proofs.YtigllpegaljkmaaDoor
