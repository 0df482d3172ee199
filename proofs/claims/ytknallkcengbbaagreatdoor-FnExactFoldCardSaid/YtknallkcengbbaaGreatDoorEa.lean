import Derived.Test.YtknallkcengbbaaGreatDoorBase
import Derived.Laws.OwnMore
namespace Go.Proofs.YtknallkcengbbaaGreatDoor
open Go.RowKit

/-- a slice of whole numbers, as it can be read. -/
def Ints (w : World) (sl : Option Addr) (G : List Int) : Prop :=
  G = [] ∨ ∃ pb po, sl = some ⟨pb, po, none⟩ ∧ pb < w.heap.size ∧ ∀ j, j < G.length → w.cell? ⟨pb, po + j, none⟩ = some (.int .i64 (G.getD j 0))

theorem Ints.later {w w' : World} {sl : Option Addr} {G : List Int} (h : Ints w sl G) (hb : Below w.heap.size w w') : Ints w' sl G := by
  rcases h with h0 | ⟨pb, po, h0, h1, h2⟩
  · exact Or.inl h0
  · exact Or.inr ⟨pb, po, h0, Nat.lt_of_lt_of_le h1 hb.size, fun j hj => (hb.cell (p := ⟨pb, po + j, none⟩) h1).trans (h2 j hj)⟩

/-- .. and one of the call's own. -/
def Row (w : World) (B : Nat) (sl : Option Addr) (n cap : Nat) (G : List Int) : Prop :=
  w.ownsRow B 3 1 (.slice sl n cap) n (G.map (Value.int .i64))

theorem Row.ints {w : World} {B n cap : Nat} {sl : Option Addr} {G : List Int} (h : Row w B sl n cap G) : Ints w sl G ∧ n = G.length := by
  have hl : n = G.length := by have := h.1; simp at this; omega
  refine ⟨?_, hl⟩
  rcases h.2 with ⟨h', h0⟩ | ⟨g, cap', cur, h', hb, hg, r⟩
  · left
    exact List.length_eq_zero_iff.1 (by omega)
  · right
    simp only [Value.slice.injEq] at h'
    obtain ⟨rfl, -, rfl⟩ := h'
    refine ⟨g, 0, rfl, (Array.getElem?_eq_some_iff.1 hg).1, fun j hj => ?_⟩
    rw [Nat.zero_add, World.ownsRow.cellAt h j (by omega)]
    simp [hj]

/-- right things. -/
def okE (G F : List Int) : Bool := decide (G.length ≤ 2000 ∧ (∀ g ∈ G, 0 ≤ g ∧ g ≤ 1000000) ∧ (∀ f ∈ F, 0 ≤ f ∧ f < G.length) ∧ F.Nodup)

/-- which places stand in a list, as bits of 32 words; and which twice. -/
def Bits (pre : List Nat) (once twice : List (BitVec 64)) : Prop :=
  once.length = 32 ∧ twice.length = 32 ∧ ∀ p, p < 2048 →
    (once.getD (p / 64) 0).getLsbD (p % 64) = decide (p ∈ pre) ∧ (twice.getD (p / 64) 0).getLsbD (p % 64) = decide (2 ≤ pre.count p)

theorem rep_getD (n i : Nat) : (List.replicate n (0 : BitVec 64)).getD i 0 = 0 := by
  by_cases h : i < n <;> simp [List.getD, h]

theorem bits_nil : Bits [] (List.replicate 32 0) (List.replicate 32 0) := by
  refine ⟨by simp, by simp, fun p hp => ?_⟩
  rw [rep_getD]; simp

theorem bit_lsb (n i : Nat) (hi : i < 64) : ((1#64) <<< n).getLsbD i = decide (i = n) := by
  simp only [BitVec.getLsbD_shiftLeft, BitVec.getLsbD_one]
  by_cases h : i = n
  · subst h; simp [hi]
  · simp [h, hi]; omega

theorem bits_step {pre : List Nat} {once twice : List (BitVec 64)} {q : Nat} (hq : q < 2048) (h : Bits pre once twice) :
    Bits (pre ++ [q]) (once.set (q / 64) (once.getD (q / 64) 0 ||| (1#64) <<< (q % 64)))
      (twice.set (q / 64) (twice.getD (q / 64) 0 ||| (once.getD (q / 64) 0 &&& (1#64) <<< (q % 64)))) := by
  obtain ⟨h1, h2, h3⟩ := h
  refine ⟨by simp [h1], by simp [h2], fun p hp => ?_⟩
  obtain ⟨a, b⟩ := h3 p hp
  have l1 : q / 64 < once.length := by omega
  have l2 : q / 64 < twice.length := by omega
  have l3 : p % 64 < 64 := Nat.mod_lt _ (by omega)
  by_cases e : q / 64 = p / 64
  · have c1 : (once.set (q / 64) (once.getD (q / 64) 0 ||| (1#64) <<< (q % 64))).getD (p / 64) 0 = once.getD (p / 64) 0 ||| (1#64) <<< (q % 64) := by
      rw [← e]; simp [List.getD, l1]
    have c2 : (twice.set (q / 64) (twice.getD (q / 64) 0 ||| (once.getD (q / 64) 0 &&& (1#64) <<< (q % 64)))).getD (p / 64) 0 = twice.getD (p / 64) 0 ||| (once.getD (p / 64) 0 &&& (1#64) <<< (q % 64)) := by
      rw [← e]; simp [List.getD, l2]
    rw [c1, c2, BitVec.getLsbD_or, BitVec.getLsbD_or, BitVec.getLsbD_and, a, b, bit_lsb _ _ l3]
    by_cases f : p = q
    · subst f
      by_cases m : p ∈ pre
      · have := List.count_pos_iff.2 m
        simp [m]
      · have := List.count_eq_zero_of_not_mem m
        simp [m, this]
    · have g : ¬ p % 64 = q % 64 := by omega
      have k : List.count p [q] = 0 := by simp [Ne.symm f]
      simp [f, g, List.count_append, k]
  · have c1 : ∀ x, (once.set (q / 64) x).getD (p / 64) 0 = once.getD (p / 64) 0 := by intro x; simp [List.getD, List.getElem?_set_ne e]
    have c2 : ∀ x, (twice.set (q / 64) x).getD (p / 64) 0 = twice.getD (p / 64) 0 := by intro x; simp [List.getD, List.getElem?_set_ne e]
    have f : ¬ p = q := by intro h; subst h; exact e rfl
    rw [c1, c2, a, b]
    simp [f, List.count_append]
    rw [List.count_cons]; simp [Ne.symm f]

theorem bits_end {pre : List Nat} {once twice : List (BitVec 64)} (hp : ∀ q ∈ pre, q < 2048) (h : Bits pre once twice) : twice = List.replicate 32 0 ↔ pre.Nodup := by
  obtain ⟨h1, h2, h3⟩ := h
  constructor
  · intro e
    rw [List.nodup_iff_count]
    intro q
    by_cases m : q ∈ pre
    · have := (h3 q (hp q m)).2
      rw [e] at this
      rw [rep_getD] at this
      simp at this
      omega
    · have := List.count_eq_zero_of_not_mem m; omega
  · intro e
    rw [List.nodup_iff_count] at e
    apply List.ext_getElem (by simp [h2])
    intro i g1 g2
    simp only [List.getElem_replicate]
    apply BitVec.eq_of_getLsbD_eq
    intro j hj
    have := (h3 (64 * i + j) (by omega)).2
    have d1 : (64 * i + j) / 64 = i := by omega
    have d2 : (64 * i + j) % 64 = j := by omega
    have d3 : ¬ 2 ≤ pre.count (64 * i + j) := by have := e (64 * i + j); omega
    rw [d1, d2] at this
    simp [List.getD, g1, d3] at this
    simpa using this

theorem nodup_bound : ∀ (n : Nat) (l : List Nat), l.Nodup → (∀ q ∈ l, q < n) → l.length ≤ n := by
  intro n
  induction n with
  | zero =>
    intro l _ hb
    match l, hb with
    | [], _ => simp
    | q :: t, hb => exact absurd (hb q (by simp)) (by omega)
  | succ n ih =>
    intro l hn hb
    have h := ih (l.erase n) (hn.erase n) (fun q hq => by
      have h1 := hb q (List.mem_of_mem_erase hq)
      have h2 : q ≠ n := by
        intro e; subst e
        exact absurd hq (by simpa using hn.not_mem_erase)
      omega)
    have := List.length_erase (a := n) (l := l)
    split at this <;> omega


theorem take_succ' (F : List Int) (k : Nat) (h : k < F.length) : F.take (k + 1) = F.take k ++ [F[k]?.getD 0] := by
  rw [List.take_add_one, List.getElem?_eq_getElem h]; rfl

theorem getD_mem {F : List Int} {k : Nat} (h : k < F.length) : F[k]?.getD 0 ∈ F := by
  rw [List.getElem?_eq_getElem h]; exact List.getElem_mem h

/-- what a list of free places comes to. -/
def freeB (F : List Int) (n : Nat) : Bool := decide ((∀ f ∈ F, 0 ≤ f ∧ f < n) ∧ F.Nodup)
def gensB (G : List Int) : Bool := decide (∀ g ∈ G, 0 ≤ g ∧ g ≤ 1000000)

theorem okE_eq (G F : List Int) : okE G F = (decide (G.length ≤ 2000) && gensB G && freeB F G.length) := by
  unfold okE gensB freeB
  rw [Bool.eq_iff_iff]; simp [and_assoc]

theorem nodup_nat {F : List Int} (h : ∀ f ∈ F, 0 ≤ f) : (F.map Int.toNat).Nodup ↔ F.Nodup := by
  constructor
  · intro g
    unfold List.Nodup at g ⊢
    rw [List.pairwise_map] at g
    exact g.imp (fun {a b} hab e => hab (by rw [e]))
  · intro g
    unfold List.Nodup at g ⊢
    rw [List.pairwise_map]
    exact List.Pairwise.imp_of_mem (fun {a b} ha hb hab => by have := h a ha; have := h b hb; omega) g

theorem free_len {F : List Int} {n : Nat} (h : freeB F n = true) : F.length ≤ n := by
  simp only [freeB, decide_eq_true_eq] at h
  have := nodup_bound n (F.map Int.toNat) ((nodup_nat fun f hf => (h.1 f hf).1).2 h.2) (fun q hq => by
    obtain ⟨f, hf, rfl⟩ := List.mem_map.1 hq
    have := h.1 f hf; omega)
  simpa using this

end Go.Proofs.YtknallkcengbbaaGreatDoor
