import Derived.Test.YtmoohgafljepdaaDoorG13
import Derived.Test.YtmoohgafljepdaaDoorG16
namespace Go.Proofs.YtmoohgafljepdaaDoor
open Go.RowKit
set_option linter.unusedVariables false
set_option linter.unusedSimpArgs false

/-- is a number ready, by the edges themselves? -/
def rdL (L : List (Int × Int)) (S : Nat → Bool) (x : Nat) : Bool := !S x && L.all fun e => !(decide (e.2 = (x : Int)) && !S e.1.toNat)
theorem rdL_eq {n : Nat} {L : List (Int × Int)} (hin : Inn n L) (hn : n ≤ 16) (S : Nat → Bool) {x : Nat} (hx : x < n) : rdL L S x = rdy (eF L) n S x := by
  rw [Bool.eq_iff_iff]
  unfold rdL rdy
  simp only [Bool.and_eq_true, decide_eq_true_eq, List.all_eq_true, List.mem_range, Bool.not_eq_true', Bool.and_eq_false_iff, decide_eq_false_iff_not, Bool.not_eq_false']
  constructor
  · rintro ⟨h1, h2⟩
    refine ⟨hx, h1, fun i _ => ?_⟩
    cases h : eF L x i
    · exact Or.inl rfl
    · have := h2 _ (of_decide_eq_true h)
      simp at this
      exact Or.inr this
  · rintro ⟨_, h1, h2⟩
    refine ⟨h1, fun e he => ?_⟩
    obtain ⟨p, q⟩ := e
    have hr := hin _ he
    simp at hr
    by_cases e : q = (x : Int)
    · right
      obtain ⟨a, rfl⟩ : ∃ a : Nat, p = (a : Int) := ⟨p.toNat, by omega⟩
      have := h2 a (by omega)
      subst e
      rw [show eF L x a = true by simp [eF, eR, he]] at this
      simpa using this
    · exact Or.inl e

/-- the least number that is ready, with O standing; the canonical order's first k. -/
def cStep (L : List (Int × Int)) (n : Nat) (O : List Int) : Option Nat := (List.range n).find? fun x => rdy (eF L) n (stands O) x
def cSeq (L : List (Int × Int)) (n : Nat) : Nat → Option (List Int)
  | 0 => some []
  | k + 1 => (cSeq L n k).bind fun O => (cStep L n O).map fun q => O ++ [(q : Int)]
theorem cStep_lt {L : List (Int × Int)} {n q : Nat} {O : List Int} (h : cStep L n O = some q) : q < n ∧ rdy (eF L) n (stands O) q = true := by
  unfold cStep at h
  exact ⟨by simpa using List.mem_of_find?_eq_some h, by simpa using List.find?_some h⟩
theorem cSeq_stop {L : List (Int × Int)} {n k : Nat} {O : List Int} (h : cSeq L n k = some O) (hs : cStep L n O = none) : ∀ m, cSeq L n (k + 1 + m) = none
  | 0 => by simp [cSeq, h, hs]
  | m + 1 => by
    have := cSeq_stop h hs m
    show cSeq L n ((k + 1 + m) + 1) = none
    simp [cSeq, this]
/-- what is asked for: the order, if there is one. -/
def canB (n : Int) (L : List (Int × Int)) : Option (List Int) := if gOk n L = true then cSeq L n.toNat n.toNat else none
/-- the least from j on. -/
def lsF (p : Nat → Bool) (j m : Nat) : Int := (((List.range' j m).find? p).map Int.ofNat).getD (-1)
theorem lsF_hit (p : Nat → Bool) (j m : Nat) (h : p j = true) : lsF p j (m + 1) = (j : Int) := by simp [lsF, List.range'_succ, h]
theorem lsF_miss (p : Nat → Bool) (j m : Nat) (h : p j = false) : lsF p j (m + 1) = lsF p (j + 1) m := by simp [lsF, List.range'_succ, h]
theorem lsF_none (p : Nat → Bool) (n : Nat) (h : (List.range n).find? p = none) : lsF p 0 n = -1 := by
  rw [List.range_eq_range'] at h; simp [lsF, h]
theorem lsF_some (p : Nat → Bool) (n q : Nat) (h : (List.range n).find? p = some q) : lsF p 0 n = (q : Int) := by
  rw [List.range_eq_range'] at h; simp [lsF, h]

theorem VRow.up {w : World} {B g n d : Nat} {O : List Int} (h : VRow w 0 (.slice (some ⟨g, 0, none⟩) n d) O) (hB : B ≤ g) : VRow w B (.slice (some ⟨g, 0, none⟩) n d) O := by
  refine ⟨h.1, ?_⟩
  rcases h.2 with ⟨h', _⟩ | ⟨g', cap', cur, h', hb, r⟩
  · simp at h'
  · have e := h'
    simp only [Value.slice.injEq, Option.some.injEq, Addr.mk.injEq, and_true, true_and] at h'
    obtain ⟨rfl, -⟩ := h'
    exact Or.inr ⟨_, cap', cur, e, hB, r⟩
theorem VRow.apart {w : World} {B : Nat} {v : Value} {O : List Int} (h : VRow w B v O) {m : Nat} {c : Array Value} {t : TypeId} {fr : Nat × Nat} (hb : w.heap[m]? = some (.cells c t fr)) (ht : ¬ t = 3) : ¬ v.ownBlock = some m := by
  rcases h.2 with ⟨rfl, _⟩ | ⟨g, cap, cur, rfl, _, hg, _⟩
  · simp [Value.ownBlock]
  · simp only [Value.ownBlock, Option.some.injEq]
    intro e
    subst e
    rw [hg] at hb
    simp at hb
    exact ht hb.2.1.symm
theorem Fl.blk {w : World} {B sb n : Nat} {f : Nat → Bool} (h : Fl w B sb n f) : ∃ c fr, w.heap[sb]? = some (.cells c 4 fr) := by
  rcases h.2 with ⟨h', _⟩ | ⟨g, cap, cur, h', _, hg, _⟩
  · simp at h'
  · simp only [Value.slice.injEq, Option.some.injEq, Addr.mk.injEq, and_true] at h'
    obtain ⟨rfl, -⟩ := h'
    exact ⟨cur, _, hg⟩
theorem Fl.kept {w w' : World} {B sb n : Nat} {f : Nat → Bool} {r : Option Nat} (h : Fl w B sb n f) (hg : w.grownBy w' r) (hr : ¬ r = some sb) : Fl w' B sb n f :=
  World.ownsRow.kept h hg (Or.inr (by simp [Value.ownBlock]; exact fun e => hr e.symm))
end Go.Proofs.YtmoohgafljepdaaDoor
