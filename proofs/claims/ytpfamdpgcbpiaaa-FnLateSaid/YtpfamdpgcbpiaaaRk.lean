import Derived.Test.YtpfamdpgcbpiaaaRi
namespace Go.Proofs.Ytpfamdpgcbpiaaa
open Go.RowKit
set_option linter.unusedVariables false
set_option linter.unusedSimpArgs false

/-- a list that is nil, or lies in memory. -/
def Sl (s : Option Addr) (c : Nat) (L : List V4) : Prop := (s = none ∧ c = 0 ∧ L = []) ∨ ∃ b o, s = some ⟨b, o, none⟩
theorem OV.sl {w : World} {B : Nat} {s : Option Addr} {c : Nat} {L : List V4} (h : OV w B (.slice s L.length c) L) : Sl s c L := by
  rcases h.form with ⟨e, rfl⟩ | ⟨g, cap, e, _⟩
  · simp only [Value.slice.injEq] at e
    exact Or.inl ⟨e.1, e.2.2, rfl⟩
  · simp only [Value.slice.injEq] at e
    exact Or.inr ⟨g, 0, e.1⟩

structure Sm (w X : World) (qb : Nat) (f : Int) (s1 : Option Addr) (c1 : Nat) (s2 : Option Addr) (c2 : Nat) (O N : List V4) (v : V4) (a c b d : Nat) : Prop where
  l : Below w.heap.size w X
  ka : Blk X w.heap.size #[.int .i64 f, .slice s1 O.length c1, .slice s2 N.length c2] 26
  kv : Blk X (w.heap.size + 1) #[.int .i64 v.1, .int .i64 v.2.1, .float .f64 v.2.2.1, .float .f64 v.2.2.2] 64
  kr : Blk X (w.heap.size + 1 + 1) #[.int .i64 0, .slice none 0 0, .slice none 0 0] 26
  kq : Blk X qb #[.int .i64 f, .slice (some ⟨a, 0, none⟩) O.length c, .slice (some ⟨b, 0, none⟩) N.length d] 26
  oa : OV X (w.heap.size + 3) (.slice (some ⟨a, 0, none⟩) O.length c) O
  ob : OV X (w.heap.size + 3) (.slice (some ⟨b, 0, none⟩) N.length d) N
  nab : ¬ a = b
  la : a < qb
  lb : b < qb
  oka : ∀ v ∈ O, okV v
  okb : ∀ v ∈ N, okV v
  okv : okV v
section
variable {w X : World} {qb : Nat} {k f : Int} {s1 : Option Addr} {c1 : Nat} {s2 : Option Addr} {c2 : Nat} {O N : List V4} {v : V4} {a c b d : Nat}
theorem Sm.later {Y : World} (h : Sm w X qb f s1 c1 s2 c2 O N v a c b d) (hb : Below X.heap.size X Y) : Sm w Y qb f s1 c1 s2 c2 O N v a c b d :=
  ⟨bl_trans h.l hb, h.ka.later hb, h.kv.later hb, h.kr.later hb, h.kq.later hb, h.oa.later hb, h.ob.later hb, h.nab, h.la, h.lb, h.oka, h.okb, h.okv⟩
theorem Sm.nrq (h : Sm w X qb f s1 c1 s2 c2 O N v a c b d) : ¬ w.heap.size + 1 + 1 = qb := by have := (h.oa.lt a rfl).1; have := h.la; omega
theorem send_nom (h : Sm w X qb f s1 c1 s2 c2 O N v a c b d) (e : snB k f O N v = false) : OwnN w k f O N v (.returned (.tuple #[.agg #[.int .i64 f, .slice (some ⟨a, 0, none⟩) O.length c, .slice (some ⟨b, 0, none⟩) N.length d], .bool false])) (((X.setCell ⟨w.heap.size + 1 + 1, 0, none⟩ (.int .i64 f)).setCell ⟨w.heap.size + 1 + 1, 1, none⟩ (.slice (some ⟨a, 0, none⟩) O.length c)).setCell ⟨w.heap.size + 1 + 1, 2, none⟩ (.slice (some ⟨b, 0, none⟩) N.length d)) := by
  have hl := h.kr.lt
  refine ⟨a, c, b, d, by rw [e]; rfl, (h.oa.kept (keptUnder hl _ _ _)).mono (by omega), ?_, h.nab, ((h.l.setCell (by simp <;> omega) _).setCell (by simp <;> omega) _).setCell (by simp <;> omega) _⟩
  rw [e]
  exact (h.ob.kept (keptUnder hl _ _ _)).mono (by omega)
theorem Sm.app (h : Sm w X qb f s1 c1 s2 c2 O N v a c b d) :
    (∀ j u, (vcells v)[j]? = some u → (X.alloc (.cells #[.int .i64 v.1, .int .i64 v.2.1, .float .f64 v.2.2.1, .float .f64 v.2.2.2] 64)).cell? ((⟨X.heap.size, 0, none⟩ : Addr).add j) = some u) ∧ World.ownsRow (X.alloc (.cells #[.int .i64 v.1, .int .i64 v.2.1, .float .f64 v.2.2.1, .float .f64 v.2.2.2] 64)) (w.heap.size + 3) 64 4 (.slice (some ⟨b, 0, none⟩) N.length d) N.length (N.flatMap vcells) ∧ (∀ u ∈ vcells v, u.oneCell' = true) ∧ w.heap.size + 3 ≤ (X.alloc (.cells #[.int .i64 v.1, .int .i64 v.2.1, .float .f64 v.2.2.1, .float .f64 v.2.2.2] 64)).heap.size := by
  refine ⟨?_, h.ob.alloc _, ?_, ?_⟩
  · intro j u hj
    have := (Blk.new X #[.int .i64 v.1, .int .i64 v.2.1, .float .f64 v.2.2.1, .float .f64 v.2.2.2] 64).cell j
    rw [Go.WideShapes.add_plain, Nat.zero_add, this]
    simpa [vcells] using hj
  · intro u hu
    simp only [vcells, List.mem_cons, List.not_mem_nil, or_false] at hu
    rcases hu with rfl | rfl | rfl | rfl <;> rfl
  · have := h.kr.lt; simp; omega
theorem send_yesm (h : Sm w X qb f s1 c1 s2 c2 O N v a c b d) {tmp : Obj} {g7 d7 : Nat} {Y : World} (hown : Y.ownsRow (w.heap.size + 3) 64 4 (.slice (some ⟨g7, 0, none⟩) (N.length + 1) d7) (N.length + 1) (N.flatMap vcells ++ vcells v)) (hgrow : (X.alloc tmp).grownBy Y (Value.slice (some ⟨b, 0, none⟩) N.length d).ownBlock) (hor : (Value.slice (some ⟨b, 0, none⟩) N.length d).ownBlock = some g7 ∨ g7 = (X.alloc tmp).heap.size) :
    Blk Y qb #[.int .i64 f, .slice (some ⟨a, 0, none⟩) O.length c, .slice (some ⟨b, 0, none⟩) N.length d] 26 ∧ Blk Y (w.heap.size + 1 + 1) #[.int .i64 0, .slice none 0 0, .slice none 0 0] 26 ∧ Below w.heap.size w Y ∧
    Hid (snB k f O N v = true → OwnN w k f O N v (.returned (.tuple #[.agg #[.int .i64 f, .slice (some ⟨a, 0, none⟩) O.length c, .slice (some ⟨g7, 0, none⟩) (N.length + 1) d7], .bool true])) ((((Y.setCell ⟨qb, 2, none⟩ (.slice (some ⟨g7, 0, none⟩) (N.length + 1) d7)).setCell ⟨w.heap.size + 1 + 1, 0, none⟩ (.int .i64 f)).setCell ⟨w.heap.size + 1 + 1, 1, none⟩ (.slice (some ⟨a, 0, none⟩) O.length c)).setCell ⟨w.heap.size + 1 + 1, 2, none⟩ (.slice (some ⟨g7, 0, none⟩) (N.length + 1) d7))) := by
  have hl := h.kr.lt
  have hq := h.kq.lt
  have ha := h.oa.lt a rfl
  have hb := h.ob.lt b rfl
  have hla := h.la
  have hlb := h.lb
  have hab := h.nab
  have hor' : b = g7 ∨ g7 = X.heap.size + 1 := by
    rcases hor with e | e
    · left; simpa [Value.ownBlock] using e
    · right; rw [World.size_alloc] at e; exact e
  have kq := (h.kq.alloc tmp).kept' hgrow (by simp [Value.ownBlock]; omega)
  have kr := (h.kr.alloc tmp).kept' hgrow (by simp [Value.ownBlock]; omega)
  have lY : Below w.heap.size w Y := (bl_alloc h.l tmp).grown hgrow (bl_alloc h.l tmp).size (fun q e => by simp [Value.ownBlock] at e; omega)
  have oa := (h.oa.alloc tmp).keptS hgrow (by omega)
  have ob : OV Y (w.heap.size + 3) (.slice (some ⟨g7, 0, none⟩) (N.length + 1) d7) (N ++ [v]) := by
    unfold OV
    rw [List.length_append, List.flatMap_append]
    simpa using hown
  have hY := kr.lt
  refine ⟨kq, kr, lY, fun e => ?_⟩
  have oa2 := oa.other (n := qb) (by simp [Value.ownBlock]; omega) 2 (.slice (some ⟨g7, 0, none⟩) (N.length + 1) d7)
  have ob2 := ob.other (n := qb) (by simp [Value.ownBlock]; omega) 2 (.slice (some ⟨g7, 0, none⟩) (N.length + 1) d7)
  have eL : (snL true N v).length = N.length + 1 := by simp [snL]
  refine ⟨a, c, g7, d7, ?_, (oa2.kept (keptUnder (by simpa using hY) _ _ _)).mono (by omega), ?_, by omega, (((lY.setCell (by simp <;> omega) _).setCell (by simp <;> omega) _).setCell (by simp <;> omega) _).setCell (by simp <;> omega) _⟩
  · rw [e, eL]
  · rw [e, eL]
    exact (ob2.kept (keptUnder (by simpa using hY) _ _ _)).mono (by omega)
end

end Go.Proofs.Ytpfamdpgcbpiaaa
