import Derived.Test.YtpfamdpgcbpiaaaRc
namespace Go.Proofs.Ytpfamdpgcbpiaaa
open Go.RowKit
set_option linter.unusedVariables false
set_option linter.unusedSimpArgs false

/-- may it be sent? -/
def snB (k f : Int) (O N : List V4) (v : V4) : Bool := stB k f O N && vofB k v && decide (¬ N.length = 200)
def snL (b : Bool) (N : List V4) (v : V4) : List V4 := if b then N ++ [v] else N
theorem sn_full {k f : Int} {O N : List V4} {v : V4} (h : 200 ≤ N.length) : snB k f O N v = false := by
  by_cases e : N.length = 200
  · simp [snB, e]
  · have : ¬ N.length ≤ 200 := by omega
    simp [snB, stB, this]
theorem sn_yes {k f : Int} {O N : List V4} {v : V4} (h1 : stB k f O N = true) (h2 : vofB k v = true) (h3 : ¬ N.length = 200) : snB k f O N v = true := by simp [snB, h1, h2, h3]
/-- a new stream is handed back, and whether it was sent. -/
def OwnN (w : World) (k f : Int) (O N : List V4) (v : V4) (e : Ending) (w' : World) : Prop :=
  ∃ a c b d, e = .returned (.tuple #[.agg #[.int .i64 f, .slice (some ⟨a, 0, none⟩) O.length c, .slice (some ⟨b, 0, none⟩) (snL (snB k f O N v) N v).length d], .bool (snB k f O N v)]) ∧ OV w' w.heap.size (.slice (some ⟨a, 0, none⟩) O.length c) O ∧ OV w' w.heap.size (.slice (some ⟨b, 0, none⟩) (snL (snB k f O N v) N v).length d) (snL (snB k f O N v) N v) ∧ ¬ a = b ∧ Below w.heap.size w w'

structure Sn (w X : World) (qb : Nat) (f : Int) (p1 q1 c1 p2 q2 c2 : Nat) (O N : List V4) (v : V4) (a c b d : Nat) : Prop where
  l : Below w.heap.size w X
  ka : Blk X w.heap.size #[.int .i64 f, .slice (some ⟨p1, q1, none⟩) O.length c1, .slice (some ⟨p2, q2, none⟩) N.length c2] 26
  kv : Blk X (w.heap.size + 1) #[.int .i64 v.1, .int .i64 v.2.1, .float .f64 v.2.2.1, .float .f64 v.2.2.2] 64
  kr : Blk X (w.heap.size + 1 + 1) #[.int .i64 0, .slice none 0 0, .slice none 0 0] 26
  kq : Blk X qb #[.int .i64 f, .slice (some ⟨a, 0, none⟩) O.length c, .slice (some ⟨b, 0, none⟩) N.length d] 26
  oa : OV X (w.heap.size + 3) (.slice (some ⟨a, 0, none⟩) O.length c) O
  ob : OV X (w.heap.size + 3) (.slice (some ⟨b, 0, none⟩) N.length d) N
  nab : ¬ a = b
  la : a < qb
  lb : b < qb
  oka : ∀ v ∈ O, okV v
  okb : ∀ v ∈ N, okV v
  okv : okV v
section
variable {w X : World} {qb : Nat} {k f : Int} {p1 q1 c1 p2 q2 c2 : Nat} {O N : List V4} {v : V4} {a c b d : Nat}
theorem Sn.later {Y : World} (h : Sn w X qb f p1 q1 c1 p2 q2 c2 O N v a c b d) (hb : Below X.heap.size X Y) : Sn w Y qb f p1 q1 c1 p2 q2 c2 O N v a c b d :=
  ⟨bl_trans h.l hb, h.ka.later hb, h.kv.later hb, h.kr.later hb, h.kq.later hb, h.oa.later hb, h.ob.later hb, h.nab, h.la, h.lb, h.oka, h.okb, h.okv⟩
theorem Sn.nrq (h : Sn w X qb f p1 q1 c1 p2 q2 c2 O N v a c b d) : ¬ w.heap.size + 1 + 1 = qb := by have := (h.oa.lt a rfl).1; have := h.la; omega
theorem send_no (h : Sn w X qb f p1 q1 c1 p2 q2 c2 O N v a c b d) (e : snB k f O N v = false) : OwnN w k f O N v (.returned (.tuple #[.agg #[.int .i64 f, .slice (some ⟨a, 0, none⟩) O.length c, .slice (some ⟨b, 0, none⟩) N.length d], .bool false])) (((X.setCell ⟨w.heap.size + 1 + 1, 0, none⟩ (.int .i64 f)).setCell ⟨w.heap.size + 1 + 1, 1, none⟩ (.slice (some ⟨a, 0, none⟩) O.length c)).setCell ⟨w.heap.size + 1 + 1, 2, none⟩ (.slice (some ⟨b, 0, none⟩) N.length d)) := by
  have hl := h.kr.lt
  refine ⟨a, c, b, d, by rw [e]; rfl, (h.oa.kept (keptUnder hl _ _ _)).mono (by omega), ?_, h.nab, ((h.l.setCell (by simp <;> omega) _).setCell (by simp <;> omega) _).setCell (by simp <;> omega) _⟩
  rw [e]
  exact (h.ob.kept (keptUnder hl _ _ _)).mono (by omega)
theorem Sn.app (h : Sn w X qb f p1 q1 c1 p2 q2 c2 O N v a c b d) :
    (∀ j u, (vcells v)[j]? = some u → (X.alloc (.cells #[.int .i64 v.1, .int .i64 v.2.1, .float .f64 v.2.2.1, .float .f64 v.2.2.2] 64)).cell? ((⟨X.heap.size, 0, none⟩ : Addr).add j) = some u) ∧ World.ownsRow (X.alloc (.cells #[.int .i64 v.1, .int .i64 v.2.1, .float .f64 v.2.2.1, .float .f64 v.2.2.2] 64)) (w.heap.size + 3) 64 4 (.slice (some ⟨b, 0, none⟩) N.length d) N.length (N.flatMap vcells) ∧ (∀ u ∈ vcells v, u.oneCell' = true) ∧ w.heap.size + 3 ≤ (X.alloc (.cells #[.int .i64 v.1, .int .i64 v.2.1, .float .f64 v.2.2.1, .float .f64 v.2.2.2] 64)).heap.size := by
  refine ⟨?_, h.ob.alloc _, ?_, ?_⟩
  · intro j u hj
    have := (Blk.new X #[.int .i64 v.1, .int .i64 v.2.1, .float .f64 v.2.2.1, .float .f64 v.2.2.2] 64).cell j
    rw [Go.WideShapes.add_plain, Nat.zero_add, this]
    simpa [vcells] using hj
  · intro u hu
    simp only [vcells, List.mem_cons, List.not_mem_nil, or_false] at hu
    rcases hu with rfl | rfl | rfl | rfl <;> rfl
  · have := h.kr.lt; simp; omega
theorem send_yes (h : Sn w X qb f p1 q1 c1 p2 q2 c2 O N v a c b d) {tmp : Obj} {g7 d7 : Nat} {Y : World} (hown : Y.ownsRow (w.heap.size + 3) 64 4 (.slice (some ⟨g7, 0, none⟩) (N.length + 1) d7) (N.length + 1) (N.flatMap vcells ++ vcells v)) (hgrow : (X.alloc tmp).grownBy Y (Value.slice (some ⟨b, 0, none⟩) N.length d).ownBlock) (hor : (Value.slice (some ⟨b, 0, none⟩) N.length d).ownBlock = some g7 ∨ g7 = (X.alloc tmp).heap.size) :
    Blk Y qb #[.int .i64 f, .slice (some ⟨a, 0, none⟩) O.length c, .slice (some ⟨b, 0, none⟩) N.length d] 26 ∧ Blk Y (w.heap.size + 1 + 1) #[.int .i64 0, .slice none 0 0, .slice none 0 0] 26 ∧ Below w.heap.size w Y ∧
    Hid (snB k f O N v = true → OwnN w k f O N v (.returned (.tuple #[.agg #[.int .i64 f, .slice (some ⟨a, 0, none⟩) O.length c, .slice (some ⟨g7, 0, none⟩) (N.length + 1) d7], .bool true])) ((((Y.setCell ⟨qb, 2, none⟩ (.slice (some ⟨g7, 0, none⟩) (N.length + 1) d7)).setCell ⟨w.heap.size + 1 + 1, 0, none⟩ (.int .i64 f)).setCell ⟨w.heap.size + 1 + 1, 1, none⟩ (.slice (some ⟨a, 0, none⟩) O.length c)).setCell ⟨w.heap.size + 1 + 1, 2, none⟩ (.slice (some ⟨g7, 0, none⟩) (N.length + 1) d7))) := by
  have hl := h.kr.lt
  have hq := h.kq.lt
  have ha := h.oa.lt a rfl
  have hb := h.ob.lt b rfl
  have hla := h.la
  have hlb := h.lb
  have hab := h.nab
  have hor' : b = g7 ∨ g7 = X.heap.size + 1 := by
    rcases hor with e | e
    · left; simpa [Value.ownBlock] using e
    · right; rw [World.size_alloc] at e; exact e
  have kq := (h.kq.alloc tmp).kept' hgrow (by simp [Value.ownBlock]; omega)
  have kr := (h.kr.alloc tmp).kept' hgrow (by simp [Value.ownBlock]; omega)
  have lY : Below w.heap.size w Y := (bl_alloc h.l tmp).grown hgrow (bl_alloc h.l tmp).size (fun q e => by simp [Value.ownBlock] at e; omega)
  have oa := (h.oa.alloc tmp).keptS hgrow (by omega)
  have ob : OV Y (w.heap.size + 3) (.slice (some ⟨g7, 0, none⟩) (N.length + 1) d7) (N ++ [v]) := by
    unfold OV
    rw [List.length_append, List.flatMap_append]
    simpa using hown
  have hY := kr.lt
  refine ⟨kq, kr, lY, fun e => ?_⟩
  have oa2 := oa.other (n := qb) (by simp [Value.ownBlock]; omega) 2 (.slice (some ⟨g7, 0, none⟩) (N.length + 1) d7)
  have ob2 := ob.other (n := qb) (by simp [Value.ownBlock]; omega) 2 (.slice (some ⟨g7, 0, none⟩) (N.length + 1) d7)
  have eL : (snL true N v).length = N.length + 1 := by simp [snL]
  refine ⟨a, c, g7, d7, ?_, (oa2.kept (keptUnder (by simpa using hY) _ _ _)).mono (by omega), ?_, by omega, (((lY.setCell (by simp <;> omega) _).setCell (by simp <;> omega) _).setCell (by simp <;> omega) _).setCell (by simp <;> omega) _⟩
  · rw [e, eL]
  · rw [e, eL]
    exact (ob2.kept (keptUnder (by simpa using hY) _ _ _)).mono (by omega)
end

end Go.Proofs.Ytpfamdpgcbpiaaa
