import Derived.Test.YtgiclehfhjjalaaRc
namespace Go.Proofs.Ytgiclehfhjjalaa
open Go.RowKit
set_option linter.unusedVariables false
set_option linter.unusedSimpArgs false

/-- may it be sent? -/
def snB (k f : Int) (O N : List V4) (v : V4) : Bool := stB k f O N && vofB k v && decide (¬ N.length = 200)
def snL (b : Bool) (N : List V4) (v : V4) : List V4 := if b then N ++ [v] else N
theorem sn_full {k f : Int} {O N : List V4} {v : V4} (h : 200 ≤ N.length) : snB k f O N v = false := by
  by_cases e : N.length = 200
  · simp [snB, e]
  · have : ¬ N.length ≤ 200 := by omega
    simp [snB, stB, this]
theorem sn_yes {k f : Int} {O N : List V4} {v : V4} (h1 : stB k f O N = true) (h2 : vofB k v = true) (h3 : ¬ N.length = 200) : snB k f O N v = true := by simp [snB, h1, h2, h3]
/-- a new stream is handed back, and whether it was sent. -/
def OwnN (w : World) (k f : Int) (O N : List V4) (v : V4) (e : Ending) (w' : World) : Prop :=
  ∃ a c b d, e = .returned (.tuple #[.agg #[.int .i64 f, .slice (some ⟨a, 0, none⟩) O.length c, .slice (some ⟨b, 0, none⟩) (snL (snB k f O N v) N v).length d], .bool (snB k f O N v)]) ∧ OV w' w.heap.size (.slice (some ⟨a, 0, none⟩) O.length c) O ∧ OV w' w.heap.size (.slice (some ⟨b, 0, none⟩) (snL (snB k f O N v) N v).length d) (snL (snB k f O N v) N v) ∧ ¬ a = b ∧ Below w.heap.size w w'

structure Sn (w X : World) (qb : Nat) (f : Int) (p1 q1 c1 p2 q2 c2 : Nat) (O N : List V4) (v : V4) (a c b d : Nat) : Prop where
  l : Below w.heap.size w X
  ka : Blk X w.heap.size #[.int .i64 f, .slice (some ⟨p1, q1, none⟩) O.length c1, .slice (some ⟨p2, q2, none⟩) N.length c2] 26
  kv : Blk X (w.heap.size + 1) #[.int .i64 v.1, .int .i64 v.2.1, .float .f64 v.2.2.1, .float .f64 v.2.2.2] 32
  kr : Blk X (w.heap.size + 1 + 1) #[.int .i64 0, .slice none 0 0, .slice none 0 0] 26
  kq : Blk X qb #[.int .i64 f, .slice (some ⟨a, 0, none⟩) O.length c, .slice (some ⟨b, 0, none⟩) N.length d] 26
  oa : OV X (w.heap.size + 3) (.slice (some ⟨a, 0, none⟩) O.length c) O
  ob : OV X (w.heap.size + 3) (.slice (some ⟨b, 0, none⟩) N.length d) N
  nab : ¬ a = b
  la : a < qb
  lb : b < qb
  oka : ∀ v ∈ O, okV v
  okb : ∀ v ∈ N, okV v
  okv : okV v
section
variable {w X : World} {qb : Nat} {k f : Int} {p1 q1 c1 p2 q2 c2 : Nat} {O N : List V4} {v : V4} {a c b d : Nat}
theorem Sn.later {Y : World} (h : Sn w X qb f p1 q1 c1 p2 q2 c2 O N v a c b d) (hb : Below X.heap.size X Y) : Sn w Y qb f p1 q1 c1 p2 q2 c2 O N v a c b d :=
  ⟨bl_trans h.l hb, h.ka.later hb, h.kv.later hb, h.kr.later hb, h.kq.later hb, h.oa.later hb, h.ob.later hb, h.nab, h.la, h.lb, h.oka, h.okb, h.okv⟩
theorem Sn.nrq (h : Sn w X qb f p1 q1 c1 p2 q2 c2 O N v a c b d) : ¬ w.heap.size + 1 + 1 = qb := by have := (h.oa.lt a rfl).1; have := h.la; omega
theorem send_no (h : Sn w X qb f p1 q1 c1 p2 q2 c2 O N v a c b d) (e : snB k f O N v = false) : OwnN w k f O N v (.returned (.tuple #[.agg #[.int .i64 f, .slice (some ⟨a, 0, none⟩) O.length c, .slice (some ⟨b, 0, none⟩) N.length d], .bool false])) (((X.setCell ⟨w.heap.size + 1 + 1, 0, none⟩ (.int .i64 f)).setCell ⟨w.heap.size + 1 + 1, 1, none⟩ (.slice (some ⟨a, 0, none⟩) O.length c)).setCell ⟨w.heap.size + 1 + 1, 2, none⟩ (.slice (some ⟨b, 0, none⟩) N.length d)) := by
  have hl := h.kr.lt
  refine ⟨a, c, b, d, by rw [e]; rfl, (h.oa.kept (keptUnder hl _ _ _)).mono (by omega), ?_, h.nab, ((h.l.setCell (by simp <;> omega) _).setCell (by simp <;> omega) _).setCell (by simp <;> omega) _⟩
  rw [e]
  exact (h.ob.kept (keptUnder hl _ _ _)).mono (by omega)
theorem Sn.app (h : Sn w X qb f p1 q1 c1 p2 q2 c2 O N v a c b d) :
    (∀ j u, (vcells v)[j]? = some u → (X.alloc (.cells #[.int .i64 v.1, .int .i64 v.2.1, .float .f64 v.2.2.1, .float .f64 v.2.2.2] 32)).cell? ((⟨X.heap.size, 0, none⟩ : Addr).add j) = some u) ∧ World.ownsRow (X.alloc (.cells #[.int .i64 v.1, .int .i64 v.2.1, .float .f64 v.2.2.1, .float .f64 v.2.2.2] 32)) (w.heap.size + 3) 32 4 (.slice (some ⟨b, 0, none⟩) N.length d) N.length (N.flatMap vcells) ∧ (∀ u ∈ vcells v, u.oneCell' = true) ∧ w.heap.size + 3 ≤ (X.alloc (.cells #[.int .i64 v.1, .int .i64 v.2.1, .float .f64 v.2.2.1, .float .f64 v.2.2.2] 32)).heap.size := by
  refine ⟨?_, h.ob.alloc _, ?_, ?_⟩
  · intro j u hj
    have := (Blk.new X #[.int .i64 v.1, .int .i64 v.2.1, .float .f64 v.2.2.1, .float .f64 v.2.2.2] 32).cell j
    rw [Go.WideShapes.add_plain, Nat.zero_add, this]
    simpa [vcells] using hj
  · intro u hu
    simp only [vcells, List.mem_cons, List.not_mem_nil, or_false] at hu
    rcases hu with rfl | rfl | rfl | rfl <;> rfl
  · have := h.kr.lt; simp; omega
theorem send_yes (h : Sn w X qb f p1 q1 c1 p2 q2 c2 O N v a c b d) {tmp : Obj} {g7 d7 : Nat} {Y : World} (hown : Y.ownsRow (w.heap.size + 3) 32 4 (.slice (some ⟨g7, 0, none⟩) (N.length + 1) d7) (N.length + 1) (N.flatMap vcells ++ vcells v)) (hgrow : (X.alloc tmp).grownBy Y (Value.slice (some ⟨b, 0, none⟩) N.length d).ownBlock) (hor : (Value.slice (some ⟨b, 0, none⟩) N.length d).ownBlock = some g7 ∨ g7 = (X.alloc tmp).heap.size) :
    Blk Y qb #[.int .i64 f, .slice (some ⟨a, 0, none⟩) O.length c, .slice (some ⟨b, 0, none⟩) N.length d] 26 ∧ Blk Y (w.heap.size + 1 + 1) #[.int .i64 0, .slice none 0 0, .slice none 0 0] 26 ∧ Below w.heap.size w Y ∧
    Hid (snB k f O N v = true → OwnN w k f O N v (.returned (.tuple #[.agg #[.int .i64 f, .slice (some ⟨a, 0, none⟩) O.length c, .slice (some ⟨g7, 0, none⟩) (N.length + 1) d7], .bool true])) ((((Y.setCell ⟨qb, 2, none⟩ (.slice (some ⟨g7, 0, none⟩) (N.length + 1) d7)).setCell ⟨w.heap.size + 1 + 1, 0, none⟩ (.int .i64 f)).setCell ⟨w.heap.size + 1 + 1, 1, none⟩ (.slice (some ⟨a, 0, none⟩) O.length c)).setCell ⟨w.heap.size + 1 + 1, 2, none⟩ (.slice (some ⟨g7, 0, none⟩) (N.length + 1) d7))) := by
  have hl := h.kr.lt
  have hq := h.kq.lt
  have ha := h.oa.lt a rfl
  have hb := h.ob.lt b rfl
  have hla := h.la
  have hlb := h.lb
  have hab := h.nab
  have hor' : b = g7 ∨ g7 = X.heap.size + 1 := by
    rcases hor with e | e
    · left; simpa [Value.ownBlock] using e
    · right; rw [World.size_alloc] at e; exact e
  have kq := (h.kq.alloc tmp).kept' hgrow (by simp [Value.ownBlock]; omega)
  have kr := (h.kr.alloc tmp).kept' hgrow (by simp [Value.ownBlock]; omega)
  have lY : Below w.heap.size w Y := (bl_alloc h.l tmp).grown hgrow (bl_alloc h.l tmp).size (fun q e => by simp [Value.ownBlock] at e; omega)
  have oa := (h.oa.alloc tmp).keptS hgrow (by omega)
  have ob : OV Y (w.heap.size + 3) (.slice (some ⟨g7, 0, none⟩) (N.length + 1) d7) (N ++ [v]) := by
    unfold OV
    rw [List.length_append, List.flatMap_append]
    simpa using hown
  have hY := kr.lt
  refine ⟨kq, kr, lY, fun e => ?_⟩
  have oa2 := oa.other (n := qb) (by simp [Value.ownBlock]; omega) 2 (.slice (some ⟨g7, 0, none⟩) (N.length + 1) d7)
  have ob2 := ob.other (n := qb) (by simp [Value.ownBlock]; omega) 2 (.slice (some ⟨g7, 0, none⟩) (N.length + 1) d7)
  have eL : (snL true N v).length = N.length + 1 := by simp [snL]
  refine ⟨a, c, g7, d7, ?_, (oa2.kept (keptUnder (by simpa using hY) _ _ _)).mono (by omega), ?_, by omega, (((lY.setCell (by simp <;> omega) _).setCell (by simp <;> omega) _).setCell (by simp <;> omega) _).setCell (by simp <;> omega) _⟩
  · rw [e, eL]
  · rw [e, eL]
    exact (ob2.kept (keptUnder (by simpa using hY) _ _ _)).mono (by omega)
end

set_option maxRecDepth 100000 in
set_option maxHeartbeats 8000000 in
theorem implSend_any (k f : Int) (p1 q1 p2 q2 c1 c2 : Nat) (O N : List V4) (v : V4) (B : Nat) (w : World) (hO : Els 4 cVal w B (some ⟨p1, q1, none⟩) O) (hN : Els 4 cVal w B (some ⟨p2, q2, none⟩) N) (ov : okV v) (l1 : O.length ≤ 1048576) (l2 : N.length ≤ 1048576) :
    Calls Try.prog 11 #[.int .i64 k, .agg #[.int .i64 f, .slice (some ⟨p1, q1, none⟩) O.length c1, .slice (some ⟨p2, q2, none⟩) N.length c2], .agg #[.int .i64 v.1, .int .i64 v.2.1, .float .f64 v.2.2.1, .float .f64 v.2.2.2]] w fun e w' => OwnN w k f O N v e w' := by
  have hal := alloc_old
  have haf := alloc_oldf
  obtain ⟨i0, hi, hz0, hz1, hz2⟩ := info_parts Try.infoV
  obtain ⟨k0, k1, k2, L0⟩ := blk3v w #[.int .i64 f, .slice (some ⟨p1, q1, none⟩) O.length c1, .slice (some ⟨p2, q2, none⟩) N.length c2] #[.int .i64 v.1, .int .i64 v.2.1, .float .f64 v.2.2.1, .float .f64 v.2.2.2] #[.int .i64 0, .slice none 0 0, .slice none 0 0] 26 32 26
  obtain ⟨x0, x1, x2, x3⟩ := k0.three'
  go_enter Try.func11, Try.ntmps11
  go_wp2_with fail
  refine (copyStream_any f p1 q1 p2 q2 c1 c2 O N B _ (hO.later cVal_keeps L0) (hN.later cVal_keeps L0) l1 l2).mono ?_
  rintro e w1 ⟨a, c, b, d, rfl, oa, ob, nab, oka, okb, hb1⟩
  have hs0 : (((w.alloc (.cells #[.int .i64 f, .slice (some ⟨p1, q1, none⟩) O.length c1, .slice (some ⟨p2, q2, none⟩) N.length c2] 26)).alloc (.cells #[.int .i64 v.1, .int .i64 v.2.1, .float .f64 v.2.2.1, .float .f64 v.2.2.2] 32)).alloc (.cells #[.int .i64 0, .slice none 0 0, .slice none 0 0] 26)).heap.size = w.heap.size + 3 := by simp
  rw [hs0] at oa ob
  have SN : Hid (Sn w (w1.alloc (.cells #[.int .i64 f, .slice (some ⟨a, 0, none⟩) O.length c, .slice (some ⟨b, 0, none⟩) N.length d] 26)) w1.heap.size f p1 q1 c1 p2 q2 c2 O N v a c b d) :=
    ⟨bl_alloc (bl_trans L0 hb1) _, (k0.later hb1).alloc _, (k1.later hb1).alloc _, (k2.later hb1).alloc _, Blk.new _ _ _, oa.alloc _, ob.alloc _, nab, (oa.lt a rfl).2, (ob.lt b rfl).2, oka, okb, ov⟩
  clear k0 k1 k2 L0 hb1 oa ob nab x0 x1 x2 x3 hs0
  obtain ⟨x0, x1, x2, x3⟩ := SN.out.ka.three'
  go_wp2_with fail
  generalize hX : w1.alloc (.cells #[.int .i64 f, .slice (some ⟨a, 0, none⟩) O.length c, .slice (some ⟨b, 0, none⟩) N.length d] 26) = X at SN x0 x1 x2 x3 ⊢
  generalize w1.heap.size = qb at SN ⊢
  clear hX
  refine (implStreamOk_any k f _ _ c1 c2 O N B _ (hO.later cVal_keeps SN.out.l) (hN.later cVal_keeps SN.out.l) l1 l2).mono ?_
  rintro e w2 ⟨rfl, hb2⟩
  have S2 : Hid (Sn w w2 qb f p1 q1 c1 p2 q2 c2 O N v a c b d) := SN.out.later hb2
  clear SN hb2 x0 x1 x2 x3
  cases h1 : stB k f O N
  · have E : Hid (snB k f O N v = false) := by show _ = _; simp [snB, h1]
    obtain ⟨x0, x1, x2, x3⟩ := S2.out.ka.three'
    obtain ⟨u0, u1, u2, u3, u4⟩ := S2.out.kv.four'
    obtain ⟨z0, z1, z2, z3⟩ := S2.out.kr.three'
    obtain ⟨y0, y1, y2, y3⟩ := S2.out.kq.three'
    have nrq := S2.out.nrq
    go_wp2_with fail
    refine bodyPost_ret (v := .tuple #[.agg #[.int .i64 f, .slice (some ⟨a, 0, none⟩) O.length c, .slice (some ⟨b, 0, none⟩) N.length d], .bool false]) (by simp [results, Try.results11, go_sem, z0, z1, z2]) rfl ?_
    exact send_no S2.out E.out
  · cases h2 : vofB k v
    · have E : Hid (snB k f O N v = false) := by show _ = _; simp [snB, h2]
      obtain ⟨x0, x1, x2, x3⟩ := S2.out.ka.three'
      obtain ⟨u0, u1, u2, u3, u4⟩ := S2.out.kv.four'
      obtain ⟨z0, z1, z2, z3⟩ := S2.out.kr.three'
      obtain ⟨y0, y1, y2, y3⟩ := S2.out.kq.three'
      have nrq := S2.out.nrq
      go_wp2_with fail
      refine (valOf_any k v _).mono ?_
      rintro e w3 ⟨rfl, hb3⟩
      rw [h2]
      have S3 : Hid (Sn w w3 qb f p1 q1 c1 p2 q2 c2 O N v a c b d) := S2.out.later hb3
      clear S2 hb3 x0 x1 x2 x3 u0 u1 u2 u3 u4 z0 z1 z2 z3 y0 y1 y2 y3 nrq
      obtain ⟨x0, x1, x2, x3⟩ := S3.out.ka.three'
      obtain ⟨u0, u1, u2, u3, u4⟩ := S3.out.kv.four'
      obtain ⟨z0, z1, z2, z3⟩ := S3.out.kr.three'
      obtain ⟨y0, y1, y2, y3⟩ := S3.out.kq.three'
      have nrq := S3.out.nrq
      go_wp2_with fail
      refine bodyPost_ret (v := .tuple #[.agg #[.int .i64 f, .slice (some ⟨a, 0, none⟩) O.length c, .slice (some ⟨b, 0, none⟩) N.length d], .bool false]) (by simp [results, Try.results11, go_sem, z0, z1, z2]) rfl ?_
      exact send_no S3.out E.out
    · by_cases h3 : N.length = 200
      · have E : Hid (snB k f O N v = false) := by show _ = _; simp [snB, h3]
        have t3 : ((N.length : Int) == 200) = true := by simp; omega
        clear h3
        obtain ⟨x0, x1, x2, x3⟩ := S2.out.ka.three'
        obtain ⟨u0, u1, u2, u3, u4⟩ := S2.out.kv.four'
        obtain ⟨z0, z1, z2, z3⟩ := S2.out.kr.three'
        obtain ⟨y0, y1, y2, y3⟩ := S2.out.kq.three'
        have nrq := S2.out.nrq
        go_wp2_with fail
        refine (valOf_any k v _).mono ?_
        rintro e w3 ⟨rfl, hb3⟩
        rw [h2]
        have S3 : Hid (Sn w w3 qb f p1 q1 c1 p2 q2 c2 O N v a c b d) := S2.out.later hb3
        clear S2 hb3 x0 x1 x2 x3 u0 u1 u2 u3 u4 z0 z1 z2 z3 y0 y1 y2 y3 nrq
        obtain ⟨x0, x1, x2, x3⟩ := S3.out.ka.three'
        obtain ⟨u0, u1, u2, u3, u4⟩ := S3.out.kv.four'
        obtain ⟨z0, z1, z2, z3⟩ := S3.out.kr.three'
        obtain ⟨y0, y1, y2, y3⟩ := S3.out.kq.three'
        have nrq := S3.out.nrq
        go_wp2_with fail
        refine bodyPost_ret (v := .tuple #[.agg #[.int .i64 f, .slice (some ⟨a, 0, none⟩) O.length c, .slice (some ⟨b, 0, none⟩) N.length d], .bool false]) (by simp [results, Try.results11, go_sem, z0, z1, z2]) rfl ?_
        exact send_no S3.out E.out
      · have t3 : ((N.length : Int) == 200) = false := by simp; omega
        have t4 : ¬ (N.length : Int) = 200 := by omega
        obtain ⟨x0, x1, x2, x3⟩ := S2.out.ka.three'
        obtain ⟨u0, u1, u2, u3, u4⟩ := S2.out.kv.four'
        obtain ⟨z0, z1, z2, z3⟩ := S2.out.kr.three'
        obtain ⟨y0, y1, y2, y3⟩ := S2.out.kq.three'
        have nrq := S2.out.nrq
        go_wp2_with fail
        refine (valOf_any k v _).mono ?_
        rintro e w3 ⟨rfl, hb3⟩
        rw [h2]
        have S3 : Hid (Sn w w3 qb f p1 q1 c1 p2 q2 c2 O N v a c b d) := S2.out.later hb3
        clear S2 hb3 x0 x1 x2 x3 u0 u1 u2 u3 u4 z0 z1 z2 z3 y0 y1 y2 y3 nrq
        have E : Hid (snB k f O N v = true) := by show _ = _; exact sn_yes h1 h2 (by omega)
        obtain ⟨x0, x1, x2, x3⟩ := S3.out.ka.three'
        obtain ⟨u0, u1, u2, u3, u4⟩ := S3.out.kv.four'
        obtain ⟨z0, z1, z2, z3⟩ := S3.out.kr.three'
        obtain ⟨y0, y1, y2, y3⟩ := S3.out.kq.three'
        have nrq := S3.out.nrq
        have hS := S3.out.app
        obtain ⟨hS1, hS2, hS3, hS4⟩ := hS
        have HS : Hid (∀ j u, (vcells v)[j]? = some u → (w3.alloc (.cells #[.int .i64 v.1, .int .i64 v.2.1, .float .f64 v.2.2.1, .float .f64 v.2.2.2] 32)).cell? ((⟨w3.heap.size, 0, none⟩ : Addr).add j) = some u) := hS1
        have HR : Hid (World.ownsRow (w3.alloc (.cells #[.int .i64 v.1, .int .i64 v.2.1, .float .f64 v.2.2.1, .float .f64 v.2.2.2] 32)) (w.heap.size + 3) 32 4 (.slice (some ⟨b, 0, none⟩) N.length d) N.length (N.flatMap vcells)) := hS2
        have HO1 : Hid (∀ u ∈ vcells v, u.oneCell' = true) := hS3
        have HSZ : Hid (w.heap.size + 3 ≤ (w3.alloc (.cells #[.int .i64 v.1, .int .i64 v.2.1, .float .f64 v.2.2.1, .float .f64 v.2.2.2] 32)).heap.size) := hS4
        clear hS1 hS2 hS3 hS4
        go_wp2_with (at_builtin; refine wpList_append_lies _ rfl _ _ 24 rfl (w.heap.size + 3) 32 i0 (.agg #[.int .i64 0, .int .i64 0, .float .f64 0, .float .f64 0]) 4 32 Try.underlying24 hi hz0 hz1 hz2 rfl (by decide) _ _ _ rfl HR.out ⟨w3.heap.size, 0, none⟩ 1 1 (vcells v) rfl rfl HS.out HO1.out (by omega) (by unfold maxLen; omega) (by omega) HSZ.out _ rfl ?_; intro g7 d7 w5 hown hgrow hor hlg; obtain ⟨kq5, kr5, l5, fin5⟩ := send_yes S3.out hown hgrow hor; have HFIN := fin5; clear fin5; obtain ⟨q0, q1x, q2x, q3⟩ := kq5.three'; obtain ⟨r0, r1, r2, r3⟩ := kr5.three')
        refine bodyPost_ret (v := .tuple #[.agg #[.int .i64 f, .slice (some ⟨a, 0, none⟩) O.length c, .slice (some ⟨g7, 0, none⟩) (N.length + 1) d7], .bool true]) (by simp [results, Try.results11, go_sem, r0, r1, r2]) rfl ?_
        exact HFIN.out E.out


set_option maxRecDepth 100000 in
set_option maxHeartbeats 8000000 in
theorem specSend_any (k f : Int) (p1 q1 p2 q2 c1 c2 : Nat) (O N : List V4) (v : V4) (B : Nat) (w : World) (hO : Els 4 cVal w B (some ⟨p1, q1, none⟩) O) (hN : Els 4 cVal w B (some ⟨p2, q2, none⟩) N) (ov : okV v) (l1 : O.length ≤ 1048576) (l2 : N.length ≤ 1048576) :
    Calls Try.prog 22 #[.int .i64 k, .agg #[.int .i64 f, .slice (some ⟨p1, q1, none⟩) O.length c1, .slice (some ⟨p2, q2, none⟩) N.length c2], .agg #[.int .i64 v.1, .int .i64 v.2.1, .float .f64 v.2.2.1, .float .f64 v.2.2.2]] w fun e w' => OwnN w k f O N v e w' := by
  have hal := alloc_old
  have haf := alloc_oldf
  obtain ⟨i0, hi, hz0, hz1, hz2⟩ := info_parts Try.infoV
  obtain ⟨k0, k1, k2, L0⟩ := blk3v w #[.int .i64 f, .slice (some ⟨p1, q1, none⟩) O.length c1, .slice (some ⟨p2, q2, none⟩) N.length c2] #[.int .i64 v.1, .int .i64 v.2.1, .float .f64 v.2.2.1, .float .f64 v.2.2.2] #[.int .i64 0, .slice none 0 0, .slice none 0 0] 26 32 26
  obtain ⟨x0, x1, x2, x3⟩ := k0.three'
  go_enter Try.func22, Try.ntmps22
  go_wp2_with fail
  refine (l6Copy_any f p1 q1 c1 p2 q2 c2 O N _ B (hO.later cVal_keeps L0) (hN.later cVal_keeps L0) l1 l2).mono ?_
  rintro e w1 ⟨a, c, b, d, rfl, oa, ob, nab, oka, okb, hb1⟩
  have hs0 : (((w.alloc (.cells #[.int .i64 f, .slice (some ⟨p1, q1, none⟩) O.length c1, .slice (some ⟨p2, q2, none⟩) N.length c2] 26)).alloc (.cells #[.int .i64 v.1, .int .i64 v.2.1, .float .f64 v.2.2.1, .float .f64 v.2.2.2] 32)).alloc (.cells #[.int .i64 0, .slice none 0 0, .slice none 0 0] 26)).heap.size = w.heap.size + 3 := by simp
  rw [hs0] at oa ob
  have SN : Hid (Sn w (w1.alloc (.cells #[.int .i64 f, .slice (some ⟨a, 0, none⟩) O.length c, .slice (some ⟨b, 0, none⟩) N.length d] 26)) w1.heap.size f p1 q1 c1 p2 q2 c2 O N v a c b d) :=
    ⟨bl_alloc (bl_trans L0 hb1) _, (k0.later hb1).alloc _, (k1.later hb1).alloc _, (k2.later hb1).alloc _, Blk.new _ _ _, oa.alloc _, ob.alloc _, nab, (oa.lt a rfl).2, (ob.lt b rfl).2, oka, okb, ov⟩
  clear k0 k1 k2 L0 hb1 oa ob nab x0 x1 x2 x3 hs0
  obtain ⟨x0, x1, x2, x3⟩ := SN.out.ka.three'
  go_wp2_with fail
  generalize hX : w1.alloc (.cells #[.int .i64 f, .slice (some ⟨a, 0, none⟩) O.length c, .slice (some ⟨b, 0, none⟩) N.length d] 26) = X at SN x0 x1 x2 x3 ⊢
  generalize w1.heap.size = qb at SN ⊢
  clear hX
  refine (specStreamOk_any k f _ _ c1 c2 O N B _ (hO.later cVal_keeps SN.out.l) (hN.later cVal_keeps SN.out.l) l1 l2).mono ?_
  rintro e w2 ⟨rfl, hb2⟩
  have S2 : Hid (Sn w w2 qb f p1 q1 c1 p2 q2 c2 O N v a c b d) := SN.out.later hb2
  clear SN hb2 x0 x1 x2 x3
  cases h1 : stB k f O N
  · have E : Hid (snB k f O N v = false) := by show _ = _; simp [snB, h1]
    obtain ⟨x0, x1, x2, x3⟩ := S2.out.ka.three'
    obtain ⟨u0, u1, u2, u3, u4⟩ := S2.out.kv.four'
    obtain ⟨z0, z1, z2, z3⟩ := S2.out.kr.three'
    obtain ⟨y0, y1, y2, y3⟩ := S2.out.kq.three'
    have nrq := S2.out.nrq
    go_wp2_with fail
    refine bodyPost_ret (v := .tuple #[.agg #[.int .i64 f, .slice (some ⟨a, 0, none⟩) O.length c, .slice (some ⟨b, 0, none⟩) N.length d], .bool false]) (by simp [results, Try.results22, go_sem, z0, z1, z2]) rfl ?_
    exact send_no S2.out E.out
  · have ov1 : v.2.2.1 < 18446744073709551616 := ov.2.1
    have ov2 : v.2.2.2 < 18446744073709551616 := ov.2.2
    have OV1 : Hid (v.2.2.1 < 18446744073709551616) := ov1
    have OV2 : Hid (v.2.2.2 < 18446744073709551616) := ov2
    clear ov1 ov2
    cases h2 : okB v.1 v.2.1 v.2.2.1 v.2.2.2
    · have E : Hid (snB k f O N v = false) := by show _ = _; simp [snB, vofB, okV4, h2]
      obtain ⟨x0, x1, x2, x3⟩ := S2.out.ka.three'
      obtain ⟨u0, u1, u2, u3, u4⟩ := S2.out.kv.four'
      obtain ⟨z0, z1, z2, z3⟩ := S2.out.kr.three'
      obtain ⟨y0, y1, y2, y3⟩ := S2.out.kq.three'
      have nrq := S2.out.nrq
      go_wp2_with fail
      refine (specOk_any v.1 v.2.1 v.2.2.1 v.2.2.2 _ OV1.out OV2.out).mono ?_
      rintro e w3 ⟨rfl, hw3⟩
      rw [h2]
      have hb3 : Below w2.heap.size w2 w3 := by rw [hw3]; exact bl_alloc (Below.refl _ _) _
      clear hw3
      have S3 : Hid (Sn w w3 qb f p1 q1 c1 p2 q2 c2 O N v a c b d) := S2.out.later hb3
      clear S2 hb3 x0 x1 x2 x3 u0 u1 u2 u3 u4 z0 z1 z2 z3 y0 y1 y2 y3 nrq
      obtain ⟨x0, x1, x2, x3⟩ := S3.out.ka.three'
      obtain ⟨u0, u1, u2, u3, u4⟩ := S3.out.kv.four'
      obtain ⟨z0, z1, z2, z3⟩ := S3.out.kr.three'
      obtain ⟨y0, y1, y2, y3⟩ := S3.out.kq.three'
      have nrq := S3.out.nrq
      go_wp2_with fail
      refine bodyPost_ret (v := .tuple #[.agg #[.int .i64 f, .slice (some ⟨a, 0, none⟩) O.length c, .slice (some ⟨b, 0, none⟩) N.length d], .bool false]) (by simp [results, Try.results22, go_sem, z0, z1, z2]) rfl ?_
      exact send_no S3.out E.out
    · cases h4 : (v.1 == k : Bool)
      · have E : Hid (snB k f O N v = false) := by show _ = _; simp [snB, vofB, h4]
        have t5 : (v.1 != k) = true := by simp [bne, h4]
        obtain ⟨x0, x1, x2, x3⟩ := S2.out.ka.three'
        obtain ⟨u0, u1, u2, u3, u4⟩ := S2.out.kv.four'
        obtain ⟨z0, z1, z2, z3⟩ := S2.out.kr.three'
        obtain ⟨y0, y1, y2, y3⟩ := S2.out.kq.three'
        have nrq := S2.out.nrq
        go_wp2_with fail
        refine (specOk_any v.1 v.2.1 v.2.2.1 v.2.2.2 _ OV1.out OV2.out).mono ?_
        rintro e w3 ⟨rfl, hw3⟩
        rw [h2]
        have hb3 : Below w2.heap.size w2 w3 := by rw [hw3]; exact bl_alloc (Below.refl _ _) _
        clear hw3
        have S3 : Hid (Sn w w3 qb f p1 q1 c1 p2 q2 c2 O N v a c b d) := S2.out.later hb3
        clear S2 hb3 x0 x1 x2 x3 u0 u1 u2 u3 u4 z0 z1 z2 z3 y0 y1 y2 y3 nrq
        obtain ⟨x0, x1, x2, x3⟩ := S3.out.ka.three'
        obtain ⟨u0, u1, u2, u3, u4⟩ := S3.out.kv.four'
        obtain ⟨z0, z1, z2, z3⟩ := S3.out.kr.three'
        obtain ⟨y0, y1, y2, y3⟩ := S3.out.kq.three'
        have nrq := S3.out.nrq
        go_wp2_with fail
        refine bodyPost_ret (v := .tuple #[.agg #[.int .i64 f, .slice (some ⟨a, 0, none⟩) O.length c, .slice (some ⟨b, 0, none⟩) N.length d], .bool false]) (by simp [results, Try.results22, go_sem, z0, z1, z2]) rfl ?_
        exact send_no S3.out E.out
      · have t5 : (v.1 != k) = false := by simp [bne, h4]
        by_cases h3 : 200 ≤ N.length
        · have E : Hid (snB k f O N v = false) := by show _ = _; rw [sn_full h3]
          have t4 : (200 : Int) ≤ (N.length : Int) := by omega
          obtain ⟨x0, x1, x2, x3⟩ := S2.out.ka.three'
          obtain ⟨u0, u1, u2, u3, u4⟩ := S2.out.kv.four'
          obtain ⟨z0, z1, z2, z3⟩ := S2.out.kr.three'
          obtain ⟨y0, y1, y2, y3⟩ := S2.out.kq.three'
          have nrq := S2.out.nrq
          go_wp2_with fail
          refine (specOk_any v.1 v.2.1 v.2.2.1 v.2.2.2 _ OV1.out OV2.out).mono ?_
          rintro e w3 ⟨rfl, hw3⟩
          rw [h2]
          have hb3 : Below w2.heap.size w2 w3 := by rw [hw3]; exact bl_alloc (Below.refl _ _) _
          clear hw3
          have S3 : Hid (Sn w w3 qb f p1 q1 c1 p2 q2 c2 O N v a c b d) := S2.out.later hb3
          clear S2 hb3 x0 x1 x2 x3 u0 u1 u2 u3 u4 z0 z1 z2 z3 y0 y1 y2 y3 nrq
          obtain ⟨x0, x1, x2, x3⟩ := S3.out.ka.three'
          obtain ⟨u0, u1, u2, u3, u4⟩ := S3.out.kv.four'
          obtain ⟨z0, z1, z2, z3⟩ := S3.out.kr.three'
          obtain ⟨y0, y1, y2, y3⟩ := S3.out.kq.three'
          have nrq := S3.out.nrq
          go_wp2_with fail
          refine bodyPost_ret (v := .tuple #[.agg #[.int .i64 f, .slice (some ⟨a, 0, none⟩) O.length c, .slice (some ⟨b, 0, none⟩) N.length d], .bool false]) (by simp [results, Try.results22, go_sem, z0, z1, z2]) rfl ?_
          exact send_no S3.out E.out
        · have t4 : ¬ (200 : Int) ≤ (N.length : Int) := by omega
          obtain ⟨x0, x1, x2, x3⟩ := S2.out.ka.three'
          obtain ⟨u0, u1, u2, u3, u4⟩ := S2.out.kv.four'
          obtain ⟨z0, z1, z2, z3⟩ := S2.out.kr.three'
          obtain ⟨y0, y1, y2, y3⟩ := S2.out.kq.three'
          have nrq := S2.out.nrq
          go_wp2_with fail
          refine (specOk_any v.1 v.2.1 v.2.2.1 v.2.2.2 _ OV1.out OV2.out).mono ?_
          rintro e w3 ⟨rfl, hw3⟩
          rw [h2]
          have hb3 : Below w2.heap.size w2 w3 := by rw [hw3]; exact bl_alloc (Below.refl _ _) _
          clear hw3
          have S3 : Hid (Sn w w3 qb f p1 q1 c1 p2 q2 c2 O N v a c b d) := S2.out.later hb3
          clear S2 hb3 x0 x1 x2 x3 u0 u1 u2 u3 u4 z0 z1 z2 z3 y0 y1 y2 y3 nrq
          have E : Hid (snB k f O N v = true) := by show _ = _; exact sn_yes h1 (by simp [vofB, okV4, h2, h4]) (by omega)
          obtain ⟨x0, x1, x2, x3⟩ := S3.out.ka.three'
          obtain ⟨u0, u1, u2, u3, u4⟩ := S3.out.kv.four'
          obtain ⟨z0, z1, z2, z3⟩ := S3.out.kr.three'
          obtain ⟨y0, y1, y2, y3⟩ := S3.out.kq.three'
          have nrq := S3.out.nrq
          have hS := S3.out.app
          obtain ⟨hS1, hS2, hS3, hS4⟩ := hS
          have HS : Hid (∀ j u, (vcells v)[j]? = some u → (w3.alloc (.cells #[.int .i64 v.1, .int .i64 v.2.1, .float .f64 v.2.2.1, .float .f64 v.2.2.2] 32)).cell? ((⟨w3.heap.size, 0, none⟩ : Addr).add j) = some u) := hS1
          have HR : Hid (World.ownsRow (w3.alloc (.cells #[.int .i64 v.1, .int .i64 v.2.1, .float .f64 v.2.2.1, .float .f64 v.2.2.2] 32)) (w.heap.size + 3) 32 4 (.slice (some ⟨b, 0, none⟩) N.length d) N.length (N.flatMap vcells)) := hS2
          have HO1 : Hid (∀ u ∈ vcells v, u.oneCell' = true) := hS3
          have HSZ : Hid (w.heap.size + 3 ≤ (w3.alloc (.cells #[.int .i64 v.1, .int .i64 v.2.1, .float .f64 v.2.2.1, .float .f64 v.2.2.2] 32)).heap.size) := hS4
          clear hS1 hS2 hS3 hS4
          go_wp2_with (at_builtin; refine wpList_append_lies _ rfl _ _ 24 rfl (w.heap.size + 3) 32 i0 (.agg #[.int .i64 0, .int .i64 0, .float .f64 0, .float .f64 0]) 4 32 Try.underlying24 hi hz0 hz1 hz2 rfl (by decide) _ _ _ rfl HR.out ⟨w3.heap.size, 0, none⟩ 1 1 (vcells v) rfl rfl HS.out HO1.out (by omega) (by unfold maxLen; omega) (by omega) HSZ.out _ rfl ?_; intro g7 d7 w5 hown hgrow hor hlg; obtain ⟨kq5, kr5, l5, fin5⟩ := send_yes S3.out hown hgrow hor; have HFIN := fin5; clear fin5; obtain ⟨q0, q1x, q2x, q3⟩ := kq5.three'; obtain ⟨r0, r1, r2, r3⟩ := kr5.three')
          refine bodyPost_ret (v := .tuple #[.agg #[.int .i64 f, .slice (some ⟨a, 0, none⟩) O.length c, .slice (some ⟨g7, 0, none⟩) (N.length + 1) d7], .bool true]) (by simp [results, Try.results22, go_sem, r0, r1, r2]) rfl ?_
          exact HFIN.out E.out


end Go.Proofs.Ytgiclehfhjjalaa
