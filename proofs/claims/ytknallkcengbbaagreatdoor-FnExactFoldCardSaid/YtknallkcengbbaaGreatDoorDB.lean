import Derived.Test.YtknallkcengbbaaGreatDoorDA
import Derived.Test.YtknallkcengbbaaGreatDoorWX2
import Derived.Laws.BytesString
import Derived.Laws.BytesArg
import Derived.Deep.RegionHeld3
import Derived.BigQuiet
namespace Go.Proofs.YtknallkcengbbaaGreatDoor
open Go.RowKit
set_option linter.unusedVariables false
set_option linter.unusedSimpArgs false

theorem flatN_get : ∀ (Q : List NK) (i : Nat) (q : NK), Q[i]? = some q → ∀ j, j < 4 → (Q.flatMap nc)[i * 4 + j]? = (nc q)[j]?
  | p :: Q, 0, q, h, j, hj => by
    simp at h; subst h
    rw [List.flatMap_cons, Nat.zero_mul, Nat.zero_add, List.getElem?_append_left (by rw [nc_len]; omega)]
  | p :: Q, i + 1, q, h, j, hj => by
    have := flatN_get Q i q (by simpa using h) j hj
    rw [List.flatMap_cons, List.getElem?_append_right (by rw [nc_len]; omega), nc_len, ← this]
    congr 1; omega
theorem rN_at {w : World} {B : Nat} {s : Option Addr} {c : Nat} {Q : List NK} (h : (rN (.slice s Q.length c) Q).on w B) {i : Nat} {q : NK} (hq : Q[i]? = some q) :
    ∃ g, s = some ⟨g, 0, none⟩ ∧ g < w.heap.size ∧ w.cell? ⟨g, i * 4, none⟩ = some (.int .i64 q.1.kind) ∧ w.cell? ⟨g, i * 4 + 1, none⟩ = some (.string q.1.text) ∧ w.cell? ⟨g, i * 4 + 2, none⟩ = some (.int .i64 q.1.num) ∧ w.cell? ⟨g, i * 4 + 3, none⟩ = some q.2 := by
  have hi : i < Q.length := (List.getElem?_eq_some_iff.1 hq).1
  rcases Go.Joins.ownsRow_forms h with ⟨e, h0⟩ | ⟨g, cap, e⟩
  · have : Q.length = 0 := h0
    omega
  · simp only [rN, Value.slice.injEq] at e
    obtain ⟨rfl, _, rfl⟩ := e
    have h1 : w.ownsRow B 57 4 (.slice (some ⟨g, 0, none⟩) Q.length c) Q.length (Q.flatMap nc) := h
    have hx : ∀ j, j < 4 → w.cell? ⟨g, i * 4 + j, none⟩ = (nc q)[j]? := fun j hj => by
      have h5 := World.ownsRow.cellAt h1 (i * 4 + j) (by omega)
      rw [h5, flatN_get Q i q hq j hj]
    exact ⟨g, rfl, (OR.on.lt h g rfl).2, hx 0 (by omega), hx 1 (by omega), hx 2 (by omega), hx 3 (by omega)⟩
theorem Tryz.infoNds : (Tryz.prog.info? 57).map (·.size) = some 4 := by kernel_rfl
theorem lf_none {k q : Int} {ks : List PT} (h8 : k = 8 → (vK (at0 ks 0).k = 0 ∨ vK (at0 ks 1).k = 0)) (h9 : k = 9 → vK (at0 ks 0).k = 0) : lfV k q ks = (0, 0) := by
  have e : mdV k q ks = zV := by
    unfold mdV
    split
    · rename_i e
      rcases h8 e with h | h
      · rw [h]; simp [opOut, okB]
      · rw [h]; unfold opOut; rw [if_neg]; rintro ⟨_, h2, _⟩; simp [okB] at h2
    · split
      · rename_i e; rw [h9 e]; simp [turnOut, okB]
      · rfl
  unfold lfV
  rw [e]
  simp [leafV, zV]
theorem vK_no {k : Int} (h : ¬ (k = 1 ∨ k = 3)) : vK k = 0 := by
  unfold vK
  rw [if_neg (fun e => h (Or.inl e)), if_neg (fun e => h (Or.inr e))]

/-- leaves beside what they fold to. -/
def KidsL (L : List NK) (ks : List PT) : Prop := ∀ (j : Nat) (a : PT), ks[j]? = some a → ∃ p : NK, L[j]? = some p ∧ p.1.kind = a.k ∧ p.1.num = a.i ∧ okL a.k a.i ∧ p.2.oneCell' = true
set_option maxRecDepth 100000 in
set_option maxHeartbeats 8000000 in
theorem small_8 {q : Int} {t : ByteArray} {kv : Value} (hkv : kv.oneCell' = true) (sl : Option Addr) (cl : Nat) (L : List NK) (ks : List PT) (w : World) (hL : (rN (.slice sl L.length cl) L).on w 0) (hk : KidsL L ks) (h2 : 2 ≤ ks.length) :
    Calls Tryz.prog 32 #[.agg #[.int .i64 8, .string t, .int .i64 q, kv], .slice sl L.length cl] w fun e w' => LeafT (lfV 8 q ks) e ∧ Below w.heap.size w w' := by
  have hal := alloc_old
  have haf := alloc_oldf
  obtain ⟨a, ha⟩ := get_some (L := ks) (k := 0) (by omega)
  obtain ⟨b, hb⟩ := get_some (L := ks) (k := 1) (by omega)
  obtain ⟨p0, hp0, k0, i0, ok0, oc0⟩ := hk 0 a ha
  obtain ⟨p1, hp1, k1, i1, ok1, oc1⟩ := hk 1 b hb
  have ea : at0 ks 0 = a := by simp [at0, ha]
  have eb : at0 ks 1 = b := by simp [at0, hb]
  obtain ⟨g, rfl, hg, c0, c1, c2, c3⟩ := rN_at hL hp0
  obtain ⟨g', e', _, d0, d1, d2, d3⟩ := rN_at hL hp1
  obtain rfl : g = g' := by simpa using e'
  have hl1 : (1 : Int) < (L.length : Int) := by have := (List.getElem?_eq_some_iff.1 hp1).1; omega
  have hl0 : 0 < L.length := by omega
  rw [k0] at c0
  rw [i0] at c2
  rw [k1] at d0
  rw [i1] at d2
  have KS : ∀ w', Below w.heap.size w w' → w'.cell? ⟨g, 0, none⟩ = some (.int .i64 a.k) ∧ w'.cell? ⟨g, 1, none⟩ = some (.string p0.1.text) ∧ w'.cell? ⟨g, 2, none⟩ = some (.int .i64 a.i) ∧ w'.cell? ⟨g, 3, none⟩ = some p0.2 ∧ w'.cell? ⟨g, 4, none⟩ = some (.int .i64 b.k) ∧ w'.cell? ⟨g, 5, none⟩ = some (.string p1.1.text) ∧ w'.cell? ⟨g, 6, none⟩ = some (.int .i64 b.i) ∧ w'.cell? ⟨g, 7, none⟩ = some p1.2 :=
    fun w' h => ⟨(h.cell (p := ⟨g, 0, none⟩) hg).trans c0, (h.cell (p := ⟨g, 1, none⟩) hg).trans c1, (h.cell (p := ⟨g, 2, none⟩) hg).trans c2, (h.cell (p := ⟨g, 3, none⟩) hg).trans c3, (h.cell (p := ⟨g, 4, none⟩) hg).trans d0, (h.cell (p := ⟨g, 5, none⟩) hg).trans d1, (h.cell (p := ⟨g, 6, none⟩) hg).trans d2, (h.cell (p := ⟨g, 7, none⟩) hg).trans d3⟩
  have HKS := hid KS
  have EA := hid ea
  have EB := hid eb
  have HLF : Hid (lfV 8 q ks = leafV (opOut q (vK a.k) (vI a.k a.i) 0 0 (vK b.k) (vI b.k b.i) 0 0).1) := by show _ = _; unfold lfV mdV; rw [if_pos rfl, ea, eb]
  have B0 : Below w.heap.size w ((w.alloc (.cells #[.int .i64 8, .string t, .int .i64 q, kv] 57)).alloc (.cells nz 57)) := bl_alloc (bl_alloc (Below.refl _ _) _) _
  have KN : Hid (Blk ((w.alloc (.cells #[.int .i64 8, .string t, .int .i64 q, kv] 57)).alloc (.cells nz 57)) w.heap.size #[.int .i64 8, .string t, .int .i64 q, kv] 57) := (Blk.new w _ _).later (bl_alloc (Below.refl _ _) _)
  have KT : Hid (Blk ((w.alloc (.cells #[.int .i64 8, .string t, .int .i64 q, kv] 57)).alloc (.cells nz 57)) (w.heap.size + 1) nz 57) := Blk.in' (by simp)
  have HB0 := hid B0
  obtain ⟨x0, x1, x2, x3, x4, x5, x6, x7⟩ := KS _ B0
  obtain ⟨n0, n1, n2, n3, n4⟩ := Blk.four' KN.out
  clear ha hb hk hp0 hp1 k0 i0 k1 i1 ea eb hL c0 c1 c2 c3 d0 d1 d2 d3 KS B0 e' h2
  go_enter Tryz.func32, Tryz.ntmps32
  go_wp2_with fail
  generalize hW : (w.alloc (.cells #[.int .i64 8, .string t, .int .i64 q, kv] 57)).alloc (.cells nz 57) = W0 at KN KT HB0 x0 x1 x2 x3 x4 x5 x6 x7 n0 n1 n2 n3 n4 ⊢
  clear hW x0 x1 x2 x3 x4 x5 x6 x7 n0 n1 n2 n3 n4
  refine (specValue_any a.k a.i _ p0.2 oc0 _ ok0).mono ?_
  rintro e w1 ⟨rfl, hb1⟩
  have B1 := hid (bl_trans HB0.out hb1)
  have KN1 := hid (KN.out.later hb1)
  have KT1 := hid (KT.out.later hb1)
  clear hb1 KN KT HB0
  obtain ⟨n0, n1, n2, n3, n4⟩ := Blk.four' KN1.out
  have L2 : Below w1.heap.size w1 (w1.alloc (.cells #[.int .i64 (vK a.k), .int .i64 (vI a.k a.i), .float .f64 0, .float .f64 0] 76)) := bl_alloc (Below.refl _ _) _
  have KA := hid (Blk.new w1 #[.int .i64 (vK a.k), .int .i64 (vI a.k a.i), .float .f64 0, .float .f64 0] 76)
  have B2 := hid (bl_trans B1.out L2)
  have KN2 := hid (KN1.out.later L2)
  have KT2 := hid (KT1.out.later L2)
  by_cases qa : a.k = 1 ∨ a.k = 3
  rotate_left
  · rw [decide_eq_false qa]
    have hlf : Hid (lfV 8 q ks = (0, 0)) := lf_none (fun _ => Or.inl (by rw [EA.out]; exact vK_no qa)) (fun h => by omega)
    clear qa
    go_wp2_with (refine wpl_row Tryz.infoNds rfl _ _ rfl (w.heap.size + 1) nz nz rfl rfl KT2.out rfl rfl (by simp [Value.oneCell']) ?_; intro w9 hB9 hb9)
    have B9 := hid (hb9 _ _ B2.out (Nat.le_succ _))
    obtain ⟨y0, y1, y2, y3, y4⟩ := Blk.four' hB9
    clear hb9 hB9
    go_wp2_with fail
    refine bodyPost_ret (v := .tuple #[.agg nz, .bool false]) (by simp [results, Tryz.results32, go_sem, y0, y1, y2, y3]) rfl ⟨?_, B9.out⟩
    rw [hlf.out]
    rfl
  rw [decide_eq_true qa]
  clear qa
  go_wp2_with fail
  clear n0 n1 n2 n3 n4 L2
  generalize hW2 : w1.alloc (.cells #[.int .i64 (vK a.k), .int .i64 (vI a.k a.i), .float .f64 0, .float .f64 0] 76) = W2 at KA B2 KN2 KT2 ⊢
  have hA : w.heap.size ≤ w1.heap.size := B1.out.size
  generalize w1.heap.size = na at KA hA ⊢
  clear hW2 B1 KN1 KT1
  refine (specTurn_any q (vK a.k) (vI a.k a.i) 0 0 _ (by decide) (by decide)).mono ?_
  rintro e w3 ⟨ka, ia, xa, ya, rfl, _, hb3⟩
  have B3 := hid (bl_trans B2.out hb3)
  have KN3 := hid (KN2.out.later hb3)
  have KT3 := hid (KT2.out.later hb3)
  have KA3 := hid (KA.out.later hb3)
  clear hb3 B2 KN2 KT2 KA
  have L4 : Below w3.heap.size w3 (w3.alloc (.cells #[.int .i64 ka, .int .i64 ia, .float .f64 xa, .float .f64 ya] 76)) := bl_alloc (Below.refl _ _) _
  have KC := hid (Blk.new w3 #[.int .i64 ka, .int .i64 ia, .float .f64 xa, .float .f64 ya] 76)
  have B4 := hid (bl_trans B3.out L4)
  have KN4 := hid (KN3.out.later L4)
  have KT4 := hid (KT3.out.later L4)
  have KA4 := hid (KA3.out.later L4)
  obtain ⟨n0, n1, n2, n3, n4⟩ := Blk.four' KN3.out
  obtain ⟨x0, x1, x2, x3, x4, x5, x6, x7⟩ := HKS.out _ B3.out
  clear L4
  go_wp2_with fail
  clear n0 n1 n2 n3 n4 x0 x1 x2 x3 x4 x5 x6 x7
  have hC : w.heap.size ≤ w3.heap.size := B3.out.size
  have hC2 : w.heap.size + 1 < w3.heap.size := KT3.out.lt
  generalize hW4 : w3.alloc (.cells #[.int .i64 ka, .int .i64 ia, .float .f64 xa, .float .f64 ya] 76) = W4 at KC B4 KN4 KT4 KA4 ⊢
  generalize w3.heap.size = nb at KC hC hC2 ⊢
  clear hW4 B3 KN3 KT3 KA3
  refine (specValue_any b.k b.i _ p1.2 oc1 _ ok1).mono ?_
  rintro e w5 ⟨rfl, hb5⟩
  have B5 := hid (bl_trans B4.out hb5)
  have KN5 := hid (KN4.out.later hb5)
  have KT5 := hid (KT4.out.later hb5)
  have KA5 := hid (KA4.out.later hb5)
  have KC5 := hid (KC.out.later hb5)
  clear hb5 B4 KN4 KT4 KA4 KC
  have L6 : Below w5.heap.size w5 (w5.alloc (.cells #[.int .i64 (vK b.k), .int .i64 (vI b.k b.i), .float .f64 0, .float .f64 0] 76)) := bl_alloc (Below.refl _ _) _
  have B6 := hid (bl_trans B5.out L6)
  have KT6 := hid (KT5.out.later L6)
  have KC6 := hid (KC5.out.later L6)
  by_cases qb : b.k = 1 ∨ b.k = 3
  rotate_left
  · rw [decide_eq_false qb]
    have hlf : Hid (lfV 8 q ks = (0, 0)) := lf_none (fun _ => Or.inr (by rw [EB.out]; exact vK_no qb)) (fun h => by omega)
    clear qb
    go_wp2_with (refine wpl_row Tryz.infoNds rfl _ _ rfl (w.heap.size + 1) nz nz rfl rfl KT6.out rfl rfl (by simp [Value.oneCell']) ?_; intro w9 hB9 hb9)
    have B9 := hid (hb9 _ _ B6.out (Nat.le_succ _))
    obtain ⟨y0, y1, y2, y3, y4⟩ := Blk.four' hB9
    clear hb9 hB9
    go_wp2_with fail
    refine bodyPost_ret (v := .tuple #[.agg nz, .bool false]) (by simp [results, Tryz.results32, go_sem, y0, y1, y2, y3]) rfl ⟨?_, B9.out⟩
    rw [hlf.out]
    rfl
  rw [decide_eq_true qb]
  clear qb
  have HOP : ∀ W, Hid (Calls Tryz.prog 53 #[.int .i64 q, .agg #[.int .i64 (vK a.k), .int .i64 (vI a.k a.i), .float .f64 0, .float .f64 0], .agg #[.int .i64 (vK b.k), .int .i64 (vI b.k b.i), .float .f64 0, .float .f64 0]] W fun e w' => Leaves2 (opOut q (vK a.k) (vI a.k a.i) 0 0 (vK b.k) (vI b.k b.i) 0 0) W e w') := fun W => specOp_any q (vK a.k) (vI a.k a.i) 0 0 (vK b.k) (vI b.k b.i) 0 0 W (by decide) (by decide) (by decide) (by decide) (vI_in ok0)
  have hfm := fm_op q (vK a.k) (vI a.k a.i) 0 0 (vK b.k) (vI b.k b.i) 0 0
  generalize opOut q (vK a.k) (vI a.k a.i) 0 0 (vK b.k) (vI b.k b.i) 0 0 = o at HOP hfm HLF
  obtain ⟨n0, n1, n2, n3, n4⟩ := Blk.four' KN5.out
  obtain ⟨a0, a1, a2, a3, a4⟩ := Blk.four' KA5.out
  have HFM := hid hfm
  clear L6 hfm
  go_wp2_with fail
  clear n0 n1 n2 n3 n4 a0 a1 a2 a3 a4 KN5 KA5 KT5 KC5 B5
  generalize w5.alloc (.cells #[.int .i64 (vK b.k), .int .i64 (vI b.k b.i), .float .f64 0, .float .f64 0] 76) = W6 at B6 KT6 KC6 ⊢
  refine ((HOP W6).out).mono ?_
  rintro e w7 ⟨ko, io, xo, yo, rfl, hv, hb7⟩
  obtain ⟨e1, e2, _, _⟩ := hv
  have B7 := hid (bl_trans B6.out hb7)
  have KT7 := hid (KT6.out.later hb7)
  have KC7 := hid (KC6.out.later hb7)
  clear hb7 B6 KT6 KC6 HOP
  obtain ⟨⟨o1, o2, o3⟩, oc⟩ := o
  have e1 : ko = o1 := e1
  have e2 : io = o2 := e2
  subst e1 e2
  by_cases hc : oc = 0
  · subst hc
    go_wp2_with (refine wpl_row Tryz.infoVas rfl _ _ rfl nb #[.int .i64 ko, .int .i64 io, .float .f64 xo, .float .f64 yo] #[.int .i64 ka, .int .i64 ia, .float .f64 xa, .float .f64 ya] rfl rfl KC7.out rfl rfl (by simp [Value.oneCell']) ?_; intro w8 hB8 hb8; have B8 := hid (hb8 _ _ B7.out hC); have KT8 := hid (KT7.out.under (hb8 nb w7 (Below.refl _ _) (Nat.le_refl _)) hC2); obtain ⟨c0, c1, c2, c3, c4⟩ := Blk.four' hB8; clear hb8 hB8)
    clear c0 c1 c2 c3 c4 B7 KT7 KC7
    refine (specLeaf_any (ko, io, o3) xo yo _).mono ?_
    rintro e w9 ⟨hl, hb9⟩
    have B9 := hid (bl_trans B8.out hb9)
    have KT9 := hid (KT8.out.later hb9)
    clear hb9 B8 KT8
    have hLF := HLF.out
    have hl : e = _ := hl
    subst hl
    have hLF : lfV 8 q ks = leafV (ko, io, o3) := hLF
    generalize leafV (ko, io, o3) = lf at hLF ⊢
    obtain ⟨l1, l2⟩ := lf
    have HL := hid hLF
    clear hLF HLF HFM
    obtain ⟨d, hd⟩ : ∃ d, decide (¬ l1 = 0) = d := ⟨_, rfl⟩
    rw [show decide (¬ (l1, l2).1 = 0) = d from hd]
    go_wp2_with (refine wpl_row Tryz.infoNds rfl _ _ rfl (w.heap.size + 1) #[.int .i64 l1, .string ⟨#[]⟩, .int .i64 l2, .slice none 0 0] nz rfl rfl KT9.out rfl rfl (by simp [Value.oneCell']) ?_; intro w10 hB10 hb10; have B10 := hid (hb10 _ _ B9.out (Nat.le_succ _)); obtain ⟨y0, y1, y2, y3, y4⟩ := Blk.four' hB10; clear hb10 hB10)
    go_wp2_with fail
    refine bodyPost_ret (v := .tuple #[.agg #[.int .i64 l1, .string ⟨#[]⟩, .int .i64 l2, .slice none 0 0], .bool d]) (by simp [results, Tryz.results32, go_sem, y0, y1, y2, y3]) rfl ⟨?_, B10.out⟩
    rw [HL.out, ← hd]; rfl
  · have hz := HFM.out.2 hc
    have HL : Hid (lfV 8 q ks = (0, 0)) := by show _ = _; rw [HLF.out, hz]; rfl
    have tc : (oc == 0) = false := by simp [hc]
    clear hz hc HLF HFM
    go_wp2_with (first
      | (refine wpl_row Tryz.infoVas rfl _ _ rfl nb #[.int .i64 ko, .int .i64 io, .float .f64 xo, .float .f64 yo] #[.int .i64 ka, .int .i64 ia, .float .f64 xa, .float .f64 ya] rfl rfl KC7.out rfl rfl (by simp [Value.oneCell']) ?_; intro w8 hB8 hb8; have B8 := hid (hb8 _ _ B7.out hC); have KT8 := hid (KT7.out.under (hb8 nb w7 (Below.refl _ _) (Nat.le_refl _)) hC2); obtain ⟨c0, c1, c2, c3, c4⟩ := Blk.four' hB8; clear hb8 hB8)
      | (refine wpl_row Tryz.infoNds rfl _ _ rfl (w.heap.size + 1) nz nz rfl rfl KT8.out rfl rfl (by simp [Value.oneCell']) ?_; intro w9 hB9 hb9; have B9 := hid (hb9 _ _ B8.out (Nat.le_succ _)); obtain ⟨y0, y1, y2, y3, y4⟩ := Blk.four' hB9; clear hb9 hB9))
    go_wp2_with fail
    refine bodyPost_ret (v := .tuple #[.agg nz, .bool false]) (by simp [results, Tryz.results32, go_sem, y0, y1, y2, y3]) rfl ⟨?_, B9.out⟩
    rw [HL.out]
    rfl
set_option maxRecDepth 100000 in
set_option maxHeartbeats 8000000 in
theorem small_9 {q : Int} {t : ByteArray} {kv : Value} (hkv : kv.oneCell' = true) (sl : Option Addr) (cl : Nat) (L : List NK) (ks : List PT) (w : World) (hL : (rN (.slice sl L.length cl) L).on w 0) (hk : KidsL L ks) (h2 : 1 ≤ ks.length) :
    Calls Tryz.prog 32 #[.agg #[.int .i64 9, .string t, .int .i64 q, kv], .slice sl L.length cl] w fun e w' => LeafT (lfV 9 q ks) e ∧ Below w.heap.size w w' := by
  have hal := alloc_old
  have haf := alloc_oldf
  obtain ⟨a, ha⟩ := get_some (L := ks) (k := 0) (by omega)
  obtain ⟨p0, hp0, k0, i0, ok0, oc0⟩ := hk 0 a ha
  have ea : at0 ks 0 = a := by simp [at0, ha]
  obtain ⟨g, rfl, hg, c0, c1, c2, c3⟩ := rN_at hL hp0
  have hl0 : 0 < L.length := (List.getElem?_eq_some_iff.1 hp0).1
  rw [k0] at c0
  rw [i0] at c2
  have KS : ∀ w', Below w.heap.size w w' → w'.cell? ⟨g, 0, none⟩ = some (.int .i64 a.k) ∧ w'.cell? ⟨g, 1, none⟩ = some (.string p0.1.text) ∧ w'.cell? ⟨g, 2, none⟩ = some (.int .i64 a.i) ∧ w'.cell? ⟨g, 3, none⟩ = some p0.2 :=
    fun w' h => ⟨(h.cell (p := ⟨g, 0, none⟩) hg).trans c0, (h.cell (p := ⟨g, 1, none⟩) hg).trans c1, (h.cell (p := ⟨g, 2, none⟩) hg).trans c2, (h.cell (p := ⟨g, 3, none⟩) hg).trans c3⟩
  have HKS := hid KS
  have EA := hid ea
  have HLF : Hid (lfV 9 q ks = leafV (turnOut q (vK a.k) (vI a.k a.i) 0 0).1) := by show _ = _; unfold lfV mdV; rw [if_neg (by omega), if_pos rfl, ea]
  have B0 : Below w.heap.size w ((w.alloc (.cells #[.int .i64 9, .string t, .int .i64 q, kv] 57)).alloc (.cells nz 57)) := bl_alloc (bl_alloc (Below.refl _ _) _) _
  have KN : Hid (Blk ((w.alloc (.cells #[.int .i64 9, .string t, .int .i64 q, kv] 57)).alloc (.cells nz 57)) w.heap.size #[.int .i64 9, .string t, .int .i64 q, kv] 57) := (Blk.new w _ _).later (bl_alloc (Below.refl _ _) _)
  have KT : Hid (Blk ((w.alloc (.cells #[.int .i64 9, .string t, .int .i64 q, kv] 57)).alloc (.cells nz 57)) (w.heap.size + 1) nz 57) := Blk.in' (by simp)
  have HB0 := hid B0
  obtain ⟨x0, x1, x2, x3⟩ := KS _ B0
  obtain ⟨n0, n1, n2, n3, n4⟩ := Blk.four' KN.out
  clear ha hk hp0 k0 i0 ea hL c0 c1 c2 c3 KS B0 h2
  go_enter Tryz.func32, Tryz.ntmps32
  go_wp2_with fail
  generalize hW : (w.alloc (.cells #[.int .i64 9, .string t, .int .i64 q, kv] 57)).alloc (.cells nz 57) = W0 at KN KT HB0 x0 x1 x2 x3 n0 n1 n2 n3 n4 ⊢
  clear hW x0 x1 x2 x3 n0 n1 n2 n3 n4
  refine (specValue_any a.k a.i _ p0.2 oc0 _ ok0).mono ?_
  rintro e w1 ⟨rfl, hb1⟩
  have B1 := hid (bl_trans HB0.out hb1)
  have KN1 := hid (KN.out.later hb1)
  have KT1 := hid (KT.out.later hb1)
  clear hb1 KN KT HB0
  obtain ⟨n0, n1, n2, n3, n4⟩ := Blk.four' KN1.out
  have L2 : Below w1.heap.size w1 (w1.alloc (.cells #[.int .i64 (vK a.k), .int .i64 (vI a.k a.i), .float .f64 0, .float .f64 0] 76)) := bl_alloc (Below.refl _ _) _
  have KA := hid (Blk.new w1 #[.int .i64 (vK a.k), .int .i64 (vI a.k a.i), .float .f64 0, .float .f64 0] 76)
  have B2 := hid (bl_trans B1.out L2)
  have KN2 := hid (KN1.out.later L2)
  have KT2 := hid (KT1.out.later L2)
  by_cases qa : a.k = 1 ∨ a.k = 3
  rotate_left
  · rw [decide_eq_false qa]
    have hlf : Hid (lfV 9 q ks = (0, 0)) := lf_none (fun h => by omega) (fun _ => by rw [EA.out]; exact vK_no qa)
    clear qa
    go_wp2_with (refine wpl_row Tryz.infoNds rfl _ _ rfl (w.heap.size + 1) nz nz rfl rfl KT2.out rfl rfl (by simp [Value.oneCell']) ?_; intro w9 hB9 hb9)
    have B9 := hid (hb9 _ _ B2.out (Nat.le_succ _))
    obtain ⟨y0, y1, y2, y3, y4⟩ := Blk.four' hB9
    clear hb9 hB9
    go_wp2_with fail
    refine bodyPost_ret (v := .tuple #[.agg nz, .bool false]) (by simp [results, Tryz.results32, go_sem, y0, y1, y2, y3]) rfl ⟨?_, B9.out⟩
    rw [hlf.out]
    rfl
  rw [decide_eq_true qa]
  clear qa
  go_wp2_with fail
  clear n0 n1 n2 n3 n4 L2
  generalize hW2 : w1.alloc (.cells #[.int .i64 (vK a.k), .int .i64 (vI a.k a.i), .float .f64 0, .float .f64 0] 76) = W2 at KA B2 KN2 KT2 ⊢
  have hA : w.heap.size ≤ w1.heap.size := B1.out.size
  generalize w1.heap.size = na at KA hA ⊢
  clear hW2 B1 KN1 KT1
  have HOP : ∀ W, Hid (Calls Tryz.prog 52 #[.int .i64 q, .agg #[.int .i64 (vK a.k), .int .i64 (vI a.k a.i), .float .f64 0, .float .f64 0]] W fun e w' => Leaves2 (turnOut q (vK a.k) (vI a.k a.i) 0 0) W e w') := fun W => specTurn_any q (vK a.k) (vI a.k a.i) 0 0 W (by decide) (by decide)
  have hfm := fm_turn q (vK a.k) (vI a.k a.i) 0 0
  generalize turnOut q (vK a.k) (vI a.k a.i) 0 0 = o at HOP hfm HLF
  have HFM := hid hfm
  clear hfm
  refine ((HOP W2).out).mono ?_
  rintro e w3 ⟨ko, io, xo, yo, rfl, hv, hb3⟩
  obtain ⟨e1, e2, _, _⟩ := hv
  have B3 := hid (bl_trans B2.out hb3)
  have KN3 := hid (KN2.out.later hb3)
  have KT3 := hid (KT2.out.later hb3)
  clear hb3 B2 KN2 KT2 KA HOP
  obtain ⟨⟨o1, o2, o3⟩, oc⟩ := o
  have e1 : ko = o1 := e1
  have e2 : io = o2 := e2
  subst e1 e2
  have L4 : Below w3.heap.size w3 (w3.alloc (.cells #[.int .i64 ko, .int .i64 io, .float .f64 xo, .float .f64 yo] 76)) := bl_alloc (Below.refl _ _) _
  have B8 := hid (bl_trans B3.out L4)
  have KT8 := hid (KT3.out.later L4)
  obtain ⟨n0, n1, n2, n3, n4⟩ := Blk.four' KN3.out
  clear L4
  by_cases hc : oc = 0
  · subst hc
    go_wp2_with fail
    clear n0 n1 n2 n3 n4
    refine (specLeaf_any (ko, io, o3) xo yo _).mono ?_
    rintro e w9 ⟨hl, hb9⟩
    have B9 := hid (bl_trans B8.out hb9)
    have KT9 := hid (KT8.out.later hb9)
    clear hb9 B8 KT8
    have hLF := HLF.out
    have hl : e = _ := hl
    subst hl
    have hLF : lfV 9 q ks = leafV (ko, io, o3) := hLF
    generalize leafV (ko, io, o3) = lf at hLF ⊢
    obtain ⟨l1, l2⟩ := lf
    have HL := hid hLF
    clear hLF HLF HFM
    obtain ⟨d, hd⟩ : ∃ d, decide (¬ l1 = 0) = d := ⟨_, rfl⟩
    rw [show decide (¬ (l1, l2).1 = 0) = d from hd]
    go_wp2_with (refine wpl_row Tryz.infoNds rfl _ _ rfl (w.heap.size + 1) #[.int .i64 l1, .string ⟨#[]⟩, .int .i64 l2, .slice none 0 0] nz rfl rfl KT9.out rfl rfl (by simp [Value.oneCell']) ?_; intro w10 hB10 hb10; have B10 := hid (hb10 _ _ B9.out (Nat.le_succ _)); obtain ⟨y0, y1, y2, y3, y4⟩ := Blk.four' hB10; clear hb10 hB10)
    go_wp2_with fail
    refine bodyPost_ret (v := .tuple #[.agg #[.int .i64 l1, .string ⟨#[]⟩, .int .i64 l2, .slice none 0 0], .bool d]) (by simp [results, Tryz.results32, go_sem, y0, y1, y2, y3]) rfl ⟨?_, B10.out⟩
    rw [HL.out, ← hd]; rfl
  · have hz := HFM.out.2 hc
    have HL : Hid (lfV 9 q ks = (0, 0)) := by show _ = _; rw [HLF.out, hz]; rfl
    have tc : (oc == 0) = false := by simp [hc]
    clear hz hc HLF HFM
    go_wp2_with (first
      | (refine wpl_row Tryz.infoNds rfl _ _ rfl (w.heap.size + 1) nz nz rfl rfl KT8.out rfl rfl (by simp [Value.oneCell']) ?_; intro w9 hB9 hb9; have B9 := hid (hb9 _ _ B8.out (Nat.le_succ _)); obtain ⟨y0, y1, y2, y3, y4⟩ := Blk.four' hB9; clear hb9 hB9))
    go_wp2_with fail
    refine bodyPost_ret (v := .tuple #[.agg nz, .bool false]) (by simp [results, Tryz.results32, go_sem, y0, y1, y2, y3]) rfl ⟨?_, B9.out⟩
    rw [HL.out]
    rfl

set_option maxHeartbeats 2000000 in
theorem small_0 {k q : Int} {t : ByteArray} {kv v2 : Value} (w : World) (h8 : ¬ k = 8) (h9 : ¬ k = 9) (ks : List PT) :
    Calls Tryz.prog 32 #[.agg #[.int .i64 k, .string t, .int .i64 q, kv], v2] w fun e w' => LeafT (lfV k q ks) e ∧ Below w.heap.size w w' := by
  have hal := alloc_old
  have haf := alloc_oldf
  have k0 := Blk.new w #[.int .i64 k, .string t, .int .i64 q, kv] 57
  obtain ⟨x0, x1, x2, x3, x4⟩ := Blk.four' k0
  have t8 : (k != 8) = true := by simp [h8]
  have t9 : (k != 9) = true := by simp [h9]
  have HL : Hid (lfV k q ks = (0, 0)) := lf_none (fun h => absurd h h8) (fun h => absurd h h9)
  clear h8 h9
  go_enter Tryz.func32, Tryz.ntmps32
  go_wp2_with fail
  refine bodyPost_ret (v := .tuple #[.agg nz, .bool false]) (by simp [results, Tryz.results32, go_sem]) rfl ⟨?_, ?_⟩
  · rw [HL.out]; rfl
  · (repeat (first | with_reducible exact Below.refl _ _ | with_reducible refine bl_alloc ?_ _ | with_reducible refine bl_drewN ?_ _ | with_reducible refine bl_drew ?_ | with_reducible refine bl_setCell ?_ (by first | exact Nat.le_refl _ | (dsimp only; omega) | (simp <;> omega)) _ | with_reducible refine bl_trans ?_ (by with_reducible assumption)))
theorem small_any {k q : Int} {t : ByteArray} {kv : Value} (hkv : kv.oneCell' = true) (sl : Option Addr) (cl : Nat) (L : List NK) (ks : List PT) (w : World) (hL : (rN (.slice sl L.length cl) L).on w 0) (hk : KidsL L ks) (h8 : k = 8 → 2 ≤ ks.length) (h9 : k = 9 → 1 ≤ ks.length) :
    Calls Tryz.prog 32 #[.agg #[.int .i64 k, .string t, .int .i64 q, kv], .slice sl L.length cl] w fun e w' => LeafT (lfV k q ks) e ∧ Below w.heap.size w w' := by
  by_cases q8 : k = 8
  · subst q8; exact small_8 hkv sl cl L ks w hL hk (h8 rfl)
  · by_cases q9 : k = 9
    · subst q9; exact small_9 hkv sl cl L ks w hL hk (h9 rfl)
    · exact small_0 w q8 q9 ks
end Go.Proofs.YtknallkcengbbaaGreatDoor
namespace Go.Proofs.YtknallkcengbbaaGreatDoor
open Go.RowKit
set_option linter.unusedVariables false
set_option linter.unusedSimpArgs false

theorem rI_empty {w : World} {b : Nat} (h : Blk w b #[] 3) : (rI (.slice (some ⟨b, 0, none⟩) 0 0) []).on w b := ⟨rfl, Or.inr ⟨b, 0, _, rfl, Nat.le_refl _, h, Nat.le_refl _, by unfold maxLen; omega, rfl, rfl⟩⟩
theorem rN_empty {w : World} {b : Nat} (h : Blk w b #[] 57) : (rN (.slice (some ⟨b, 0, none⟩) 0 0) []).on w b := ⟨rfl, Or.inr ⟨b, 0, _, rfl, Nat.le_refl _, h, Nat.le_refl _, by unfold maxLen; omega, rfl, rfl⟩⟩
theorem rec_perm {α : Type} (A : List α) (e : α) (K S : List α) : (A ++ ([e] ++ (K ++ S))).Perm ([e] ++ (K ++ (A ++ S))) := by
  have h := List.perm_append_comm_assoc A ([e] ++ K) S
  simpa only [List.append_assoc, List.cons_append, List.nil_append] using h
/-- the leaves' list that stands for the first kids. -/
def LvIs (T : Tre) (kids : List Int) (LV : List NK) : Prop := LV.length = kids.length ∧ KidsL LV (kids.map (fdA T))
theorem LvIs.snoc {T : Tre} {kids : List Int} {LV : List NK} (h : LvIs T kids LV) {k : Nat} {m : Nd} (hv : VN T k m) {p : NK} (h1 : p.1.kind = (fdA T (k : Int)).k) (h2 : p.1.num = (fdA T (k : Int)).i) (h3 : p.2.oneCell' = true) : LvIs T (kids ++ [(k : Int)]) (LV ++ [p]) := by
  refine ⟨by simp [h.1], fun j a ha => ?_⟩
  rw [List.map_append] at ha
  by_cases hj : j < kids.length
  · rw [List.getElem?_append_left (by simpa using hj)] at ha
    obtain ⟨q, e1, e2⟩ := h.2 j a ha
    exact ⟨q, by rw [List.getElem?_append_left (by rw [h.1]; exact hj)]; exact e1, e2⟩
  · rw [List.getElem?_append_right (by simpa using hj)] at ha
    have e0 : j - kids.length = 0 := by
      have := (List.getElem?_eq_some_iff.1 ha).1
      simp at this; exact this
    simp only [List.length_map, List.map_cons, List.map_nil, e0, List.getElem?_cons_zero, Option.some.injEq] at ha
    subst ha
    refine ⟨p, ?_, h1, h2, fdA_ok hv, h3⟩
    rw [List.getElem?_append_right (by rw [h.1]; omega), h.1, e0]; rfl

theorem fitL_at {K : Nat → List Int} {ok : Nat → Prop} {l : List Int} {a e : Nat} (h : FitL K ok l a e) : ∀ {j : Nat} {x : Int}, l[j]? = some x → ∃ (k m : Nat), x = k ∧ FitL K ok (l.take j) a m ∧ ok k ∧ FitL K ok (K k) m k ∧ k < e ∧ a ≤ m := by
  induction h with
  | nil nx => intro j x hx; simp at hx
  | cons nx k ks e h1 h2 h3 h4 _ ih =>
    intro j x hx
    have hle := h4.le
    have hle3 := h3.le
    cases j with
    | zero => simp at hx; subst hx; exact ⟨k, nx, rfl, FitL.nil _, h2, h3, by omega, Nat.le_refl _⟩
    | succ j =>
      obtain ⟨k', m, rfl, e2, e3, e4, e5, e6⟩ := ih (by simpa using hx)
      exact ⟨k', m, rfl, FitL.cons nx k _ m h1 h2 h3 e2, e3, e4, e5, by omega⟩
theorem lays_upto {T : Tre} {l : List Int} {a m b : Nat} (h : FitL (kidsOf T) (okN T) l a m) : (lays (lyA T) l b).1.length ≤ m - a := by
  have h1 := lays_fit (b := b) h (g := lyA T) (fun k nx hk ho hf b' => lyA_len k nx ho hf b') ([], [])
  have h2 : (lays (lyA T) l b).1.length ≤ 0 + (m - a) := h1
  omega
theorem flatN_len : ∀ (Q : List NK), (Q.flatMap nc).length = Q.length * 4
  | [] => rfl
  | q :: Q => by rw [List.flatMap_cons, List.length_append, flatN_len Q, nc_len, List.length_cons]; omega
theorem nodeOut {X w : World} {B z c : Nat} {s : Option Addr} {P R : List OR} {Q : List NK} {p : NK} (h : Rs X B w (P ++ ([rN (.slice s (z + 1) c) Q] ++ R))) (hz : Hid (Q.length = z + 1)) (hat : Hid (Q[z]? = some p)) :
    ∃ g, s = some ⟨g, 0, none⟩ ∧ g < w.heap.size ∧ w.cell? ⟨g, z * 4, none⟩ = some (.int .i64 p.1.kind) ∧ w.cell? ⟨g, z * 4 + 1, none⟩ = some (.string p.1.text) ∧ w.cell? ⟨g, z * 4 + 2, none⟩ = some (.int .i64 p.1.num) ∧ w.cell? ⟨g, z * 4 + 3, none⟩ = some p.2 := by
  have h1 : (rN (.slice s (z + 1) c) Q).on w B := h.at P R
  rw [← hz.out] at h1
  exact rN_at h1 hat.out
theorem Rs.mid3 {X W : World} {B : Nat} {a r D : OR} {R : List OR} (h : Rs X B W ([a, r, D] ++ R)) : Rs X B W ([] ++ ([r] ++ R)) :=
  ((h : Rs X B W ([] ++ a :: (r :: D :: R))).less [] _ : Rs X B W ([r] ++ D :: R)).less [r] _
theorem Rs.keep0 {X W : World} {B : Nat} {a b c d : OR} {R : List OR} (h : Rs X B W ([a, b, c, d] ++ R)) : Rs X B W R :=
  Rs.right (R := [a, b, c, d]) h
theorem rN_cut {w : World} {B g c b : Nat} {Q : List NK} (h : (rN (.slice (some ⟨g, 0, none⟩) Q.length c) Q).on w B) (hb : b ≤ Q.length) : (rN (.slice (some ⟨g, 0, none⟩) b c) (Q.take b)).on w B := by
  have hl : (Q.take b).length = b := by rw [List.length_take]; omega
  have hf : (Q.take b).flatMap nc = (Q.flatMap nc).take (b * 4) := by
    have h0 : Q.flatMap nc = (Q.take b).flatMap nc ++ (Q.drop b).flatMap nc := by rw [← List.flatMap_append, List.take_append_drop]
    rw [h0, List.take_append_of_le_length (by rw [flatN_len, hl]; exact Nat.le_refl _), List.take_of_length_le (l := (Q.take b).flatMap nc) (by rw [flatN_len, hl]; exact Nat.le_refl _)]
  rcases h.2 with ⟨e, _⟩ | ⟨g', cap, cur, e, h1, h2, h3, h4, h5, h6⟩
  · cases e
  · simp only [rN, Value.slice.injEq, Option.some.injEq, Addr.mk.injEq] at e
    obtain ⟨⟨rfl, _⟩, _, rfl⟩ := e
    have h6 : cur.toList.take (Q.length * 4) = Q.flatMap nc := h6
    have h3 : Q.length ≤ c := h3
    refine ⟨?_, Or.inr ⟨g, c, cur, by unfold rN; rw [hl], h1, h2, ?_, h4, h5, ?_⟩⟩
    · show ((Q.take b).flatMap nc).length = (Q.take b).length * 4
      exact flatN_len _
    · show (Q.take b).length ≤ c
      omega
    · show cur.toList.take ((Q.take b).length * 4) = (Q.take b).flatMap nc
      rw [hl, hf, ← h6, List.take_take]
      congr 1; omega
theorem Rs.cutN {X W : World} {B g c b : Nat} {Q : List NK} {S : List OR} (h : Rs X B W ([rN (.slice (some ⟨g, 0, none⟩) Q.length c) Q] ++ (rK Q ++ S))) (hb : b ≤ Q.length) : Rs X B W ([] ++ ([rN (.slice (some ⟨g, 0, none⟩) b c) (Q.take b)] ++ (rK (Q.take b) ++ S))) := by
  have h1 := Rs.turn [] (rK Q ++ S) (r' := rN (.slice (some ⟨g, 0, none⟩) b c) (Q.take b)) h (grown_refl _ _) (rN_cut (h.at [] _) hb) (fun k hk => Or.inl hk)
  have e : rK Q = rK (Q.take b) ++ rK (Q.drop b) := by unfold rK; rw [← List.map_append, List.take_append_drop]
  rw [e] at h1
  have h2 : Rs X B W (([rN (.slice (some ⟨g, 0, none⟩) b c) (Q.take b)] ++ (rK (Q.take b) ++ S)) ++ rK (Q.drop b)) := by
    refine h1.perm ?_
    have hp : (rK (Q.take b) ++ rK (Q.drop b) ++ S).Perm (rK (Q.take b) ++ S ++ rK (Q.drop b)) := by
      rw [List.append_assoc, List.append_assoc]
      exact List.Perm.append_left _ List.perm_append_comm
    simpa using hp
  exact h2.left
theorem Rs.keep1 {X W : World} {B : Nat} {a b c d e : OR} {R : List OR} (h : Rs X B W ([a, b, c, d] ++ e :: R)) : Rs X B W ([a] ++ ([e] ++ R)) :=
  (((h : Rs X B W ([a] ++ b :: (c :: d :: e :: R))).less [a] _ : Rs X B W ([a] ++ c :: (d :: e :: R))).less [a] _ : Rs X B W ([a] ++ d :: (e :: R))).less [a] _
set_option maxRecDepth 100000 in
set_option maxHeartbeats 8000000 in
theorem copy_any (T : Tre) (X : World) (s1 s2 : Option Addr) (c1 c2 : Nat) (hT : InT X 0 s1 s2 T) (hk : kTre T) : ∀ (i : Nat) (n : Nd) (nx : Nat) (v : Value) (Q : List NK) (S : List OR) (w : World), VN T i n → FitL (kidsOf T) (okN T) n.kids nx i → i ≤ 4000 → Rs X X.heap.size w ([rN v Q] ++ (rK Q ++ S)) → Q.length + (i + 1 - nx) ≤ 8000 →
    Calls Tryz.prog 20 #[.agg #[.slice s1 T.nodes.length c1, .slice s2 T.tops.length c2], .int .i64 (i : Int), v, .bool true] w fun e w' => Laidn T (i : Int) X X.heap.size Q S e w' := by
  intro i
  induction i using Nat.strongRecOn with
  | ind i ih =>
    intro n nx v Q S w hv hft hi4 hRs hq
    have hal := alloc_old
    have haf := alloc_oldf
    have IH := hid ih
    have HV := hid hv
    have HT := hid hT
    obtain ⟨b0, o0, rfl, _, hbb, s', c', e0, e1, e2, e3, f⟩ := eNode_cells hT.n hv.at_
    have hiT : (i : Int) < (T.nodes.length : Int) := by have := (List.getElem?_eq_some_iff.1 hv.at_).1; omega
    have x0 := (hRs.cell (p := ⟨b0, o0 + i * 4, none⟩) hbb).trans e0
    have x1 := (hRs.cell (p := ⟨b0, o0 + i * 4 + 1, none⟩) hbb).trans e1
    have x2 := (hRs.cell (p := ⟨b0, o0 + i * 4 + 2, none⟩) hbb).trans e2
    have x3 := (hRs.cell (p := ⟨b0, o0 + i * 4 + 3, none⟩) hbb).trans e3
    have HF := hid f
    have hnl : n.kids.length ≤ i := by have := hft.len; omega
    have hnx := hft.le
    have HFT := hid hft
    have HK := hid hk
    obtain ⟨sv, cv, rfl⟩ := rN_shape (hRs.at [] _)
    have r1 := Rs.ins [] _ (r := rB w.heap.size 29 [.slice (some ⟨b0, o0, none⟩) T.nodes.length c1, .slice s2 T.tops.length c2]) hRs (bl_alloc (Below.refl _ _) _) (blk_rB (Blk.new w _ _) (Nat.le_refl _))
    have r2 := Rs.ins [] _ (r := rB (w.heap.size + 1) 57 [.int .i64 n.kind, .string n.text, .int .i64 n.num, .slice s' n.kids.length c']) r1 (bl_alloc (Below.refl _ _) (.cells #[.int .i64 n.kind, .string n.text, .int .i64 n.num, .slice s' n.kids.length c'] 57)) (blk_rB (Blk.in' (by simp)) (by simp))
    have hs2 : ((w.alloc (.cells #[.slice (some ⟨b0, o0, none⟩) T.nodes.length c1, .slice s2 T.tops.length c2] 29)).alloc (.cells #[.int .i64 n.kind, .string n.text, .int .i64 n.num, .slice s' n.kids.length c'] 57)).heap.size = w.heap.size + 1 + 1 := by simp
    have hs3 : (((w.alloc (.cells #[.slice (some ⟨b0, o0, none⟩) T.nodes.length c1, .slice s2 T.tops.length c2] 29)).alloc (.cells #[.int .i64 n.kind, .string n.text, .int .i64 n.num, .slice s' n.kids.length c'] 57)).alloc (.cells #[] 3)).heap.size = w.heap.size + 1 + 1 + 1 := by simp
    have r3 := Rs.ins [] _ (r := rI (.slice (some ⟨w.heap.size + 1 + 1, 0, none⟩) 0 0) []) r2 (bl_alloc (Below.refl _ _) (.cells #[] 3)) (by rw [hs2]; exact rI_empty (Blk.in' hs2))
    have r4 := Rs.ins [rI (.slice (some ⟨w.heap.size + 1 + 1, 0, none⟩) 0 0) []] _ (r := rN (.slice (some ⟨w.heap.size + 1 + 1 + 1, 0, none⟩) 0 0) []) r3 (bl_alloc (Below.refl _ _) (.cells #[] 57)) (by rw [hs3]; exact rN_empty (Blk.in' hs3))
    have R4 := hid r4
    clear r1 r2 r3 r4 ih hv hft hT hk f e0 e1 e2 e3 hRs hs2 hs3
    go_enter Tryz.func20, Tryz.ntmps20
    go_wp2_with fail
    clear x0 x1 x2 x3
    generalize hW4 : ((((w.alloc (.cells #[.slice (some ⟨b0, o0, none⟩) T.nodes.length c1, .slice s2 T.tops.length c2] 29)).alloc (.cells #[.int .i64 n.kind, .string n.text, .int .i64 n.num, .slice s' n.kids.length c'] 57)).alloc (.cells #[] 3)).alloc (.cells #[] 57)) = W4 at R4 ⊢
    clear hW4 hal haf
    generalize hnb : w.heap.size + 1 = nb at R4 ⊢
    generalize htb : w.heap.size = tb at R4 ⊢
    clear hnb htb
    obtain ⟨iI, hiI, hzI, hsI, hbI⟩ := info_parts Tryz.infoI
    obtain ⟨iN, hiN, hzN, hsN, hbN⟩ := info_parts Tryz.infoNdd
    obtain ⟨b, hbq⟩ : ∃ b, b = Q.length := ⟨_, rfl⟩
    have HB := hid hbq
    rw [← hbq] at hq
    have HLY : Hid (∀ b, lyA T (i : Int) b = mkL n.kind n.text n.num (n.kids.map (fdA T)) (lyA T) n.kids b) := fun b => lyA_eq HV.out b
    clear hbq
    go_loopw [2, 10, 11, 13] (fun ov kv lv ii wr => ∃ (j : Nat) (s9 s8 s7 : Option Addr) (c9 c8 c7 : Nat) (Q' LV : List NK) (ids : List Int), j ≤ n.kids.length ∧ ii = .int .i64 j ∧ ov = .slice s9 Q'.length c9 ∧ kv = .slice s8 ids.length c8 ∧ lv = .slice s7 LV.length c7 ∧ Hid (ids.length = j) ∧ Hid (Q'.length = b + (lays (lyA T) (n.kids.take j) b).1.length) ∧ Hid (Q'.map (·.1) = Q.map (·.1) ++ (lays (lyA T) (n.kids.take j) b).1) ∧ Hid (ids = (lays (lyA T) (n.kids.take j) b).2) ∧ Hid (LvIs T (n.kids.take j) LV) ∧ Hid (Rs X X.heap.size wr ([rI (.slice s8 ids.length c8) ids, rN (.slice s7 LV.length c7) LV, rB nb 57 [.int .i64 n.kind, .string n.text, .int .i64 n.num, .slice s' n.kids.length c'], rB tb 29 [.slice (some ⟨b0, o0, none⟩) T.nodes.length c1, .slice s2 T.tops.length c2]] ++ ([rN (.slice s9 Q'.length c9) Q'] ++ (rK Q' ++ S))))) (fun _ _ _ ii _ => n.kids.length - (intOf ii).toNat)
    case atStart => exact ⟨0, sv, _, _, cv, 0, 0, Q, [], [], Nat.zero_le _, rfl, rfl, rfl, rfl, rfl, by simp [Hid, lays, HB.out], by simp [Hid, lays], by simp [Hid, lays], ⟨rfl, fun j a h => by simp at h⟩, R4.out⟩
    case round =>
      obtain ⟨j, s9, s8, s7, c9, c8, c7, Q', LV, ids, hj, rfl, rfl, rfl, rfl, hil, hQl, hQm, hid', hLv, hRr⟩ := hrel
      clear R4
      by_cases hlt : j < n.kids.length
      · obtain ⟨x, hx⟩ := get_some hlt
        obtain ⟨kk, mx, rfl, hft2, hok, hfk, hkk, hxm⟩ := fitL_at HFT.out hx
        obtain ⟨m, hvk⟩ := VN.ofOk hok hfk
        have hfk2 : FitL (kidsOf T) (okN T) m.kids mx kk := by rw [kidsOf_some hvk.at_] at hfk; exact hfk
        obtain ⟨b2, o2, rfl, _, hp2, d0⟩ := eInt_cells HF.out hx
        have hup := lays_upto (b := b) hft2
        have hle2 := hfk2.le
        have hQl2 := hQl.out
        have hc2 : Q'.length + (kk + 1 - mx) ≤ 8000 := by omega
        have hRp := hRr.out.perm (rec_perm [rI (.slice s8 ids.length c8) ids, rN (.slice s7 LV.length c7) LV, rB nb 57 [.int .i64 n.kind, .string n.text, .int .i64 n.num, .slice (some ⟨b2, o2, none⟩) n.kids.length c'], rB tb 29 [.slice (some ⟨b0, o0, none⟩) T.nodes.length c1, .slice s2 T.tops.length c2]] (rN (.slice s9 Q'.length c9) Q') (rK Q') S)
        have HC := hid (IH.out kk hkk m mx (.slice s9 Q'.length c9) Q' _ wr.drew hvk hfk2 (by omega) hRp.drew hc2)
        have D0 := hid d0
        have x5 := (hRr.out.cell (p := ⟨b2, o2 + j, none⟩) hp2).trans d0
        obtain ⟨x0, x1, x2⟩ := Blk.two (hRr.out.box [rI (.slice s8 ids.length c8) ids, rN (.slice s7 LV.length c7) LV, rB nb 57 [.int .i64 n.kind, .string n.text, .int .i64 n.num, .slice (some ⟨b2, o2, none⟩) n.kids.length c']] ([rN (.slice s9 Q'.length c9) Q'] ++ (rK Q' ++ S)))
        obtain ⟨n0, n1, n2, n3, n4⟩ := Blk.four' (hRr.out.box [rI (.slice s8 ids.length c8) ids, rN (.slice s7 LV.length c7) LV] ([rB tb 29 [.slice (some ⟨b0, o0, none⟩) T.nodes.length c1, .slice s2 T.tops.length c2]] ++ ([rN (.slice s9 Q'.length c9) Q'] ++ (rK Q' ++ S))))
        have HX : Hid (lays (lyA T) (n.kids.take (j + 1)) b = layS (lyA T) b (lays (lyA T) (n.kids.take j) b) (kk : Int)) := lays_next (lyA T) b hx
        have HXJ := hid hx
        have HVK := hid hvk
        have hjn : (j : Int) < (n.kids.length : Int) := by omega
        have HQ8 : Hid (Q'.length + (lyA T (kk : Int) Q'.length).length ≤ 8000) := by have := lyA_len kk mx hok hfk Q'.length; show _ ≤ _; omega
        clear hRp hup hle2 hQl2 hc2 hft2 hfk hfk2 d0 hx hvk
        go_wp2_with fail
        go_region_held3 (fun w' => w'.cell? ⟨tb, 0, none⟩ = some (.slice (some ⟨b0, o0, none⟩) T.nodes.length c1) ∧ w'.cell? ⟨tb, 1, none⟩ = some (.slice s2 T.tops.length c2) ∧ w'.cell? ⟨nb, 3, none⟩ = some (.slice (some ⟨b2, o2, none⟩) n.kids.length c') ∧ w'.cell? ⟨b2, o2 + j, none⟩ = some (.int .i64 (kk : Int))) (simp [x0, x1, n3, x5])
          (first
            | (go_at_call 20; refine (HC.out).mono ?_; rintro e w2 ⟨v2, Q2, rfl, hR2, hm⟩; have R2 := hid (hR2.perm (rec_perm [rI (.slice s8 ids.length c8) ids, rN (.slice s7 LV.length c7) LV, rB nb 57 [.int .i64 n.kind, .string n.text, .int .i64 n.num, .slice (some ⟨b2, o2, none⟩) n.kids.length c'], rB tb 29 [.slice (some ⟨b0, o0, none⟩) T.nodes.length c1, .slice s2 T.tops.length c2]] (rN v2 Q2) (rK Q2) S).symm); have x5 := (R2.out.cell (p := ⟨b2, o2 + j, none⟩) hp2).trans D0.out; obtain ⟨x0, x1, x2⟩ := Blk.two (R2.out.box [rI (.slice s8 ids.length c8) ids, rN (.slice s7 LV.length c7) LV, rB nb 57 [.int .i64 n.kind, .string n.text, .int .i64 n.num, .slice (some ⟨b2, o2, none⟩) n.kids.length c']] ([rN v2 Q2] ++ (rK Q2 ++ S))); obtain ⟨n0, n1, n2, n3, n4⟩ := Blk.four' (R2.out.box [rI (.slice s8 ids.length c8) ids, rN (.slice s7 LV.length c7) LV] ([rB tb 29 [.slice (some ⟨b0, o0, none⟩) T.nodes.length c1, .slice s2 T.tops.length c2]] ++ ([rN v2 Q2] ++ (rK Q2 ++ S))))))
        clear x0 x1 x2 n0 n1 n2 n3 n4 x5
        obtain ⟨s4, c4, rfl⟩ := rN_shape (R2.out.at [rI (.slice s8 ids.length c8) ids, rN (.slice s7 LV.length c7) LV, rB nb 57 [.int .i64 n.kind, .string n.text, .int .i64 n.num, .slice (some ⟨b2, o2, none⟩) n.kids.length c'], rB tb 29 [.slice (some ⟨b0, o0, none⟩) T.nodes.length c1, .slice s2 T.tops.length c2]] (rK Q2 ++ S))
        obtain ⟨L, m', hl, hk1, hk2, _⟩ := lyA_last HVK.out Q'.length
        have hm2 := hm
        rw [hl, ← List.append_assoc] at hm2
        obtain ⟨Q3, Q4, e1, e2, e3⟩ := List.map_eq_append_iff.1 hm2
        obtain ⟨p, rfl, hpm⟩ : ∃ p, Q4 = [p] ∧ p.1 = m' := by
          rcases Q4 with _ | ⟨p, _ | ⟨p', Q5⟩⟩
          · simp at e3
          · exact ⟨p, rfl, by simpa using e3⟩
          · simp at e3
        obtain ⟨z, hz⟩ : ∃ z, Q3.length = z := ⟨_, rfl⟩
        have hQz : Q2.length = z + 1 := by rw [e1]; simp [hz]
        have hat : Q2[z]? = some p := by rw [e1, ← hz]; simp
        have hz8 : z + 1 ≤ 8000 := by
          have h1 := congrArg List.length hm
          have h2 := HQ8.out
          simp at h1
          omega
        obtain ⟨pn, pv⟩ := p
        obtain ⟨sp, cp, rfl⟩ := rI_shape (R2.out.o.on (rI pv pn.kids) (by
          have h1 : rI pv pn.kids ∈ rK Q2 := List.mem_map.2 ⟨(pn, pv), List.mem_of_getElem? hat, rfl⟩
          simp [h1]))
        have HPM : Hid (pn.kind = (fdA T (kk : Int)).k ∧ pn.num = (fdA T (kk : Int)).i) := by
          have hpm : pn = m' := hpm
          show _ ∧ _
          rw [hpm]; exact ⟨hk1, hk2⟩
        have HAT := hid hat
        have HZ := hid hQz
        have HM := hid hm
        rw [hQz] at R2
        rw [hQz]
        clear hl hk1 hk2 hm2 e1 e2 e3 hpm hz hQz hat hm HC
        have R3 := hid (R2.out.later (bl_alloc (Below.refl _ w2) (.cells #[.int .i64 (z : Int)] 3)))
        have B3 := hid (Blk.new w2 #[.int .i64 (z : Int)] 3)
        have hi8 : ids.length ≤ 4000 := by have := hil.out; omega
        have hl8 : LV.length ≤ 4000 := by have := hLv.out.1; rw [List.length_take] at this; omega
        go_wp2_with (first
          | (at_builtin; refine wpl_app [] ([rN (.slice s7 LV.length c7) LV, rB nb 57 [.int .i64 n.kind, .string n.text, .int .i64 n.num, .slice (some ⟨b2, o2, none⟩) n.kids.length c'], rB tb 29 [.slice (some ⟨b0, o0, none⟩) T.nodes.length c1, .slice s2 T.tops.length c2]] ++ ([rN (.slice s4 (z + 1) c4) Q2] ++ (rK Q2 ++ S))) (r := rI (.slice s8 ids.length c8) ids) R3.out rfl _ _ 23 8 rfl Tryz.underlying23 hiI hzI hsI hbI rfl (Nat.succ_pos _) rfl (some ⟨w2.heap.size, 0, none⟩) 1 1 [.int .i64 (z : Int)] rfl rfl (srcB B3.out) (fun u hu => by simp at hu; subst hu; rfl) (by show ids.length + 1 ≤ _; unfold maxLen; omega) (by show (ids.length + 1) * 8 ≤ _; omega) (ids.length + 1) rfl (fun v => rI v (ids ++ [(z : Int)])) (fun _ => by simp [rI]) ?_; intro s5 c5 w4 hR5; have R5 := hid hR5; obtain ⟨g, rfl, hg, y0, y1, y2, y3⟩ := nodeOut (P := [rI (.slice s5 (ids.length + 1) c5) (ids ++ [(z : Int)]), rN (.slice s7 LV.length c7) LV, rB nb 57 [.int .i64 n.kind, .string n.text, .int .i64 n.num, .slice (some ⟨b2, o2, none⟩) n.kids.length c'], rB tb 29 [.slice (some ⟨b0, o0, none⟩) T.nodes.length c1, .slice s2 T.tops.length c2]]) (R := rK Q2 ++ S) hR5 HZ HAT; have R6 := hid (R5.out.later (bl_alloc (Below.refl _ w4) (.cells #[.int .i64 pn.kind, .string pn.text, .int .i64 pn.num, .slice sp pn.kids.length cp] 57))); have B6 := hid (Blk.new w4 #[.int .i64 pn.kind, .string pn.text, .int .i64 pn.num, .slice sp pn.kids.length cp] 57); clear hR5)
          | (at_builtin; refine wpl_app [rI (.slice s5 (ids.length + 1) c5) (ids ++ [(z : Int)])] ([rB nb 57 [.int .i64 n.kind, .string n.text, .int .i64 n.num, .slice (some ⟨b2, o2, none⟩) n.kids.length c'], rB tb 29 [.slice (some ⟨b0, o0, none⟩) T.nodes.length c1, .slice s2 T.tops.length c2]] ++ ([rN (.slice (some ⟨g, 0, none⟩) (z + 1) c4) Q2] ++ (rK Q2 ++ S))) (r := rN (.slice s7 LV.length c7) LV) R6.out rfl _ _ 27 56 rfl Tryz.underlying27 hiN hzN hsN hbN rfl (Nat.succ_pos _) rfl (some ⟨w4.heap.size, 0, none⟩) 1 1 [.int .i64 pn.kind, .string pn.text, .int .i64 pn.num, .slice sp pn.kids.length cp] rfl rfl (Or.inr ⟨_, rfl, news4 B6.out⟩) (fun u hu => by simp only [List.mem_cons, List.not_mem_nil, or_false] at hu; rcases hu with rfl | rfl | rfl | rfl <;> rfl) (by show LV.length + 1 ≤ _; unfold maxLen; omega) (by show (LV.length + 1) * 56 ≤ _; omega) (LV.length + 1) rfl (fun v => rN v (LV ++ [(pn, .slice sp pn.kids.length cp)])) (fun _ => by simp [rN, nc]) ?_; intro s6 c6 w5 hR7; have R7 := hid hR7; clear hR7))
        go_roundw
        case rel =>
          have hil := hil.out
          have hQl := hQl.out
          have hnx := HX.out
          have e6 : n.kids.take (j + 1) = n.kids.take j ++ [(kk : Int)] := by
            rw [List.take_succ_eq_append_getElem hlt]
            have : n.kids[j] = (kk : Int) := by have hx := HXJ.out; rw [List.getElem?_eq_getElem hlt] at hx; simpa using hx
            rw [this]
          have hz := HZ.out
          have hmz : z + 1 = Q'.length + (lyA T (kk : Int) Q'.length).length := by have := congrArg List.length HM.out; simp at this; omega
          refine ⟨j + 1, some ⟨g, 0, none⟩, s5, s6, c4, c5, c6, Q2, LV ++ [(pn, .slice sp pn.kids.length cp)], ids ++ [(z : Int)], by omega, by go_num, by rw [hz], by simp, by simp, by simp [Hid, hil], ?_, ?_, ?_, ?_, ?_⟩
          · show _ = _
            rw [hz, hmz, hnx, hQl]; simp [layS]; omega
          · show _ = _
            rw [HM.out, hQm.out, hnx, hQl]; simp [layS]
          · show _ = _
            rw [hnx, hid'.out]
            simp only [layS]
            rw [← hQl, ← hmz]; simp
          · show LvIs _ _ _
            rw [e6]
            exact hLv.out.snoc HVK.out HPM.out.1 HPM.out.2 rfl
          · have h7 := R7.out
            show Rs _ _ _ _
            rw [hz]
            simpa using h7
        case measure => simp [intOf] <;> omega
      · have hj' : j = n.kids.length := by omega
        have hQl := hQl.out
        have hQm := hQm.out
        have hid' := hid'.out
        have hLv := hLv.out
        rw [hj', List.take_length] at hQl hQm hid' hLv
        have HQm := hid hQm
        have HQl := hid hQl
        have HQi := hid hid'
        have hup := lays_upto (b := b) HFT.out
        have hq8 : Q'.length ≤ 8000 := by omega
        have hi8 : ids.length ≤ 4000 := by have := hil.out; omega
        have h8 : n.kind = 8 → 2 ≤ (n.kids.map (fdA T)).length := fun h => by have := HV.out.len; rw [h] at this; simp [shp] at this; simp; omega
        have h9 : n.kind = 9 → 1 ≤ (n.kids.map (fdA T)).length := fun h => by have := HV.out.len; rw [h] at this; simp [shp] at this; simp; omega
        have HC := hid (small_any (k := n.kind) (q := n.num) (t := n.text) (kv := .slice s' n.kids.length c') rfl s7 c7 LV (n.kids.map (fdA T)) wr ((hRr.out.at [rI (.slice s8 ids.length c8) ids] ([rB nb 57 [.int .i64 n.kind, .string n.text, .int .i64 n.num, .slice s' n.kids.length c'], rB tb 29 [.slice (some ⟨b0, o0, none⟩) T.nodes.length c1, .slice s2 T.tops.length c2]] ++ ([rN (.slice s9 Q'.length c9) Q'] ++ (rK Q' ++ S)))).mono (Nat.zero_le _)) hLv.2 h8 h9)
        obtain ⟨n0, n1, n2, n3, n4⟩ := Blk.four' (hRr.out.box [rI (.slice s8 ids.length c8) ids, rN (.slice s7 LV.length c7) LV] ([rB tb 29 [.slice (some ⟨b0, o0, none⟩) T.nodes.length c1, .slice s2 T.tops.length c2]] ++ ([rN (.slice s9 Q'.length c9) Q'] ++ (rK Q' ++ S))))
        clear hj' hQl hQm hid' hLv h8 h9 hup hj
        go_wp2_with fail
        refine (HC.out).mono ?_
        rintro e w2 ⟨hl, hb2⟩
        have hl : e = _ := hl
        subst hl
        have R2 := hid (hRr.out.later hb2)
        clear n0 n1 n2 n3 n4 hb2 HC hRr
        have HB1 : Hid (∀ e w', (∃ v' Q2, e = .returned v' ∧ Rs X X.heap.size w' ([rN v' Q2] ++ (rK Q2 ++ S)) ∧ Q2.map (·.1) = Q.map (·.1) ++ mkL n.kind n.text n.num (n.kids.map (fdA T)) (lyA T) n.kids b) → Laidn T (i : Int) X X.heap.size Q S e w') := by
          rintro e w' ⟨v', Q2, h1, h2, h3⟩
          exact ⟨v', Q2, h1, h2, by rw [h3, ← HLY.out, HB.out]⟩
        obtain ⟨lf, hlf⟩ : ∃ lf, Hid (lfV n.kind n.num (n.kids.map (fdA T)) = lf) := ⟨_, rfl⟩
        rw [hlf.out]
        obtain ⟨l1, l2⟩ := lf
        have hz : l1 = 0 → l2 = 0 := by have h := leafV_zero (mdV n.kind n.num (n.kids.map (fdA T))); intro h1; have h2 : lfV n.kind n.num (n.kids.map (fdA T)) = (l1, l2) := hlf.out; unfold lfV at h2; rw [h2] at h; exact h h1
        have R3 := hid (R2.out.later (bl_alloc (Below.refl _ w2) (.cells #[.int .i64 l1, .string ⟨#[]⟩, .int .i64 l2, .slice none 0 0] 57)))
        by_cases h0 : l1 = 0
        · have hd : decide (¬ l1 = 0) = false := by simp [h0]
          rw [show decide (¬ (l1, l2).1 = 0) = false from hd]
          have HMK : Hid (mkL n.kind n.text n.num (n.kids.map (fdA T)) (lyA T) n.kids b = (lays (lyA T) n.kids b).1 ++ [⟨n.kind, n.text, n.num, ids⟩]) := by show _ = _; unfold mkL; rw [hlf.out, if_pos h0, HQi.out]
          clear hd hz h0
          obtain ⟨n0, n1, n2, n3, n4⟩ := Blk.four' (R3.out.box [rI (.slice s8 ids.length c8) ids, rN (.slice s7 LV.length c7) LV] ([rB tb 29 [.slice (some ⟨b0, o0, none⟩) T.nodes.length c1, .slice s2 T.tops.length c2]] ++ ([rN (.slice s9 Q'.length c9) Q'] ++ (rK Q' ++ S))))
          obtain ⟨m0, m1, m2, m3, m4⟩ := Blk.four' (R2.out.box [rI (.slice s8 ids.length c8) ids, rN (.slice s7 LV.length c7) LV] ([rB tb 29 [.slice (some ⟨b0, o0, none⟩) T.nodes.length c1, .slice s2 T.tops.length c2]] ++ ([rN (.slice s9 Q'.length c9) Q'] ++ (rK Q' ++ S))))
          have R4 := hid (R3.out.later (bl_alloc (Below.refl _ (w2.alloc (.cells #[.int .i64 l1, .string ⟨#[]⟩, .int .i64 l2, .slice none 0 0] 57))) (.cells #[.int .i64 n.kind, .string n.text, .int .i64 n.num, .slice s8 ids.length c8] 57)))
          have B4 : Hid (Blk ((w2.alloc (.cells #[.int .i64 l1, .string ⟨#[]⟩, .int .i64 l2, .slice none 0 0] 57)).alloc (.cells #[.int .i64 n.kind, .string n.text, .int .i64 n.num, .slice s8 ids.length c8] 57)) (w2.heap.size + 1) #[.int .i64 n.kind, .string n.text, .int .i64 n.num, .slice s8 ids.length c8] 57) := Blk.in' (by simp)
          go_wp2_with (at_builtin; refine wpl_app [rI (.slice s8 ids.length c8) ids, rN (.slice s7 LV.length c7) LV, rB nb 57 [.int .i64 n.kind, .string n.text, .int .i64 n.num, .slice s' n.kids.length c'], rB tb 29 [.slice (some ⟨b0, o0, none⟩) T.nodes.length c1, .slice s2 T.tops.length c2]] (rK Q' ++ S) (r := rN (.slice s9 Q'.length c9) Q') R4.out rfl _ _ 27 56 rfl Tryz.underlying27 hiN hzN hsN hbN rfl (Nat.succ_pos _) rfl (some ⟨w2.heap.size + 1, 0, none⟩) 1 1 [.int .i64 n.kind, .string n.text, .int .i64 n.num, .slice s8 ids.length c8] rfl rfl (Or.inr ⟨_, rfl, news4 B4.out⟩) (fun u hu => by simp only [List.mem_cons, List.not_mem_nil, or_false] at hu; rcases hu with rfl | rfl | rfl | rfl <;> rfl) (by show Q'.length + 1 ≤ _; unfold maxLen; omega) (by show (Q'.length + 1) * 56 ≤ _; omega) (Q'.length + 1) rfl (fun v => rN v (Q' ++ [(⟨n.kind, n.text, n.num, ids⟩, .slice s8 ids.length c8)])) (fun _ => by simp [rN, nc]) ?_; intro s6 c6 w5 hR7; have R7 := hid hR7; clear hR7)
          go_ret
          refine HB1.out _ _ ⟨_, Q' ++ [(⟨n.kind, n.text, n.num, ids⟩, .slice s8 ids.length c8)], rfl, ?_, ?_⟩
          · have h1 := Rs.keep1 R7.out
            have h2 := Rs.perm h1 (perm_in (rI (.slice s8 ids.length c8) ids) (rN (.slice s6 (Q'.length + 1) c6) (Q' ++ [(⟨n.kind, n.text, n.num, ids⟩, .slice s8 ids.length c8)])) (rK Q') S)
            have e : rK (Q' ++ [((⟨n.kind, n.text, n.num, ids⟩ : Nd), Value.slice s8 ids.length c8)]) = rK Q' ++ [rI (.slice s8 ids.length c8) ids] := by simp [rK]
            rw [e]
            exact h2
          · rw [HMK.out, List.map_append, HQm.out]; simp
        · have hd : decide (¬ l1 = 0) = true := by simp [h0]
          rw [show decide (¬ (l1, l2).1 = 0) = true from hd]
          have HMK : Hid (mkL n.kind n.text n.num (n.kids.map (fdA T)) (lyA T) n.kids b = [⟨l1, ByteArray.empty, l2, []⟩]) := by show _ = _; unfold mkL; rw [hlf.out, if_neg h0]
          have hkp : 0 < n.kids.length := by
            rcases Nat.eq_zero_or_pos n.kids.length with e | e
            · exfalso
              have h1 : lfV n.kind n.num (n.kids.map (fdA T)) = (0, 0) := lf_none (fun h => by have := HV.out.len; rw [h, e] at this; simp [shp] at this) (fun h => by have := HV.out.len; rw [h, e] at this; simp [shp] at this)
              rw [hlf.out] at h1
              exact h0 (congrArg Prod.fst h1)
            · exact e
          have hpos : 0 < (lays (lyA T) n.kids b).1.length := by
            obtain ⟨x, hx⟩ := get_some (L := n.kids) (k := 0) hkp
            obtain ⟨kk, m, rfl, hkk, hvk⟩ := HV.out.kid (List.mem_of_getElem? hx)
            have h1 := lays_mono (lyA T) b n.kids 1
            have h2 := lays_next (lyA T) b hx
            obtain ⟨L, m', hl, _⟩ := lyA_last hvk b
            have h3 : (lays (lyA T) (n.kids.take 1) b).1.length = (lyA T (kk : Int) b).length := by rw [show (1 : Nat) = 0 + 1 from rfl, h2]; simp [layS, lays]
            rw [hl] at h3
            simp at h3
            omega
          have hQl := HQl.out
          have hQp : 0 < Q'.length := by omega
          have hon := R3.out.at [rI (.slice s8 ids.length c8) ids, rN (.slice s7 LV.length c7) LV, rB nb 57 [.int .i64 n.kind, .string n.text, .int .i64 n.num, .slice s' n.kids.length c'], rB tb 29 [.slice (some ⟨b0, o0, none⟩) T.nodes.length c1, .slice s2 T.tops.length c2]] (rK Q' ++ S)
          obtain ⟨g, rfl⟩ : ∃ g, s9 = some ⟨g, 0, none⟩ := by
            rcases Go.Joins.ownsRow_forms hon with ⟨e, h0'⟩ | ⟨g, cap, e⟩
            · have : Q'.length = 0 := h0'
              omega
            · simp only [rN, Value.slice.injEq] at e
              exact ⟨g, e.1⟩
          have hcap : Q'.length ≤ c9 := by
            rcases hon.2 with ⟨e, _⟩ | ⟨g', cap, cur, e, _, _, hle, _⟩
            · cases e
            · simp only [rN, Value.slice.injEq] at e; obtain ⟨_, _, rfl⟩ := e; exact hle
          have htk : (Q'.take b).length = b := by rw [List.length_take]; omega
          have hbl : b ≤ Q'.length := by omega
          have R4 := Rs.ins [] _ (r := rB w2.heap.size 57 [.int .i64 l1, .string ⟨#[]⟩, .int .i64 l2, .slice none 0 0]) (Rs.cutN (Rs.keep0 R2.out) hbl) (bl_alloc (Below.refl _ _) _) (blk_rB (Blk.new w2 _ _) (Nat.le_refl _))
          have hR := hid R4
          have hbI : (b : Int) ≤ (c9 : Int) := by omega
          have hb0 : Q.length = b := HB.out.symm
          rw [hb0]
          have FIN : ∀ (sv : Option Addr) (cv : Nat) (w9 : World) (D : OR), Rs X X.heap.size w9 ([rB w2.heap.size 57 [.int .i64 l1, .string ⟨#[]⟩, .int .i64 l2, .slice none 0 0], (⟨57, 4, .slice sv (b + 1) cv, b + 1, (Q'.take b ++ [((⟨l1, ByteArray.empty, l2, []⟩ : Nd), Value.slice none 0 0)]).flatMap nc⟩ : OR), D] ++ (rK (Q'.take b) ++ S)) → Laidn T (i : Int) X X.heap.size Q S (.returned (.slice sv (b + 1) cv)) w9 := by
            intro sv cv w9 D h
            refine HB1.out _ _ ⟨_, Q'.take b ++ [((⟨l1, ByteArray.empty, l2, []⟩ : Nd), Value.slice none 0 0)], rfl, ?_, ?_⟩
            · have h1 := Rs.mid3 h
              have h2 := Rs.ins [] _ (r := rI (.slice none 0 0) []) h1 (Below.refl _ _) (World.ownsRow_nil _ _ _ _)
              have h3 := Rs.perm h2 (perm_in (rI (.slice none 0 0) []) _ (rK (Q'.take b)) S)
              have e : rK (Q'.take b ++ [((⟨l1, ByteArray.empty, l2, []⟩ : Nd), Value.slice none 0 0)]) = rK (Q'.take b) ++ [rI (.slice none 0 0) []] := by simp [rK]
              have e2 : rN (.slice sv (b + 1) cv) (Q'.take b ++ [((⟨l1, ByteArray.empty, l2, []⟩ : Nd), Value.slice none 0 0)]) = (⟨57, 4, .slice sv (b + 1) cv, b + 1, (Q'.take b ++ [((⟨l1, ByteArray.empty, l2, []⟩ : Nd), Value.slice none 0 0)]).flatMap nc⟩ : OR) := by unfold rN; rw [List.length_append, htk]; rfl
              rw [e, e2]
              exact h3
            · rw [HMK.out, List.map_append, List.map_take, HQm.out, HB.out, List.take_append_of_le_length (by simp)]
              rw [List.take_of_length_le (by simp)]
              rfl
          clear R3 R2 R4 hon hkp hpos hQl hQp hcap hbl hd hz HB1
          go_wp2_with fail
          -- REGION
          refine wp_region_held_drew (S := (fun w' => Blk w' w2.heap.size #[.int .i64 l1, .string ⟨#[]⟩, .int .i64 l2, .slice none 0 0] 57)) (by kernel_rfl) ?_ (fun hHeld => ?_)
          · exact hR.out.box [] ([rN (.slice (some ⟨g, 0, none⟩) b c9) (Q'.take b)] ++ (rK (Q'.take b) ++ S))
          have hR := Hid.mk' hR.out.drew
          refine wpAnyH_one (i := 0) (d := 64) (v := ?_) rfl rfl (by kernel_rfl) (by kernel_rfl) (by kernel_rfl) (fun _ _ _ h => h) (by rfl) (by assumption) ?_ ?_
          rotate_left 1
          · intro w hSw; (try dsimp only at hSw); go_simp <;> with_reducible rfl
          simp only [List.foldl, Act.put, List.setIfInBounds_toArray, List.set_cons_zero, List.set_cons_succ]
          refine wpAnyH_one (i := 1) (d := 65) (v := ?_) rfl rfl (by kernel_rfl) (by kernel_rfl) (by kernel_rfl) (fun _ _ _ h => h) (by rfl) (by assumption) ?_ ?_
          rotate_left 1
          · intro w hSw; (try dsimp only at hSw); go_simp <;> with_reducible rfl
          simp only [List.foldl, Act.put, List.setIfInBounds_toArray, List.set_cons_zero, List.set_cons_succ]
          refine wpAnyH_one (i := 2) (d := 66) (v := ?_) rfl rfl (by kernel_rfl) (by kernel_rfl) (by kernel_rfl) (fun _ _ _ h => h) (by rfl) (by assumption) ?_ ?_
          rotate_left 1
          · intro w hSw; (try dsimp only at hSw); go_simp <;> with_reducible rfl
          simp only [List.foldl, Act.put, List.setIfInBounds_toArray, List.set_cons_zero, List.set_cons_succ]
          refine wpAnyH_one (i := 3) (d := 67) (v := ?_) rfl rfl (by kernel_rfl) (by kernel_rfl) (by kernel_rfl) (fun _ _ _ h => h) (by rfl) (by assumption) ?_ ?_
          rotate_left 1
          · intro w hSw; (try dsimp only at hSw); obtain ⟨q0, q1, q2, q3, q4⟩ := Blk.four' hSw; go_simp <;> with_reducible rfl
          simp only [List.foldl, Act.put, List.setIfInBounds_toArray, List.set_cons_zero, List.set_cons_succ]
          refine dag_start fun Gd a0 hG ha => ?_
          have st0 : ∀ kb : Nat, ∀ sv : Option Addr, ∀ cv : Nat, ∀ g0 : World, Hid (Rs X X.heap.size g0 ([rB w2.heap.size 57 [.int .i64 l1, .string ⟨#[]⟩, .int .i64 l2, .slice none 0 0], (⟨57, 4, (.slice sv (b + 1) cv), b + 1, (Q'.take b ++ [((⟨l1, ByteArray.empty, l2, []⟩ : Nd), Value.slice none 0 0)]).flatMap nc⟩ : OR), rB kb 57 [.int .i64 l1, .string ⟨#[]⟩, .int .i64 l2, .slice none 0 0]] ++ (rK (Q'.take b) ++ S))) → (fun w' => Blk w' w2.heap.size #[.int .i64 l1, .string ⟨#[]⟩, .int .i64 l2, .slice none 0 0] 57) g0 → Gd 0 #[true, true, true, true, true, true, true] (((a0.put (some 68) (.slice (some ⟨kb, 0, none⟩) 1 1)).put (some 69) (.slice sv (b + 1) cv)).put (some 8) (.slice sv (b + 1) cv)) g0 := by
            intro kb sv cv g0 hR hHeld
            rw [hG, ha]
            simp only [List.foldl, Act.put, List.setIfInBounds_toArray, List.set_cons_zero, List.set_cons_succ]
            refine wpAnyH_done (by kernel_rfl) ?_ _
            clear hHeld
            go_wp2_with fail
            go_ret
            exact FIN _ _ _ _ hR.out
          have st1 : ∀ kb : Nat, ∀ g0 : World, Hid (Rs X X.heap.size g0 ([rB w2.heap.size 57 [.int .i64 l1, .string ⟨#[]⟩, .int .i64 l2, .slice none 0 0], rN (.slice (some ⟨g, 0, none⟩) b c9) (Q'.take b), rB kb 57 [.int .i64 l1, .string ⟨#[]⟩, .int .i64 l2, .slice none 0 0]] ++ (rK (Q'.take b) ++ S))) → (fun w' => Blk w' w2.heap.size #[.int .i64 l1, .string ⟨#[]⟩, .int .i64 l2, .slice none 0 0] 57) g0 → Gd 2 #[true, true, true, true, true, false, false] (a0.put (some 68) (.slice (some ⟨kb, 0, none⟩) 1 1)) g0 := by
            intro kb g0 hR hHeld
            rw [hG, ha]
            simp only [List.foldl, Act.put, List.setIfInBounds_toArray, List.set_cons_zero, List.set_cons_succ]
            refine wpAnyH_ready (rs := [5]) (by kernel_rfl) (by simp) ?_
            refine AllReadyH.cons rfl (fun K hK => ?_) AllReadyH.nil
            refine step_app [rB w2.heap.size 57 [.int .i64 l1, .string ⟨#[]⟩, .int .i64 l2, .slice none 0 0]] ([rB kb 57 [.int .i64 l1, .string ⟨#[]⟩, .int .i64 l2, .slice none 0 0]] ++ (rK (Q'.take b) ++ S)) hR.out rfl (d0 := (some 69)) rfl (.tmp 66) (.tmp 68) 27 56 rfl Tryz.underlying27 hiN hzN hsN hbN rfl (Nat.succ_pos _) rfl (some ⟨kb, 0, none⟩) 1 1 [.int .i64 l1, .string ⟨#[]⟩, .int .i64 l2, .slice none 0 0] rfl rfl (Or.inr ⟨_, rfl, news4 (hR.out.box [rB w2.heap.size 57 [.int .i64 l1, .string ⟨#[]⟩, .int .i64 l2, .slice none 0 0], rN (.slice (some ⟨g, 0, none⟩) b c9) (Q'.take b)] (rK (Q'.take b) ++ S))⟩) (by intro u hu; simp only [List.mem_cons, List.not_mem_nil, or_false] at hu; rcases hu with rfl | rfl | rfl | rfl <;> rfl) (by show (Q'.take b).length + 1 ≤ _; rw [htk]; unfold maxLen; omega) (by show ((Q'.take b).length + 1) * 56 ≤ _; rw [htk]; omega) (b + 1) (by show (Q'.take b).length + 1 = _; rw [htk]) (fun v => (⟨57, 4, v, b + 1, (Q'.take b ++ [((⟨l1, ByteArray.empty, l2, []⟩ : Nd), Value.slice none 0 0)]).flatMap nc⟩ : OR)) (fun _ => by simp [rN, nc, htk]; rfl) ?_
            intro sv cv g1 hR'
            have hR : Hid (Rs X X.heap.size g1 ([rB w2.heap.size 57 [.int .i64 l1, .string ⟨#[]⟩, .int .i64 l2, .slice none 0 0], (⟨57, 4, (.slice sv (b + 1) cv), b + 1, (Q'.take b ++ [((⟨l1, ByteArray.empty, l2, []⟩ : Nd), Value.slice none 0 0)]).flatMap nc⟩ : OR), rB kb 57 [.int .i64 l1, .string ⟨#[]⟩, .int .i64 l2, .slice none 0 0]] ++ (rK (Q'.take b) ++ S))) := hR'
            clear hR'
            refine hK.out _ _ ?_ (fun hHeld => ?_)
            · exact hR.out.box [] ([(⟨57, 4, (.slice sv (b + 1) cv), b + 1, (Q'.take b ++ [((⟨l1, ByteArray.empty, l2, []⟩ : Nd), Value.slice none 0 0)]).flatMap nc⟩ : OR), rB kb 57 [.int .i64 l1, .string ⟨#[]⟩, .int .i64 l2, .slice none 0 0]] ++ (rK (Q'.take b) ++ S))
            clear hK K
            try simp only [List.foldl, Act.put, List.setIfInBounds_toArray, List.set_cons_zero, List.set_cons_succ]
            refine wpAnyH_one (i := 6) (d := 8) (v := ?_) rfl rfl (by kernel_rfl) (by kernel_rfl) (by kernel_rfl) (fun _ _ _ h => h) (by rfl) (by assumption) ?_ ?_
            rotate_left 1
            · intro w hSw; (try dsimp only at hSw); go_simp <;> with_reducible rfl
            simp only [List.foldl, Act.put, List.setIfInBounds_toArray, List.set_cons_zero, List.set_cons_succ]
            exact dag_to hG (st0 kb sv cv _  hR hHeld) rfl (by kernel_rfl) (by rw [ha] <;> rfl)
          rw [hG, ha]
          try simp only [List.foldl, Act.put, List.setIfInBounds_toArray, List.set_cons_zero, List.set_cons_succ]
          refine wpAnyH_ready (rs := [4]) (by kernel_rfl) (by simp) ?_
          refine AllReadyH.cons rfl (fun K hK => ?_) AllReadyH.nil
          refine step_bs4 [rB w2.heap.size 57 [.int .i64 l1, .string ⟨#[]⟩, .int .i64 l2, .slice none 0 0], rN (.slice (some ⟨g, 0, none⟩) b c9) (Q'.take b)] (rK (Q'.take b) ++ S) hR.out rfl (d0 := (some 68)) rfl 27 57 Tryz.underlying27 hiN hzN hsN (.tmp 67) rfl (.int .i64 l1) (.string ⟨#[]⟩) (.int .i64 l2) (.slice none 0 0) rfl ?_
          intro kb g2 hR'
          have hR : Hid (Rs X X.heap.size g2 ([rB w2.heap.size 57 [.int .i64 l1, .string ⟨#[]⟩, .int .i64 l2, .slice none 0 0], rN (.slice (some ⟨g, 0, none⟩) b c9) (Q'.take b), rB kb 57 [.int .i64 l1, .string ⟨#[]⟩, .int .i64 l2, .slice none 0 0]] ++ (rK (Q'.take b) ++ S))) := hR'
          clear hR'
          refine hK.out _ _ ?_ (fun hHeld => ?_)
          · exact hR.out.box [] ([rN (.slice (some ⟨g, 0, none⟩) b c9) (Q'.take b), rB kb 57 [.int .i64 l1, .string ⟨#[]⟩, .int .i64 l2, .slice none 0 0]] ++ (rK (Q'.take b) ++ S))
          clear hK K
          exact dag_to hG (st1 kb _  hR hHeld) rfl (by kernel_rfl) (by rw [ha] <;> rfl)
          -- END
end Go.Proofs.YtknallkcengbbaaGreatDoor
namespace Go.Proofs.YtknallkcengbbaaGreatDoor
open Go.RowKit
set_option linter.unusedVariables false
set_option linter.unusedSimpArgs false

theorem perm_two {α : Type} (a b c d e : α) (K : List α) : ([a, b, c] ++ (K ++ [d, e])).Perm ([] ++ (d :: ([a, c] ++ (K ++ [b, e])))) := by
  have h1 : (K ++ [d, e]).Perm (d :: (K ++ [e])) := List.perm_middle
  have h2 : ([a, b, c] ++ (K ++ [d, e])).Perm ([a, b, c] ++ (d :: (K ++ [e]))) := List.Perm.append_left _ h1
  have h3 : ([a, b, c] ++ (d :: (K ++ [e]))).Perm (d :: ([a, b, c] ++ (K ++ [e]))) := List.perm_middle
  have h4 : (a :: b :: c :: (K ++ [e])).Perm (a :: c :: (K ++ [b, e])) := by
    have h5 : (K ++ [b, e]).Perm (b :: (K ++ [e])) := List.perm_middle
    exact ((List.Perm.swap c b (K ++ [e])).trans (h5.symm.cons c)).cons a
  exact (h2.trans h3).trans (h4.cons d)
theorem Rs.keepL {X W : World} {B : Nat} {a b c e : OR} {K : List OR} (h : Rs X B W ([a, c] ++ (K ++ [b, e]))) : Rs X B W ([a, c] ++ (K ++ [])) := by
  have e' : [a, c] ++ (K ++ [b, e]) = ([a, c] ++ (K ++ [])) ++ [b, e] := by simp
  rw [e'] at h
  exact h.left

set_option maxRecDepth 100000 in
set_option maxHeartbeats 8000000 in
theorem specFold_any (t : Tre) (s1 s2 : Option Addr) (c1 c2 : Nat) (w : World) (hT : InT w 0 s1 s2 t) (hkt : kTre t) :
    Calls Tryz.prog 6 #[.agg #[.slice s1 t.nodes.length c1, .slice s2 t.tops.length c2]] w fun e w' => FoldS t w e w' := by
  have hal := alloc_old
  have haf := alloc_oldf
  have k0 := Blk.new w #[.slice s1 t.nodes.length c1, .slice s2 t.tops.length c2] 29
  have L0 := bl_alloc (Below.refl _ w) (.cells #[.slice s1 t.nodes.length c1, .slice s2 t.tops.length c2] 29)
  have ra := Rs.ins [] [] (r := rB w.heap.size 29 [.slice s1 t.nodes.length c1, .slice s2 t.tops.length c2]) (Rs.nil w) L0 (blk_rB k0 (Nat.le_refl _))
  have rb := Rs.ins [] _ (r := rB (w.heap.size + 1) 29 [.slice none 0 0, .slice none 0 0]) ra (bl_alloc (Below.refl _ _) (.cells #[.slice none 0 0, .slice none 0 0] 29)) (blk_rB (Blk.in' (by simp)) (by simp))
  have RB := hid rb
  obtain ⟨x0, x1, x2⟩ := Blk.two (rb.box [rB (w.heap.size + 1) 29 [.slice none 0 0, .slice none 0 0]] [])
  have HT := hid hT
  have HKT := hid hkt
  clear ra rb k0 L0 hT hkt
  go_enter Tryz.func6, Tryz.ntmps6
  go_wp2_with fail
  refine (specTreeOk_any t _ _ _ _ 0 _ (HT.out.later (bl_alloc (bl_alloc (Below.refl _ _) _) _)) HKT.out).mono ?_
  rintro e w1 ⟨rfl, hb1⟩
  have R1 := hid (RB.out.later hb1)
  clear x0 x1 x2 hb1 RB
  obtain ⟨x0, x1, x2⟩ := Blk.two (R1.out.box [rB (w.heap.size + 1) 29 [.slice none 0 0, .slice none 0 0]] [])
  obtain ⟨y0, y1, y2⟩ := Blk.two (R1.out.box [] [rB w.heap.size 29 [.slice s1 t.nodes.length c1, .slice s2 t.tops.length c2]])
  by_cases hp : treP t
  rotate_left
  · have q1 : treB t = false := treB_false hp
    have HE := hid q1
    have hbw := hid R1.out.l
    rw [q1]
    clear hp q1
    go_wp2_with fail
    refine bodyPost_ret (v := .tuple #[.agg #[.slice none 0 0, .slice none 0 0], .bool false]) (by simp [results, Tryz.results6, go_sem, y0, y1, y2]) rfl (FoldS.no HE.out rfl ?_)
    exact (hbw.out.setCell (p := ⟨w.heap.size + 1, 0, none⟩) (Nat.le_succ _) _).setCell (p := ⟨w.heap.size + 1, 1, none⟩) (Nat.le_succ _) _
  have q1 : treB t = true := treB_true hp
  have HE := hid q1
  have HP := hid hp
  rw [q1]
  clear q1 y0 y1 y2
  have htn : t.tops.length ≤ 4000 := (tops_in hp).2
  have hnn : t.nodes.length ≤ 4000 := hp.1
  have r2 := Rs.ins [] _ (r := rB w1.heap.size 29 [.slice none 0 0, .slice none 0 0]) R1.out (bl_alloc (Below.refl _ _) (.cells #[.slice none 0 0, .slice none 0 0] 29)) (blk_rB (Blk.new w1 _ _) (Nat.le_refl _))
  have r3 := Rs.ins [rB w1.heap.size 29 [.slice none 0 0, .slice none 0 0]] _ (r := rN (.slice none 0 0) []) r2 (Below.refl _ _) (World.ownsRow_nil _ _ _ _)
  have R4 := hid (Rs.ins [] _ (r := rI (.slice none 0 0) []) r3 (Below.refl _ _) (World.ownsRow_nil _ _ _ _))
  have hob : w.heap.size + 1 < w1.heap.size := (R1.out.box [] [rB w.heap.size 29 [.slice s1 t.nodes.length c1, .slice s2 t.tops.length c2]]).lt
  clear hp r2 r3 R1
  go_wp2_with fail
  clear x0 x1 x2
  generalize hW4 : w1.alloc (.cells #[.slice none 0 0, .slice none 0 0] 29) = W4 at R4 ⊢
  clear hW4 hal haf
  generalize w1.heap.size = ob at R4 hob ⊢
  obtain ⟨iI, hiI, hzI, hsI, hbI⟩ := info_parts Tryz.infoI
  go_loopw [5] (fun ii wr => ∃ (j : Nat) (nv : Value) (Q : List NK) (ids : List Int) (tv : Value), j ≤ t.tops.length ∧ ii = .int .i64 j ∧ Hid (ids.length = j) ∧ Hid (Q.map (·.1) = (lays (lyA t) (t.tops.take j) 0).1) ∧ Hid (ids = (lays (lyA t) (t.tops.take j) 0).2) ∧ Hid (Rs w w.heap.size wr ([rI tv ids, rB ob 29 [nv, tv], rN nv Q] ++ (rK Q ++ [rB (w.heap.size + 1) 29 [.slice none 0 0, .slice none 0 0], rB w.heap.size 29 [.slice s1 t.nodes.length c1, .slice s2 t.tops.length c2]])))) (fun ii _ => t.tops.length - (intOf ii).toNat)
  case atStart => exact ⟨0, .slice none 0 0, [], [], .slice none 0 0, Nat.zero_le _, rfl, rfl, by simp [Hid, lays], by simp [Hid, lays], R4.out⟩
  case round =>
    obtain ⟨j, nv, Q, ids, tv, hj, rfl, hil, hQm, hid', hRr⟩ := hrel
    clear R4
    have hRq := hRr.out
    obtain ⟨s9, c9, rfl⟩ := rN_shape (hRq.at [rI tv ids, rB ob 29 [nv, tv]] _)
    obtain ⟨sk, ck, rfl⟩ := rI_shape (hRq.at [] _)
    have K1 := hRq.perm (perm_two _ _ _ _ _ _)
    have ctb : Blk wr w.heap.size #[.slice s1 t.nodes.length c1, .slice s2 t.tops.length c2] 29 := rB_blk (hRq.o.on (rB w.heap.size 29 [.slice s1 t.nodes.length c1, .slice s2 t.tops.length c2]) (by simp))
    obtain ⟨x0, x1, x2⟩ := Blk.two ctb
    by_cases hlt : j < t.tops.length
    · obtain ⟨x, hx⟩ := get_some hlt
      obtain ⟨kk, mx, rfl, hft2, hok, hfk, hkk, hxm⟩ := fitL_at HP.out.2.1 hx
      obtain ⟨m, hvk⟩ := VN.ofOk hok hfk
      have hfk2 : FitL (kidsOf t) (okN t) m.kids mx kk := by rw [kidsOf_some hvk.at_] at hfk; exact hfk
      obtain ⟨b2, o2, rfl, _, hp2, d0⟩ := eInt_cells HT.out.t hx
      have e5 := (hRq.cell (p := ⟨b2, o2 + j, none⟩) hp2).trans d0
      have hup := lays_upto (b := 0) hft2
      have hle2 := hfk2.le
      have hQl : Q.length = (lays (lyA t) (t.tops.take j) 0).1.length := by have := congrArg List.length hQm.out; simpa using this
      have hc2 : Q.length + (kk + 1 - mx) ≤ 8000 := by omega
      have hRp := hRq.perm (rec_perm [rI (.slice sk ids.length ck) ids, rB ob 29 [.slice s9 Q.length c9, .slice sk ids.length ck]] (rN (.slice s9 Q.length c9) Q) (rK Q) [rB (w.heap.size + 1) 29 [.slice none 0 0, .slice none 0 0], rB w.heap.size 29 [.slice s1 t.nodes.length c1, .slice (some ⟨b2, o2, none⟩) t.tops.length c2]])
      have HC := hid (copy_any t w s1 (some ⟨b2, o2, none⟩) c1 c2 HT.out HKT.out kk m mx (.slice s9 Q.length c9) Q _ wr.drew hvk hfk2 (by omega) hRp.drew hc2)
      obtain ⟨z0, z1, z2⟩ := Blk.two (hRq.box [rI (.slice sk ids.length ck) ids] ([rN (.slice s9 Q.length c9) Q] ++ (rK Q ++ [rB (w.heap.size + 1) 29 [.slice none 0 0, .slice none 0 0], rB w.heap.size 29 [.slice s1 t.nodes.length c1, .slice (some ⟨b2, o2, none⟩) t.tops.length c2]])))
      have HX : Hid (lays (lyA t) (t.tops.take (j + 1)) 0 = layS (lyA t) 0 (lays (lyA t) (t.tops.take j) 0) (kk : Int)) := lays_next (lyA t) 0 hx
      have HQ8 : Hid (Q.length + (lyA t (kk : Int) Q.length).length ≤ 8000) := by have := lyA_len kk mx hok hfk Q.length; show _ ≤ _; omega
      have HQL := hid hQl
      have D0 := hid d0
      have hjn : (j : Int) < (t.tops.length : Int) := by omega
      clear hRp hRq K1 ctb hup hle2 hQl hc2 hft2 hfk hfk2 d0 hx hvk z0 z1 z2
      go_wp2_with fail
      clear x0 x1 x2 e5
      -- REGION
      have SXP : ∀ {g : World} {R : List OR}, Rs w w.heap.size g R → rB w.heap.size 29 [.slice s1 t.nodes.length c1, .slice (some ⟨b2, o2, none⟩) t.tops.length c2] ∈ R → (fun w' => w'.cell? ⟨w.heap.size, 0, none⟩ = some (.slice s1 t.nodes.length c1) ∧ w'.cell? ⟨w.heap.size, 1, none⟩ = some (.slice (some ⟨b2, o2, none⟩) t.tops.length c2) ∧ w'.cell? ⟨b2, o2 + j, none⟩ = some (.int .i64 (kk : Int))) g := by
        intro g R h hm
        have hb := rB_blk (h.o.on _ hm)
        exact ⟨hb.cell 0, hb.cell 1, (h.cell (p := ⟨b2, o2 + j, none⟩) hp2).trans D0.out⟩
      refine wp_region_held_drew (S := (fun w' => w'.cell? ⟨w.heap.size, 0, none⟩ = some (.slice s1 t.nodes.length c1) ∧ w'.cell? ⟨w.heap.size, 1, none⟩ = some (.slice (some ⟨b2, o2, none⟩) t.tops.length c2) ∧ w'.cell? ⟨b2, o2 + j, none⟩ = some (.int .i64 (kk : Int)))) (by kernel_rfl) ?_ (fun hHeld => ?_)
      · exact SXP hRr.out.drew (by simp)
      have hR := Hid.mk' hRr.out.drew
      refine wpAnyH_one (i := 0) (d := 18) (v := ?_) rfl rfl (by kernel_rfl) (by kernel_rfl) (by kernel_rfl) (fun _ _ _ h => h) (by rfl) (by assumption) ?_ ?_
      rotate_left 1
      · intro w hSw; (try dsimp only at hSw); obtain ⟨q0, q1, q2⟩ := hSw; go_simp <;> with_reducible rfl
      simp only [List.foldl, Act.put, List.setIfInBounds_toArray, List.set_cons_zero, List.set_cons_succ]
      refine wpAnyH_one (i := 1) (d := 19) (v := ?_) rfl rfl (by kernel_rfl) (by kernel_rfl) (by kernel_rfl) (fun _ _ _ h => h) (by rfl) (by assumption) ?_ ?_
      rotate_left 1
      · intro w hSw; (try dsimp only at hSw); go_simp <;> with_reducible rfl
      simp only [List.foldl, Act.put, List.setIfInBounds_toArray, List.set_cons_zero, List.set_cons_succ]
      refine wpAnyH_one (i := 2) (d := 20) (v := ?_) rfl rfl (by kernel_rfl) (by kernel_rfl) (by kernel_rfl) (fun _ _ _ h => h) (by rfl) (by assumption) ?_ ?_
      rotate_left 1
      · intro w hSw; (try dsimp only at hSw); obtain ⟨q0, q1, q2⟩ := hSw; go_simp <;> with_reducible rfl
      simp only [List.foldl, Act.put, List.setIfInBounds_toArray, List.set_cons_zero, List.set_cons_succ]
      refine wpAnyH_one (i := 3) (d := 21) (v := ?_) rfl rfl (by kernel_rfl) (by kernel_rfl) (by kernel_rfl) (fun _ _ _ h => h) (by rfl) (by assumption) ?_ ?_
      rotate_left 1
      · intro w hSw; (try dsimp only at hSw); go_simp <;> with_reducible rfl
      simp only [List.foldl, Act.put, List.setIfInBounds_toArray, List.set_cons_zero, List.set_cons_succ]
      refine wpAnyH_one (i := 4) (d := 22) (v := ?_) rfl rfl (by kernel_rfl) (by kernel_rfl) (by kernel_rfl) (fun _ _ _ h => h) (by rfl) (by assumption) ?_ ?_
      rotate_left 1
      · intro w hSw; (try dsimp only at hSw); go_simp <;> with_reducible rfl
      simp only [List.foldl, Act.put, List.setIfInBounds_toArray, List.set_cons_zero, List.set_cons_succ]
      refine wpAnyH_one (i := 5) (d := 23) (v := ?_) rfl rfl (by kernel_rfl) (by kernel_rfl) (by kernel_rfl) (fun _ _ _ h => h) (by rfl) (by assumption) ?_ ?_
      rotate_left 1
      · intro w hSw; (try dsimp only at hSw); obtain ⟨q0, q1, q2⟩ := hSw; go_simp <;> with_reducible rfl
      simp only [List.foldl, Act.put, List.setIfInBounds_toArray, List.set_cons_zero, List.set_cons_succ]
      refine wpAnyH_one (i := 6) (d := 24) (v := ?_) rfl rfl (by kernel_rfl) (by kernel_rfl) (by kernel_rfl) (fun _ _ _ h => h) (by rfl) (by assumption) ?_ ?_
      rotate_left 1
      · intro w hSw; (try dsimp only at hSw); go_simp <;> with_reducible rfl
      simp only [List.foldl, Act.put, List.setIfInBounds_toArray, List.set_cons_zero, List.set_cons_succ]
      refine wpAnyH_ready (rs := [7]) (by kernel_rfl) (by simp) ?_
      refine AllReadyH.cons rfl (fun K hK => ?_) AllReadyH.nil
      have hbx := hR.out.box [rI (.slice sk ids.length ck) ids] ([rN (.slice s9 Q.length c9) Q] ++ (rK Q ++ [rB (w.heap.size + 1) 29 [.slice none 0 0, .slice none 0 0], rB w.heap.size 29 [.slice s1 t.nodes.length c1, .slice (some ⟨b2, o2, none⟩) t.tops.length c2]]))
      have x0 := hbx.cell 0
      have x1 := hbx.frozen 0
      clear hbx
      go_simp
      clear x0 x1
      refine hK.out _ _ ?_ (fun hHeld => ?_)
      · exact SXP hR.out (by simp)
      clear hK K
      try simp only [List.foldl, Act.put, List.setIfInBounds_toArray, List.set_cons_zero, List.set_cons_succ]
      refine wpAnyH_ready (rs := [8]) (by kernel_rfl) (by simp) ?_
      refine AllReadyH.cons rfl (fun K hK => ?_) AllReadyH.nil
      go_simp
      refine (HC.out).mono ?_
      rintro z w2 ⟨v2, Q2, rfl, hR2, hm⟩
      have R2 := hR2.perm (rec_perm [rI (.slice sk ids.length ck) ids, rB ob 29 [.slice s9 Q.length c9, .slice sk ids.length ck]] (rN v2 Q2) (rK Q2) [rB (w.heap.size + 1) 29 [.slice none 0 0, .slice none 0 0], rB w.heap.size 29 [.slice s1 t.nodes.length c1, .slice (some ⟨b2, o2, none⟩) t.tops.length c2]]).symm
      obtain ⟨s4, c4, rfl⟩ := rN_shape (R2.at [rI (.slice sk ids.length ck) ids, rB ob 29 [.slice s9 Q.length c9, .slice sk ids.length ck]] (rK Q2 ++ [rB (w.heap.size + 1) 29 [.slice none 0 0, .slice none 0 0], rB w.heap.size 29 [.slice s1 t.nodes.length c1, .slice (some ⟨b2, o2, none⟩) t.tops.length c2]]))
      have HM := hid hm
      clear hR hR2 hm
      have hR := Hid.mk' R2
      clear R2 HC
      refine hK.out _ _ ?_ (fun hHeld => ?_)
      · exact SXP hR.out (by simp)
      clear hK K
      try simp only [List.foldl, Act.put, List.setIfInBounds_toArray, List.set_cons_zero, List.set_cons_succ]
      refine wpAnyH_one (i := 9) (d := 27) (v := ?_) rfl rfl (by kernel_rfl) (by kernel_rfl) (by kernel_rfl) (fun _ _ _ h => h) (by rfl) (by assumption) ?_ ?_
      rotate_left 1
      · intro w hSw; (try dsimp only at hSw); go_simp <;> with_reducible rfl
      simp only [List.foldl, Act.put, List.setIfInBounds_toArray, List.set_cons_zero, List.set_cons_succ]
      refine wpAnyH_ready (rs := [10]) (by kernel_rfl) (by simp) ?_
      refine AllReadyH.cons rfl (fun K hK => ?_) AllReadyH.nil
      have hbx := hR.out.box [rI (.slice sk ids.length ck) ids] ([rN (.slice s4 Q2.length c4) Q2] ++ (rK Q2 ++ [rB (w.heap.size + 1) 29 [.slice none 0 0, .slice none 0 0], rB w.heap.size 29 [.slice s1 t.nodes.length c1, .slice (some ⟨b2, o2, none⟩) t.tops.length c2]]))
      have x0 := hbx.cell 0
      have x1 := hbx.frozen 0
      clear hbx
      go_simp
      clear x0 x1
      have hR := Hid.mk' (hR.out.setB [rI (.slice sk ids.length ck) ids] ([rN (.slice s4 Q2.length c4) Q2] ++ (rK Q2 ++ [rB (w.heap.size + 1) 29 [.slice none 0 0, .slice none 0 0], rB w.heap.size 29 [.slice s1 t.nodes.length c1, .slice (some ⟨b2, o2, none⟩) t.tops.length c2]])) 0 (.slice s4 Q2.length c4))
      refine hK.out _ _ ?_ (fun hHeld => ?_)
      · exact SXP hR.out (by simp)
      clear hK K
      try simp only [List.foldl, Act.put, List.setIfInBounds_toArray, List.set_cons_zero, List.set_cons_succ]
      refine wpAnyH_done (by kernel_rfl) ?_ _
      clear hHeld SXP hRr
      -- END
      have hQ2 : Q2.length = Q.length + (lyA t (kk : Int) Q.length).length := by have := congrArg List.length HM.out; simpa using this
      have hq8 : Q2.length ≤ 8000 := by have := HQ8.out; omega
      have hi8 : ids.length ≤ 4000 := by have := hil.out; omega
      have HQ2 := hid hQ2
      clear hQ2
      have tw : IntKind.i64.wrap ((Q2.length : Int) - 1) = (Q2.length : Int) - 1 := by rw [IntKind.wrap_i64]; omega
      have R3 := hid hR.out
      clear hR
      generalize hW3 : w2.setCell ⟨ob, 0, none⟩ (.slice s4 Q2.length c4) = w3 at R3 ⊢
      clear hW3
      obtain ⟨z0, z1, z2⟩ := Blk.two (R3.out.box [rI (.slice sk ids.length ck) ids] ([rN (.slice s4 Q2.length c4) Q2] ++ (rK Q2 ++ [rB (w.heap.size + 1) 29 [.slice none 0 0, .slice none 0 0], rB w.heap.size 29 [.slice s1 t.nodes.length c1, .slice (some ⟨b2, o2, none⟩) t.tops.length c2]])))
      have R4 := hid (R3.out.later (bl_alloc (Below.refl _ w3) (.cells #[.int .i64 ((Q2.length : Int) - 1)] 3)))
      have B4 := hid (Blk.new w3 #[.int .i64 ((Q2.length : Int) - 1)] 3)
      go_wp2_with (at_builtin; refine wpl_app [] ([rB ob 29 [.slice s4 Q2.length c4, .slice sk ids.length ck], rN (.slice s4 Q2.length c4) Q2] ++ (rK Q2 ++ [rB (w.heap.size + 1) 29 [.slice none 0 0, .slice none 0 0], rB w.heap.size 29 [.slice s1 t.nodes.length c1, .slice (some ⟨b2, o2, none⟩) t.tops.length c2]])) (r := rI (.slice sk ids.length ck) ids) R4.out rfl _ _ 23 8 rfl Tryz.underlying23 hiI hzI hsI hbI rfl (Nat.succ_pos _) rfl (some ⟨w3.heap.size, 0, none⟩) 1 1 [.int .i64 ((Q2.length : Int) - 1)] rfl rfl (srcB B4.out) (fun u hu => by simp at hu; subst hu; rfl) (by show ids.length + 1 ≤ _; unfold maxLen; omega) (by show (ids.length + 1) * 8 ≤ _; omega) (ids.length + 1) rfl (fun v => rI v (ids ++ [(Q2.length : Int) - 1])) (fun _ => by simp [rI]) ?_; intro s5 c5 w4 hR5; have R5 := hid hR5; obtain ⟨y0, y1, y2⟩ := Blk.two (hR5.box [rI (.slice s5 (ids.length + 1) c5) (ids ++ [(Q2.length : Int) - 1])] ([rN (.slice s4 Q2.length c4) Q2] ++ (rK Q2 ++ [rB (w.heap.size + 1) 29 [.slice none 0 0, .slice none 0 0], rB w.heap.size 29 [.slice s1 t.nodes.length c1, .slice (some ⟨b2, o2, none⟩) t.tops.length c2]]))); clear hR5)
      have R6 := hid (R5.out.setB [rI (.slice s5 (ids.length + 1) c5) (ids ++ [(Q2.length : Int) - 1])] ([rN (.slice s4 Q2.length c4) Q2] ++ (rK Q2 ++ [rB (w.heap.size + 1) 29 [.slice none 0 0, .slice none 0 0], rB w.heap.size 29 [.slice s1 t.nodes.length c1, .slice (some ⟨b2, o2, none⟩) t.tops.length c2]])) 1 (.slice s5 (ids.length + 1) c5))
      go_roundw
      case rel =>
        have hil := hil.out
        have hQl := HQL.out
        have hnx := HX.out
        have hQ2 := HQ2.out
        refine ⟨j + 1, .slice s4 Q2.length c4, Q2, ids ++ [(Q2.length : Int) - 1], .slice s5 (ids.length + 1) c5, by omega, by go_num, by simp [Hid, hil], ?_, ?_, R6.out⟩
        · show _ = _
          rw [HM.out, hQm.out, hnx, hQl]; simp [layS]
        · show _ = _
          rw [hnx, hQ2, hQl, hid'.out]; simp [layS]
      case measure => simp [intOf] <;> omega
    · have hj' : j = t.tops.length := by omega
      have hQm := hQm.out
      have hid' := hid'.out
      rw [hj', List.take_length] at hQm hid'
      have HQm := hid hQm
      have HQi := hid hid'
      have K0 := hid (hRr.out.perm (perm_two _ _ _ _ _ _))
      obtain ⟨z0, z1, z2⟩ := Blk.two (hRr.out.box [rI (.slice sk ids.length ck) ids] ([rN (.slice s9 Q.length c9) Q] ++ (rK Q ++ [rB (w.heap.size + 1) 29 [.slice none 0 0, .slice none 0 0], rB w.heap.size 29 [.slice s1 t.nodes.length c1, .slice s2 t.tops.length c2]])))
      have KB : Hid (Blk wr (w.heap.size + 1) #[.slice none 0 0, .slice none 0 0] 29) := K0.out.box [] _
      clear hQm hid' hRr hRq K1 ctb hj'
      go_wp2_with (refine wpl_rowS Tryz.infoTrs rfl _ _ rfl (w.heap.size + 1) #[.slice s9 Q.length c9, .slice sk ids.length ck] #[.slice none 0 0, .slice none 0 0] rfl rfl KB.out rfl rfl (by simp [Value.oneCell']) ?_; intro w5 h5; have H5 := hid h5; clear h5)
      have K2 := Rs.putB [] _ (ds := [.slice s9 Q.length c9, .slice sk ids.length ck]) K0.out
      rw [show wr.setRow (w.heap.size + 1) [.slice s9 Q.length c9, .slice sk ids.length ck].toArray = w5 from H5.out.symm] at K2
      obtain ⟨y0, y1, y2⟩ := Blk.two (K2.box [] _)
      have K3 := hid (Rs.keepL (K2.less [] _))
      clear K2 H5 K0
      go_wp2_with fail
      refine bodyPost_ret (v := .tuple #[.agg #[.slice s9 Q.length c9, .slice sk ids.length ck], .bool true]) (by simp [results, Tryz.results6, go_sem, y0, y1]) rfl ⟨_, _, Q, by rw [HE.out], ?_, ?_⟩
      · rw [fldA_yes HE.out]; show Rs _ _ _ ([rI _ (lays (lyA t) t.tops 0).2, _] ++ _); rw [← HQi.out]; exact K3.out
      · rw [fldA_yes HE.out]; exact HQm.out
end Go.Proofs.YtknallkcengbbaaGreatDoor
namespace Go.Proofs.YtknallkcengbbaaGreatDoor
open Go.RowKit
set_option linter.unusedVariables false
set_option linter.unusedSimpArgs false
set_option maxRecDepth 100000
def mDg (k : Nat) (t : ByteArray) : ByteArray := if h : k = 0 then t else mDg (k / 10) (ByteArray.empty.push (UInt8.ofNat (48 + k % 10)) ++ t)
termination_by k
decreasing_by omega
def mTx (k : Int) : ByteArray := (⟨#[109]⟩ : ByteArray) ++ mDg k.toNat ⟨#[]⟩
set_option maxHeartbeats 1000000 in
theorem markText_is (k : Int) (w : World) (h0 : 1 ≤ k) (h1 : k ≤ 100000000) :
    Calls Tryz.prog 46 #[.int .i64 k] w fun e w' => e = .returned (.string (mTx k)) ∧ Below w.heap.size w w' := by
  have hob := one_byte
  obtain ⟨R, hR⟩ : ∃ R, Hid (mDg k.toNat ⟨#[]⟩ = R) := ⟨_, (rfl : mDg k.toNat ⟨#[]⟩ = _)⟩
  have hX : Hid (mTx k = (⟨#[109]⟩ : ByteArray) ++ R) := by show mTx k = _; unfold mTx; rw [hR.out]
  go_enter Tryz.func46, Tryz.ntmps46
  go_wp2_with fail
  go_loopw [0, 3] (fun x s wr => ∃ (k : Int) (t : ByteArray), x = .int .i64 k ∧ s = .string t ∧ 0 ≤ k ∧ k ≤ 100000000 ∧ (t.size : Int) + k ≤ 100000000 ∧ Hid (mDg k.toNat t = R) ∧ Below w.heap.size w wr) (fun x _ _ => (intOf x).toNat)
  case atStart => exact ⟨k, _, rfl, rfl, by omega, by omega, by rw [show ((⟨#[]⟩ : ByteArray).size : Int) = 0 from rfl]; omega, hR, Below.refl _ _⟩
  case round =>
    obtain ⟨k, t, rfl, rfl, k0, k1, kt, hr, hb⟩ := hrel
    have hts : ¬ 9223372036854775807 < 1 + t.size := by omega
    by_cases hk : 0 < k
    · go_wp2_with fail
      refine ⟨⟨k / 10, _, rfl, rfl, by omega, by omega, ?_, ?_, bl_alloc hb _⟩, ?_⟩
      · rw [push_size]; omega
      · show _ = R
        rw [← hr.out]
        conv => rhs; unfold mDg
        rw [dif_neg (by omega), show (k / 10).toNat = k.toNat / 10 by omega]
        rw [show (48 + k % 10).toNat = 48 + k.toNat % 10 by omega]
      · simp [intOf]; omega
    · have hk0 : k = 0 := by omega
      subst hk0
      go_wp2_with fail
      go_ret
      refine ⟨?_, hb⟩
      have := hr.out
      unfold mDg at this
      simp at this
      rw [hX.out, ← this]
      rfl
def wI (k : Int) (n : Nat) : List Int := (List.range n).map fun (i : Nat) => k + (i : Int)
theorem wI_len (k : Int) (n : Nat) : (wI k n).length = n := by simp [wI]
theorem wI_succ (k : Int) (n : Nat) : wI k (n + 1) = wI k n ++ [k + (n : Int)] := by simp [wI, List.range_succ]
theorem wI_at (k : Int) (n j : Nat) (h : j < n) : (wI k n)[j]? = some (k + (j : Int)) := by simp [wI, h]
def MkR (w : World) (B : Nat) (v : Value) (r : OR) (w' : World) : Prop := r.on w' B ∧ w.grownBy w' v.ownBlock
theorem drop_get {α : Type} {L : List α} {m : Nat} {p : α} (h : L[m]? = some p) : L.drop m = p :: L.drop (m + 1) := by
  obtain ⟨hlt, rfl⟩ := List.getElem?_eq_some_iff.1 h
  exact List.drop_eq_getElem_cons hlt
theorem grow_set {w w' : World} {g : Nat} (h : w.grownBy w' (some g)) (o : Nat) (u : Value) : w.grownBy (w'.setCell ⟨g, o, none⟩ u) (some g) :=
  grown_trans h ⟨rfl, rfl, rfl, by simp, fun k hk hne => Below.heap_setCell w' ⟨g, o, none⟩ u k (by dsimp only; exact fun e => hne (by rw [e]))⟩
theorem own_put1 {w : World} {B g n cap : Nat} {T : TypeId} {K : Nat} {A C : List Value} {x u : Value} {i : Nat} (h : w.ownsRow B T K (.slice (some ⟨g, 0, none⟩) n cap) n (A ++ x :: C)) (hi : i = A.length) : (w.setCell ⟨g, i, none⟩ u).ownsRow B T K (.slice (some ⟨g, 0, none⟩) n cap) n (A ++ u :: C) := by
  have := (World.ownsRow.stored h i u).1
  rw [hi, List.set_append_right _ _ (Nat.le_refl _), Nat.sub_self, List.set_cons_zero] at this
  rw [hi]; exact this
set_option maxHeartbeats 2000000 in
theorem markI_o (s : Option Addr) (c : Nat) (L : List Int) (B : Nat) (k : Int) (w : World) (h : (rI (.slice s L.length c) L).on w B) (hl : L.length ≤ 1048576) (k0 : 0 ≤ k) (k1 : k ≤ 9000000000000000000) :
    Calls Tryz.prog 15 #[.slice s L.length c, .int .i64 k] w fun e w' => e = .returned (.int .i64 (k + (L.length : Int))) ∧ MkR w B (.slice s L.length c) (rI (.slice s L.length c) (wI k L.length)) w' := by
  have h0 : w.ownsRow B 3 1 (.slice s L.length c) L.length (L.map (Value.int .i64)) := h
  rcases Go.Joins.ownsRow_forms h0 with ⟨e, hz⟩ | ⟨g, cap, e⟩
  · have e0 := List.length_eq_zero_iff.1 hz
    subst e0
    go_enter Tryz.func15, Tryz.ntmps15
    go_wp2_with fail
    go_loop [1, 5] (fun x i => x = .int .i64 k ∧ i = .int .i64 0) (fun _ _ => 0)
    case atStart => exact ⟨rfl, rfl⟩
    case round =>
      obtain ⟨rfl, rfl⟩ := hrel
      go_wp2_with fail
      go_ret
      exact ⟨by simp, h, grown_refl _ _⟩
  · cases e
    go_enter Tryz.func15, Tryz.ntmps15
    go_wp2_with fail
    go_loopw [1, 5] (fun x i wr => ∃ m : Nat, m ≤ L.length ∧ i = .int .i64 m ∧ x = .int .i64 (k + (m : Int)) ∧ Hid (wr.ownsRow B 3 1 (.slice (some ⟨g, 0, none⟩) L.length c) L.length ((wI k m ++ L.drop m).map (Value.int .i64)) ∧ w.grownBy wr (some g))) (fun _ i _ => L.length - (intOf i).toNat)
    case atStart => exact ⟨0, Nat.zero_le _, rfl, by simp, by simpa [wI] using h0, grown_refl _ _⟩
    case round =>
      obtain ⟨m, hm, rfl, rfl, hrow⟩ := hrel
      by_cases hlt : m < L.length
      · obtain ⟨p, hp⟩ := get_some hlt
        have hr := hrow.out.1
        rw [drop_get hp, List.map_append, List.map_cons] at hr
        have hc := World.ownsRow.cellAt hr m (by omega)
        rw [List.getElem?_append_right (by simp [wI_len])] at hc
        simp [wI_len] at hc
        have hf := World.ownsRow.frozenAt hr m
        have hput := own_put1 (i := m) (u := .int .i64 (k + (m : Int))) hr (by simp [wI_len])
        have HP : Hid ((wr.setCell ⟨g, m, none⟩ (.int .i64 (k + (m : Int)))).ownsRow B 3 1 (.slice (some ⟨g, 0, none⟩) L.length c) L.length ((wI k (m + 1) ++ L.drop (m + 1)).map (Value.int .i64)) ∧ w.grownBy (wr.setCell ⟨g, m, none⟩ (.int .i64 (k + (m : Int)))) (some g)) := by
          refine ⟨?_, grow_set hrow.out.2 _ _⟩
          rw [wI_succ]; simpa using hput
        clear hput hr hrow hp h h0
        go_wp2_with fail
        go_roundw
        case rel => exact ⟨m + 1, by omega, by go_num, by congr 1; simp; omega, HP⟩
        case measure => simp [intOf]; omega
      · have hm' : m = L.length := by omega
        subst hm'
        have hr := hrow.out
        rw [List.drop_length, List.append_nil] at hr
        go_wp2_with fail
        go_ret
        refine ⟨rfl, ?_, hr.2⟩
        show World.ownsRow _ _ _ _ _ (wI k L.length).length _
        rw [wI_len]; exact hr.1
set_option maxHeartbeats 2000000 in
theorem heldI_o (s : Option Addr) (c n : Nat) (B : Nat) (k : Int) (w : World) (h : Els 1 cInt w B s (wI k n)) (hl : n ≤ 1048576) (k0 : 0 ≤ k) (k1 : k ≤ 9000000000000000000) :
    Calls Tryz.prog 16 #[.slice s n c, .int .i64 k] w fun e w' => e = .returned (.int .i64 (k + (n : Int))) ∧ w' = w := by
  go_enter Tryz.func16, Tryz.ntmps16
  go_wp2_with fail
  go_loop [1, 5] (fun x i => ∃ m : Nat, m ≤ n ∧ i = .int .i64 m ∧ x = .int .i64 (k + (m : Int))) (fun _ i => n - (intOf i).toNat)
  case atStart => exact ⟨0, Nat.zero_le _, rfl, by simp⟩
  case round =>
    obtain ⟨m, hm, rfl, rfl⟩ := hrel
    by_cases hlt : m < n
    · obtain ⟨b, o, rfl, _, hp, e1⟩ := eInt_cells h (wI_at k n m hlt)
      clear h
      go_wp2_with fail
      refine ⟨⟨m + 1, by omega, by go_num, ?_⟩, by simp [intOf]; omega⟩
      congr 1; simp; omega
    · have hm' : m = n := by omega
      subst hm'
      go_wp2_with fail
      go_ret
      exact ⟨rfl, rfl⟩
/-- a node with marks from k on. -/
def mN1 (k : Int) (q : NK) : NK := (⟨k, mTx (k + 1), k + 2, wI (k + 3) q.1.kids.length⟩, q.2)
/-- how many marks the first n nodes have. -/
def cQ (Q : List NK) : Nat → Int
  | 0 => 0
  | j + 1 => cQ Q j + (match Q[j]? with | some q => 3 + (q.1.kids.length : Int) | none => 0)
theorem cQ_succ {Q : List NK} {j : Nat} {q : NK} (h : Q[j]? = some q) : cQ Q (j + 1) = cQ Q j + (3 + (q.1.kids.length : Int)) := by simp [cQ, h]
theorem cQ_le {Q : List NK} (hk : ∀ q ∈ Q, q.1.kids.length ≤ 4002) : ∀ j, 0 ≤ cQ Q j ∧ cQ Q j ≤ 4005 * (j : Int)
  | 0 => by simp [cQ]
  | j + 1 => by
    obtain ⟨h1, h2⟩ := cQ_le hk j
    cases h : Q[j]? with
    | none => simp only [cQ, h]; omega
    | some q =>
      have := hk q (List.mem_of_getElem? h)
      rw [cQ_succ h]; omega
/-- the first m nodes are marked. -/
def MQ (k : Int) (Q Q' : List NK) (m : Nat) : Prop := Q'.length = Q.length ∧ (∀ j q, j < m → Q[j]? = some q → Q'[j]? = some (mN1 (k + cQ Q j) q)) ∧ ∀ j, m ≤ j → Q'[j]? = Q[j]?
theorem flat_setQ : ∀ (Q : List NK) (i j : Nat) (q q' : NK) (u : Value), Q[i]? = some q → j < 4 → nc q' = (nc q).set j u → (Q.flatMap nc).set (i * 4 + j) u = (Q.set i q').flatMap nc
  | p :: Q, 0, j, q, q', u, h, hj, hc => by
    simp at h; subst h
    rw [List.flatMap_cons, List.set_cons_zero, List.flatMap_cons, hc, List.set_append_left _ _ (by rw [nc_len]; omega)]
    congr 2; omega
  | p :: Q, i + 1, j, q, q', u, h, hj, hc => by
    have := flat_setQ Q i j q q' u (by simpa using h) hj hc
    rw [List.flatMap_cons, List.set_cons_succ, List.flatMap_cons, List.set_append_right _ _ (by rw [nc_len]; omega), ← this, nc_len]
    congr 2; omega
theorem rK_same {Q : List NK} {i : Nat} {q q' : NK} (h : Q[i]? = some q) (h1 : q'.2 = q.2) (h2 : q'.1.kids = q.1.kids) : rK (Q.set i q') = rK Q := by
  unfold rK
  rw [List.map_set]
  apply List.ext_getElem?
  intro j
  rw [List.getElem?_set]
  split
  · rename_i e
    subst e
    split
    · rw [List.getElem?_map, h]; simp [h1, h2]
    · rename_i hl
      rw [List.getElem?_eq_none (by omega)]
  · rfl
theorem rK_split {Q : List NK} {i : Nat} {q : NK} (h : Q[i]? = some q) : rK Q = rK (Q.take i) ++ rI q.2 q.1.kids :: rK (Q.drop (i + 1)) := by
  unfold rK
  have e : Q = Q.take i ++ q :: Q.drop (i + 1) := by
    rw [← drop_get h, List.take_append_drop]
  conv => lhs; rw [e]
  rw [List.map_append, List.map_cons]
theorem rK_set {Q : List NK} {i : Nat} {q q' : NK} (h : Q[i]? = some q) : rK (Q.set i q') = rK (Q.take i) ++ rI q'.2 q'.1.kids :: rK (Q.drop (i + 1)) := by
  have hi : i < Q.length := (List.getElem?_eq_some_iff.1 h).1
  rw [rK_split (Q := Q.set i q') (i := i) (q := q') (by simp [hi]), List.take_set_of_le (Nat.le_refl _), List.drop_set_of_lt (by omega)]
theorem rs_setN {X W : World} {B g n cv : Nat} (P S : List OR) {Q : List NK} {i : Nat} {q : NK} (q' : NK) {j : Nat} {u : Value} (hn : n = Q.length) (h : Rs X B W (P ++ rN (.slice (some ⟨g, 0, none⟩) n cv) Q :: S)) (hq : Q[i]? = some q) (hj : j < 4) (hc : nc q' = (nc q).set j u) {a : Nat} (ha : a = i * 4 + j) : Rs X B (W.setCell ⟨g, a, none⟩ u) (P ++ rN (.slice (some ⟨g, 0, none⟩) n cv) (Q.set i q') :: S) := by
  subst ha hn
  refine h.turn P S (grow_set (grown_refl _ _) _ _) ?_ (fun _ hh => Or.inl hh)
  have h1 : W.ownsRow B 57 4 (.slice (some ⟨g, 0, none⟩) Q.length cv) Q.length (Q.flatMap nc) := h.at P S
  have h2 := (World.ownsRow.stored h1 (i * 4 + j) u).1
  rw [flat_setQ Q i j q q' u hq hj hc] at h2
  show (W.setCell ⟨g, i * 4 + j, none⟩ u).ownsRow B 57 4 (.slice (some ⟨g, 0, none⟩) Q.length cv) (Q.set i q').length ((Q.set i q').flatMap nc)
  rw [List.length_set]
  exact h2
theorem rs_nodeAt {X W : World} {B g n cv : Nat} {P S : List OR} {Q : List NK} {i : Nat} {q : NK} (hn : n = Q.length) (h : Rs X B W (P ++ rN (.slice (some ⟨g, 0, none⟩) n cv) Q :: S)) (hq : Q[i]? = some q) :
    W.cell? ⟨g, i * 4, none⟩ = some (.int .i64 q.1.kind) ∧ W.cell? ⟨g, i * 4 + 1, none⟩ = some (.string q.1.text) ∧ W.cell? ⟨g, i * 4 + 2, none⟩ = some (.int .i64 q.1.num) ∧ W.cell? ⟨g, i * 4 + 3, none⟩ = some q.2 ∧ ∀ o, W.frozen? ⟨g, o, none⟩ = false := by
  subst hn
  have h1 : W.ownsRow B 57 4 (.slice (some ⟨g, 0, none⟩) Q.length cv) Q.length (Q.flatMap nc) := h.at P S
  have hi : i < Q.length := (List.getElem?_eq_some_iff.1 hq).1
  have hx : ∀ j, j < 4 → W.cell? ⟨g, i * 4 + j, none⟩ = (nc q)[j]? := fun j hj => by
    rw [World.ownsRow.cellAt h1 (i * 4 + j) (by omega), flat_get nc_len Q i q hq j hj]
  exact ⟨hx 0 (by omega), hx 1 (by omega), hx 2 (by omega), hx 3 (by omega), fun o => World.ownsRow.frozenAt h1 o⟩
theorem rN_congr {v : Value} {Q : List NK} {i : Nat} {a b : NK} (h : nc a = nc b) : rN v (Q.set i a) = rN v (Q.set i b) := by
  simp only [rN, List.flatMap, List.map_set, h, List.length_set]
theorem rI_form {w : World} {B : Nat} {v : Value} {L : List Int} (h : (rI v L).on w B) : ∃ s c, v = .slice s L.length c := by
  have h0 : w.ownsRow B 3 1 v L.length (L.map (Value.int .i64)) := h
  rcases h0.2 with ⟨e1, e2⟩ | ⟨gg, cap, cur, e1, _⟩
  · exact ⟨none, 0, by rw [e1, e2]⟩
  · exact ⟨_, cap, e1⟩
set_option maxHeartbeats 4000000 in
theorem markNodeS_row (X : World) (B g cv n : Nat) (P S : List OR) (Q : List NK) (k : Int) (w : World) (hn : n = Q.length) (hR : Rs X B w (P ++ rN (.slice (some ⟨g, 0, none⟩) n cv) Q :: (rK Q ++ S))) (hl : Q.length ≤ 8000) (hk : ∀ q ∈ Q, q.1.kids.length ≤ 4002) (k0 : 1 ≤ k) (k1 : k ≤ 1000) :
    Calls Tryz.prog 28 #[.slice (some ⟨g, 0, none⟩) n cv, .int .i64 k] w fun e w' => e = .returned (.int .i64 (k + cQ Q Q.length)) ∧ ∃ Q', MQ k Q Q' Q.length ∧ Rs X B w' (P ++ rN (.slice (some ⟨g, 0, none⟩) n cv) Q' :: (rK Q' ++ S)) := by
  have HK : Hid (∀ q ∈ Q, q.1.kids.length ≤ 4002) := hk
  have h0 := hid hR
  have Hn : Hid (n = Q.length) := hn
  have hn8 : n ≤ 8000 := by omega
  clear hR hk hn
  go_enter Tryz.func28, Tryz.ntmps28
  go_wp2_with fail
  go_loopw [1, 5] (fun kv iv wr => ∃ (m : Nat) (r : Int) (Q' : List NK), m ≤ n ∧ iv = .int .i64 m ∧ kv = .int .i64 r ∧ Hid (r = k + cQ Q m) ∧ Hid (MQ k Q Q' m) ∧ Hid (Rs X B wr (P ++ rN (.slice (some ⟨g, 0, none⟩) n cv) Q' :: (rK Q' ++ S)))) (fun _ iv _ => n - (intOf iv).toNat)
  case atStart => exact ⟨0, k, Q, by omega, rfl, rfl, (show k = k + cQ Q 0 by simp [cQ]), ⟨rfl, fun j q hj => by omega, fun _ _ => rfl⟩, h0⟩
  case round =>
    obtain ⟨m, r, Q', hm, rfl, rfl, hr, hq, hR'⟩ := hrel
    clear h0
    have hb := hid (cQ_le HK.out m)
    have r0 : 1 ≤ r := by have h1 := hr.out; have h2 := hb.out; omega
    have r1 : r ≤ 40000000 := by have h1 := hr.out; have h2 := hb.out; omega
    by_cases hlt : m < n
    · obtain ⟨q, hqm⟩ := get_some (L := Q) (by have := Hn.out; omega : m < Q.length)
      have hqm' : Q'[m]? = some q := by rw [hq.out.2.2 m (Nat.le_refl _)]; exact hqm
      have hn' : n = Q'.length := by rw [hq.out.1]; exact Hn.out
      have hkq := HK.out q (List.mem_of_getElem? hqm)
      obtain ⟨c0, c1, c2, c3, cf⟩ := rs_nodeAt hn' hR'.out hqm'
      have t1 : IntKind.i64.wrap (r + 1) = r + 1 := by rw [IntKind.wrap_i64]; omega
      have t2 : IntKind.i64.wrap (r + 1 + 1) = r + 1 + 1 := by rw [IntKind.wrap_i64]; omega
      have t3 : IntKind.i64.wrap (r + 1 + 1 + 1) = r + 1 + 1 + 1 := by rw [IntKind.wrap_i64]; omega
      have mi : (m : Int) < (n : Int) := by omega
      have a1 := rs_setN P (rK Q' ++ S) (q' := (⟨r, q.1.text, q.1.num, q.1.kids⟩, q.2)) (j := 0) (u := .int .i64 r) hn' hR'.out hqm' (by omega) rfl (a := m * 4) rfl
      obtain ⟨Q1, e1⟩ : ∃ Q1, Hid (Q'.set m (⟨r, q.1.text, q.1.num, q.1.kids⟩, q.2) = Q1) := ⟨_, rfl⟩
      rw [e1.out] at a1
      have hq1 : Hid (Q1[m]? = some (⟨r, q.1.text, q.1.num, q.1.kids⟩, q.2)) := by show _ = _; rw [← e1.out]; exact List.getElem?_set_self (by omega)
      have hn1 : Hid (n = Q1.length) := by show _ = _; rw [← e1.out, List.length_set]; exact hn'
      have hk1 : Hid (rK Q1 = rK Q') := by show _ = _; rw [← e1.out]; exact rK_same hqm' rfl rfl
      have A1 := hid a1
      have Hqm := hid hqm
      have Hqm' := hid hqm'
      have Hn' := hid hn'
      clear a1 hqm hqm' hn' hR'
      go_wp2_with fail
      generalize hW : wr.setCell ⟨g, m * 4, none⟩ (.int .i64 r) = W1 at A1 ⊢
      clear hW c0 c1 c2 c3 cf
      refine (markText_is (r + 1) W1 (by omega) (by omega)).mono ?_
      rintro e w2 ⟨rfl, b2⟩
      have A2 := A1.out.later b2
      obtain ⟨c0, c1, c2, c3, cf⟩ := rs_nodeAt hn1.out A2 hq1.out
      have a3 := rs_setN P (rK Q' ++ S) (q' := (⟨r, mTx (r + 1), q.1.num, q.1.kids⟩, q.2)) (j := 1) (u := .string (mTx (r + 1))) hn1.out A2 hq1.out (by omega) rfl (a := m * 4 + 1) rfl
      have hq3 : (Q1.set m (⟨r, mTx (r + 1), q.1.num, q.1.kids⟩, q.2))[m]? = some (⟨r, mTx (r + 1), q.1.num, q.1.kids⟩, q.2) := List.getElem?_set_self (by have := hn1.out; omega)
      have a4 := rs_setN P (rK Q' ++ S) (q' := (⟨r, mTx (r + 1), r + 1 + 1, q.1.kids⟩, q.2)) (j := 2) (u := .int .i64 (r + 1 + 1)) (by rw [List.length_set]; exact hn1.out) a3 hq3 (by omega) rfl (a := m * 4 + 2) rfl
      rw [List.set_set, ← e1.out, List.set_set] at a4
      have hon : (rI q.2 q.1.kids).on w2 B := by
        rw [rK_split Hqm'.out] at A2
        have A3 : Rs X B w2 ((P ++ rN (.slice (some ⟨g, 0, none⟩) n cv) Q1 :: rK (Q'.take m)) ++ rI q.2 q.1.kids :: (rK (Q'.drop (m + 1)) ++ S)) := by simpa using A2
        exact A3.at _ _
      obtain ⟨ks, kc, ek⟩ := rI_form hon
      dsimp only at c0 c1 c2 c3
      rw [ek] at c3
      have A4 := hid a4
      clear a3 a4 A2 hq3 hon A1 b2 e1 hq1 hn1 hk1
      obtain ⟨tt, htt⟩ : ∃ t, Hid (mTx (r + 1) = t) := ⟨_, rfl⟩
      rw [htt.out] at A4 ⊢
      go_wp2_with fail
      generalize hW : (w2.setCell ⟨g, m * 4 + 1, none⟩ (.string tt)).setCell ⟨g, m * 4 + 2, none⟩ (.int .i64 (r + 1 + 1)) = W3 at A4 ⊢
      clear hW c0 c1 c2 c3 cf
      have A5 : Hid (Rs X B W3 ((P ++ rN (.slice (some ⟨g, 0, none⟩) n cv) (Q'.set m (⟨r, tt, r + 1 + 1, q.1.kids⟩, q.2)) :: rK (Q'.take m)) ++ rI q.2 q.1.kids :: (rK (Q'.drop (m + 1)) ++ S))) := by
        have := A4.out
        rw [rK_split Hqm'.out] at this
        show Rs _ _ _ _
        simpa using this
      have h5 := A5.out.at _ _
      rw [ek] at h5
      refine (markI_o ks kc q.1.kids B (r + 1 + 1 + 1) W3 h5 (by omega) (by omega) (by omega)).mono ?_
      rintro e w4 ⟨rfl, h6, h7⟩
      have A6 := A5.out.turn _ _ (r' := rI q.2 (wI (r + 1 + 1 + 1) q.1.kids.length)) (by rw [ek]; exact h7) (by rw [ek]; show (rI (.slice ks q.1.kids.length kc) (wI (r + 1 + 1 + 1) q.1.kids.length)).on w4 B; exact h6) (fun _ hh => Or.inl hh)
      have A7 : Hid (Rs X B w4 (P ++ rN (.slice (some ⟨g, 0, none⟩) n cv) (Q'.set m (mN1 r q)) :: (rK (Q'.set m (mN1 r q)) ++ S))) := by
        show Rs _ _ _ _
        rw [rK_set Hqm'.out]
        have e2 : rN (.slice (some ⟨g, 0, none⟩) n cv) (Q'.set m (⟨r, tt, r + 1 + 1, q.1.kids⟩, q.2)) = rN (.slice (some ⟨g, 0, none⟩) n cv) (Q'.set m (mN1 r q)) := by
          refine rN_congr ?_
          rw [← htt.out]
          simp only [nc, mN1]
          rw [show r + 1 + 1 = r + 2 by omega]
        rw [← e2]
        have e3 : (mN1 r q).1.kids = wI (r + 1 + 1 + 1) q.1.kids.length := by rw [show r + 1 + 1 + 1 = r + 3 by omega]; rfl
        have e4 : (mN1 r q).2 = q.2 := rfl
        rw [e3, e4]
        simpa using A6
      have hMQ : Hid (MQ k Q (Q'.set m (mN1 r q)) (m + 1)) := by
        obtain ⟨g1, g2, g3⟩ := hq.out
        refine ⟨by rw [List.length_set]; exact g1, fun j p hj hp => ?_, fun j hj => ?_⟩
        · by_cases e : j = m
          · subst e
            rw [Hqm.out] at hp
            cases hp
            rw [← hr.out]
            exact List.getElem?_set_self (by have := Hn'.out; omega)
          · rw [List.getElem?_set_ne (fun h => e h.symm)]
            exact g2 j p (by omega) hp
        · rw [List.getElem?_set_ne (by omega)]
          exact g3 j (by omega)
      have hr2 : Hid (r + 1 + 1 + 1 + (q.1.kids.length : Int) = k + cQ Q (m + 1)) := by
        show _ = _
        rw [cQ_succ Hqm.out, hr.out]
        omega
      clear A5 A6 h5 h6 h7 A4
      go_wp2_with fail
      go_roundw
      case rel => exact ⟨m + 1, _, _, by omega, by go_num, rfl, hr2, hMQ, A7⟩
      case measure => simp [intOf]; omega
    · have hmn : m = n := by omega
      subst hmn
      go_wp2_with fail
      go_ret
      refine ⟨by rw [← Hn.out, ← hr.out]; rfl, Q', by rw [← Hn.out]; exact hq.out, hR'.out⟩
set_option maxRecDepth 100000

set_option maxHeartbeats 4000000 in
theorem eqNode_k (s t : Option Addr) (cs ct : Nat) (n : Nd) (B C : Nat) (w : World) (hs : Els 1 cInt w B s n.kids) (ht : Els 1 cInt w C t n.kids) (hk : n.kids.length ≤ 1048576) :
    Calls Tryz.prog 45 #[.agg #[.int .i64 n.kind, .string n.text, .int .i64 n.num, .slice s n.kids.length cs], .agg #[.int .i64 n.kind, .string n.text, .int .i64 n.num, .slice t n.kids.length ct]] w fun e w' => e = .returned (.bool true) ∧ Below w.heap.size w w' := by
  have q0 : (n.kind != n.kind) = false := by simp
  have q1 : (n.num != n.num) = false := by simp
  have q2 : (n.text.toList == n.text.toList) = true := by simp
  obtain ⟨k0, k1, L0⟩ := blkTwo w #[.int .i64 n.kind, .string n.text, .int .i64 n.num, .slice s n.kids.length cs] #[.int .i64 n.kind, .string n.text, .int .i64 n.num, .slice t n.kids.length ct] 57 57
  obtain ⟨x0, x1, x2, x3, x4⟩ := k0.four'
  obtain ⟨y0, y1, y2, y3, y4⟩ := k1.four'
  go_enter Tryz.func45, Tryz.ntmps45
  go_wp2_with fail
  refine (eqInts_any s t cs ct n.kids n.kids _ (hs.later cInt_keeps L0).ints (ht.later cInt_keeps L0).ints hk).mono ?_
  rintro e w3 ⟨rfl, hb3⟩
  rw [show decide (n.kids = n.kids) = true by simp]
  go_wp2_with fail
  go_ret
  exact ⟨rfl, bl_trans L0 hb3⟩

set_option maxHeartbeats 4000000 in
theorem eqNodeS_k (s t : Option Addr) (c d : Nat) (L : List Nd) (B C : Nat) (w : World) (hs : Els 4 cNode w B s L) (ht : Els 4 cNode w C t L) (hl : L.length ≤ 1048576) (hk : ∀ n ∈ L, n.kids.length ≤ 1048576) :
    Calls Tryz.prog 27 #[.slice s L.length c, .slice t L.length d] w fun e w' => e = .returned (.bool true) ∧ Below w.heap.size w w' := by
  have hal := alloc_old
  have haf := alloc_oldf
  have HK : Hid (∀ n ∈ L, n.kids.length ≤ 1048576) := hk
  clear hk
  go_enter Tryz.func27, Tryz.ntmps27
  go_wp2_with fail
  go_loopw [5] (fun i wr => ∃ k : Nat, k ≤ L.length ∧ i = .int .i64 k ∧ Below w.heap.size w wr) (fun i _ => L.length - (intOf i).toNat)
  case atStart => exact ⟨0, Nat.zero_le _, rfl, Below.refl _ _⟩
  case round =>
    obtain ⟨k, hk, rfl, hb⟩ := hrel
    by_cases hlt : k < L.length
    · obtain ⟨a, ha⟩ := get_some hlt
      obtain ⟨b, o, rfl, _, hp, s', c', e0, e1, e2, e3, f⟩ := eNode_cells (hs.later cNode_keeps hb) ha
      obtain ⟨b', o', rfl, _, hp', t', d', f0, f1, f2, f3, g⟩ := eNode_cells (ht.later cNode_keeps hb) ha
      have hka : Hid (a.kids.length ≤ 1048576) := HK.out a (List.mem_of_getElem? ha)
      have PH : Hid (Els 1 cInt wr B s' a.kids ∧ Els 1 cInt wr C t' a.kids) := ⟨f, g⟩
      clear hs ht ha f g
      go_wp2_with fail
      go_region_with (first
        | (go_at_call 45; refine (eqNode_k s' t' c' d' a B C _ (PH.out.1.later cInt_keeps (bl_drew (Below.refl _ _))) (PH.out.2.later cInt_keeps (bl_drew (Below.refl _ _))) hka.out).mono ?_; rintro e w2 ⟨rfl, hb2⟩))
      all_goals
        go_wp2_with fail
        go_roundw
        case rel =>
          refine ⟨k + 1, by omega, by go_num, ?_⟩
          (repeat (first | with_reducible exact Below.refl _ _ | with_reducible refine bl_alloc ?_ _ | with_reducible refine bl_drewN ?_ _ | with_reducible refine bl_drew ?_ | with_reducible refine bl_setCell ?_ (by first | exact Nat.le_refl _ | (dsimp only; omega) | (simp <;> omega)) _ | with_reducible refine bl_trans ?_ (by with_reducible assumption)))
        case measure => simp [intOf]; omega
    · go_wp2_with fail
      go_ret
      exact ⟨rfl, hb⟩

set_option maxHeartbeats 4000000 in
theorem eqTree_k (s1 s2 t1 t2 : Option Addr) (c1 c2 d1 d2 : Nat) (t : Tre) (B C : Nat) (w : World) (hs : InT w B s1 s2 t) (ht : InT w C t1 t2 t) (hk : (t.nodes.length ≤ 1048576 ∧ ∀ n ∈ t.nodes, n.kids.length ≤ 1048576) ∧ t.tops.length ≤ 1048576) :
    Calls Tryz.prog 9 #[.agg #[.slice s1 t.nodes.length c1, .slice s2 t.tops.length c2], .agg #[.slice t1 t.nodes.length d1, .slice t2 t.tops.length d2]] w fun e w' => e = .returned (.bool true) ∧ Below w.heap.size w w' := by
  obtain ⟨⟨m1, m2⟩, m3⟩ := hk
  obtain ⟨k0, k1, L0⟩ := blkTwo w #[.slice s1 t.nodes.length c1, .slice s2 t.tops.length c2] #[.slice t1 t.nodes.length d1, .slice t2 t.tops.length d2] 29 29
  obtain ⟨x0, x1, x2⟩ := k0.two
  obtain ⟨y0, y1, y2⟩ := k1.two
  go_enter Tryz.func9, Tryz.ntmps9
  go_wp2_with fail
  refine (eqNodeS_k s1 t1 c1 d1 t.nodes B C _ (hs.n.later cNode_keeps L0) (ht.n.later cNode_keeps L0) m1 m2).mono ?_
  rintro e w1 ⟨rfl, hb1⟩
  have L1 := bl_trans L0 hb1
  have k0 := k0.later hb1
  have k1 := k1.later hb1
  clear x0 x1 x2 y0 y1 y2 hb1 L0 m2
  obtain ⟨x0, x1, x2⟩ := k0.two
  obtain ⟨y0, y1, y2⟩ := k1.two
  go_wp2_with fail
  refine (eqInts_any s2 t2 c2 d2 t.tops t.tops _ (hs.t.later cInt_keeps L1).ints (ht.t.later cInt_keeps L1).ints m3).mono ?_
  rintro e w3 ⟨rfl, hb3⟩
  rw [show decide (t.tops = t.tops) = true by simp]
  go_wp2_with fail
  go_ret
  exact ⟨rfl, bl_trans L1 hb3⟩

theorem rows_inT {X W : World} {B cv ct : Nat} {sv st : Option Addr} {Q : List NK} {x : List Int} {S : List OR} (h : Rs X B W (rN (.slice sv Q.length cv) Q :: (rK Q ++ rI (.slice st x.length ct) x :: S))) : InT W B sv st ⟨Q.map (·.1), x⟩ := by
  refine ⟨?_, ?_⟩
  · have h1 : W.ownsRow B 57 4 (.slice sv Q.length cv) Q.length (Q.flatMap nc) := h.at [] _
    rcases h1.2 with ⟨e1, e2⟩ | ⟨g, cap, cur, e1, _⟩
    · exact Or.inl (by have : Q = [] := List.length_eq_zero_iff.1 e2; rw [this]; rfl)
    · simp only [Value.slice.injEq] at e1
      obtain ⟨rfl, _, _⟩ := e1
      have hlt := World.ownsRow.lt h1 g rfl
      refine Or.inr ⟨g, 0, rfl, hlt.1, hlt.2, fun j a ha => ?_, fun _ o => World.ownsRow.frozenAt h1 o⟩
      dsimp only at ha
      rw [List.getElem?_map] at ha
      cases hq : Q[j]? with
      | none => rw [hq] at ha; cases ha
      | some q =>
        rw [hq] at ha
        simp only [Option.map_some, Option.some.injEq] at ha
        subst ha
        have hj : j < Q.length := (List.getElem?_eq_some_iff.1 hq).1
        have hon : (rI q.2 q.1.kids).on W B := by
          have h2 := h
          rw [rK_split hq] at h2
          have h3 : Rs X B W ((rN (.slice (some ⟨g, 0, none⟩) Q.length cv) Q :: rK (Q.take j)) ++ rI q.2 q.1.kids :: (rK (Q.drop (j + 1)) ++ rI (.slice st x.length ct) x :: S)) := by simpa using h2
          exact h3.at _ _
        obtain ⟨ks, kc, ek⟩ := rI_form hon
        refine ⟨nc q, nc_len q, fun i u hu => ?_, ks, kc, by simp [nc, ek], by rw [ek] at hon; exact rI_els hon⟩
        have hi : i < 4 := by rw [← nc_len q]; exact (List.getElem?_eq_some_iff.1 hu).1
        rw [Nat.zero_add, World.ownsRow.cellAt h1 (j * 4 + i) (by omega), flat_get nc_len Q j q hq i hi, hu]
  · exact rI_els (h.at (rN (.slice sv Q.length cv) Q :: rK Q) S)
theorem markNode_zero (s : Option Addr) (c : Nat) (k : Int) (w : World) : Calls Tryz.prog 28 #[.slice s 0 c, .int .i64 k] w fun e w' => e = .returned (.int .i64 k) ∧ w' = w := by
  go_enter Tryz.func28, Tryz.ntmps28
  go_wp2_with fail
  go_loopw [1, 5] (fun kv iv wr => kv = .int .i64 k ∧ iv = .int .i64 0 ∧ wr = w) (fun _ _ _ => 0)
  case atStart => exact ⟨rfl, rfl, rfl⟩
  case round =>
    obtain ⟨rfl, rfl, rfl⟩ := hrel
    go_wp2_with fail
    go_ret
    exact ⟨rfl, rfl⟩
theorem MQ.nil (k : Int) : MQ k [] [] 0 := ⟨rfl, fun j q hj => by omega, fun _ _ => rfl⟩
theorem markNodeS_all (X : World) (B cv : Nat) (sv : Option Addr) (P S : List OR) (Q : List NK) (k : Int) (w : World) (hR : Rs X B w (P ++ rN (.slice sv Q.length cv) Q :: (rK Q ++ S))) (hl : Q.length ≤ 8000) (hk : ∀ q ∈ Q, q.1.kids.length ≤ 4002) (k0 : 1 ≤ k) (k1 : k ≤ 1000) :
    Calls Tryz.prog 28 #[.slice sv Q.length cv, .int .i64 k] w fun e w' => e = .returned (.int .i64 (k + cQ Q Q.length)) ∧ ∃ Q', MQ k Q Q' Q.length ∧ Rs X B w' (P ++ rN (.slice sv Q.length cv) Q' :: (rK Q' ++ S)) := by
  have h1 : w.ownsRow B 57 4 (.slice sv Q.length cv) Q.length (Q.flatMap nc) := hR.at P _
  rcases h1.2 with ⟨e1, e2⟩ | ⟨g, cap, cur, e1, _⟩
  · have : Q = [] := List.length_eq_zero_iff.1 e2
    subst this
    refine (markNode_zero sv cv k w).mono ?_
    rintro e w' ⟨rfl, rfl⟩
    exact ⟨by simp [cQ], [], MQ.nil k, hR⟩
  · simp only [Value.slice.injEq] at e1
    obtain ⟨rfl, _, _⟩ := e1
    exact markNodeS_row X B g cv Q.length P S Q k w rfl hR hl hk k0 k1
set_option maxHeartbeats 4000000 in
theorem markTree_rows (X : World) (B cv ct : Nat) (sv st : Option Addr) (S : List OR) (Q : List NK) (x : List Int) (k : Int) (w : World) (hR : Rs X B w (rN (.slice sv Q.length cv) Q :: (rK Q ++ rI (.slice st x.length ct) x :: S))) (hl : Q.length ≤ 8000) (hx : x.length ≤ 5000) (hk : ∀ q ∈ Q, q.1.kids.length ≤ 4002) (k0 : 1 ≤ k) (k1 : k ≤ 1000) :
    Calls Tryz.prog 10 #[.agg #[.slice sv Q.length cv, .slice st x.length ct], .int .i64 k] w fun e w' => e = .returned (.int .i64 (k + cQ Q Q.length + (x.length : Int))) ∧ ∃ Q', MQ k Q Q' Q.length ∧ Rs X B w' (rN (.slice sv Q.length cv) Q' :: (rK Q' ++ rI (.slice st x.length ct) (wI (k + cQ Q Q.length) x.length) :: S)) := by
  have hb := cQ_le hk Q.length
  have h0 := hid (Rs.addB hR [.slice sv Q.length cv, .slice st x.length ct] 29)
  have HK := hid hk
  obtain ⟨x0, x1, xf⟩ := (h0.out.box [] _).two
  clear hR hk
  go_enter Tryz.func10, Tryz.ntmps10
  go_wp2_with fail
  refine (markNodeS_all X B cv sv [rB w.heap.size 29 [.slice sv Q.length cv, .slice st x.length ct]] (rI (.slice st x.length ct) x :: S) Q k _ h0.out hl HK.out k0 k1).mono ?_
  rintro e w1 ⟨rfl, Q', hQ, r1⟩
  clear x0 x1 xf h0
  obtain ⟨x0, x1, xf⟩ := (r1.box [] _).two
  obtain ⟨K, eK⟩ : ∃ K, Hid (k + cQ Q Q.length = K) := ⟨_, rfl⟩
  rw [eK.out]
  have K0 : 0 ≤ K := by have := eK.out; omega
  have K1 : K ≤ 9000000000000000000 := by have := eK.out; omega
  have h1 := hid r1
  have HQ := hid hQ
  clear r1 hQ hb
  go_wp2_with fail
  have h2 : Rs X B w1 ((rB w.heap.size 29 [.slice sv Q.length cv, .slice st x.length ct] :: rN (.slice sv Q.length cv) Q' :: rK Q') ++ rI (.slice st x.length ct) x :: S) := by simpa using h1.out
  refine (markI_o st ct x B K _ (h2.at _ _) (by omega) K0 K1).mono ?_
  rintro e w2 ⟨rfl, r2, g2⟩
  have h3 := h2.turn _ _ (r' := rI (.slice st x.length ct) (wI K x.length)) g2 r2 (fun _ hh => Or.inl hh)
  have h4 : Rs X B w2 (rB w.heap.size 29 [.slice sv Q.length cv, .slice st x.length ct] :: (rN (.slice sv Q.length cv) Q' :: (rK Q' ++ rI (.slice st x.length ct) (wI K x.length) :: S))) := by simpa using h3
  have h5 := hid (h4.less [] _)
  clear h1 h2 h3 h4 r2 g2 x0 x1 xf
  go_wp2_with fail
  go_ret
  exact ⟨by rw [eK.out]; rfl, Q', HQ.out, by rw [eK.out]; exact h5.out⟩
set_option maxRecDepth 100000
set_option maxHeartbeats 4000000 in
theorem heldNodeS_all (B c : Nat) (s : Option Addr) (Q Q' : List NK) (k : Int) (w : World) (hE : Els 4 cNode w B s (Q'.map (·.1))) (hM : MQ k Q Q' Q.length) (hl : Q.length ≤ 8000) (hk : ∀ q ∈ Q, q.1.kids.length ≤ 4002) (k0 : 1 ≤ k) (k1 : k ≤ 1000) :
    Calls Tryz.prog 29 #[.slice s Q.length c, .int .i64 k] w fun e w' => e = .returned (.int .i64 (k + cQ Q Q.length)) ∧ Below w.heap.size w w' := by
  have HK := hid hk
  have HE := hid hE
  have HM := hid hM
  obtain ⟨n, hn⟩ : ∃ n, Hid (Q.length = n) := ⟨_, rfl⟩
  rw [hn.out] at hl ⊢
  clear hk hE hM
  go_enter Tryz.func29, Tryz.ntmps29
  go_wp2_with fail
  go_loopw [1, 5] (fun kv iv wr => ∃ (m : Nat) (r : Int), m ≤ n ∧ iv = .int .i64 m ∧ kv = .int .i64 r ∧ Hid (r = k + cQ Q m) ∧ Hid (Below w.heap.size w wr)) (fun _ iv _ => n - (intOf iv).toNat)
  case atStart => exact ⟨0, k, by omega, rfl, rfl, (show k = k + cQ Q 0 by simp [cQ]), Below.refl _ _⟩
  case round =>
    obtain ⟨m, r, hm, rfl, rfl, hr, hb⟩ := hrel
    have hc := hid (cQ_le HK.out m)
    have r0 : 1 ≤ r := by have h1 := hr.out; have h2 := hc.out; omega
    have r1 : r ≤ 40000000 := by have h1 := hr.out; have h2 := hc.out; omega
    by_cases hlt : m < n
    · obtain ⟨q, hqm⟩ := get_some (L := Q) (by have := hn.out; omega : m < Q.length)
      have hkq := HK.out q (List.mem_of_getElem? hqm)
      have hq' := HM.out.2.1 m q (by have := hn.out; omega) hqm
      rw [← hr.out] at hq'
      have hq2 : (Q'.map (·.1))[m]? = some (mN1 r q).1 := by rw [List.getElem?_map, hq']; rfl
      have HQ2 := hid hq2
      have Hqm := hid hqm
      obtain ⟨b, o, rfl, _, hp, ks, kc, c0, c1, c2, c3, ee⟩ := eNode_cells (HE.out.later cNode_keeps hb.out) hq2
      obtain ⟨tt, htt⟩ : ∃ t, Hid (mTx (r + 1) = t) := ⟨_, rfl⟩
      simp only [mN1, wI_len, htt.out] at c0 c1 c2 c3
      have t1 : IntKind.i64.wrap (r + 1) = r + 1 := by rw [IntKind.wrap_i64]; omega
      have t2 : IntKind.i64.wrap (r + 1 + 1) = r + 1 + 1 := by rw [IntKind.wrap_i64]; omega
      have t3 : IntKind.i64.wrap (r + 1 + 1 + 1) = r + 1 + 1 + 1 := by rw [IntKind.wrap_i64]; omega
      have mi : (m : Int) < (n : Int) := by omega
      have mi0 : (0 : Int) ≤ (m : Int) := by omega
      have g1 : (r != r) = false := by simp
      have g3 : (r + 1 + 1 != r + 1 + 1) = false := by simp
      have e2 : r + 2 = r + 1 + 1 := by omega
      rw [e2] at c2
      have HMT : Hid (∀ W, Calls Tryz.prog 46 #[.int .i64 (r + 1)] W fun e w' => e = .returned (.string tt) ∧ Below W.heap.size W w') := fun W => by
        have := markText_is (r + 1) W (by omega) (by omega)
        rw [htt.out] at this
        exact this
      have KEEP : Hid (∀ W, Below wr.heap.size wr W → W.cell? ⟨b, o + m * 4 + 1, none⟩ = some (.string tt) ∧ W.cell? ⟨b, o + m * 4 + 2, none⟩ = some (.int .i64 (r + 1 + 1)) ∧ W.cell? ⟨b, o + m * 4 + 3, none⟩ = some (.slice ks q.1.kids.length kc)) := fun W hW => ⟨(hW.cell (p := ⟨b, o + m * 4 + 1, none⟩) hp).trans c1, (hW.cell (p := ⟨b, o + m * 4 + 2, none⟩) hp).trans c2, (hW.cell (p := ⟨b, o + m * 4 + 3, none⟩) hp).trans c3⟩
      have EE := hid ee
      clear hqm hq' hq2 ee e2
      go_wp2_with fail
      go_region_held3 (fun w' => w'.cell? ⟨b, o + m * 4 + 1, none⟩ = some (.string tt)) (simp [c1])
        (first
          | (go_at_call 46; refine (HMT.out _).mono ?_; rintro e w2 ⟨rfl, b2⟩; have hw2 : Below wr.heap.size wr w2 := bl_trans (bl_drew (Below.refl _ _)) b2; obtain ⟨c1, c2, c3⟩ := KEEP.out w2 hw2))
      have hb2 := hid (bl_trans hb.out hw2)
      have EE2 := hid (EE.out.later cInt_keeps hw2)
      have hn3 : Hid (r + 1 + 1 + 1 + (q.1.kids.length : Int) = k + cQ Q (m + 1)) := by
        show _ = _
        rw [cQ_succ Hqm.out, hr.out]
        omega
      go_wp2_with fail
      have e3 : r + 3 = r + 1 + 1 + 1 := by omega
      have E4 : Els 1 cInt w2 B ks (wI (r + 1 + 1 + 1) q.1.kids.length) := by
        have := EE2.out
        simp only [mN1] at this
        rw [e3] at this
        exact this
      refine (heldI_o ks kc q.1.kids.length B (r + 1 + 1 + 1) w2 E4 (by omega) (by omega) (by omega)).mono ?_
      rintro e w3 ⟨rfl, rfl⟩
      obtain ⟨K2, eK2⟩ : ∃ K2, Hid (r + 1 + 1 + 1 + (q.1.kids.length : Int) = K2) := ⟨_, rfl⟩
      have hn4 : Hid (K2 = k + cQ Q (m + 1)) := by show _ = _; rw [← eK2.out]; exact hn3.out
      have t4 : decide (K2 < 0) = false := by have := eK2.out; simp; omega
      rw [eK2.out]
      clear c1 c2 c3 E4 hn3
      go_wp2_with fail
      go_roundw
      case rel => exact ⟨m + 1, _, by omega, by go_num, rfl, hn4, hb2⟩
      case measure => simp [intOf]; omega
    · have hmn : m = n := by omega
      subst hmn
      go_wp2_with fail
      go_ret
      exact ⟨by rw [← hr.out]; rfl, hb.out⟩
set_option maxHeartbeats 4000000 in
theorem heldTree_rows (X : World) (B cv ct : Nat) (sv st : Option Addr) (S : List OR) (Q Q' : List NK) (x : List Int) (k : Int) (w : World) (hM : MQ k Q Q' Q.length) (hR : Rs X B w (rN (.slice sv Q.length cv) Q' :: (rK Q' ++ rI (.slice st x.length ct) (wI (k + cQ Q Q.length) x.length) :: S))) (hl : Q.length ≤ 8000) (hx : x.length ≤ 5000) (hk : ∀ q ∈ Q, q.1.kids.length ≤ 4002) (k0 : 1 ≤ k) (k1 : k ≤ 1000) :
    Calls Tryz.prog 11 #[.agg #[.slice sv Q.length cv, .slice st x.length ct], .int .i64 k] w fun e w' => e = .returned (.int .i64 (k + cQ Q Q.length + (x.length : Int))) ∧ Below w.heap.size w w' := by
  have hb := cQ_le hk Q.length
  have hR2 : Rs X B w (rN (.slice sv Q'.length cv) Q' :: (rK Q' ++ rI (.slice st (wI (k + cQ Q Q.length) x.length).length ct) (wI (k + cQ Q Q.length) x.length) :: S)) := by rw [hM.1, wI_len]; exact hR
  have hI := hid (rows_inT hR2)
  have HM := hid hM
  have HK := hid hk
  have k0' := Blk.new w #[.slice sv Q.length cv, .slice st x.length ct] 29
  have L0 : Below w.heap.size w (w.alloc (.cells #[.slice sv Q.length cv, .slice st x.length ct] 29)) := bl_alloc (Below.refl _ _) _
  obtain ⟨x0, x1, xf⟩ := k0'.two
  clear hR hR2 hM hk
  go_enter Tryz.func11, Tryz.ntmps11
  go_wp2_with fail
  generalize hW : w.alloc (.cells #[.slice sv Q.length cv, .slice st x.length ct] 29) = W1 at k0' L0 x0 x1 xf ⊢
  clear hW
  refine (heldNodeS_all B cv sv Q Q' k W1 (hI.out.n.later cNode_keeps L0) HM.out hl HK.out k0 k1).mono ?_
  rintro e w1 ⟨rfl, b1⟩
  obtain ⟨K, eK⟩ : ∃ K, Hid (k + cQ Q Q.length = K) := ⟨_, rfl⟩
  have hI2 := hid ((hI.out.later L0).later b1)
  rw [eK.out]
  rw [eK.out] at hI2
  have K0 : 0 ≤ K := by have := eK.out; omega
  have K1 : K ≤ 9000000000000000000 := by have := eK.out; omega
  have t1 : decide (K < 0) = false := by simp; omega
  have L1 := hid (bl_trans L0 b1)
  replace k0' := k0'.later b1
  clear x0 x1 xf b1 L0 hI hb
  obtain ⟨x0, x1, xf⟩ := k0'.two
  go_wp2_with fail
  refine (heldI_o st ct x.length B K w1 hI2.out.t (by omega) K0 K1).mono ?_
  rintro e w2 ⟨rfl, rfl⟩
  obtain ⟨K2, eK2⟩ : ∃ K2, Hid (K + (x.length : Int) = K2) := ⟨_, rfl⟩
  have t2 : decide (K2 < 0) = false := by have := eK2.out; simp; omega
  rw [eK2.out]
  go_wp2_with fail
  go_ret
  exact ⟨by rw [eK.out, eK2.out]; rfl, L1.out⟩
end Go.Proofs.YtknallkcengbbaaGreatDoor
namespace Go.Proofs.YtknallkcengbbaaGreatDoor
open Go.RowKit
set_option linter.unusedVariables false
set_option linter.unusedSimpArgs false

set_option maxRecDepth 100000 in
set_option maxHeartbeats 4000000 in
theorem markTree_w (lo : Nat) (W1 w0 : World) (s1 s2 : Option Addr) (c1 c2 : Nat) (t : Tre) (k : Int) (w : World) (hT : InT W1 lo s1 s2 t) (hp : 0 < lo) (h : Mr lo W1 w0 w) (hlo : lo ≤ w0.heap.size) (hk : kTre t) (k0 : 1 ≤ k) (k1 : k ≤ 1000) :
    Calls Tryz.prog 10 #[.agg #[.slice s1 t.nodes.length c1, .slice s2 t.tops.length c2], .int .i64 k] w fun e w' => (∃ k', e = .returned (.int .i64 k') ∧ k ≤ k') ∧ Mr lo W1 w0 w' := by
  obtain ⟨⟨m1, m2⟩, m3⟩ := hk
  have B0 := Blk.new w #[.slice s1 t.nodes.length c1, .slice s2 t.tops.length c2] 29
  have hws := h.s1
  have hbs := h.be.size
  have HA := hid (h.alloc hlo (.cells #[.slice s1 t.nodes.length c1, .slice s2 t.tops.length c2] 29))
  have hsz : w.heap.size + 1 = (w.alloc (.cells #[.slice s1 t.nodes.length c1, .slice s2 t.tops.length c2] 29)).heap.size := by simp
  obtain ⟨x0, x1, x2⟩ := B0.two
  go_enter Tryz.func10, Tryz.ntmps10
  go_wp2_with fail
  generalize hX : w.alloc (.cells #[.slice s1 t.nodes.length c1, .slice s2 t.tops.length c2] 29) = X at B0 HA hsz x0 x1 x2 ⊢
  clear hX
  refine (markNode_w lo W1 X s1 c1 t.nodes k X hT.n hp HA.out.re (by omega) m1 m2 k0 k1).mono ?_
  rintro e w2 ⟨⟨q, rfl, q0, q1⟩, hM⟩
  obtain ⟨y0, y1, y2⟩ := (hM.blk (by omega) B0).two
  have HJ := hid (HA.out.join hM)
  clear hM x0 x1 x2 HA h
  go_wp2_with fail
  refine (markI_w lo W1 w0 s2 c2 t.tops q w2 hT.t hp HJ.out m3 (by omega) (by omega)).mono ?_
  rintro e w3 ⟨rfl, hM3⟩
  go_wp2_with fail
  go_ret
  exact ⟨⟨_, rfl, by omega⟩, hM3⟩

theorem OI.mr {lo : Nat} {W1 w0 w : World} {B : Nat} {v : Value} {L : List Int} (h : OI w0 B v L) (hm : Mr lo W1 w0 w) (hv : ∀ g, v.ownBlock = some g → g < lo ∨ W1.heap.size ≤ g) : OI w B v L :=
  h.same fun g hg => (hv g hg).elim (fun q => hm.be.block g q) (fun q => hm.out g q (h.lt g hg).2)
theorem sizA_len (t : Tre) : (sizA t).length ≤ 4398046511104 := by
  unfold sizA
  split
  · rename_i h
    have hp : treP t := by
      by_cases q : treP t
      · exact q
      · rw [treB_false q] at h; cases h
    rw [szN_len]
    have := (tops_in hp).2
    omega
  · simp

set_option maxRecDepth 100000 in
set_option maxHeartbeats 8000000 in
theorem exactSizes_any (a1 a2 : Option Addr) (c1 c2 : Nat) (V : Tre) (w : World) (hV : InT w 0 a1 a2 V) (mV : mTre V) :
    Calls Tryz.prog 4 #[.agg #[.slice a1 V.nodes.length c1, .slice a2 V.tops.length c2]] w fun e w' => e = .returned (.bool true) ∧ Below w.heap.size w w' := by
  have hal := alloc_old
  have haf := alloc_oldf
  have k0 := Blk.new w #[.slice a1 V.nodes.length c1, .slice a2 V.tops.length c2] 25
  have L0 := bl_alloc (Below.refl _ w) (.cells #[.slice a1 V.nodes.length c1, .slice a2 V.tops.length c2] 25)
  have HV := hid (hV.later L0)
  have MV := hid mV
  have hw0 : 0 < (w.alloc (.cells #[.slice a1 V.nodes.length c1, .slice a2 V.tops.length c2] 25)).heap.size := by simp
  clear hV mV
  obtain ⟨x0, x1, x2⟩ := k0.two
  go_enter Tryz.func4, Tryz.ntmps4
  go_wp2_with fail
  generalize hX0 : w.alloc (.cells #[.slice a1 V.nodes.length c1, .slice a2 V.tops.length c2] 25) = X0 at k0 L0 HV x0 x1 x2 hw0 ⊢
  have hX0s : X0.heap.size = w.heap.size + 1 := by rw [← hX0]; simp
  have K0 := hid k0
  clear hX0 k0
  refine (szTree_gen a1 a2 c1 c2 V 0 1048576 _ HV.out MV.out (by omega) (by omega)).mono ?_
  rintro e w1 ⟨⟨r, rfl, hr⟩, hb1⟩
  have hn0 : w.heap.size < X0.heap.size := by omega
  have k1 := K0.out.under hb1 hn0
  clear x0 x1 x2 MV
  obtain ⟨x0, x1, x2⟩ := k1.two
  clear k1
  rcases hr with rfl | ⟨r0, r1, kv⟩
  · go_wp2_with fail
    go_ret
    exact ⟨rfl, L0.trans (hb1.mono (by omega))⟩
  have t1 : decide (r < 0) = false := by simp; omega
  have KV : Hid (kTre V) := kv
  have lR : Hid ((sizA V).length ≤ 4398046511104) := sizA_len V
  have L1 : Hid (Below X0.heap.size X0 w1) := hb1
  clear kv hb1
  go_wp2_with fail
  -- the model's answer
  refine (toTree_made a1 a2 c1 c2 V 0 _ (HV.out.later L1.out) KV.out).mono ?_
  rintro e w2 ⟨⟨g1, g2, rfl, d2⟩, hb2⟩
  have L2 := hid (bl_trans L1.out hb2)
  have D2 := hid (d2.drop (Nat.zero_le _))
  have k2 := K0.out.under L2.out hn0
  clear t1 r1 r0 hb2 d2 L1 x0 x1 x2
  obtain ⟨x0, x1, x2⟩ := k2.two
  clear k2
  go_wp2_with fail
  refine (specSizes_any V _ _ _ _ 0 _ D2.out KV.out).mono ?_
  rintro e w3 ⟨⟨sW, cW, rfl, hW⟩, hb3⟩
  have L3 := hid (bl_trans L2.out hb3)
  have hWl : Hid (∀ g, (Value.slice sW (sizA V).length cW).ownBlock = some g → g < w3.heap.size) := fun g hg => (hW.lt g hg).2
  have hW3 : Hid (OI w3 0 (.slice sW (sizA V).length cW) (sizA V)) := hW.mono (Nat.zero_le _)
  have k3 := K0.out.under L3.out hn0
  clear hW hb3 L2 D2 x0 x1 x2
  obtain ⟨x0, x1, x2⟩ := k3.two
  clear k3
  go_wp2_with fail
  -- the argument's copy
  refine (toTree_made a1 a2 c1 c2 V 0 _ (HV.out.later L3.out) KV.out).mono ?_
  rintro e W1 ⟨⟨h1, h2, rfl, dx⟩, hbx⟩
  have L4 := hid (bl_trans L3.out hbx)
  have hs3 : X0.heap.size ≤ w3.heap.size := L3.out.size
  have hs4 : w3.heap.size ≤ W1.heap.size := hbx.size
  have k4 := K0.out.under L4.out hn0
  have kX := Blk.new W1 #[.slice (some ⟨h1, 0, none⟩) V.nodes.length V.nodes.length, .slice (some ⟨h2, 0, none⟩) V.tops.length V.tops.length] 29
  have LY : Below W1.heap.size W1 (W1.alloc (.cells #[.slice (some ⟨h1, 0, none⟩) V.nodes.length V.nodes.length, .slice (some ⟨h2, 0, none⟩) V.tops.length V.tops.length] 29)) := bl_alloc (Below.refl _ _) _
  have DX : Hid (InT W1 w3.heap.size (some ⟨h1, 0, none⟩) (some ⟨h2, 0, none⟩) V) := dx
  have hW4 := hid ((hW3.out.later hbx).later LY)
  clear dx hW3 hbx x0 x1 x2
  obtain ⟨x0, x1, x2⟩ := kX.two
  go_wp2_with fail
  generalize hZ : W1.alloc (.cells #[.slice (some ⟨h1, 0, none⟩) V.nodes.length V.nodes.length, .slice (some ⟨h2, 0, none⟩) V.tops.length V.tops.length] 29) = Z at kX LY hW4 x0 x1 x2 ⊢
  have hZs : Z.heap.size = W1.heap.size + 1 := by rw [← hZ]; simp
  have KX := hid kX
  have L5 := hid (bl_trans L4.out LY)
  have LZ : Hid (Below W1.heap.size W1 Z) := LY
  have hZn : W1.heap.size < Z.heap.size := by omega
  clear hZ kX LY k4 L4
  -- the program's answer
  refine (implSizes_any V _ _ _ _ 0 Z ((DX.out.later LZ.out).drop (Nat.zero_le _)) KV.out).mono ?_
  rintro e w5 ⟨⟨sG, cG, rfl, hG⟩, hb5⟩
  obtain ⟨R, hR⟩ : ∃ R, sizA V = R := ⟨_, rfl⟩
  rw [hR] at lR hWl hW4 hG
  rw [hR]
  have HR := hid hR
  clear hR
  have hGl : Hid (∀ g, (Value.slice sG R.length cG).ownBlock = some g → Z.heap.size ≤ g) := fun g hg => (hG.lt g hg).1
  have hG5 : Hid (OI w5 Z.heap.size (.slice sG R.length cG) R) := hG
  have hW5 := hid (hW4.out.later hb5)
  have L6 := hid (bl_trans L5.out hb5)
  have LZ5 : Hid (Below Z.heap.size Z w5) := hb5
  clear hG hW4 hb5 L5 x0 x1 x2
  go_wp2_with fail
  refine (eqI_more _ _ _ _ R _ _ w5 hG5.out.els hW5.out.els lR.out).mono ?_
  rintro e w6 ⟨rfl, hb6⟩
  have hW6 := hid (hW5.out.later hb6)
  have hG6 := hid (hG5.out.later hb6)
  have L7 := hid (bl_trans L6.out hb6)
  have LZ6 := hid (bl_trans LZ5.out hb6)
  have kA := K0.out.under L7.out hn0
  have kB := KX.out.under LZ6.out hZn
  obtain ⟨x0, x1, x2⟩ := kA.two
  obtain ⟨y0, y1, y2⟩ := kB.two
  have KA : Hid (Blk w6 w.heap.size #[.slice a1 V.nodes.length c1, .slice a2 V.tops.length c2] 25) := kA
  have KB : Hid (Blk w6 W1.heap.size #[.slice (some ⟨h1, 0, none⟩) V.nodes.length V.nodes.length, .slice (some ⟨h2, 0, none⟩) V.tops.length V.tops.length] 29) := kB
  have HV6 := hid (HV.out.later L7.out)
  have HX6 := hid ((DX.out.later LZ.out).later LZ6.out)
  clear hW5 hG5 L6 hb6 LZ5 kA kB
  go_wp2_with fail
  go_region_held3 (fun w' => w'.cell? ⟨W1.heap.size, 0, none⟩ = some (.slice (some ⟨h1, 0, none⟩) V.nodes.length V.nodes.length) ∧ w'.cell? ⟨W1.heap.size, 1, none⟩ = some (.slice (some ⟨h2, 0, none⟩) V.tops.length V.tops.length) ∧ w'.cell? ⟨w.heap.size, 0, none⟩ = some (.slice a1 V.nodes.length c1) ∧ w'.cell? ⟨w.heap.size, 1, none⟩ = some (.slice a2 V.tops.length c2)) (simp [x0, x1, y0, y1])
    (first
      | (go_at_call 7; refine (toTree_made a1 a2 c1 c2 V 0 _ (HV6.out.later (bl_drew (Below.refl _ _))) KV.out).mono ?_; rintro e wg ⟨⟨q1, q2, rfl, hIg⟩, hbg⟩; have hwg : Below w6.heap.size w6 wg := bl_trans (bl_drew (Below.refl _ _)) hbg; obtain ⟨x0, x1, x2⟩ := (KA.out.later hwg).two; obtain ⟨y0, y1, y2⟩ := (KB.out.later hwg).two)
      | (go_at_call 9; refine (eqTree_self _ _ _ _ _ _ _ _ V _ _ wg (HX6.out.later hwg) hIg KV.out).mono ?_; rintro e w8 ⟨rfl, hbh⟩; have h68 : Below w6.heap.size w6 w8 := bl_trans hwg hbh; obtain ⟨x0, x1, x2⟩ := (KA.out.later h68).two; obtain ⟨y0, y1, y2⟩ := (KB.out.later h68).two))
  have hW8 := hid (hW6.out.later h68)
  have hG8 := hid (hG6.out.later h68)
  have L8 := hid (bl_trans L7.out h68)
  have LZ8 := hid (bl_trans LZ6.out h68)
  clear hW6 hG6 L7 LZ6 h68 KA KB HV6 HX6 hwg hbg hIg hbh
  -- marks
  go_wp2_with fail
  refine (markTree_w w3.heap.size W1 w8 _ _ _ _ V 1 _ DX.out (by omega) (Mr.start (bl_trans LZ.out LZ8.out) _) (by have := LZ8.out.size; omega) KV.out (by omega) (by omega)).mono ?_
  rintro e w9 ⟨⟨q, rfl, q0⟩, hM⟩
  have L9 := hid (L8.out.trans (hM.be.mono hs3))
  have hW9 : Hid (OI w9 0 (.slice sW R.length cW) R) := hW8.out.mr hM (fun g hg => Or.inl (hWl.out g hg))
  have hG9 : Hid (OI w9 Z.heap.size (.slice sG R.length cG) R) := hG8.out.mr hM (fun g hg => Or.inr (by have := hGl.out g hg; omega))
  have hS9 : w3.heap.size ≤ w9.heap.size := by have := hM.s1; omega
  have qn : decide (q < 0) = false := by simp; omega
  have k9 := K0.out.under L9.out hn0
  clear hM hW8 hG8 L8 LZ8 DX x0 x1 x2 y0 y1 y2
  obtain ⟨x0, x1, x2⟩ := k9.two
  clear k9
  go_wp2_with fail
  refine (eqI_more _ _ _ _ R _ _ w9 hG9.out.els hW9.out.els lR.out).mono ?_
  rintro e wa ⟨rfl, hba⟩
  have La := hid (bl_trans L9.out hba)
  have hWa := hid (hW9.out.later hba)
  have hGa := hid (hG9.out.later hba)
  have hSa : w3.heap.size ≤ wa.heap.size := by have := hba.size; omega
  clear hW9 hG9 L9 hba qn q0 x0 x1 x2
  go_wp2_with fail
  refine (markI_full Z.heap.size _ _ R wa hGa.out lR.out).mono ?_
  rintro e wb ⟨rfl, hGb, hgb⟩
  have hbb : Below w3.heap.size wa wb := (Below.refl _ _).grown hgb (by omega) (fun g hg => by have := hGl.out g hg; omega)
  have Lb := hid (La.out.trans (hbb.mono hs3))
  have hWb : Hid (OI wb 0 (.slice sW R.length cW) R) := hWa.out.same (fun g hg => hbb.block g (hWl.out g hg))
  have hGb : Hid (Els 1 cInt wb Z.heap.size sG (ims 1 R.length)) := by
    have h5 := hGb
    rw [show (Value.slice sG R.length cG) = .slice sG (ims 1 R.length).length cG by rw [ims_len]] at h5
    exact h5.els
  clear hWa hGa La hbb hgb
  go_wp2_with fail
  refine (heldI_full Z.heap.size sG R.length cG wb hGb.out lR.out).mono ?_
  rintro e wc ⟨rfl, hbc⟩
  have Lc := hid (bl_trans Lb.out hbc)
  have hWc := hid (hWb.out.later hbc)
  have hGc := hid (hGb.out.later cInt_keeps hbc)
  have qn : decide ((1 : Int) + (R.length : Int) < 0) = false := by simp; omega
  have qm : (((1 : Int) + (R.length : Int)) != (1 + (R.length : Int))) = false := by simp
  have kc := K0.out.under Lc.out hn0
  clear hWb hGb Lb hbc
  obtain ⟨x0, x1, x2⟩ := kc.two
  clear kc
  -- another call
  go_wp2_with fail
  refine (toTree_made a1 a2 c1 c2 V 0 _ (HV.out.later Lc.out) KV.out).mono ?_
  rintro e wd ⟨⟨g3, g4, rfl, dd⟩, hbd⟩
  have Ld := hid (bl_trans Lc.out hbd)
  have hWd := hid (hWc.out.later hbd)
  have hGd := hid (hGc.out.later cInt_keeps hbd)
  have DD := hid (dd.drop (Nat.zero_le _))
  clear hWc hGc Lc hbd dd x0 x1 x2
  go_wp2_with fail
  refine (implSizes_any V _ _ _ _ 0 wd DD.out KV.out).mono ?_
  rintro e we ⟨⟨sH, cH, rfl, hH⟩, hbe⟩
  rw [HR.out] at hH
  rw [HR.out]
  have Le := hid (bl_trans Ld.out hbe)
  have hWe := hid (hWd.out.later hbe)
  have hGe := hid (hGd.out.later cInt_keeps hbe)
  have hHe := hid hH
  clear hWd hGd Ld hbe hH DD
  go_wp2_with fail
  refine (eqI_more _ _ _ _ R _ _ we hHe.out.els hWe.out.els lR.out).mono ?_
  rintro e wf ⟨rfl, hbf⟩
  have Lf := hid (bl_trans Le.out hbf)
  have hGf := hid (hGe.out.later cInt_keeps hbf)
  clear hWe hGe hHe Le hbf
  go_wp2_with fail
  refine (heldI_full Z.heap.size sG R.length cG wf hGf.out lR.out).mono ?_
  rintro e wg ⟨rfl, hbg⟩
  have Lg := bl_trans Lf.out hbg
  clear hGf Lf hbg
  go_wp2_with fail
  go_ret
  exact ⟨rfl, L0.trans (Lg.mono (by omega))⟩
end Go.Proofs.YtknallkcengbbaaGreatDoor
namespace Go.Proofs.YtknallkcengbbaaGreatDoor
open Go.RowKit
set_option linter.unusedVariables false
set_option linter.unusedSimpArgs false

theorem lays_all {P : Nd → Prop} {g : Int → Nat → List Nd} {b : Nat} : ∀ (ks : List Int), (∀ x ∈ ks, ∀ b, ∀ m ∈ g x b, P m) → ∀ s, (∀ m ∈ s.1, P m) → ∀ m ∈ (ks.foldl (layS g b) s).1, P m
  | [], _, s, hs => hs
  | x :: xs, hg, s, hs => by
    rw [List.foldl_cons]
    refine lays_all xs (fun y hy => hg y (by simp [hy])) _ ?_
    intro m hm
    simp only [layS, List.mem_append] at hm
    rcases hm with h | h
    · exact hs m h
    · exact hg x (by simp) _ m h
theorem lyA_kids {T : Tre} : ∀ (i : Nat) (n : Nd), VN T i n → i ≤ 4000 → ∀ b, ∀ m ∈ lyA T (i : Int) b, m.kids.length ≤ 4000 := by
  intro i
  induction i using Nat.strongRecOn with
  | ind i ih =>
    intro n hv hi b m hm
    have hnl : n.kids.length ≤ i := by obtain ⟨nx, hfit⟩ := hv.fit; have := hfit.len; omega
    rw [lyA_eq hv] at hm
    unfold mkL at hm
    split at hm
    · rcases List.mem_append.1 hm with h | h
      · refine lays_all (P := fun m => m.kids.length ≤ 4000) n.kids (fun x hx b' m' hm' => ?_) ([], []) (fun m h => by simp at h) m h
        obtain ⟨k, m2, rfl, hk, hvk⟩ := hv.kid hx
        exact ih k hk m2 hvk (by omega) b' m' hm'
      · simp only [List.mem_singleton] at h
        subst h
        dsimp only
        rw [lays_ids]; omega
    · simp only [List.mem_singleton] at hm
      subst hm
      exact Nat.zero_le _
theorem fldA_b (t : Tre) : (fldA t).nodes.length ≤ 4000 ∧ (fldA t).tops.length ≤ 4000 ∧ ∀ m ∈ (fldA t).nodes, m.kids.length ≤ 4002 := by
  unfold fldA
  split
  · rename_i h
    have hp : treP t := by
      by_cases q : treP t
      · exact q
      · rw [treB_false q] at h; cases h
    refine ⟨top_len hp 0, by dsimp only; rw [lays_ids]; exact (tops_in hp).2, ?_⟩
    intro m hm
    have := lays_all t.tops (P := fun m => m.kids.length ≤ 4000) (g := lyA t) (b := 0) (fun x hx b' m' hm' => by
      obtain ⟨k, n, rfl, hk, hvk⟩ := top_VN hp hx
      exact lyA_kids k n hvk (by omega) b' m' hm') ([], []) (fun m h => by simp at h) m hm
    omega
  · exact ⟨Nat.zero_le _, Nat.zero_le _, fun m h => by simp at h⟩
theorem FoldS.rows {t : Tre} {w w' : World} {e : Ending} (h : FoldS t w e w') : ∃ (sv : Option Addr) (cv : Nat) (st : Option Addr) (ct : Nat) (Q : List NK) (x : List Int), e = .returned (.tuple #[.agg #[.slice sv Q.length cv, .slice st x.length ct], .bool (treB t)]) ∧ Rs w w.heap.size w' (rN (.slice sv Q.length cv) Q :: (rK Q ++ [rI (.slice st x.length ct) x])) ∧ (⟨Q.map (·.1), x⟩ : Tre) = fldA t := by
  obtain ⟨v, tv, Q, he, hR, hQ⟩ := h
  obtain ⟨st, ct, rfl⟩ := rI_shape (hR.at [] _)
  obtain ⟨sv, cv, rfl⟩ := rN_shape (hR.at [rI (.slice st (fldA t).tops.length ct) (fldA t).tops] _)
  refine ⟨sv, cv, st, ct, Q, (fldA t).tops, he, hR.perm ?_, by rw [hQ]⟩
  have h1 : (rK Q ++ [rI (.slice st (fldA t).tops.length ct) (fldA t).tops]).Perm (rI (.slice st (fldA t).tops.length ct) (fldA t).tops :: (rK Q ++ [])) := List.perm_middle
  exact (List.Perm.swap _ _ _).trans (h1.symm.cons _)
theorem rowBox {X W : World} {B n : Nat} {r r' : OR} {R : List OR} {t : TypeId} {cs : List Value} (h : Rs X B W (r :: (R ++ r' :: [rB n t cs]))) : Blk W n cs.toArray t := by
  have h2 : Rs X B W ((r :: (R ++ [r'])) ++ rB n t cs :: []) := by simpa using h
  exact h2.box _ _

set_option maxRecDepth 100000 in
set_option maxHeartbeats 16000000 in
theorem exactFold_any (a1 a2 : Option Addr) (c1 c2 : Nat) (V : Tre) (w : World) (hV : InT w 0 a1 a2 V) (mV : mTre V) :
    Calls Tryz.prog 3 #[.agg #[.slice a1 V.nodes.length c1, .slice a2 V.tops.length c2]] w fun e w' => e = .returned (.bool true) ∧ Below w.heap.size w w' := by
  have hal := alloc_old
  have haf := alloc_oldf
  have k0 := Blk.new w #[.slice a1 V.nodes.length c1, .slice a2 V.tops.length c2] 25
  have L0 := bl_alloc (Below.refl _ w) (.cells #[.slice a1 V.nodes.length c1, .slice a2 V.tops.length c2] 25)
  have HV := hid (hV.later L0)
  have MV := hid mV
  clear hV mV
  obtain ⟨x0, x1, x2⟩ := k0.two
  go_enter Tryz.func3, Tryz.ntmps3
  go_wp2_with fail
  generalize hX0 : w.alloc (.cells #[.slice a1 V.nodes.length c1, .slice a2 V.tops.length c2] 25) = X0 at k0 L0 HV x0 x1 x2 ⊢
  have hX0s : X0.heap.size = w.heap.size + 1 := by rw [← hX0]; simp
  have K0 := hid k0
  clear hX0 k0
  refine (szTree_gen a1 a2 c1 c2 V 0 1048576 _ HV.out MV.out (by omega) (by omega)).mono ?_
  rintro e w1 ⟨⟨r, rfl, hr⟩, hb1⟩
  have hn0 : w.heap.size < X0.heap.size := by omega
  have k1 := K0.out.under hb1 hn0
  clear x0 x1 x2 MV
  obtain ⟨x0, x1, x2⟩ := k1.two
  clear k1
  rcases hr with rfl | ⟨r0, r1, kv⟩
  · go_wp2_with fail
    go_ret
    exact ⟨rfl, L0.trans (hb1.mono (by omega))⟩
  have t1 : decide (r < 0) = false := by simp; omega
  have KV : Hid (kTre V) := kv
  have L1 : Hid (Below X0.heap.size X0 w1) := hb1
  clear kv hb1
  go_wp2_with fail
  -- the model's answer
  refine (toTree_made a1 a2 c1 c2 V 0 _ (HV.out.later L1.out) KV.out).mono ?_
  rintro e w2 ⟨⟨g1, g2, rfl, d2⟩, hb2⟩
  have L2 := hid (bl_trans L1.out hb2)
  have D2 := hid (d2.drop (Nat.zero_le _))
  clear t1 r1 r0 hb2 d2 L1 x0 x1 x2
  go_wp2_with fail
  refine (specFold_any V _ _ _ _ _ D2.out KV.out).mono ?_
  intro e w3 hO
  obtain ⟨sv, cv, st, ct, Q, x, rfl, r1, ht⟩ := hO.rows
  have I0 := rows_inT r1
  have K3 := Blk.new w3 #[.slice sv Q.length cv, .slice st x.length ct] 29
  have B3 : Below w3.heap.size w3 (w3.alloc (.cells #[.slice sv Q.length cv, .slice st x.length ct] 29)) := bl_alloc (Below.refl _ _) _
  have L3 := hid (bl_trans (bl_trans L2.out r1.l) B3)
  have I1 := hid (I0.later B3)
  have HTT := hid ht
  have k3 := K0.out.under L3.out hn0
  obtain ⟨x0, x1, x2⟩ := k3.two
  clear hO r1 I0 B3 ht L2 D2 k3
  go_wp2_with fail
  generalize hW : w3.alloc (.cells #[.slice sv Q.length cv, .slice st x.length ct] 29) = W3 at K3 L3 I1 x0 x1 x2 ⊢
  have s3 : w3.heap.size < W3.heap.size := K3.lt
  have HK3 := hid K3
  have hs3 : X0.heap.size ≤ W3.heap.size := L3.out.size
  clear hW K3
  -- the argument's copy
  refine (toTree_made a1 a2 c1 c2 V 0 _ (HV.out.later L3.out) KV.out).mono ?_
  rintro e W1 ⟨⟨h1, h2, rfl, dx⟩, hbx⟩
  have L4 := hid (bl_trans L3.out hbx)
  have hs4 : W3.heap.size ≤ W1.heap.size := hbx.size
  have kX := Blk.new W1 #[.slice (some ⟨h1, 0, none⟩) V.nodes.length V.nodes.length, .slice (some ⟨h2, 0, none⟩) V.tops.length V.tops.length] 29
  have LY : Below W1.heap.size W1 (W1.alloc (.cells #[.slice (some ⟨h1, 0, none⟩) V.nodes.length V.nodes.length, .slice (some ⟨h2, 0, none⟩) V.tops.length V.tops.length] 29)) := bl_alloc (Below.refl _ _) _
  have DX : Hid (InT W1 W3.heap.size (some ⟨h1, 0, none⟩) (some ⟨h2, 0, none⟩) V) := dx
  have LW4 := hid (hbx.trans (LY.mono hs4))
  clear dx x0 x1 x2
  obtain ⟨x0, x1, x2⟩ := kX.two
  go_wp2_with fail
  generalize hZ : W1.alloc (.cells #[.slice (some ⟨h1, 0, none⟩) V.nodes.length V.nodes.length, .slice (some ⟨h2, 0, none⟩) V.tops.length V.tops.length] 29) = Z at kX LY LW4 x0 x1 x2 ⊢
  have hZs : Z.heap.size = W1.heap.size + 1 := by rw [← hZ]; simp
  have KX := hid kX
  have L5 := hid (bl_trans L4.out LY)
  have LZ : Hid (Below W1.heap.size W1 Z) := LY
  have hZn : W1.heap.size < Z.heap.size := by omega
  clear hZ kX LY L4 hbx
  -- the program's answer
  refine (implFold_any V _ _ _ _ Z ((DX.out.later LZ.out).drop (Nat.zero_le _)) KV.out).mono ?_
  intro e w5 hO
  obtain ⟨sv2, cv2, st2, ct2, Q2, x2', rfl, r2, ht2⟩ := hO.rows
  have hq := HTT.out.trans ht2.symm
  simp only [Tre.mk.injEq] at hq
  obtain ⟨hm, rfl⟩ := hq
  have hlen : Q.length = Q2.length := by have := congrArg List.length hm; simpa using this
  have hfb := fldA_b V
  rw [← ht2] at hfb
  obtain ⟨bQ, bx, bk⟩ := hfb
  have bQ : Q2.length ≤ 4000 := by simpa using bQ
  have bx : x.length ≤ 4000 := bx
  have BK : Hid (∀ q ∈ Q2, q.1.kids.length ≤ 4002) := fun q hq => bk q.1 (List.mem_map.2 ⟨q, hq, rfl⟩)
  have I1 := I1.out
  rw [hm] at I1
  have I1 := hid I1
  have HT2 := hid ht2
  rw [hlen] at HK3 ⊢
  clear hO bk hm hlen HTT ht2
  have K6 := Blk.new w5 #[.slice sv2 Q2.length cv2, .slice st2 x.length ct2] 29
  have B6 : Below w5.heap.size w5 (w5.alloc (.cells #[.slice sv2 Q2.length cv2, .slice st2 x.length ct2] 29)) := bl_alloc (Below.refl _ _) _
  have r3 : Rs Z Z.heap.size (w5.alloc (.cells #[.slice sv2 Q2.length cv2, .slice st2 x.length ct2] 29)) ((rN (.slice sv2 Q2.length cv2) Q2 :: (rK Q2 ++ [rI (.slice st2 x.length ct2) x])) ++ rB w5.heap.size 29 [.slice sv2 Q2.length cv2, .slice st2 x.length ct2] :: []) := Rs.ins _ [] (by simpa using r2) B6 (blk_rB K6 (Nat.le_refl _))
  have r3 : Rs Z Z.heap.size (w5.alloc (.cells #[.slice sv2 Q2.length cv2, .slice st2 x.length ct2] 29)) (rN (.slice sv2 Q2.length cv2) Q2 :: (rK Q2 ++ rI (.slice st2 x.length ct2) x :: [rB w5.heap.size 29 [.slice sv2 Q2.length cv2, .slice st2 x.length ct2]])) := by simpa using r3
  have R3 := hid r3
  have LW5 := hid (LW4.out.trans (R3.out.l.mono (by omega)))
  have L6 := hid (bl_trans L5.out R3.out.l)
  clear r2 B6 r3 x0 x1 x2 LW4 L5
  obtain ⟨x0, x1, x2⟩ := (HK3.out.under LW5.out s3).two
  obtain ⟨y0, y1, yf⟩ := K6.two
  go_wp2_with fail
  generalize hW : w5.alloc (.cells #[.slice sv2 Q2.length cv2, .slice st2 x.length ct2] 29) = W6 at R3 LW5 L6 K6 x0 x1 x2 y0 y1 yf ⊢
  clear hW K6
  have hkT : Hid (((⟨Q2.map (·.1), x⟩ : Tre).nodes.length ≤ 1048576 ∧ ∀ n ∈ (⟨Q2.map (·.1), x⟩ : Tre).nodes, n.kids.length ≤ 1048576) ∧ (⟨Q2.map (·.1), x⟩ : Tre).tops.length ≤ 1048576) := by
    refine ⟨⟨by simp; omega, fun n hn => ?_⟩, by show x.length ≤ _; omega⟩
    obtain ⟨q, hq, rfl⟩ := List.mem_map.1 hn
    have := BK.out q hq
    omega
  have EQ : Hid (∀ (W : World) (B C : Nat) (s1 s2 t1 t2 : Option Addr) (c1 c2 d1 d2 : Nat), InT W B s1 s2 ⟨Q2.map (·.1), x⟩ → InT W C t1 t2 ⟨Q2.map (·.1), x⟩ → Calls Tryz.prog 9 #[.agg #[.slice s1 Q2.length c1, .slice s2 x.length c2], .agg #[.slice t1 Q2.length d1, .slice t2 x.length d2]] W fun e w' => e = .returned (.bool true) ∧ Below W.heap.size W w') := fun W B C s1 s2 t1 t2 c1 c2 d1 d2 h1 h2 => by
    have := eqTree_k s1 s2 t1 t2 c1 c2 d1 d2 ⟨Q2.map (·.1), x⟩ B C W h1 h2 hkT.out
    simpa only [List.length_map] using this
  refine (EQ.out W6 _ _ sv2 st2 sv st cv2 ct2 cv ct (rows_inT R3.out) (I1.out.later LW5.out)).mono ?_
  rintro e w7 ⟨rfl, b7⟩
  obtain ⟨tb, htb⟩ : ∃ tb, treB V = tb := ⟨_, rfl⟩
  rw [htb]
  have qc : (tb != tb) = false := by simp
  have R7 := hid (R3.out.later b7)
  have LW7 := hid (LW5.out.trans (b7.mono (by have := LW5.out.size; omega)))
  have L7 := hid (bl_trans L6.out b7)
  clear x0 x1 x2 y0 y1 yf R3 b7 L6 LW5
  have kA := K0.out.under L7.out hn0
  have kB := KX.out.under R7.out.l hZn
  obtain ⟨x0, x1, x2⟩ := kA.two
  obtain ⟨y0, y1, y2⟩ := kB.two
  have KA : Hid (Blk w7 w.heap.size #[.slice a1 V.nodes.length c1, .slice a2 V.tops.length c2] 25) := kA
  have KB : Hid (Blk w7 W1.heap.size #[.slice (some ⟨h1, 0, none⟩) V.nodes.length V.nodes.length, .slice (some ⟨h2, 0, none⟩) V.tops.length V.tops.length] 29) := kB
  have HV7 := hid (HV.out.later L7.out)
  have HX7 := hid ((DX.out.later LZ.out).later R7.out.l)
  clear kA kB
  go_wp2_with fail
  go_region_held3 (fun w' => w'.cell? ⟨W1.heap.size, 0, none⟩ = some (.slice (some ⟨h1, 0, none⟩) V.nodes.length V.nodes.length) ∧ w'.cell? ⟨W1.heap.size, 1, none⟩ = some (.slice (some ⟨h2, 0, none⟩) V.tops.length V.tops.length) ∧ w'.cell? ⟨w.heap.size, 0, none⟩ = some (.slice a1 V.nodes.length c1) ∧ w'.cell? ⟨w.heap.size, 1, none⟩ = some (.slice a2 V.tops.length c2)) (simp [x0, x1, y0, y1])
    (first
      | (go_at_call 7; refine (toTree_made a1 a2 c1 c2 V 0 _ (HV7.out.later (bl_drew (Below.refl _ _))) KV.out).mono ?_; rintro e wg ⟨⟨q1, q2, rfl, hIg⟩, hbg⟩; have hwg : Below w7.heap.size w7 wg := bl_trans (bl_drew (Below.refl _ _)) hbg; obtain ⟨x0, x1, x2⟩ := (KA.out.later hwg).two; obtain ⟨y0, y1, y2⟩ := (KB.out.later hwg).two)
      | (go_at_call 9; refine (eqTree_self _ _ _ _ _ _ _ _ V _ _ wg (HX7.out.later hwg) hIg KV.out).mono ?_; rintro e w8 ⟨rfl, hbh⟩; have h78 : Below w7.heap.size w7 w8 := bl_trans hwg hbh; obtain ⟨x0, x1, x2⟩ := (KA.out.later h78).two; obtain ⟨y0, y1, y2⟩ := (KB.out.later h78).two))
  have R8 := hid (R7.out.later h78)
  have LW8 := hid (LW7.out.trans (h78.mono (by have := LW7.out.size; omega)))
  have L8 := hid (bl_trans L7.out h78)
  clear R7 LW7 L7 h78 KA KB HV7 HX7 hwg hbg hIg hbh
  -- marks in the argument
  go_wp2_with fail
  refine (markTree_w W3.heap.size W1 w8 _ _ _ _ V 1 _ DX.out (by omega) (Mr.start (bl_trans LZ.out R8.out.l) _) (by have := R8.out.l.size; omega) KV.out (by omega) (by omega)).mono ?_
  rintro e w9 ⟨⟨q, rfl, q0⟩, hM⟩
  have R9 : Hid (Rs w9 Z.heap.size w9 (rN (.slice sv2 Q2.length cv2) Q2 :: (rK Q2 ++ rI (.slice st2 x.length ct2) x :: [rB w5.heap.size 29 [.slice sv2 Q2.length cv2, .slice st2 x.length ct2]]))) := Rs.start (R8.out.o.same fun g hg => hM.out g (by have := (R8.out.o.lt hg).1; omega) (R8.out.o.lt hg).2) (by have := hM.s1; have := hM.be.size; have := R8.out.l.size; omega)
  have LW9 := hid (LW8.out.trans hM.be)
  have L9 := hid (L8.out.trans (hM.be.mono hs3))
  have qn : decide (q < 0) = false := by simp; omega
  clear hM R8 LW8 L8 DX x0 x1 x2 y0 y1 y2
  obtain ⟨x0, x1, x2⟩ := (HK3.out.under LW9.out s3).two
  obtain ⟨y0, y1, y2⟩ := (rowBox R9.out).two
  go_wp2_with fail
  refine (EQ.out w9 _ _ sv2 st2 sv st cv2 ct2 cv ct (rows_inT R9.out) (I1.out.later LW9.out)).mono ?_
  rintro e w10 ⟨rfl, b10⟩
  have R10 := hid (R9.out.later b10)
  have hzw : Z.heap.size ≤ w9.heap.size := R9.out.s
  have h3z : W3.heap.size ≤ Z.heap.size := by omega
  have L9' := L9
  have LW9' := LW9
  clear x0 x1 x2 y0 y1 y2 R9 b10 qn q0
  obtain ⟨y0, y1, y2⟩ := (rowBox R10.out).two
  go_wp2_with fail
  refine (markTree_rows w9 Z.heap.size cv2 ct2 sv2 st2 _ Q2 x 1 w10 R10.out (by omega) (by omega) BK.out (by omega) (by omega)).mono ?_
  rintro e w11 ⟨rfl, Q', hM, r4⟩
  obtain ⟨M, eM⟩ : ∃ M, Hid (1 + cQ Q2 Q2.length + (x.length : Int) = M) := ⟨_, rfl⟩
  rw [eM.out]
  have HM := hid hM
  have R11 := hid r4
  have M0 : 0 ≤ M := by have h1 := cQ_le BK.out Q2.length; have h2 := eM.out; omega
  have tm1 : decide (M < 0) = false := by simp; omega
  have tm2 : (M != M) = false := by simp
  clear hM r4 R10 y0 y1 y2
  obtain ⟨y0, y1, y2⟩ := (rowBox R11.out).two
  go_wp2_with fail
  have HH : Hid (∀ W : World, Rs w9 Z.heap.size W (rN (.slice sv2 Q2.length cv2) Q' :: (rK Q' ++ rI (.slice st2 x.length ct2) (wI (1 + cQ Q2 Q2.length) x.length) :: [rB w5.heap.size 29 [.slice sv2 Q2.length cv2, .slice st2 x.length ct2]])) → Calls Tryz.prog 11 #[.agg #[.slice sv2 Q2.length cv2, .slice st2 x.length ct2], .int .i64 1] W fun e w' => e = .returned (.int .i64 M) ∧ Below W.heap.size W w') := fun W hW => by
    have := heldTree_rows w9 Z.heap.size cv2 ct2 sv2 st2 _ Q2 Q' x 1 W HM.out hW (by omega) (by omega) BK.out (by omega) (by omega)
    rw [eM.out] at this
    exact this
  refine (HH.out w11 R11.out).mono ?_
  rintro e w12 ⟨rfl, b12⟩
  have R12 := hid (R11.out.later b12)
  have L12 := hid (L9.out.trans (R12.out.l.mono (by omega)))
  clear y0 y1 y2 R11 b12
  obtain ⟨x0, x1, x2⟩ := (K0.out.under L12.out hn0).two
  go_wp2_with fail
  -- another call
  refine (toTree_made a1 a2 c1 c2 V 0 _ (HV.out.later L12.out) KV.out).mono ?_
  rintro e wd ⟨⟨g3, g4, rfl, dd⟩, hbd⟩
  have Rd := hid (R12.out.later hbd)
  have DD := hid (dd.drop (Nat.zero_le _))
  clear hbd dd x0 x1 x2 R12 L12
  go_wp2_with fail
  refine (implFold_any V _ _ _ _ wd DD.out KV.out).mono ?_
  intro e we hO
  obtain ⟨sv3, cv3, st3, ct3, Q3, x3, rfl, r7, ht3⟩ := hO.rows
  have hq := ht3.trans HT2.out.symm
  simp only [Tre.mk.injEq] at hq
  obtain ⟨hm, rfl⟩ := hq
  have hlen : Q3.length = Q2.length := by have := congrArg List.length hm; simpa using this
  have I7 := rows_inT r7
  rw [hm] at I7
  have l7 := r7.l
  rw [hlen]
  clear hO ht3 hm hlen r7
  have K11 := Blk.new we #[.slice sv3 Q2.length cv3, .slice st3 x3.length ct3] 29
  have B11 : Below we.heap.size we (we.alloc (.cells #[.slice sv3 Q2.length cv3, .slice st3 x3.length ct3] 29)) := bl_alloc (Below.refl _ _) _
  have R13 := hid ((Rd.out.later l7).later B11)
  have I8 := hid (I7.later B11)
  have LW13 := hid (LW9.out.trans (R13.out.l.mono (by omega)))
  obtain ⟨x0, x1, x2⟩ := (HK3.out.under LW13.out s3).two
  obtain ⟨y0, y1, y2⟩ := K11.two
  clear Rd I7 l7 B11
  rw [htb]
  go_wp2_with fail
  generalize hW : we.alloc (.cells #[.slice sv3 Q2.length cv3, .slice st3 x3.length ct3] 29) = W7 at R13 K11 I8 LW13 x0 x1 x2 y0 y1 y2 ⊢
  clear hW
  refine (EQ.out W7 _ _ sv3 st3 sv st cv3 ct3 cv ct I8.out (I1.out.later LW13.out)).mono ?_
  rintro e w14 ⟨rfl, b14⟩
  have R14 := hid (R13.out.later b14)
  clear x0 x1 x2 y0 y1 y2 K11 R13 b14 LW13 I8
  obtain ⟨y0, y1, y2⟩ := (rowBox R14.out).two
  go_wp2_with fail
  refine (HH.out w14 R14.out).mono ?_
  rintro e w15 ⟨rfl, b15⟩
  have R15 := hid (R14.out.later b15)
  have L15 := L9.out.trans (R15.out.l.mono (by omega))
  clear y0 y1 y2 R14 b15
  go_wp2_with fail
  go_ret
  exact ⟨rfl, L0.trans (L15.mono (by omega))⟩
end Go.Proofs.YtknallkcengbbaaGreatDoor
