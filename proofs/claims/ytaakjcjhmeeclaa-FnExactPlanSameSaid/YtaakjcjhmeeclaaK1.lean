import Derived.Test.YtaakjcjhmeeclaaAa
import Derived.Test.YtaakjcjhmeeclaaTe
namespace Go.Proofs.Ytaakjcjhmeeclaa
open Go.RowKit
set_option linter.unusedVariables false
set_option linter.unusedSimpArgs false
set_option maxRecDepth 100000

/-- a plan: the stages, the order, the edges, the effects. -/
structure Pln where
  st : List Int
  od : List Int
  ed : List E2
  ef : List Ef
def cEff (w : World) (B : Nat) (cs : List Value) (x : Ef) : Prop := ∃ s0 c0 s1 c1 s2 c2 s3 c3 s4 c4 s5 c5 s6 c6 s7 c7, cs = [.slice s0 x.l0.length c0, .slice s1 x.l1.length c1, .slice s2 x.l2.length c2, .slice s3 x.l3.length c3, .slice s4 x.l4.length c4, .slice s5 x.l5.length c5, .slice s6 x.l6.length c6, .slice s7 x.l7.length c7, .bool x.sp, .bool x.kl] ∧ InE w B s0 s1 s2 s3 s4 s5 s6 s7 x
theorem cEff_keeps : KeepsE cEff := fun _ _ _ _ _ hk ⟨s0, c0, s1, c1, s2, c2, s3, c3, s4, c4, s5, c5, s6, c6, s7, c7, e, h⟩ => ⟨s0, c0, s1, c1, s2, c2, s3, c3, s4, c4, s5, c5, s6, c6, s7, c7, e, h.kept hk⟩
theorem cEff_drops : DropsE cEff := fun _ _ _ _ _ hB ⟨s0, c0, s1, c1, s2, c2, s3, c3, s4, c4, s5, c5, s6, c6, s7, c7, e, h⟩ => ⟨s0, c0, s1, c1, s2, c2, s3, c3, s4, c4, s5, c5, s6, c6, s7, c7, e, h.drop hB⟩
theorem eEff_cells {w : World} {B : Nat} {s : Option Addr} {L : List Ef} (h : Els 10 cEff w B s L) {j : Nat} {x : Ef} (ha : L[j]? = some x) :
    ∃ b o, s = some ⟨b, o, none⟩ ∧ B ≤ b ∧ b < w.heap.size ∧ ∃ s0 c0 s1 c1 s2 c2 s3 c3 s4 c4 s5 c5 s6 c6 s7 c7, w.cell? ⟨b, o + j * 10, none⟩ = some (.slice s0 x.l0.length c0) ∧ w.cell? ⟨b, o + j * 10 + 1, none⟩ = some (.slice s1 x.l1.length c1) ∧ w.cell? ⟨b, o + j * 10 + 2, none⟩ = some (.slice s2 x.l2.length c2) ∧ w.cell? ⟨b, o + j * 10 + 3, none⟩ = some (.slice s3 x.l3.length c3) ∧ w.cell? ⟨b, o + j * 10 + 4, none⟩ = some (.slice s4 x.l4.length c4) ∧ w.cell? ⟨b, o + j * 10 + 5, none⟩ = some (.slice s5 x.l5.length c5) ∧ w.cell? ⟨b, o + j * 10 + 6, none⟩ = some (.slice s6 x.l6.length c6) ∧ w.cell? ⟨b, o + j * 10 + 7, none⟩ = some (.slice s7 x.l7.length c7) ∧ w.cell? ⟨b, o + j * 10 + 8, none⟩ = some (.bool x.sp) ∧ w.cell? ⟨b, o + j * 10 + 9, none⟩ = some (.bool x.kl) ∧ InE w B s0 s1 s2 s3 s4 s5 s6 s7 x := by
  rcases h with rfl | ⟨b, o, rfl, h1, h2, h3, hz⟩
  · simp at ha
  · obtain ⟨cs, e1, e2, s0, c0, s1, c1, s2, c2, s3, c3, s4, c4, s5, c5, s6, c6, s7, c7, rfl, f⟩ := h3 j x ha
    exact ⟨b, o, rfl, h1, h2, s0, c0, s1, c1, s2, c2, s3, c3, s4, c4, s5, c5, s6, c6, s7, c7, e2 0 _ rfl, e2 1 _ rfl, e2 2 _ rfl, e2 3 _ rfl, e2 4 _ rfl, e2 5 _ rfl, e2 6 _ rfl, e2 7 _ rfl, e2 8 _ rfl, e2 9 _ rfl, f⟩
def mEfs (L : List Ef) : Prop := L.length ≤ 9223372036854775807 ∧ ∀ x ∈ L, mEf x
def kEfs (L : List Ef) : Prop := L.length ≤ 1048576 ∧ ∀ x ∈ L, kEf x
def mP (P : Pln) : Prop := P.st.length ≤ 9223372036854775807 ∧ P.od.length ≤ 9223372036854775807 ∧ P.ed.length ≤ 9223372036854775807 ∧ mEfs P.ef
def kP (P : Pln) : Prop := P.st.length ≤ 1048576 ∧ P.od.length ≤ 1048576 ∧ P.ed.length ≤ 1048576 ∧ kEfs P.ef
structure InP (w : World) (B : Nat) (a1 a2 a3 a4 : Option Addr) (P : Pln) : Prop where
  s : Els 1 cInt w B a1 P.st
  o : Els 1 cInt w B a2 P.od
  e : Els 2 cEnt w B a3 P.ed
  f : Els 10 cEff w B a4 P.ef
theorem InP.kept {w w' : World} {B : Nat} {a1 a2 a3 a4 : Option Addr} {P : Pln} (h : InP w B a1 a2 a3 a4 P) (hk : Kept B w w') : InP w' B a1 a2 a3 a4 P := ⟨h.s.kept cInt_keeps hk, h.o.kept cInt_keeps hk, h.e.kept cEnt_keeps hk, h.f.kept cEff_keeps hk⟩
theorem InP.later {w w' : World} {B : Nat} {a1 a2 a3 a4 : Option Addr} {P : Pln} (h : InP w B a1 a2 a3 a4 P) (hb : Below w.heap.size w w') : InP w' B a1 a2 a3 a4 P := h.kept (Kept.of hb B)
theorem InP.drop {w : World} {B B' : Nat} {a1 a2 a3 a4 : Option Addr} {P : Pln} (h : InP w B a1 a2 a3 a4 P) (hB : B' ≤ B) : InP w B' a1 a2 a3 a4 P := ⟨h.s.drop cInt_drops hB, h.o.drop cInt_drops hB, h.e.drop cEnt_drops hB, h.f.drop cEff_drops hB⟩
set_option maxHeartbeats 2000000 in
theorem szEdges_gen (s : Option Addr) (n c : Nat) (left : Int) (w : World) (h0 : 0 ≤ left) (h1 : left ≤ 1048576) (hn : n ≤ 9223372036854775807) :
    Calls Try.prog 13 #[.slice s n c, .int .i64 left] w fun e w' => Szd left (n ≤ 1048576) e ∧ w' = w := by
  by_cases h : left < n
  · have tw : IntKind.i64.wrap (left - (n : Int)) = left - (n : Int) := by rw [IntKind.wrap_i64]; omega
    have t1 : decide (left - (n : Int) < 0) = true := by simp; omega
    go_enter Try.func13, Try.ntmps13
    go_wp2_with fail
    go_ret
    exact ⟨⟨_, rfl, Or.inl rfl⟩, rfl⟩
  · have tw : IntKind.i64.wrap (left - (n : Int)) = left - (n : Int) := by rw [IntKind.wrap_i64]; omega
    have t1 : decide (left - (n : Int) < 0) = false := by simp; omega
    go_enter Try.func13, Try.ntmps13
    go_wp2_with fail
    go_ret
    exact ⟨⟨_, rfl, Or.inr ⟨by omega, by omega, by omega⟩⟩, rfl⟩

set_option maxHeartbeats 2000000 in
theorem szEffectS_gen (s : Option Addr) (c : Nat) (L : List Ef) (B : Nat) (left : Int) (w : World) (hL : Els 10 cEff w B s L) (hm : mEfs L) (h0 : 0 ≤ left) (h1 : left ≤ 1048576) :
    Calls Try.prog 14 #[.slice s L.length c, .int .i64 left] w fun e w' => Szd left (kEfs L) e ∧ Below w.heap.size w w' := by
  have tw : IntKind.i64.wrap (left - (L.length : Int)) = left - (L.length : Int) := by have := hm.1; rw [IntKind.wrap_i64]; omega
  by_cases h : (L.length : Int) ≤ left
  · have t1 : decide (left - (L.length : Int) < 0) = false := by simp; omega
    have hl : L.length ≤ 1048576 := by omega
    go_enter Try.func14, Try.ntmps14
    go_wp2_with fail
    clear tw t1
    go_loopw [1, 5] (fun x i wr => ∃ (k : Nat) (r : Int), k ≤ L.length ∧ i = .int .i64 k ∧ x = .int .i64 r ∧ 0 ≤ r ∧ r ≤ left ∧ (∀ j l, j < k → L[j]? = some l → kEf l) ∧ Below w.heap.size w wr) (fun _ i _ => L.length - (intOf i).toNat)
    case atStart => exact ⟨0, _, Nat.zero_le _, rfl, rfl, by omega, by omega, fun j l hj => by omega, Below.refl _ _⟩
    case round =>
      obtain ⟨k, r, hk, rfl, rfl, r0, r1, hq, hb⟩ := hrel
      have HQ : Hid (∀ j l, j < k → L[j]? = some l → kEf l) := hq
      clear hq
      by_cases hlt : k < L.length
      · obtain ⟨t, hl0⟩ := get_some hlt
        obtain ⟨b, o, rfl, hB, hp, s0, c0, s1, c1, s2, c2, s3, c3, s4, c4, s5, c5, s6, c6, s7, c7, e0, e1, e2, e3, e4, e5, e6, e7, e8, e9, f⟩ := eEff_cells (hL.later cEff_keeps hb) hl0
        have hn := hm.2 t (List.mem_of_getElem? hl0)
        have HL : Hid (L[k]? = some t) := hl0
        clear hL hm hl0 f
        go_wp2_with fail
        refine (szEffect_gen s0 s1 s2 s3 s4 s5 s6 s7 c0 c1 c2 c3 c4 c5 c6 c7 t r _ hn r0 (by omega)).mono ?_
        rintro e w2 ⟨⟨q, rfl, hq⟩, hb2⟩
        rcases hq with rfl | ⟨q0, q1, qn⟩
        · go_wp2_with fail
          go_ret
          exact ⟨⟨_, rfl, Or.inl rfl⟩, bl_trans hb hb2⟩
        · have t2 : decide (q < 0) = false := by simp; omega
          go_wp2_with fail
          go_roundw
          case rel =>
            refine ⟨k + 1, q, by omega, by go_num, rfl, q0, by omega, fun j l' hj hl' => ?_, bl_trans hb hb2⟩
            by_cases e : j = k
            · subst e
              have := HL.out
              rw [this] at hl'
              cases hl'
              exact qn
            · exact HQ.out j l' (by omega) hl'
          case measure => simp [intOf]; omega
      · go_wp2_with fail
        go_ret
        refine ⟨⟨_, rfl, Or.inr ⟨r0, r1, hl, fun l hl' => ?_⟩⟩, hb⟩
        obtain ⟨j, hj, rfl⟩ := List.getElem_of_mem hl'
        exact HQ.out j _ (by omega) (by simp [hj])
  · have t1 : decide (left - (L.length : Int) < 0) = true := by simp; omega
    go_enter Try.func14, Try.ntmps14
    go_wp2_with fail
    go_ret
    exact ⟨⟨_, rfl, Or.inl rfl⟩, Below.refl _ _⟩

set_option maxHeartbeats 2000000 in
theorem szPlan_gen (a1 a2 a3 a4 : Option Addr) (c1 c2 c3 c4 : Nat) (P : Pln) (B : Nat) (left : Int) (w : World) (hS : InP w B a1 a2 a3 a4 P) (hm : mP P) (h0 : 0 ≤ left) (h1 : left ≤ 1048576) :
    Calls Try.prog 5 #[.agg #[.slice a1 P.st.length c1, .slice a2 P.od.length c2, .slice a3 P.ed.length c3, .slice a4 P.ef.length c4], .int .i64 left] w fun e w' => Szd left (kP P) e ∧ Below w.heap.size w w' := by
  obtain ⟨m1, m2, m3, m4⟩ := hm
  have k0 := Blk.new w #[.slice a1 P.st.length c1, .slice a2 P.od.length c2, .slice a3 P.ed.length c3, .slice a4 P.ef.length c4] 26
  have L0 : Below w.heap.size w (w.alloc (.cells #[.slice a1 P.st.length c1, .slice a2 P.od.length c2, .slice a3 P.ed.length c3, .slice a4 P.ef.length c4] 26)) := bl_alloc (Below.refl _ _) _
  obtain ⟨x0, x1, x2, x3, x4⟩ := k0.four'
  go_enter Try.func5, Try.ntmps5
  go_wp2_with fail
  refine (szInts_gen a1 _ c1 left _ h0 (by omega) m1).mono ?_
  rintro z w' ⟨⟨r0, rfl, hr⟩, rfl⟩
  rcases hr with rfl | ⟨p0, b0, n0⟩
  · go_wp2_with fail
    go_ret
    exact ⟨⟨_, rfl, Or.inl rfl⟩, L0⟩
  have t0 : decide (r0 < 0) = false := by simp; omega
  go_wp2_with fail
  refine (szInts_gen a2 _ c2 r0 _ p0 (by omega) m2).mono ?_
  rintro z w' ⟨⟨r1, rfl, hr⟩, rfl⟩
  rcases hr with rfl | ⟨p1, b1, n1⟩
  · go_wp2_with fail
    go_ret
    exact ⟨⟨_, rfl, Or.inl rfl⟩, L0⟩
  have t1 : decide (r1 < 0) = false := by simp; omega
  go_wp2_with fail
  refine (szEdges_gen a3 _ c3 r1 _ p1 (by omega) m3).mono ?_
  rintro z w' ⟨⟨r2, rfl, hr⟩, rfl⟩
  rcases hr with rfl | ⟨p2, b2, n2⟩
  · go_wp2_with fail
    go_ret
    exact ⟨⟨_, rfl, Or.inl rfl⟩, L0⟩
  have t2 : decide (r2 < 0) = false := by simp; omega
  go_wp2_with fail
  refine (szEffectS_gen a4 c4 P.ef B r2 _ (hS.f.later cEff_keeps L0) m4 p2 (by omega)).mono ?_
  rintro z w' ⟨⟨r3, rfl, hr⟩, hb⟩
  rcases hr with rfl | ⟨p3, b3, n3⟩
  · go_wp2_with fail
    go_ret
    exact ⟨⟨_, rfl, Or.inl rfl⟩, bl_trans L0 hb⟩
  have t3 : decide (r3 < 0) = false := by simp; omega
  go_wp2_with fail
  go_ret
  exact ⟨⟨_, rfl, Or.inr ⟨p3, by omega, n0, n1, n2, n3⟩⟩, bl_trans L0 hb⟩
end Go.Proofs.Ytaakjcjhmeeclaa
