import Derived.Test.YtjfpflejnbnhnaaSl27
import Derived.Test.YtjfpflejnbnhnaaSl26
import Derived.BigQuiet
namespace Go.Proofs.Ytjfpflejnbnhnaa
section
open Go.RowKit
set_option linter.unusedVariables false
set_option linter.unusedSimpArgs false
theorem stB_f {k f : Int} {O N : List V4} (h : (decide (0 ≤ f) && decide (f ≤ 1000000000000)) = false) : false = stB k f O N := by simp only [stB, h]; rfl
theorem stB_o {k f : Int} {O N : List V4} (h : ¬ O.length ≤ 200) : false = stB k f O N := by simp [stB, h]
theorem stB_n {k f : Int} {O N : List V4} (h : ¬ N.length ≤ 200) : false = stB k f O N := by simp [stB, h]
theorem stB_t {k f : Int} {O N : List V4} (h0 : (decide (0 ≤ f) && decide (f ≤ 1000000000000)) = true) (h1 : O.length ≤ 200) (h2 : N.length ≤ 200) : stB k f O N = (O ++ N).all (vofB k) := by simp only [stB, h0, h1, h2, decide_true, Bool.true_and]
set_option maxHeartbeats 2000000 in
theorem implStreamOk_any (k f : Int) (s1 s2 : Option Addr) (c1 c2 : Nat) (O N : List V4) (B : Nat) (w : World) (hO : Els 4 cVal w B s1 O) (hN : Els 4 cVal w B s2 N) (l1 : O.length ≤ 1048576) (l2 : N.length ≤ 1048576) :
  Calls Try.prog 47 #[.int .i64 k, .agg #[.int .i64 f, .slice s1 O.length c1, .slice s2 N.length c2]] w fun e w' => e = .returned (.bool (stB k f O N)) ∧ Below w.heap.size w w' := by
 cases hfo : (decide (0 ≤ f) && decide (f ≤ 1000000000000))
 ·
  obtain ⟨k0, k1, k2, L0⟩ := blk3v w #[.int .i64 k] #[.int .i64 f, .slice s1 O.length c1, .slice s2 N.length c2] #[.bool false] 3 63 4
  obtain ⟨x0, x1, x2, x3⟩ := k1.three'
  have y0 : _ = some (Value.bool false) := k2.cell 0
  have y1 := k2.frozen 0
  have E : Hid (false = stB k f O N) := stB_f hfo
  go_enter Try.func47, Try.ntmps47
  go_wp2_with (go_at_call 67; refine (firstOk_any f _).mono ?_; rintro e w' ⟨rfl, rfl⟩; rw [hfo])
  refine bodyPost_ret (v := .bool false) (by simp [results, Try.results47, go_sem, y0]) rfl ⟨ret_bool' E.out, L0⟩
 ·
  by_cases h1 : O.length ≤ 200
  ·
   by_cases h2 : N.length ≤ 200
   ·
    rw [stB_t hfo h1 h2]
    simp only [Bool.and_eq_true, decide_eq_true_eq] at hfo
    exact implStreamOk_loop k f s1 s2 c1 c2 O N B w hO hN hfo.1 hfo.2 h1 h2
   ·
    skip
    obtain ⟨k0, k1, k2, L0⟩ := blk3v w #[.int .i64 k] #[.int .i64 f, .slice s1 O.length c1, .slice s2 N.length c2] #[.bool false] 3 63 4
    obtain ⟨x0, x1, x2, x3⟩ := k1.three'
    have y0 : _ = some (Value.bool false) := k2.cell 0
    have y1 := k2.frozen 0
    have E : Hid (false = stB k f O N) := stB_n h2
    have t0 : decide ((200 : Int) < (O.length : Int)) = false := by simp; omega
    have t1 : decide ((200 : Int) < (N.length : Int)) = true := by simp; omega
    go_enter Try.func47, Try.ntmps47
    go_wp2_with (go_at_call 67; refine (firstOk_any f _).mono ?_; rintro e w' ⟨rfl, rfl⟩; rw [hfo])
    refine bodyPost_ret (v := .bool false) (by simp [results, Try.results47, go_sem, y0]) rfl ⟨ret_bool' E.out, L0⟩
  ·
   skip
   obtain ⟨k0, k1, k2, L0⟩ := blk3v w #[.int .i64 k] #[.int .i64 f, .slice s1 O.length c1, .slice s2 N.length c2] #[.bool false] 3 63 4
   obtain ⟨x0, x1, x2, x3⟩ := k1.three'
   have y0 : _ = some (Value.bool false) := k2.cell 0
   have y1 := k2.frozen 0
   have E : Hid (false = stB k f O N) := stB_o h1
   have t1 : decide ((200 : Int) < (O.length : Int)) = true := by simp; omega
   go_enter Try.func47, Try.ntmps47
   go_wp2_with (go_at_call 67; refine (firstOk_any f _).mono ?_; rintro e w' ⟨rfl, rfl⟩; rw [hfo])
   refine bodyPost_ret (v := .bool false) (by simp [results, Try.results47, go_sem, y0]) rfl ⟨ret_bool' E.out, L0⟩
def vlB (k : Int) (L : List V4) : Bool := decide (L.length ≤ 200) && L.all (vofB k)
theorem stB_eq (k f : Int) (O N : List V4) : stB k f O N = (decide (0 ≤ f) && decide (f ≤ 1000000000000) && vlB k O && vlB k N) := by
 simp only [stB, vlB, List.all_append]
 cases decide (0 ≤ f) <;> cases decide (f ≤ 1000000000000) <;> cases decide (O.length ≤ 200) <;> cases decide (N.length ≤ 200) <;> simp
theorem all_upto {p : V4 → Bool} {L : List V4} (h : ∀ j a, j < L.length → L[j]? = some a → p a = true) : L.all p = true := by
 rw [List.all_eq_true]
 intro x hx
 obtain ⟨j, hj, rfl⟩ := List.getElem_of_mem hx
 exact h j _ hj (by simp [hj])
theorem all_bad {p : V4 → Bool} {L : List V4} {j : Nat} {a : V4} (h : L[j]? = some a) (hp : p a = false) : L.all p = false := by
 rw [List.all_eq_false]
 exact ⟨a, List.mem_of_getElem? h, by rw [hp]; simp⟩
set_option maxHeartbeats 2000000 in
theorem l6ValsOk_any (k : Int) (s : Option Addr) (c : Nat) (L : List V4) (B : Nat) (w : World) (hL : Els 4 cVal w B s L) (hl : L.length ≤ 1048576) :
  Calls Try.prog 40 #[.int .i64 k, .slice s L.length c] w fun e w' => e = .returned (.bool (vlB k L)) ∧ Below w.heap.size w w' := by
 have hal := alloc_old
 have haf := alloc_oldf
 by_cases h : L.length ≤ 200
 ·
  have t1 : decide ((200 : Int) < (L.length : Int)) = false := by simp; omega
  have EV : Hid (vlB k L = L.all (vofB k)) := by simp [Hid, vlB, h]
  go_enter Try.func40, Try.ntmps40
  go_wp2_with fail
  go_loopw [5] (fun i wr => ∃ q : Nat, q ≤ L.length ∧ i = .int .i64 q ∧ Hid (∀ j a, j < q → L[j]? = some a → vofB k a = true) ∧ Below w.heap.size w wr) (fun i _ => L.length - (intOf i).toNat)
  case atStart => exact ⟨0, Nat.zero_le _, rfl, fun j a hj => by omega, Below.refl _ _⟩
  case round =>
   obtain ⟨q, hq, rfl, HQ, hb⟩ := hrel
   by_cases hlt : q < L.length
   ·
    obtain ⟨a, ha⟩ := get_some hlt
    obtain ⟨b, o, rfl, _, hp, hok, e1, e2, e3, e4⟩ := eVal_cells (hL.later cVal_keeps hb) ha
    obtain ⟨p1, p2, p3, p4⟩ := a
    have HX : Hid (p3 < 18446744073709551616) := hok.2.1
    have HY : Hid (p4 < 18446744073709551616) := hok.2.2
    have HA : Hid (L[q]? = some (p1, p2, p3, p4)) := ha
    have l0 := kcell (bl_alloc (Below.refl _ wr) (.cells #[.int .i64 p1, .int .i64 p2, .float .f64 p3, .float .f64 p4] 85)) e1
    clear hL ha hok
    cases h1 : okB p1 p2 p3 p4
    ·
     have E : Hid (false = vlB k L) := by
      show _ = _
      rw [EV.out, all_bad HA.out (by simp [vofB, okV4, h1])]
     go_wp2_with (go_at_call 35; refine (specOk_any p1 p2 p3 p4 _ HX.out HY.out).mono ?_; rintro e w2 ⟨rfl, rfl⟩; rw [h1])
     go_ret
     exact ⟨ret_bool' E.out, bl_alloc hb _⟩
    ·
     cases h2 : (p1 == k : Bool)
     ·
      have E : Hid (false = vlB k L) := by
       show _ = _
       rw [EV.out, all_bad HA.out (by simp [vofB, okV4, h2])]
      have h3 : (p1 != k) = true := by simp [bne, h2]
      go_wp2_with (go_at_call 35; refine (specOk_any p1 p2 p3 p4 _ HX.out HY.out).mono ?_; rintro e w2 ⟨rfl, rfl⟩; rw [h1])
      go_ret
      exact ⟨ret_bool' E.out, bl_alloc hb _⟩
     ·
      have h3 : (p1 != k) = false := by simp [bne, h2]
      have HV : Hid (vofB k (p1, p2, p3, p4) = true) := by simp [Hid, vofB, okV4, h1, h2]
      go_wp2_with (go_at_call 35; refine (specOk_any p1 p2 p3 p4 _ HX.out HY.out).mono ?_; rintro e w2 ⟨rfl, rfl⟩; rw [h1])
      go_roundw
      case rel =>
       refine ⟨q + 1, by omega, by go_num, fun j a hj hja => ?_, bl_alloc hb _⟩
       by_cases e : j = q
       ·
        subst e
        have := HA.out
        rw [this] at hja
        cases hja
        exact HV.out
       ·
        exact HQ.out j a (by omega) hja
      case measure => simp [intOf]; omega
   ·
    have hq' : q = L.length := by omega
    subst hq'
    have E : Hid (true = vlB k L) := by
     show _ = _
     rw [EV.out, all_upto HQ.out]
    go_wp2_with fail
    go_ret
    exact ⟨ret_bool' E.out, hb⟩
 ·
  have t1 : decide ((200 : Int) < (L.length : Int)) = true := by simp; omega
  have E : Hid (false = vlB k L) := by simp [Hid, vlB, h]
  go_enter Try.func40, Try.ntmps40
  go_wp2_with fail
  go_ret
  exact ⟨ret_bool' E.out, Below.refl _ _⟩
set_option maxHeartbeats 2000000 in
theorem specStreamOk_any (k f : Int) (s1 s2 : Option Addr) (c1 c2 : Nat) (O N : List V4) (B : Nat) (w : World) (hO : Els 4 cVal w B s1 O) (hN : Els 4 cVal w B s2 N) (l1 : O.length ≤ 1048576) (l2 : N.length ≤ 1048576) :
  Calls Try.prog 17 #[.int .i64 k, .agg #[.int .i64 f, .slice s1 O.length c1, .slice s2 N.length c2]] w fun e w' => e = .returned (.bool (stB k f O N)) ∧ Below w.heap.size w w' := by
 have L0 : Below w.heap.size w (w.alloc (.cells #[.int .i64 f, .slice s1 O.length c1, .slice s2 N.length c2] 63)) := bl_alloc (Below.refl _ _) _
 have K0 := Blk.new w #[.int .i64 f, .slice s1 O.length c1, .slice s2 N.length c2] 63
 obtain ⟨x0, x1, x2, x3⟩ := K0.three'
 cases h1 : (decide (0 ≤ f) && decide (f ≤ 1000000000000))
 ·
  have E : Hid (false = stB k f O N) := stB_f h1
  go_enter Try.func17, Try.ntmps17
  go_wp2_with (go_at_call 39; refine (l1In_any _ _ _ _).mono ?_; rintro e w2 ⟨rfl, rfl⟩; rw [h1])
  go_ret
  exact ⟨ret_bool' E.out, L0⟩
 ·
  cases h2 : vlB k O
  ·
   have E : Hid (false = stB k f O N) := by simp [Hid, stB_eq, h2]
   go_enter Try.func17, Try.ntmps17
   go_wp2_with (go_at_call 39; refine (l1In_any _ _ _ _).mono ?_; rintro e w2 ⟨rfl, rfl⟩; rw [h1])
   refine (l6ValsOk_any k s1 c1 O B _ (hO.later cVal_keeps L0) l1).mono ?_
   rintro e w2 ⟨rfl, hb2⟩
   rw [h2]
   go_wp2_with fail
   go_ret
   exact ⟨ret_bool' E.out, bl_trans L0 hb2⟩
  ·
   have E : Hid (vlB k N = stB k f O N) := by rw [Hid, stB_eq, h1, h2]; rfl
   go_enter Try.func17, Try.ntmps17
   go_wp2_with (go_at_call 39; refine (l1In_any _ _ _ _).mono ?_; rintro e w2 ⟨rfl, rfl⟩; rw [h1])
   refine (l6ValsOk_any k s1 c1 O B _ (hO.later cVal_keeps L0) l1).mono ?_
   rintro e w2 ⟨rfl, hb2⟩
   rw [h2]
   clear x0 x1 x2 x3
   obtain ⟨x0, x1, x2, x3⟩ := (K0.later hb2).three'
   go_wp2_with fail
   refine (l6ValsOk_any k s2 c2 N B _ (hN.later cVal_keeps (bl_trans L0 hb2)) l2).mono ?_
   rintro e w3 ⟨rfl, hb3⟩
   go_wp2_with fail
   go_ret
   exact ⟨ret_bool' E.out, bl_trans (bl_trans L0 hb2) hb3⟩
end
section
open Go.RowKit Go.Maps Go.WideMaps
set_option linter.unusedVariables false
set_option linter.unusedSimpArgs false
set_option maxRecDepth 100000
def evB (C : List (ByteArray × Int)) (ss : List Sm) (n : Nat) : Bool := decide (ss.length = C.length) && decide (n = C.length) && (List.range ss.length).all fun j => ss[j]?.elim true fun x => stB (dAt C j).2 x.1 x.2.1 x.2.2
theorem evB_len {C : List (ByteArray × Int)} {ss : List Sm} {n : Nat} (h : ¬ (ss.length = C.length ∧ n = C.length)) : false = evB C ss n := by
 cases hs : evB C ss n
 ·
  rfl
 ·
  simp only [evB, Bool.and_eq_true, decide_eq_true_eq] at hs
  exact absurd ⟨hs.1.1, hs.1.2⟩ h
theorem evB_at {C : List (ByteArray × Int)} {ss : List Sm} {n j : Nat} {x : Sm} (hv : ss[j]? = some x) (h : stB (dAt C j).2 x.1 x.2.1 x.2.2 = false) : false = evB C ss n := by
 cases hs : evB C ss n
 ·
  rfl
 ·
  simp only [evB, Bool.and_eq_true, decide_eq_true_eq, List.all_eq_true, List.mem_range] at hs
  have := hs.2 j (List.getElem?_eq_some_iff.mp hv).1
  rw [hv] at this
  simp only [Option.elim] at this
  rw [h] at this; cases this
theorem evB_all {C : List (ByteArray × Int)} {ss : List Sm} {n : Nat} (h1 : ss.length = C.length) (h2 : n = C.length) (h : ∀ (j : Nat) x, ss[j]? = some x → stB (dAt C j).2 x.1 x.2.1 x.2.2 = true) : true = evB C ss n := by
 symm
 simp only [evB, Bool.and_eq_true, decide_eq_true_eq, List.all_eq_true, List.mem_range]
 refine ⟨⟨h1, h2⟩, fun j hj => ?_⟩
 rw [List.getElem?_eq_getElem hj]
 exact h j _ (List.getElem?_eq_getElem hj)
def staB (A B C : List (ByteArray × Int)) (S : Sta) : Bool := standB A B C S.w && evB C S.ss S.cu.length
set_option maxHeartbeats 4000000 in
theorem eventsOk_any (s1 s2 s3 : Option Addr) (c1 c2 c3 : Nat) (A B C : List (ByteArray × Int)) (a1 a2 a3 a4 a5 a6 : Option Addr) (b1 b2 b3 b4 b5 b6 : Nat) (S : Sta) (w : World) (hC : Decls w s3 C) (l3 : C.length ≤ 1048576) (hS : InS w 0 a1 a2 a3 a4 a5 a6 S) (hk : kS S) :
  Calls Try.prog 23 #[.agg #[.slice s1 A.length c1, .slice s2 B.length c2, .slice s3 C.length c3], .agg #[.slice a1 S.w.gens.length b1, .slice a2 S.w.free.length b2, .slice a3 S.w.tabs.length b3, .slice a4 S.w.res.length b4, .slice a5 S.ss.length b5, .slice a6 S.cu.length b6]] w fun e w' => e = .returned (.bool (evB C S.ss S.cu.length)) ∧ Below w.heap.size w w' := by
 have hal := alloc_old
 have haf := alloc_oldf
 obtain ⟨_, ⟨l4, hks⟩, l5⟩ := hk
 have HKS : Hid (∀ x ∈ S.ss, kSm x) := hks
 obtain ⟨k0, k1, L0⟩ := boxTwo w #[.slice s1 A.length c1, .slice s2 B.length c2, .slice s3 C.length c3] #[.slice a1 S.w.gens.length b1, .slice a2 S.w.free.length b2, .slice a3 S.w.tabs.length b3, .slice a4 S.w.res.length b4, .slice a5 S.ss.length b5, .slice a6 S.cu.length b6] 40 49
 obtain ⟨x0, x1, x2, x3⟩ := k0.three'
 obtain ⟨y0, y1, y2, y3, y4, y5, y6⟩ := k1.six'
 clear hks
 by_cases hn1 : S.ss.length = C.length
 ·
  have t0 : ((S.ss.length : Int) != (C.length : Int)) = false := by simp [hn1]
  by_cases hn2 : S.cu.length = C.length
  ·
   have t1 : ((S.cu.length : Int) != (C.length : Int)) = false := by simp [hn2]
   have HN : Hid (S.ss.length = C.length ∧ S.cu.length = C.length) := ⟨hn1, hn2⟩
   clear hn1 hn2
   go_enter Try.func23, Try.ntmps23
   go_wp2_with fail
   clear t0 t1 x0 x1 x2 x3 y0 y1 y2 y3 y4 y5 y6
   generalize hX : (w.alloc (.cells #[.slice s1 A.length c1, .slice s2 B.length c2, .slice s3 C.length c3] 40)).alloc (.cells #[.slice a1 S.w.gens.length b1, .slice a2 S.w.free.length b2, .slice a3 S.w.tabs.length b3, .slice a4 S.w.res.length b4, .slice a5 S.ss.length b5, .slice a6 S.cu.length b6] 49) = X at k0 k1 L0 ⊢
   clear hX
   have HC1 : Hid (Decls X s3 C) := hC.later L0
   have HS1 : Hid (Els 3 cStr X 0 a5 S.ss) := hS.s.later cStr_keeps L0
   have HX : Hid (Below w.heap.size w X) := L0
   have HK1 : Hid (Blk X (w.heap.size + 1) #[.slice a1 S.w.gens.length b1, .slice a2 S.w.free.length b2, .slice a3 S.w.tabs.length b3, .slice a4 S.w.res.length b4, .slice a5 S.ss.length b5, .slice a6 S.cu.length b6] 49) := k1
   have hX0 : w.heap.size + 1 < X.heap.size := k1.lt
   clear hC hS L0 k0 k1
   go_loopw [26] (fun i wr => ∃ (m : Nat), m ≤ C.length ∧ i = .int .i64 m ∧ Hid (Below X.heap.size X wr ∧ ∀ (j : Nat) v, j < m → S.ss[j]? = some v → stB (dAt C j).2 v.1 v.2.1 v.2.2 = true)) (fun i _ => C.length - (intOf i).toNat)
   case atStart => exact ⟨0, Nat.zero_le _, rfl, Below.refl _ _, fun j v hj => absurd hj (Nat.not_lt_zero _)⟩
   case round =>
    obtain ⟨m, hm, rfl, hN⟩ := hrel
    by_cases hlt : m < C.length
    ·
     have hltR : m < S.ss.length := by rw [HN.out.1]; exact hlt
     obtain ⟨v, hv⟩ := get_some hltR
     obtain ⟨pb, po, rfl, hp, e1, e2⟩ := (HC1.out.later hN.out.1).get hlt
     obtain ⟨qb, qo, rfl, hq1, hq2, z1, d1, z2, d2, f1, f2, f3, g1, g2⟩ := eStr_cells (HS1.out.later cStr_keeps hN.out.1) hv
     obtain ⟨p, hp0⟩ : ∃ p, Hid (dAt C m = p) := ⟨_, rfl⟩
     rw [hp0.out] at e1 e2
     obtain ⟨p1, p2⟩ := p
     have HV : Hid (S.ss[m]? = some v) := hv
     have hkv := HKS.out v (List.mem_of_getElem? hv)
     have ha : Below wr.heap.size wr (wr.alloc (.cells #[.string p1, .int .i64 p2] 61)) := bl_alloc (Below.refl _ _) _
     have G1 : Hid (Els 4 cVal (wr.alloc (.cells #[.string p1, .int .i64 p2] 61)) 0 z1 v.2.1 ∧ Els 4 cVal (wr.alloc (.cells #[.string p1, .int .i64 p2] 61)) 0 z2 v.2.2) := ⟨g1.later cVal_keeps ha, g2.later cVal_keeps ha⟩
     clear hv g1 g2
     go_wp2_with fail
     have KD := Blk.new wr #[.string p1, .int .i64 p2] 61
     have d1' := KD.cell 1
     have f1 := kcell ha f1
     have f2 := kcell ha f2
     have f3 := kcell ha f3
     obtain ⟨y0, y1, y2, y3, y4, y5, y6⟩ := (HK1.out.later (bl_trans hN.out.1 ha)).six'
     clear y0 y1 y2 y3 y5 y6
     have hY0 : Hid (Below X.heap.size X (wr.alloc (.cells #[.string p1, .int .i64 p2] 61))) := bl_trans hN.out.1 ha
     generalize hY : wr.alloc (.cells #[.string p1, .int .i64 p2] 61) = Y at KD d1' f1 f2 f3 y4 hY0 G1 ⊢
     clear hY e1 e2 ha
     go_region_held3 (fun w' => w'.cell? ⟨wr.heap.size, 1, none⟩ = some (.int .i64 p2) ∧ w'.cell? ⟨w.heap.size + 1, 4, none⟩ = some (.slice (some ⟨qb, qo, none⟩) S.ss.length b5) ∧ w'.cell? ⟨qb, qo + m * 3, none⟩ = some (.int .i64 v.1) ∧ w'.cell? ⟨qb, qo + m * 3 + 1, none⟩ = some (.slice z1 v.2.1.length d1) ∧ w'.cell? ⟨qb, qo + m * 3 + 2, none⟩ = some (.slice z2 v.2.2.length d2)) (simp [d1', y4, f1, f2, f3]) (first | (go_at_call 47; refine (implStreamOk_any p2 v.1 z1 z2 d1 d2 v.2.1 v.2.2 0 _ (G1.out.1.later cVal_keeps (bl_drew (Below.refl _ _))) (G1.out.2.later cVal_keeps (bl_drew (Below.refl _ _))) hkv.1 hkv.2).mono ?_; rintro e w2 ⟨rfl, hb2⟩; have hw2 : Hid (Below X.heap.size X w2) := bl_trans (bl_drew hY0.out) hb2; have hb3 : Below Y.heap.size Y w2 := bl_trans (bl_drew (Below.refl _ _)) hb2; have d1' := kcell hb3 d1'; have y4 := kcell hb3 y4; have f1 := kcell hb3 f1; have f2 := kcell hb3 f2; have f3 := kcell hb3 f3))
     cases hvo : stB p2 v.1 v.2.1 v.2.2
     ·
      all_goals
       go_wp2_with fail
       go_ret
       exact ⟨ret_bool' (evB_at HV.out (by rw [hp0.out]; exact hvo)), bl_trans HX.out hw2.out⟩
     ·
      all_goals
       go_wp2_with fail
       go_roundw
       case rel => exact ⟨m + 1, by omega, by go_num, hw2.out, fun j u hj hu => by
        by_cases hjm : j = m
        ·
         subst hjm
         rw [HV.out] at hu
         cases hu
         rw [hp0.out]
         exact hvo
        ·
         exact hN.out.2 j u (by omega) hu⟩
       case measure => simp [intOf]; omega
    ·
     have hm' : m = C.length := by omega
     subst hm'
     go_wp2_with fail
     go_ret
     exact ⟨ret_bool' (evB_all HN.out.1 HN.out.2 (fun j v hv => hN.out.2 j v (by have := (List.getElem?_eq_some_iff.mp hv).1; rw [← HN.out.1]; exact this) hv)), bl_trans HX.out hN.out.1⟩
  ·
   have t1 : ((S.cu.length : Int) != (C.length : Int)) = true := by simp; omega
   have HE : Hid (false = evB C S.ss S.cu.length) := evB_len (fun h => hn2 h.2)
   clear hn1 hn2
   go_enter Try.func23, Try.ntmps23
   go_wp2_with fail
   go_ret
   exact ⟨ret_bool' HE.out, L0⟩
 ·
  have t0 : ((S.ss.length : Int) != (C.length : Int)) = true := by simp; omega
  have HE : Hid (false = evB C S.ss S.cu.length) := evB_len (fun h => hn1 h.1)
  clear hn1
  go_enter Try.func23, Try.ntmps23
  go_wp2_with fail
  go_ret
  exact ⟨ret_bool' HE.out, L0⟩
set_option maxHeartbeats 4000000 in
theorem implStateOk_any (s1 s2 s3 : Option Addr) (c1 c2 c3 : Nat) (A B C : List (ByteArray × Int)) (a1 a2 a3 a4 a5 a6 : Option Addr) (b1 b2 b3 b4 b5 b6 : Nat) (S : Sta) (w : World) (hA : Decls w s1 A) (hB : Decls w s2 B) (hC : Decls w s3 C) (nm : ∀ i, i < (A ++ B ++ C).length → (dAt (A ++ B ++ C) i).1.size ≤ maxLen) (l1 : A.length ≤ 1048576) (l2 : B.length ≤ 1048576) (l3 : C.length ≤ 1048576)
  (hS : InS w 0 a1 a2 a3 a4 a5 a6 S) (hk : kS S) (hcap : S.w.tabs.length ≤ b3) (bR : ∀ t ∈ S.w.tabs, ∀ x ∈ t.rows, bE x) :
  Calls Try.prog 9 #[.agg #[.slice s1 A.length c1, .slice s2 B.length c2, .slice s3 C.length c3], .agg #[.slice a1 S.w.gens.length b1, .slice a2 S.w.free.length b2, .slice a3 S.w.tabs.length b3, .slice a4 S.w.res.length b4, .slice a5 S.ss.length b5, .slice a6 S.cu.length b6]] w fun e w' => e = .returned (.bool (staB A B C S)) ∧ Below w.heap.size w w' := by
 have hal := alloc_old
 have haf := alloc_oldf
 obtain ⟨k0, k1, L0⟩ := boxTwo w #[.slice s1 A.length c1, .slice s2 B.length c2, .slice s3 C.length c3] #[.slice a1 S.w.gens.length b1, .slice a2 S.w.free.length b2, .slice a3 S.w.tabs.length b3, .slice a4 S.w.res.length b4, .slice a5 S.ss.length b5, .slice a6 S.cu.length b6] 40 49
 obtain ⟨x0, x1, x2, x3⟩ := k0.three'
 obtain ⟨y0, y1, y2, y3, y4, y5, y6⟩ := k1.six'
 go_enter Try.func9, Try.ntmps9
 go_wp2_with fail
 generalize hX : (w.alloc (.cells #[.slice s1 A.length c1, .slice s2 B.length c2, .slice s3 C.length c3] 40)).alloc (.cells #[.slice a1 S.w.gens.length b1, .slice a2 S.w.free.length b2, .slice a3 S.w.tabs.length b3, .slice a4 S.w.res.length b4, .slice a5 S.ss.length b5, .slice a6 S.cu.length b6] 49) = X at k0 k1 L0 x0 x1 x2 x3 y0 y1 y2 y3 y4 y5 y6 ⊢
 clear hX
 refine (implWorldOk_any s1 s2 s3 c1 c2 c3 A B C a1 a2 a3 a4 b1 b2 b3 b4 S.w _ (hA.later L0) (hB.later L0) (hC.later L0) nm l1 l2 l3 (hS.wd.later L0) hk.1 hcap bR).mono ?_
 rintro e w1 ⟨rfl, hb1⟩
 have L1 := bl_trans L0 hb1
 have k0 := k0.later hb1
 have k1 := k1.later hb1
 clear x0 x1 x2 x3 y0 y1 y2 y3 y4 y5 y6 hb1 L0
 obtain ⟨x0, x1, x2, x3⟩ := k0.three'
 obtain ⟨y0, y1, y2, y3, y4, y5, y6⟩ := k1.six'
 cases hst : standB A B C S.w
 ·
  have HE : Hid (false = staB A B C S) := by simp [Hid, staB, hst]
  go_wp2_with fail
  go_ret
  exact ⟨ret_bool' HE.out, L1⟩
 ·
  have HE : Hid (evB C S.ss S.cu.length = staB A B C S) := by simp [Hid, staB, hst]
  go_wp2_with fail
  refine (eventsOk_any s1 s2 s3 c1 c2 c3 A B C a1 a2 a3 a4 a5 a6 b1 b2 b3 b4 b5 b6 S _ (hC.later L1) l3 (hS.later L1) hk).mono ?_
  rintro e w2 ⟨rfl, hb2⟩
  go_wp2_with fail
  go_ret
  exact ⟨ret_bool' HE.out, bl_trans L1 hb2⟩
set_option maxHeartbeats 4000000 in
theorem specStateOk_any (p1 q1 c1 p2 q2 c2 p3 q3 c3 : Nat) (A B C : List (ByteArray × Int)) (a1 a2 a3 a4 a5 a6 : Option Addr) (b1 b2 b3 b4 b5 b6 : Nat) (S : Sta) (w : World) (hA : Decls w (some ⟨p1, q1, none⟩) A) (hB : Decls w (some ⟨p2, q2, none⟩) B) (hC : Decls w (some ⟨p3, q3, none⟩) C) (l3 : C.length ≤ 1048576) (hS : InS w 0 a1 a2 a3 a4 a5 a6 S) (hk : kS S) :
  Calls Try.prog 6 #[.agg #[.slice (some ⟨p1, q1, none⟩) A.length c1, .slice (some ⟨p2, q2, none⟩) B.length c2, .slice (some ⟨p3, q3, none⟩) C.length c3], .agg #[.slice a1 S.w.gens.length b1, .slice a2 S.w.free.length b2, .slice a3 S.w.tabs.length b3, .slice a4 S.w.res.length b4, .slice a5 S.ss.length b5, .slice a6 S.cu.length b6]] w fun e w' => e = .returned (.bool (staB A B C S)) ∧ Below w.heap.size w w' := by
 have hal := alloc_old
 have haf := alloc_oldf
 obtain ⟨k0, k1, L0⟩ := boxTwo w #[.slice (some ⟨p1, q1, none⟩) A.length c1, .slice (some ⟨p2, q2, none⟩) B.length c2, .slice (some ⟨p3, q3, none⟩) C.length c3] #[.slice a1 S.w.gens.length b1, .slice a2 S.w.free.length b2, .slice a3 S.w.tabs.length b3, .slice a4 S.w.res.length b4, .slice a5 S.ss.length b5, .slice a6 S.cu.length b6] 40 49
 obtain ⟨x0, x1, x2, x3⟩ := k0.three'
 obtain ⟨y0, y1, y2, y3, y4, y5, y6⟩ := k1.six'
 go_enter Try.func6, Try.ntmps6
 go_wp2_with fail
 generalize hX : (w.alloc (.cells #[.slice (some ⟨p1, q1, none⟩) A.length c1, .slice (some ⟨p2, q2, none⟩) B.length c2, .slice (some ⟨p3, q3, none⟩) C.length c3] 40)).alloc (.cells #[.slice a1 S.w.gens.length b1, .slice a2 S.w.free.length b2, .slice a3 S.w.tabs.length b3, .slice a4 S.w.res.length b4, .slice a5 S.ss.length b5, .slice a6 S.cu.length b6] 49) = X at k0 k1 L0 x0 x1 x2 x3 y0 y1 y2 y3 y4 y5 y6 ⊢
 clear hX
 refine (specWorldOk_any p1 q1 c1 p2 q2 c2 p3 q3 c3 A B C a1 a2 a3 a4 b1 b2 b3 b4 S.w _ (hA.later L0) (hB.later L0) (hC.later L0) (hS.wd.later L0) hk.1).mono ?_
 rintro e w1 ⟨rfl, hb1⟩
 rw [spec_stand]
 have L1 := bl_trans L0 hb1
 have k0 := k0.later hb1
 have k1 := k1.later hb1
 clear x0 x1 x2 x3 y0 y1 y2 y3 y4 y5 y6 hb1 L0
 obtain ⟨x0, x1, x2, x3⟩ := k0.three'
 obtain ⟨y0, y1, y2, y3, y4, y5, y6⟩ := k1.six'
 obtain ⟨_, ⟨l4, hks⟩, l5⟩ := hk
 have HKS : Hid (∀ x ∈ S.ss, kSm x) := hks
 clear hks
 cases hst : standB A B C S.w
 ·
  have HE : Hid (false = staB A B C S) := by simp [Hid, staB, hst]
  go_wp2_with fail
  go_ret
  exact ⟨ret_bool' HE.out, L1⟩
 ·
  have HE : Hid (evB C S.ss S.cu.length = staB A B C S) := by simp [Hid, staB, hst]
  clear hst
  by_cases hn1 : S.ss.length = C.length
  ·
   have t0 : ((S.ss.length : Int) != (C.length : Int)) = false := by simp [hn1]
   by_cases hn2 : S.cu.length = C.length
   ·
    have t1 : ((S.cu.length : Int) != (C.length : Int)) = false := by simp [hn2]
    have HN : Hid (S.ss.length = C.length ∧ S.cu.length = C.length) := ⟨hn1, hn2⟩
    clear hn1 hn2
    go_wp2_with fail
    clear t0 t1 x0 x1 x2 x3 y0 y1 y2 y3 y4 y5 y6
    have HC1 : Hid (Decls w1 (some ⟨p3, q3, none⟩) C) := hC.later L1
    have HS1 : Hid (Els 3 cStr w1 0 a5 S.ss) := hS.s.later cStr_keeps L1
    have HX : Hid (Below w.heap.size w w1) := L1
    have HK0 : Hid (Blk w1 w.heap.size #[.slice (some ⟨p1, q1, none⟩) A.length c1, .slice (some ⟨p2, q2, none⟩) B.length c2, .slice (some ⟨p3, q3, none⟩) C.length c3] 40) := k0
    have HK1 : Hid (Blk w1 (w.heap.size + 1) #[.slice a1 S.w.gens.length b1, .slice a2 S.w.free.length b2, .slice a3 S.w.tabs.length b3, .slice a4 S.w.res.length b4, .slice a5 S.ss.length b5, .slice a6 S.cu.length b6] 49) := k1
    clear hA hB hC hS L1 k0 k1
    go_loopw [5] (fun i wr => ∃ (m : Nat), m ≤ S.ss.length ∧ i = .int .i64 m ∧ Hid (Below w1.heap.size w1 wr ∧ ∀ (j : Nat) v, j < m → S.ss[j]? = some v → stB (dAt C j).2 v.1 v.2.1 v.2.2 = true)) (fun i _ => S.ss.length - (intOf i).toNat)
    case atStart => exact ⟨0, Nat.zero_le _, rfl, Below.refl _ _, fun j v hj => absurd hj (Nat.not_lt_zero _)⟩
    case round =>
     obtain ⟨m, hm, rfl, hN⟩ := hrel
     obtain ⟨y0, y1, y2, y3, y4, y5, y6⟩ := (HK1.out.later hN.out.1).six'
     clear y0 y1 y2 y3 y5 y6
     by_cases hlt : m < S.ss.length
     ·
      have hltC : m < C.length := by rw [← HN.out.1]; exact hlt
      obtain ⟨v, hv⟩ := get_some hlt
      obtain ⟨pb, po, hpe, hp, e1, e2⟩ := (HC1.out.later hN.out.1).get hltC
      simp only [Option.some.injEq, Addr.mk.injEq, and_true] at hpe
      obtain ⟨rfl, rfl⟩ := hpe
      obtain ⟨qb, qo, rfl, hq1, hq2, z1, d1, z2, d2, f1, f2, f3, g1, g2⟩ := eStr_cells (HS1.out.later cStr_keeps hN.out.1) hv
      obtain ⟨p, hp0⟩ : ∃ p, Hid (dAt C m = p) := ⟨_, rfl⟩
      rw [hp0.out] at e1 e2
      obtain ⟨p1, p2⟩ := p
      obtain ⟨x0, x1, x2, x3⟩ := (HK0.out.later hN.out.1).three'
      clear x0 x1 x3 e1
      have HV : Hid (S.ss[m]? = some v) := hv
      have hkv := HKS.out v (List.mem_of_getElem? hv)
      have G1 : Hid (Els 4 cVal wr 0 z1 v.2.1 ∧ Els 4 cVal wr 0 z2 v.2.2) := ⟨g1, g2⟩
      clear hv g1 g2
      go_wp2_with fail
      go_region_held3 (fun w' => w'.cell? ⟨w.heap.size, 2, none⟩ = some (.slice (some ⟨p3, q3, none⟩) C.length c3) ∧ w'.cell? ⟨p3, q3 + m * 2 + 1, none⟩ = some (.int .i64 p2) ∧ w'.cell? ⟨w.heap.size + 1, 4, none⟩ = some (.slice (some ⟨qb, qo, none⟩) S.ss.length b5) ∧ w'.cell? ⟨qb, qo + m * 3, none⟩ = some (.int .i64 v.1) ∧ w'.cell? ⟨qb, qo + m * 3 + 1, none⟩ = some (.slice z1 v.2.1.length d1) ∧ w'.cell? ⟨qb, qo + m * 3 + 2, none⟩ = some (.slice z2 v.2.2.length d2)) (simp [x2, e2, y4, f1, f2, f3]) (first | (go_at_call 17; refine (specStreamOk_any p2 v.1 z1 z2 d1 d2 v.2.1 v.2.2 0 _ (G1.out.1.later cVal_keeps (bl_drew (Below.refl _ _))) (G1.out.2.later cVal_keeps (bl_drew (Below.refl _ _))) hkv.1 hkv.2).mono ?_; rintro e w2 ⟨rfl, hb2⟩; have hb3 : Below wr.heap.size wr w2 := bl_trans (bl_drew (Below.refl _ _)) hb2; have hw2 : Hid (Below w1.heap.size w1 w2) := bl_trans hN.out.1 hb3; have x2 := kcell hb3 x2; have e2 := kcell hb3 e2; have y4 := kcell hb3 y4; have f1 := kcell hb3 f1; have f2 := kcell hb3 f2; have f3 := kcell hb3 f3))
      cases hvo : stB p2 v.1 v.2.1 v.2.2
      ·
       have HF : Hid (false = evB C S.ss S.cu.length) := evB_at HV.out (by rw [hp0.out]; exact hvo)
       all_goals
        go_wp2_with fail
        go_ret
        exact ⟨ret_bool' (HF.out.trans HE.out), bl_trans HX.out hw2.out⟩
      ·
       all_goals
        go_wp2_with fail
        go_roundw
        case rel => exact ⟨m + 1, by omega, by go_num, hw2.out, fun j u hj hu => by
         by_cases hjm : j = m
         ·
          subst hjm
          rw [HV.out] at hu
          cases hu
          rw [hp0.out]
          exact hvo
         ·
          exact hN.out.2 j u (by omega) hu⟩
        case measure => simp [intOf]; omega
     ·
      have hm' : m = S.ss.length := by omega
      subst hm'
      go_wp2_with fail
      go_ret
      exact ⟨ret_bool' ((evB_all HN.out.1 HN.out.2 (fun j v hv => hN.out.2 j v (List.getElem?_eq_some_iff.mp hv).1 hv)).trans HE.out), bl_trans HX.out hN.out.1⟩
   ·
    have t1 : ((S.cu.length : Int) != (C.length : Int)) = true := by simp; omega
    have HF : Hid (false = staB A B C S) := (evB_len (fun h => hn2 h.2)).trans HE.out
    clear hn1 hn2
    go_wp2_with fail
    go_ret
    exact ⟨ret_bool' HF.out, L1⟩
  ·
   have t0 : ((S.ss.length : Int) != (C.length : Int)) = true := by simp; omega
   have HF : Hid (false = staB A B C S) := (evB_len (fun h => hn1 h.1)).trans HE.out
   clear hn1
   go_wp2_with fail
   go_ret
   exact ⟨ret_bool' HF.out, L1⟩
end
end Go.Proofs.Ytjfpflejnbnhnaa
