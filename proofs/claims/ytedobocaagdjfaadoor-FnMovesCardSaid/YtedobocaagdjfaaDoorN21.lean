import Derived.Test.YtedobocaagdjfaaDoorN11
import Derived.Test.YtedobocaagdjfaaDoorN20
namespace Go.Proofs.YtedobocaagdjfaaDoor
open Go.RowKit
set_option linter.unusedVariables false
set_option linter.unusedSimpArgs false

set_option maxHeartbeats 2000000 in
theorem l18Pick_any (sp : Option Addr) (cp i m : Nat) (P : List Int) (w : World) (hP : Ints w sp P) (hl : P.length ≤ 1048576) (hm : 0 < m) (hm2 : m ≤ 1048576) (hi : i ≤ 1048576) (hb : ∀ v ∈ P, -9223372036854775808 ≤ v ∧ v ≤ 9223372036854775807) :
    Calls Tryd.prog 18 #[.slice sp P.length cp, .int .i64 i, .int .i64 m] w fun e w' => e = .returned (.int .i64 (pickK P i m)) ∧ w' = w := by
  by_cases hlt : i < P.length
  · obtain ⟨pb, po, rfl, hp, hcs⟩ := hP.get (k := i) hlt
    have c0 := hcs i hlt
    have hv : P[i]?.getD 0 ∈ P := by rw [List.getElem?_eq_getElem hlt]; exact List.getElem_mem hlt
    have hbv := hb _ hv
    have eK : Hid (pickK P i m = if (P[i]?.getD 0).tmod (m : Int) < 0 then (P[i]?.getD 0).tmod (m : Int) + (m : Int) else (P[i]?.getD 0).tmod (m : Int)) := by unfold pickK; rw [if_pos hlt]; rfl
    obtain ⟨p, hpp⟩ : ∃ p, Hid (P[i]?.getD 0 = p) := ⟨_, rfl⟩
    rw [hpp.out] at c0 eK hbv
    have h1 := Int.tmod_lt_of_pos p (b := (m : Int)) (by omega)
    have h2 := Int.lt_tmod_of_pos p (b := (m : Int)) (by omega)
    have t0 : decide ((P.length : Int) ≤ (i : Int)) = false := by simp; omega
    have iI : (i : Int) < (P.length : Int) := by omega
    have hm0 : ¬ (m : Int) = 0 := by omega
    have hm1 : ((m : Int) == 0) = false := by simp; omega
    have tw : IntKind.i64.wrap (p.tmod (m : Int)) = p.tmod (m : Int) := by rw [IntKind.wrap_i64]; omega
    clear hcs hv hP
    by_cases hn : p.tmod (m : Int) < 0
    · have tn : decide (p.tmod (m : Int) < 0) = true := by simp [hn]
      have tw2 : IntKind.i64.wrap (p.tmod (m : Int) + (m : Int)) = p.tmod (m : Int) + (m : Int) := by rw [IntKind.wrap_i64]; omega
      have eK' : Hid (pickK P i m = p.tmod (m : Int) + (m : Int)) := by rw [eK.out, if_pos hn]; rfl
      obtain ⟨T, hT⟩ : ∃ T, p.tmod (m : Int) = T := ⟨_, rfl⟩
      rw [hT] at tn tw tw2 eK' h1 h2
      go_enter Tryd.func18, Tryd.ntmps18
      go_wp2_with (simp only [hT])
      go_ret
      rw [eK'.out]
      exact ⟨rfl, rfl⟩
    · have tn : decide (p.tmod (m : Int) < 0) = false := by simp; omega
      have eK' : Hid (pickK P i m = p.tmod (m : Int)) := by rw [eK.out, if_neg hn]; rfl
      obtain ⟨T, hT⟩ : ∃ T, p.tmod (m : Int) = T := ⟨_, rfl⟩
      rw [hT] at tn tw eK' h1 h2
      go_enter Tryd.func18, Tryd.ntmps18
      go_wp2_with (simp only [hT])
      go_ret
      rw [eK'.out]
      exact ⟨rfl, rfl⟩
  · have t0 : decide ((P.length : Int) ≤ (i : Int)) = true := by simp; omega
    have eK : Hid (pickK P i m = 0) := by unfold pickK; rw [if_neg hlt]; rfl
    go_enter Tryd.func18, Tryd.ntmps18
    go_wp2_with fail
    go_ret
    rw [eK.out]
    exact ⟨rfl, rfl⟩

theorem VRow.ints' {w : World} {B : Nat} {s : Option Addr} {n c : Nat} {G : List Int} (h : VRow w B (.slice s n c) G) : Ints w s G := by
  obtain ⟨s', c', e, hi⟩ := h.slice
  simp only [Value.slice.injEq] at e
  obtain ⟨rfl, -, -⟩ := e
  exact hi
theorem MRow.blk {w : World} {B : Nat} {v : Value} {O : List (Int × Int)} (h : MRow w B v O) {m : Nat} (hm : v.ownBlock = some m) : ∃ c fr, w.heap[m]? = some (.cells c 33 fr) := by
  rcases h.2 with ⟨rfl, _⟩ | ⟨g, cap, cur, rfl, _, hg, _⟩
  · simp [Value.ownBlock] at hm
  · simp only [Value.ownBlock, Option.some.injEq] at hm
    subst hm
    exact ⟨_, _, hg⟩
theorem VRow.keptM {w w' : World} {B C : Nat} {v u : Value} {A : List Int} {O : List (Int × Int)} (h : VRow w B v A) (hO : MRow w C u O) (hg : w.grownBy w' u.ownBlock) : VRow w' B v A := by
  cases hv : v.ownBlock with
  | none => exact World.ownsRow.kept h hg (Or.inl hv)
  | some k =>
    refine World.ownsRow.kept h hg (Or.inr ?_)
    intro e
    cases hu : u.ownBlock with
    | none => rw [hu, hv] at e; cases e
    | some m =>
      obtain ⟨c, fr, hb⟩ := hO.blk hu
      refine h.apart hb (by decide) ?_
      rw [e, hu]
theorem pick_at {M : List (Int × Int)} {P : List Int} {i : Nat} (h : ¬ M = []) : ∃ q : Nat, pickK P i M.length = (q : Int) ∧ q < M.length ∧ M.getD (pickK P i M.length).toNat (0, 0) = M[q]?.getD (0, 0) := by
  have := pickK_in P i (m := M.length) (List.length_pos_iff.2 h)
  refine ⟨(pickK P i M.length).toNat, by omega, by omega, ?_⟩
  rw [List.getD_eq_getElem?_getD]

set_option maxHeartbeats 8000000 in
theorem specPoolRun_any (n wk : Int) (s : Option Addr) (c : Nat) (L : List (Int × Int)) (sp : Option Addr) (cp : Nat) (P : List Int) (w : World) (hL : Eds w s L) (hl : L.length ≤ 1048576) (hP : Ints w sp P) (hp : P.length ≤ 1048576) (hb : ∀ v ∈ P, -9223372036854775808 ≤ v ∧ v ≤ 9223372036854775807) :
    Calls Tryd.prog 6 #[.int .i64 n, .slice s L.length c, .int .i64 wk, .slice sp P.length cp] w fun e w' => PlS w (prB n L wk P) e w' := by
  cases hg : gOk n L
  · have hA : Hid (prB n L wk P = none) := by simp [Hid, prB, hg]
    go_enter Tryd.func6, Tryd.ntmps6
    go_wp2_with (go_at_call 15; refine (specGraphOk_any _ _ _ L _ hL hl).mono ?_; rintro e w' ⟨rfl, hq⟩; subst hq; rw [hg])
    refine bodyPost_ret (v := .tuple #[.slice none 0 0, .bool false]) (by simp [results, Tryd.results6]) rfl ?_
    rw [hA.out]; exact PlS.none (Below.refl _ _)
  cases hk : wkOk wk
  · have hA : Hid (prB n L wk P = none) := by simp [Hid, prB, hg, hk]
    go_enter Tryd.func6, Tryd.ntmps6
    go_wp2_with (first
      | (go_at_call 15; refine (specGraphOk_any _ _ _ L _ hL hl).mono ?_; rintro e w' ⟨rfl, hq⟩; subst hq; rw [hg])
      | (go_at_call 16; refine (l1In_any _ _ _ _).mono ?_; rintro e w' ⟨rfl, hq⟩; subst hq; rw [wk_l1, hk]))
    refine bodyPost_ret (v := .tuple #[.slice none 0 0, .bool false]) (by simp [results, Tryd.results6]) rfl ?_
    rw [hA.out]; exact PlS.none (Below.refl _ _)
  by_cases h2 : P.length ≤ 2000
  · have t2 : decide (2000 < (P.length : Int)) = false := by simp; omega
    obtain ⟨m, rfl, hm, hl2, hin, h16⟩ := gOk_open hg
    have HA : Hid (prB m L wk P = some (rnG L wk P (2 * m) 0 (List.replicate m 0))) := by simp [Hid, prB, hg, hk, h2]
    have HI : Hid (Inn m L) := hin
    have HL : Hid (Eds w s L) := hL
    have HP : Hid (Ints w sp P) := hP
    have HB : Hid (∀ v ∈ P, -9223372036854775808 ≤ v ∧ v ≤ 9223372036854775807) := hb
    obtain ⟨i0, hi, hz0, hz1, hz2⟩ := info_parts Tryd.infoI
    go_enter Tryd.func6, Tryd.ntmps6
    go_wp2_with (first
      | (go_at_call 15; refine (specGraphOk_any _ _ _ L _ hL hl).mono ?_; rintro e w0 ⟨rfl, hq⟩; subst hq; rw [hg])
      | (go_at_call 16; refine (l1In_any _ _ _ _).mono ?_; rintro e w1 ⟨rfl, hq⟩; subst hq; rw [wk_l1, hk])
      | (at_make; refine wpList_make_full _ rfl _ _ 25 rfl (w1.heap.size + 1) 3 i0 (.int .i64 0) 1 Tryd.underlying25 hi hz0 hz1 .i64 .i64 _ _ m rfl rfl rfl rfl (by rw [hz2]; omega) (by unfold maxLen; omega) (by simp) ?_))
    intro w2 hown hgrow
    have k0 := Blk.new w1 #[] 33
    have O0 : MRow (w1.alloc (.cells #[] 33)) w1.heap.size (.slice (some ⟨w1.heap.size, 0, none⟩) 0 0) [] := MRow.empty k0
    have b02 : Below (w1.alloc (.cells #[] 33)).heap.size (w1.alloc (.cells #[] 33)) w2 := (Below.refl _ _).grown hgrow (Nat.le_refl _) (fun k h => by cases h)
    have zz : (w1.alloc (.cells #[] 33)).heap.size = w1.heap.size + 1 := by simp
    have hrow : Hid (VRow w2 (w1.heap.size + 1) (.slice (some ⟨w1.heap.size + 1, 0, none⟩) m m) (List.replicate m 0)) := by
      rw [toList_madeCells_one] at hown
      try rw [zz] at hown
      unfold VRow
      rw [List.length_replicate, List.map_replicate]
      exact hown
    have O2 : Hid (MRow w2 w1.heap.size (.slice (some ⟨w1.heap.size, 0, none⟩) 0 0) []) := O0.later b02
    have hb2 : Hid (Below w1.heap.size w1 w2) := bl_trans (bl_alloc (Below.refl _ _) _) b02
    clear hown hgrow hi hz0 hz1 hz2 hL hP hin hb k0 O0 b02
    go_wp2_with fail
    try rw [zz]
    clear zz
    go_loopw [10, 11, 12] (fun ov av iv wr => ∃ (k : Nat) (sa : Option Addr) (ca : Nat) (A : List Int) (so : Option Addr) (co : Nat) (O : List (Int × Int)), k ≤ 2 * m ∧ iv = .int .i64 k ∧ av = .slice sa A.length ca ∧ ov = .slice so O.length co ∧ Hid (VRow wr w1.heap.size (.slice sa A.length ca) A) ∧ Hid (MRow wr w1.heap.size (.slice so O.length co) O) ∧ Hid (A.length = m) ∧ Hid (O.length = k) ∧ Hid (rnG L wk P (2 * m) 0 (List.replicate m 0) = O ++ rnG L wk P (2 * m - k) k A) ∧ Hid (Below w1.heap.size w1 wr)) (fun _ _ iv _ => 2 * m - (intOf iv).toNat)
    case atStart =>
      refine ⟨0, some ⟨w1.heap.size + 1, 0, none⟩, m, List.replicate m 0, some ⟨w1.heap.size, 0, none⟩, 0, [], Nat.zero_le _, rfl, by rw [List.length_replicate], rfl, ?_, O2, by simp [Hid], rfl, by simp [Hid], hb2⟩
      rw [List.length_replicate]
      exact hrow.out.mono (by omega)
    case round =>
      clear hrow O2 hb2
      obtain ⟨k, sa, ca, A, so, co, O, hkk, rfl, rfl, rfl, hVA, hO, hAl, hOl, hR, hb⟩ := hrel
      have hIA : Hid (Ints wr sa A) := hVA.out.ints'
      have hA16 : A.length ≤ 16 := by have := hAl.out; omega
      have HI' : Hid (Inn A.length L) := by rw [hAl.out]; exact HI
      have tw2 : IntKind.i64.wrap (2 * (m : Int)) = 2 * (m : Int) := by rw [IntKind.wrap_i64]; omega
      by_cases hlt : k < 2 * m
      · have t0 : decide ((k : Int) < 2 * (m : Int)) = true := by simp; omega
        have hOk : O.length ≤ 40 := by have := hOl.out; omega
        go_wp2_with fail
        refine (l18Moves_any s c sa ca wk L A _ (HL.out.later hb.out) hl HI'.out hIA.out hA16).mono ?_
        rintro e w3 ⟨⟨v, rfl, hM⟩, hb3⟩
        have hlM := mvs_len L wk A
        have hstep : Hid (rnG L wk P (2 * m - k) k A = if mvs L wk A = [] then [] else (mvs L wk A).getD (pickK P k (mvs L wk A).length).toNat (0, 0) :: rnG L wk P (2 * m - (k + 1)) (k + 1) (doM A ((mvs L wk A).getD (pickK P k (mvs L wk A).length).toNat (0, 0)))) := by
          rw [show 2 * m - k = (2 * m - (k + 1)) + 1 by omega]; rfl
        obtain ⟨M, hMM⟩ : ∃ M, Hid (mvs L wk A = M) := ⟨_, rfl⟩
        rw [hMM.out] at hM hlM hstep
        obtain ⟨sv, cv, e⟩ := hM.shape
        subst e
        have hb' : Hid (Below w1.heap.size w1 w3) := bl_trans hb.out hb3
        have hVA' : Hid (VRow w3 w1.heap.size (.slice sa A.length ca) A) := hVA.out.later hb3
        have hIA' : Hid (Ints w3 sa A) := hIA.out.later hb3
        have hO' : Hid (MRow w3 w1.heap.size (.slice so O.length co) O) := hO.out.later hb3
        have hME : Hid (Eds w3 sv M) := hM.eds
        clear hM hb3 hIA hb hO
        by_cases hM0 : M = []
        · subst hM0
          have hfin : Hid (prB m L wk P = some O) := by
            rw [HA.out, hR.out, hstep.out, if_pos rfl, List.append_nil]; rfl
          clear hstep hR
          go_wp2_with fail
          refine bodyPost_ret (v := .tuple #[.slice so O.length co, .bool true]) (by simp [results, Tryd.results6]) rfl ?_
          rw [hfin.out]
          exact ⟨_, rfl, hO'.out, hb'.out⟩
        · obtain ⟨q, hq, hql, hqm⟩ := pick_at (M := M) (P := P) (i := k) hM0
          have hMl : 0 < M.length := by omega
          have tM : ((M.length : Int) == 0) = false := by simp; omega
          obtain ⟨⟨p1, p2⟩, hy⟩ : ∃ x, Hid (M[q]?.getD (0, 0) = x) := ⟨_, rfl⟩
          have hst2 : Hid (rnG L wk P (2 * m - k) k A = (p1, p2) :: rnG L wk P (2 * m - (k + 1)) (k + 1) (doM A (p1, p2))) := by
            rw [hstep.out, if_neg hM0, hqm, hy.out]; rfl
          have hmem : (p1, p2) ∈ mvs L wk A := by rw [hMM.out, ← hy.out]; exact memE hql
          obtain ⟨x, hxl, hcase⟩ := mem_mvs hmem
          have hp2 : p2 = (x : Int) := by
            rcases hcase with ⟨e, _⟩ | ⟨e, _⟩
            · exact (Prod.mk.inj e).2
            · exact (Prod.mk.inj e).2
          subst hp2
          obtain ⟨b, o, rfl, hpb, e1, e2⟩ := hME.out.get hql
          rw [hy.out] at e1 e2
          have HE : Hid (b < w3.heap.size ∧ w3.cell? ⟨b, o + q * 2, none⟩ = some (.int .i64 p1) ∧ w3.cell? ⟨b, o + q * 2 + 1, none⟩ = some (.int .i64 (x : Int))) := ⟨hpb, e1, e2⟩
          have qI : (q : Int) < (M.length : Int) := by omega
          clear hstep hmem hcase hqm hM0
          go_wp2_with fail
          refine (l18Pick_any sp cp k M.length P _ (HP.out.later hb'.out) hp hMl (by omega) (by omega) HB.out).mono ?_
          rintro e w4 ⟨rfl, hq4⟩
          subst hq4
          rw [hq]
          have km := Blk.new w4 #[.int .i64 p1, .int .i64 (x : Int)] 33
          have KM : Hid (Blk (w4.alloc (.cells #[.int .i64 p1, .int .i64 (x : Int)] 33)) w4.heap.size #[.int .i64 p1, .int .i64 (x : Int)] 33) := km
          have L5 : Hid (Below w1.heap.size w1 (w4.alloc (.cells #[.int .i64 p1, .int .i64 (x : Int)] 33))) := bl_alloc hb'.out _
          have I5 : Hid (Ints (w4.alloc (.cells #[.int .i64 p1, .int .i64 (x : Int)] 33)) sa A) := hIA'.out.later (bl_alloc (Below.refl _ _) _)
          have O5 : Hid (MRow (w4.alloc (.cells #[.int .i64 p1, .int .i64 (x : Int)] 33)) w1.heap.size (.slice so O.length co) O) := hO'.out.later (bl_alloc (Below.refl _ _) _)
          clear km hIA' hO' HE hME hpb
          go_wp2_with fail
          refine (l18Do_any sa ca x A p1 _ I5.out hxl (by omega)).mono ?_
          rintro e w6 ⟨⟨g6, d6, rfl, hV6⟩, hb6⟩
          have hI6 : Hid (Ints w6 (some ⟨g6, 0, none⟩) (doM A (p1, (x : Int)))) := by
            obtain ⟨s', c', e, hi⟩ := hV6.slice
            simp only [Value.slice.injEq] at e
            obtain ⟨rfl, -, -⟩ := e
            exact hi
          have O6 : Hid (MRow w6 w1.heap.size (.slice so O.length co) O) := O5.out.later hb6
          have L6 : Hid (Below w1.heap.size w1 w6) := bl_trans L5.out hb6
          have KM6 := KM.out.later hb6
          obtain ⟨y0, y1, y2⟩ := KM6.two
          have hs5 := L5.out.size
          have V6 : VRow w6 w1.heap.size (.slice (some ⟨g6, 0, none⟩) A.length d6) (doM A (p1, (x : Int))) := hV6.mono hs5
          have kn := Blk.new w6 #[.int .i64 p1, .int .i64 (x : Int)] 33
          obtain ⟨hz0, hz1, _⟩ := kn.two
          have V7 : Hid (VRow (w6.alloc (.cells #[.int .i64 p1, .int .i64 (x : Int)] 33)) w1.heap.size (.slice (some ⟨g6, 0, none⟩) A.length d6) (doM A (p1, (x : Int)))) := V6.later (bl_alloc (Below.refl _ _) _)
          have O7 : Hid (MRow (w6.alloc (.cells #[.int .i64 p1, .int .i64 (x : Int)] 33)) w1.heap.size (.slice so O.length co) O) := O6.out.later (bl_alloc (Below.refl _ _) _)
          have L7 : Hid (Below w1.heap.size w1 (w6.alloc (.cells #[.int .i64 p1, .int .i64 (x : Int)] 33))) := bl_alloc L6.out _
          have hs7 := L7.out.size
          clear KM6 kn hV6 V6 O6 L6 I5 O5 L5 KM hI6 hb6 hVA' hVA
          go_wp2_with (at_builtin; refine wpList_append_move _ rfl (.tmp 56) (.tmp 58) rfl w1.heap.size (.slice so O.length co) O rfl O7.out w6.heap.size p1 (x : Int) rfl hz0 hz1 (by omega) hs7 ?_)
          intro v' w8 hv8 hg8
          obtain ⟨s8, c8, e⟩ := hv8.shape
          subst e
          have V8 : Hid (VRow w8 w1.heap.size (.slice (some ⟨g6, 0, none⟩) A.length d6) (doM A (p1, (x : Int)))) := V7.out.keptM O7.out hg8
          have L8 : Hid (Below w1.heap.size w1 w8) := grown_mr L7.out hs7 O7.out hg8
          have O8 : Hid (MRow w8 w1.heap.size (.slice s8 (O ++ [(p1, (x : Int))]).length c8) (O ++ [(p1, (x : Int))])) := hv8
          have hA8 : Hid ((doM A (p1, (x : Int))).length = m) := by rw [doM_len]; exact hAl
          have hO8 : Hid ((O ++ [(p1, (x : Int))]).length = k + 1) := by rw [List.length_append, hOl.out]; rfl
          have hR8 : Hid (rnG L wk P (2 * m) 0 (List.replicate m 0) = (O ++ [(p1, (x : Int))]) ++ rnG L wk P (2 * m - (k + 1)) (k + 1) (doM A (p1, (x : Int)))) := by
            rw [hR.out, hst2.out]; simp [Hid]
          have eL : Hid (A.length = (doM A (p1, (x : Int))).length) := (doM_len A _).symm
          rw [eL.out] at V8 ⊢
          clear hv8 hg8 V7 O7 L7 hR hst2 hz0 hz1 y0 y1 y2
          go_wp2_with fail
          go_roundw
          case rel => exact ⟨k + 1, some ⟨g6, 0, none⟩, d6, doM A (p1, (x : Int)), s8, c8, O ++ [(p1, (x : Int))], by omega, by go_num, rfl, rfl, V8, O8, hA8, hO8, hR8, L8⟩
          case measure => simp [intOf]; omega
      · have hk' : k = 2 * m := by omega
        subst hk'
        have t0 : decide (2 * (m : Int) < 2 * (m : Int)) = false := by simp
        have hfin : Hid (prB m L wk P = some O) := by
          rw [HA.out, hR.out, Nat.sub_self]; simp [Hid, rnG]
        go_wp2_with fail
        refine bodyPost_ret (v := .tuple #[.slice so O.length co, .bool true]) (by simp [results, Tryd.results6]) rfl ?_
        rw [hfin.out]
        exact ⟨_, rfl, hO.out, hb.out⟩
  · have t2 : decide (2000 < (P.length : Int)) = true := by simp; omega
    have hA : Hid (prB n L wk P = none) := by simp [Hid, prB, hg, hk, h2]
    go_enter Tryd.func6, Tryd.ntmps6
    go_wp2_with (first
      | (go_at_call 15; refine (specGraphOk_any _ _ _ L _ hL hl).mono ?_; rintro e w' ⟨rfl, hq⟩; subst hq; rw [hg])
      | (go_at_call 16; refine (l1In_any _ _ _ _).mono ?_; rintro e w' ⟨rfl, hq⟩; subst hq; rw [wk_l1, hk]))
    refine bodyPost_ret (v := .tuple #[.slice none 0 0, .bool false]) (by simp [results, Tryd.results6]) rfl ?_
    rw [hA.out]; exact PlS.none (Below.refl _ _)
end Go.Proofs.YtedobocaagdjfaaDoor
