import Derived.Test.YtpgcianhppihiaaDoorG62
import Derived.Test.YtpgcianhppihiaaDoorG11b
namespace Go.Proofs.YtpgcianhppihiaaDoor
open Go.RowKit
set_option linter.unusedVariables false
set_option linter.unusedSimpArgs false

/-- the numbers of the least circle, one by one. -/
theorem cSq_shape {R : Nat → Nat → Bool} {n D x : Nat} (hR : Sup R n) (hm : MinC R n D x) : ∀ k, k < D → OnC R n D x k (cSq R n D x k).2 ∧ (cSq R n D x k).1 = (List.range (k + 1)).map (fun i => (((cSq R n D x i).2 : Nat) : Int)) ∧ ∀ i, i < k → R (cSq R n D x i).2 (cSq R n D x (i + 1)).2 = true
  | 0, h => ⟨OnC.start hm, by simp [cSq], fun i hi => by omega⟩
  | k + 1, h => by
    obtain ⟨h1, h2, h3⟩ := cSq_shape hR hm k (by omega)
    obtain ⟨z, hz, ho⟩ := OnC.next hR h1 h
    have hs : cSq R n D x (k + 1) = ((cSq R n D x k).1 ++ [(z : Int)], z) := cSq_step (O := (cSq R n D x k).1) (y := (cSq R n D x k).2) rfl hz
    have hr : R (cSq R n D x k).2 z = true := by
      have := List.find?_some hz
      simp only [Bool.and_eq_true] at this
      exact this.1
    refine ⟨by rw [hs]; exact ho, ?_, fun i hi => ?_⟩
    · rw [List.range_succ, List.map_append, ← h2]
      simp [hs]
    · by_cases e : i = k
      · subst e; rw [hs]; exact hr
      · exact h3 i (by omega)
theorem circ_shape {n : Nat} {L : List (Int × Int)} (hg : gOk n L = true) (h : (canB n L).isSome = false) : ∃ (D : Nat) (p : Nat → Nat), 1 ≤ D ∧ D ≤ n ∧ circB n L = (List.range D).map (fun i => ((p i : Nat) : Int)) ∧ (∀ i, i < D → p i < n) ∧ (∀ i, i < D → eR L (p i) (p ((i + 1) % D)) = true) ∧ ∀ i j, i < j → j < D → ¬ p i = p j := by
  obtain ⟨m, hm, _, _, hin, h16⟩ := gOk_open hg
  have : m = n := by omega
  subst this
  have hN : ¬ NoC (eR L) m := fun g => by rw [(canB_iff hg).2 g] at h; simp at h
  obtain ⟨D, x, hM⟩ := minC_of hin.sup hN
  obtain ⟨h1, h2, h3⟩ := cSq_shape hin.sup hM (D - 1) (by have := hM.1; omega)
  have hD : D - 1 + 1 = D := by have := hM.1; omega
  rw [hD] at h2
  refine ⟨D, fun i => (cSq (eR L) m D x i).2, hM.1, hM.2.1, by rw [circB_is hg hM]; exact h2, fun i hi => (cSq_shape hin.sup hM i hi).1.1, fun i hi => ?_, fun i j hij hj e => ?_⟩
  · by_cases e : i + 1 < D
    · rw [Nat.mod_eq_of_lt e]; exact h3 i (by omega)
    · have : i = D - 1 := by omega
      subst this
      rw [hD, Nat.mod_self]
      have hw := h1.2.2
      rw [show D - (D - 1) = 1 by omega] at hw
      exact wk_one.1 hw
  · have hw : wk (eR L) (j - i) ((cSq (eR L) m D x i).2) ((cSq (eR L) m D x j).2) := by
      have := path_wk (R := eR L) (p := fun i => (cSq (eR L) m D x i).2) (s := i) (j - i) (fun t ht hu => h3 t (by omega))
      rw [show i + (j - i) = j by omega] at this
      exact this
    have e' : (cSq (eR L) m D x i).2 = (cSq (eR L) m D x j).2 := e
    rw [← e'] at hw
    exact hM.2.2.2.2.1 (j - i) _ (by omega) (by omega) hw

set_option maxHeartbeats 2000000 in
theorem within_no (s : Option Addr) (c : Nat) (A : List Int) (x : Int) (w : World) (hA : Ints w s A) (hl : A.length ≤ 1048576) (hx : ∀ k, k < A.length → ¬ A[k]?.getD 0 = x) :
    Calls Tryd.prog 16 #[.slice s A.length c, .int .i64 x] w fun e w' => e = .returned (.bool false) ∧ w' = w := by
  go_enter Tryd.func16, Tryd.ntmps16
  go_wp2_with fail
  go_loop [5] (fun i => ∃ k : Nat, k ≤ A.length ∧ i = .int .i64 k) (fun i => A.length - (intOf i).toNat)
  case atStart => exact ⟨0, Nat.zero_le _, rfl⟩
  case round =>
    obtain ⟨k, hk, rfl⟩ := hrel
    by_cases hlt : k < A.length
    · obtain ⟨pb, po, rfl, hp, hc⟩ := hA.get hlt
      obtain ⟨y, hy⟩ : ∃ y, Hid (A[k]?.getD 0 = y) := ⟨_, rfl⟩
      have d1 : w.cell? ⟨pb, po + k, none⟩ = some (.int .i64 y) := by rw [← hy.out]; exact hc k hlt
      have hkI : (k : Int) < (A.length : Int) := by omega
      have hxx : (y == x) = false := by have := hx k hlt; rw [hy.out] at this; simpa using this
      clear hc hx
      go_wp2_with fail
      go_round
      case rel => exact ⟨k + 1, by omega, by go_num⟩
      case measure => simp [intOf]; omega
    · go_wp2_with fail
      go_ret
      exact ⟨rfl, rfl⟩

theorem within_is (s : Option Addr) (c : Nat) (A : List Int) (k : Nat) (x : Int) (w : World) (hA : Ints w s A) (hk : A.length = k) (hl : k ≤ 1048576) (hx : ∀ j, j < k → ¬ A[j]?.getD 0 = x) :
    Calls Tryd.prog 16 #[.slice s k c, .int .i64 x] w fun e w' => e = .returned (.bool false) ∧ w' = w := by
  subst hk; exact within_no s c A x w hA hl hx
set_option maxHeartbeats 4000000 in
theorem drawCircle_any (sl : Option Addr) (len cap : Nat) (w : World) (hl : len ≤ 1048576) (hC : Code w sl len) :
    Calls Tryd.prog 15 #[.slice sl len cap] w fun e w' => ∃ (x : Int) (s : Option Addr) (c : Nat) (L : List (Int × Int)), e = .returned (.tuple #[.int .i64 x, .slice s L.length c]) ∧ (-1 ≤ x ∧ x ≤ 17) ∧ L.length ≤ 400 ∧ ERow w' w.heap.size (.slice s L.length c) L ∧ Below w.heap.size w w' := by
  go_enter Tryd.func15, Tryd.ntmps15
  go_wp2_with fail
  refine (l1New_any sl len cap _ hl hC).mono ?_
  rintro e w1 ⟨n, rfl, hn, hb, hc⟩
  go_wp2_with fail
  refine (l14Some_any n 10 _ hc (by omega)).mono ?_
  rintro e w3 ⟨x, v, L, rfl, hx, hL, hD⟩
  have HD : Hid (Dge n w1 w3 v L) := hD
  clear hD
  go_wp2_with fail
  refine (l1Below_any n 3 _ HD.out.cu (by omega)).mono ?_
  rintro e w4 ⟨m, rfl, m0, m1, hk4, hc4⟩
  have HD : Hid (Dge n w1 w4 v L) := HD.out.call hk4 hc4
  obtain ⟨m, rfl⟩ := Int.eq_ofNat_of_zero_le m0
  have hm : m ≤ 3 := by omega
  clear hk4 hc4 m0 m1
  have HB : Hid (Below w.heap.size w w1) := hb
  have fin : ∀ (v : Value) (M : List (Int × Int)) (w9 : World), M.length ≤ 400 → Hid (Dge n w1 w9 v M) → ∃ (x' : Int) (s : Option Addr) (c : Nat) (L : List (Int × Int)), Ending.returned (.tuple #[.int .i64 x, v]) = .returned (.tuple #[.int .i64 x', .slice s L.length c]) ∧ (-1 ≤ x' ∧ x' ≤ 17) ∧ L.length ≤ 400 ∧ ERow w9 w.heap.size (.slice s L.length c) L ∧ Below w.heap.size w w9 := by
    intro v M w9 hM h
    obtain ⟨s, c, rfl⟩ := h.out.slice
    exact ⟨x, s, c, M, rfl, hx, hM, h.out.o.mono HB.out.size, h.out.kp.below HB.out hn⟩
  have FIN : Hid _ := fin
  clear hb hc fin
  go_wp2_with fail
  go_loopw [6, 8] (fun ov iv wr => ∃ (i : Nat) (M : List (Int × Int)), i ≤ m ∧ iv = .int .i64 i ∧ M.length ≤ 300 + i ∧ Hid (Dge n w1 wr ov M)) (fun _ iv _ => m - (intOf iv).toNat)
  case atStart => exact ⟨0, L, Nat.zero_le _, rfl, by omega, HD⟩
  case round =>
    clear HD
    obtain ⟨i, M, hi, rfl, hM, HD⟩ := hrel
    by_cases hlt : i < m
    · have s0 : decide ((i : Int) < (m : Int)) = true := by simp; omega
      by_cases h0 : 1 < x
      · have s1 : decide (1 < x) = true := by simp; omega
        have t1 : IntKind.i64.wrap (x - 1) = x - 1 := by rw [IntKind.wrap_i64]; omega
        go_wp2_with fail
        refine (l1Below_any n (x - 1) _ HD.out.cu (by omega)).mono ?_
        rintro e w5 ⟨b, rfl, b0, b1, hk5, hc5⟩
        have HD : Hid (Dge n w1 w5 u6 M) := HD.out.call hk5 hc5
        clear hk5 hc5
        have t2 : IntKind.i64.wrap (b + 1) = b + 1 := by rw [IntKind.wrap_i64]; omega
        have t3 : IntKind.i64.wrap (x - b) = x - b := by rw [IntKind.wrap_i64]; omega
        have t4 : IntKind.i64.wrap (x - b - 1) = x - b - 1 := by rw [IntKind.wrap_i64]; omega
        go_wp2_with fail
        refine (l1Below_any n (x - b - 1) _ HD.out.cu (by omega)).mono ?_
        rintro e w6 ⟨r, rfl, r0, r1, hk6, hc6⟩
        have HD : Hid (Dge n w1 w6 u6 M) := HD.out.call hk6 hc6
        clear hk6 hc6
        have t5 : IntKind.i64.wrap (b + 1 + r) = b + 1 + r := by rw [IntKind.wrap_i64]; omega
        go_wp2_with (at_builtin; refine wpList_draw_edge HD.out (b + 1 + r) b (by omega) rfl (.tmp 32) (.tmp 44) rfl rfl rfl ?_)
        intro v' w9 hD9
        have HD : Hid (Dge n w1 w9 v' (M ++ [(b + 1 + r, b)])) := hD9
        clear hD9
        go_wp2_with fail
        go_roundw
        case rel => exact ⟨i + 1, M ++ [(b + 1 + r, b)], by omega, by go_num, by simp; omega, HD⟩
        case measure => simp [intOf]; omega
      · have s1 : decide (1 < x) = false := by simp; omega
        go_wp2_with fail
        exact bodyPost_ret (v := .tuple #[.int .i64 x, u6]) (by simp [results, Tryd.results15]) rfl (FIN.out u6 M _ (by omega) HD)
    · have s0 : decide ((i : Int) < (m : Int)) = false := by simp; omega
      go_wp2_with fail
      exact bodyPost_ret (v := .tuple #[.int .i64 x, u6]) (by simp [results, Tryd.results15]) rfl (FIN.out u6 M _ (by omega) HD)

theorem implAhead_is (n a b : Int) (s : Option Addr) (c : Nat) (L : List (Int × Int)) (w : World) (hL : Eds w s L) (hl : L.length ≤ 1048576) (h : aheadB n L a b = true) :
    Calls Tryd.prog 17 #[.int .i64 n, .slice s L.length c, .int .i64 a, .int .i64 b] w fun e w' => e = .returned (.bool true) ∧ Below w.heap.size w w' := by
  have := implAhead_any n a b s c L w hL hl
  rw [h] at this
  exact this
/-- is there such an edge among the first k? -/
def hasE (L : List (Int × Int)) (a b : Int) (k : Nat) : Bool := (L.take k).any fun e => decide (e.1 = a) && decide (e.2 = b)
theorem hasE_succ (L : List (Int × Int)) (a b : Int) (k : Nat) (p : Int × Int) (h : L[k]? = some p) : hasE L a b (k + 1) = (hasE L a b k || (decide (p.1 = a) && decide (p.2 = b))) := by
  unfold hasE
  rw [List.take_add_one, h, List.any_append]; simp
theorem hasE_all {L : List (Int × Int)} {a b : Nat} (h : eR L a b = true) : hasE L a b L.length = true := by
  unfold hasE
  rw [List.take_length, List.any_eq_true]
  exact ⟨((a : Int), (b : Int)), of_decide_eq_true h, by simp⟩

set_option maxRecDepth 100000 in
set_option maxHeartbeats 8000000 in
theorem circle_any (sl : Option Addr) (len cap : Nat) (w : World) (hC : Code w sl len) (hT : DbT w) :
    Calls Tryd.prog 4 #[.slice sl len cap] w fun e w' => e = .returned (.bool true) ∧ Below w.heap.size w w' := by
  by_cases hl : len ≤ 1048576
  · have hd : decide (1048576 < (len : Int)) = false := by simp; omega
    go_enter Tryd.func4, Tryd.ntmps4
    go_wp2_with fail
    refine (big_any sl len cap _).mono ?_
    rintro e w0 ⟨rfl, rfl⟩
    rw [hd]
    go_wp2_with fail
    refine (drawCircle_any sl len cap _ hl hC).mono ?_
    rintro e w1 ⟨x, s, c, L, rfl, hx, hL, hE, hb1⟩
    have hL' : L.length ≤ 1048576 := by omega
    have HL : Hid (Eds w1 s L) := hE.eds
    have HT : Hid (DbT w1) := hT.later hb1
    have HB : Hid (Below w0.heap.size w0 w1) := hb1
    obtain ⟨A, hA⟩ : ∃ A, Hid ((canB x L).getD [] = A) := ⟨_, rfl⟩
    obtain ⟨ok, ho⟩ : ∃ ok, Hid ((canB x L).isSome = ok) := ⟨_, rfl⟩
    obtain ⟨Z, hZ⟩ : ∃ Z, Hid (circB x L = Z) := ⟨_, rfl⟩
    clear hE hb1 hC hT
    go_wp2_with fail
    refine (implCircle_is x s c L Z _ HL.out hL' HT.out hZ.out).mono ?_
    rintro e w2 ⟨s2, c2, rfl, v2, b2⟩
    have HV2 : Hid (Ints w2 s2 Z) := v2.rd
    have hcap : Z.length ≤ c2 := by
      rcases v2.form with ⟨_, h⟩ | ⟨g, cap, h, h', _⟩
      · rw [h]; simp
      · simp only [Value.slice.injEq] at h
        omega
    have HL2 : Hid (Eds w2 s L) := HL.out.later b2
    have HB2 : Hid (Below w0.heap.size w0 w2) := bl_trans HB.out b2
    clear v2 b2 HL HB HT
    go_wp2_with fail
    refine (specCanon_is x s c L A ok _ HL2.out hL' hA.out ho.out).mono ?_
    rintro e w4 ⟨s4, c4, rfl, v4, b4⟩
    have I4 : Hid (Ints w4 s2 Z) := HV2.out.later b4
    have HL4 : Hid (Eds w4 s L) := HL2.out.later b4
    have HB4 : Hid (Below w0.heap.size w0 w4) := bl_trans HB2.out b4
    clear v4 b4 HV2 HL2 HB2
    obtain ⟨g, hg⟩ : ∃ g, Hid (gOk x L = g) := ⟨_, rfl⟩
    cases ok
    · go_wp2_with fail
      refine (specGraphOk_is x s c L g _ HL4.out hL' hg.out).mono ?_
      rintro e w6 ⟨rfl, rfl⟩
      cases g
      · have hZ' : Z = [] := by rw [← hZ.out]; exact circB_no fun h => by rw [hg.out] at h; simp at h
        subst hZ'
        go_wp2_with fail
        go_ret
        exact ⟨rfl, HB4.out⟩
      · obtain ⟨m, rfl, hm, _, hin, h16⟩ := gOk_open hg.out
        obtain ⟨D, p, hD1, hDn, hq, hp, hr, hu⟩ := circ_shape hg.out ho.out
        have hZD : Z.length = D := by rw [← hZ.out, hq]; simp
        have HG : Hid (∀ i, i < D → Z[i]?.getD 0 = ((p i : Nat) : Int)) := by
          intro i hi
          rw [← hZ.out, hq]; simp [hi]
        have HP : Hid (∀ i, i < D → p i < m) := hp
        have HR : Hid (∀ i, i < D → eR L (p i) (p ((i + 1) % D)) = true) := hr
        have HU : Hid (∀ i j, i < j → j < D → ¬ p i = p j) := hu
        have HIN : Hid (Inn m L) := hin
        clear hq hp hr hu hin h16 hZ hA ho
        subst hZD
        have z0 : ((Z.length : Int) == 0) = false := beq_eq_false_iff_ne.2 (by omega)
        go_wp2_with fail
        go_loopw [8] (fun iv wr => ∃ i : Nat, i ≤ Z.length ∧ iv = .int .i64 i ∧ Hid (Ints wr s2 Z) ∧ Hid (Eds wr s L) ∧ Hid (Below w0.heap.size w0 wr)) (fun iv _ => Z.length - (intOf iv).toNat)
        case atStart => exact ⟨0, Nat.zero_le _, rfl, I4, HL4, HB4⟩
        case round =>
          clear I4 HL4 HB4
          obtain ⟨wo, rfl⟩ : ∃ z, z = wr := ⟨wr, rfl⟩
          obtain ⟨i, hi, rfl, HI, HE, HB⟩ := hrel
          by_cases hlt : i < Z.length
          · have s0 : decide ((i : Int) < (Z.length : Int)) = true := by simp; omega
            obtain ⟨q, hq⟩ : ∃ q, Hid (q = (i + 1) % Z.length) := ⟨_, rfl⟩
            have hqD : q < Z.length := by rw [hq.out]; exact Nat.mod_lt _ (by omega)
            obtain ⟨pb, po, rfl, hpb, hcell⟩ := HI.out.get (k := i) (by omega)
            have ci : wo.cell? ⟨pb, po + i, none⟩ = some (.int .i64 ((p i : Nat) : Int)) := by rw [hcell i (by omega), HG.out i hlt]
            have cq : wo.cell? ⟨pb, po + q, none⟩ = some (.int .i64 ((p q : Nat) : Int)) := by rw [hcell q (by omega), HG.out q hqD]
            have iI : (i : Int) < (Z.length : Int) := by omega
            have qI : (q : Int) < (Z.length : Int) := by omega
            have t1 : IntKind.i64.wrap ((i : Int) + 1) = (i : Int) + 1 := by rw [IntKind.wrap_i64]; omega
            have tm : ((i : Int) + 1) % (Z.length : Int) = (q : Int) := by rw [hq.out]; simp
            have Hc : Hid (∀ j, j < Z.length → wo.cell? ⟨pb, po + j, none⟩ = some (.int .i64 (Z[j]?.getD 0))) := hcell
            clear hcell
            go_wp2_with fail
            clear tm
            go_loopw [10, 11] (fun tv kv w7 => ∃ k : Nat, k ≤ L.length ∧ kv = .int .i64 k ∧ tv = .bool (hasE L (p i) (p q) k) ∧ Hid (Below wo.heap.size wo w7)) (fun _ kv _ => L.length - (intOf kv).toNat)
            case atStart => exact ⟨0, Nat.zero_le _, rfl, by simp [hasE], Below.refl _ _⟩
            case round =>
              obtain ⟨k, hk, rfl, rfl, hb7⟩ := hrel
              by_cases hkl : k < L.length
              · have s1 : decide ((k : Int) < (L.length : Int)) = true := by simp; omega
                have kI : (k : Int) < (L.length : Int) := by omega
                obtain ⟨gb, o, rfl, hgb, e1, e2⟩ := HE.out.get hkl
                obtain ⟨⟨p1, p2⟩, hxx⟩ : ∃ x, Hid (L[k]?.getD (0, 0) = x) := ⟨_, rfl⟩
                rw [hxx.out] at e1 e2
                have e1 : wr.cell? ⟨gb, o + k * 2, none⟩ = some (.int .i64 p1) := (hb7.out.cell (p := ⟨gb, o + k * 2, none⟩) hgb).trans e1
                have e2 : wr.cell? ⟨gb, o + k * 2 + 1, none⟩ = some (.int .i64 p2) := (hb7.out.cell (p := ⟨gb, o + k * 2 + 1, none⟩) hgb).trans e2
                have c1 : wr.cell? ⟨pb, po + i, none⟩ = some (.int .i64 ((p i : Nat) : Int)) := (hb7.out.cell (p := ⟨pb, po + i, none⟩) hpb).trans ci
                have hs : Hid (hasE L (p i) (p q) (k + 1) = (hasE L (p i) (p q) k || ((p1 == ((p i : Nat) : Int)) && (p2 == ((p q : Nat) : Int))))) := by
                  have hget : L[k]? = some (p1, p2) := by
                    have := hxx.out
                    rw [List.getElem?_eq_getElem hkl] at this ⊢
                    simpa using this
                  rw [Hid, hasE_succ L _ _ k (p1, p2) hget]; rfl
                generalize hv0 : hasE L (p i) (p q) k = v0 at hs ⊢
                generalize hv1 : (p1 == ((p i : Nat) : Int)) = v1 at hs
                generalize hv2 : (p2 == ((p q : Nat) : Int)) = v2 at hs
                clear hv0 ci cq
                cases v0 <;> cases v1 <;> cases v2
                all_goals
                  go_wp2_with fail
                  go_quiet (fail)
                  go_wp2_with fail
                  go_roundw
                  case rel =>
                    have hb7 := hb7.out
                    refine ⟨k + 1, by omega, by go_num, by rw [hs.out]; rfl, ?_⟩
                    exact bl_drewN hb7 _
                  case measure => simp [intOf]; omega
              · have s1 : decide ((k : Int) < (L.length : Int)) = false := by simp; omega
                have hkl : k = L.length := by omega
                subst hkl
                rw [hasE_all (by rw [hq.out]; exact HR.out i hlt)]
                have c1 : wr.cell? ⟨pb, po + i, none⟩ = some (.int .i64 ((p i : Nat) : Int)) := (hb7.out.cell (p := ⟨pb, po + i, none⟩) hpb).trans ci
                have HI7 : Hid (Ints wr (some ⟨pb, po, none⟩) Z) := HI.out.later hb7.out
                have HE7 : Hid (Eds wr s L) := HE.out.later hb7.out
                have HB7 : Hid (Below w0.heap.size w0 wr) := bl_trans HB.out hb7.out
                have HW : Hid (Ints wr (some ⟨pb, po, none⟩) (Z.take i) ∧ (Z.take i).length = i ∧ ∀ k, k < i → ¬ (Z.take i)[k]?.getD 0 = ((p i : Nat) : Int)) := by
                  refine ⟨?_, by simp; omega, fun k hk => ?_⟩
                  · refine Or.inr ⟨pb, po, rfl, World.block_lt_of_cell? _ _ c1, fun j hj => ?_⟩
                    have hj' : j < i := by simp at hj; omega
                    rw [hb7.out.cell (p := ⟨pb, po + j, none⟩) hpb, Hc.out j (by omega), List.getD_eq_getElem?_getD, List.getElem?_take_of_lt hj']
                  · rw [List.getElem?_take_of_lt hk, HG.out k (by omega)]
                    intro e
                    exact HU.out k i hk hlt (by omega)
                have HAh : Hid (aheadB (m : Int) L ((p i : Nat) : Int) ((p q : Nat) : Int) = true) := by
                  have h1 := HP.out i hlt
                  have h2 := HP.out q hqD
                  have h3 : clo (eR L) 16 (p i) (p q) = true := clo_mono _ 16 (by rw [hq.out]; exact HR.out i hlt)
                  simp [Hid, aheadB, hg.out, h1, h2, h3]
                have icI : (i : Int) ≤ (c2 : Int) := by omega
                clear ci cq hb7 Hc HI HE HB HU HR HP HG
                go_upto_region 19 with fail
                go_region_held3 (fun w' => w'.cell? ⟨pb, po + i, none⟩ = some (.int .i64 ((p i : Nat) : Int))) (first | (simp [c1]; done) | assumption)
                  (first
                    | (have h8' := h8; go_at_call 17; refine (implAhead_is (m : Int) _ _ s c L _ (HE7.out.later (bl_drew (Below.refl _ _))) hL' HAh.out).mono ?_; rintro e w9 ⟨rfl, b9⟩; have b9' : Below wr.heap.size wr w9 := bl_trans (bl_drew (Below.refl _ _)) b9; have c9 := (b9'.cell (p := ⟨pb, po + i, none⟩) (World.block_lt_of_cell? _ _ c1)).trans c1)
                    | (go_at_call 16; refine (within_is _ _ (Z.take i) i _ _ (HW.out.1.later (bl_drew (Below.refl _ _))) HW.out.2.1 (by omega) HW.out.2.2).mono ?_; rintro e w8 ⟨rfl, rfl⟩; have h8 : Hid True := trivial))
                have HI9 : Hid (Ints w9 (some ⟨pb, po, none⟩) Z) := HI7.out.later b9'
                have HE9 : Hid (Eds w9 s L) := HE7.out.later b9'
                have HB9 : Hid (Below w0.heap.size w0 w9) := bl_trans HB7.out b9'
                clear b9 b9' c9 c1 HI7 HE7 HB7 HW HAh
                go_wp2_with fail
                go_roundw
                case rel => exact ⟨i + 1, by omega, by go_num, HI9, HE9, HB9⟩
                case measure => simp [intOf]; omega
          · have s0 : decide ((i : Int) < (Z.length : Int)) = false := by simp; omega
            go_wp2_with fail
            go_ret
            exact ⟨rfl, HB.out⟩
    · have hZ0 : Z = [] := by
        cases g
        · rw [← hZ.out]; exact circB_no fun h => by rw [hg.out] at h; simp at h
        · obtain ⟨m, rfl, hm, _, hin, h16⟩ := gOk_open hg.out
          have := circ_can hg.out
          rw [ho.out, hZ.out] at this
          have := of_decide_eq_true this.symm
          exact List.length_eq_zero_iff.1 this
      subst hZ0
      go_wp2_with fail
      go_ret
      exact ⟨rfl, HB4.out⟩
  · have hd : decide (1048576 < (len : Int)) = true := by simp; omega
    go_enter Tryd.func4, Tryd.ntmps4
    go_wp2_with fail
    refine (big_any sl len cap _).mono ?_
    rintro e w0 ⟨rfl, rfl⟩
    rw [hd]
    go_wp2_with fail
    go_ret
    exact ⟨rfl, Below.refl _ _⟩
end Go.Proofs.YtpgcianhppihiaaDoor
