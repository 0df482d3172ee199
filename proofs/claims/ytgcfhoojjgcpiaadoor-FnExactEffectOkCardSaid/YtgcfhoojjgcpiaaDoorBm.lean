import Derived.Test.YtgcfhoojjgcpiaaDoorBl
import Derived.Test.YtgcfhoojjgcpiaaDoorSk
import Derived.Deep.RegionHeld3
namespace Go.Proofs.YtgcfhoojjgcpiaaDoor
open Go.RowKit
set_option linter.unusedVariables false
set_option linter.unusedSimpArgs false
theorem Tryd.infoLs : (Tryd.prog.info? 46).map (·.size) = some 8 := by kernel_rfl
set_option maxRecDepth 100000 in
set_option maxHeartbeats 4000000 in
theorem listsOf_any (s0 s1 s2 s3 s4 s5 s6 s7 : Option Addr) (c0 c1 c2 c3 c4 c5 c6 c7 : Nat) (e : Ef) (w : World) :
    Calls Tryd.prog 19 #[.agg #[.slice s0 e.l0.length c0, .slice s1 e.l1.length c1, .slice s2 e.l2.length c2, .slice s3 e.l3.length c3, .slice s4 e.l4.length c4, .slice s5 e.l5.length c5, .slice s6 e.l6.length c6, .slice s7 e.l7.length c7, .bool e.sp, .bool e.kl]] w fun z w' => z = .returned (.agg #[.slice s0 e.l0.length c0, .slice s1 e.l1.length c1, .slice s2 e.l2.length c2, .slice s3 e.l3.length c3, .slice s4 e.l4.length c4, .slice s5 e.l5.length c5, .slice s6 e.l6.length c6, .slice s7 e.l7.length c7]) ∧ Below w.heap.size w w' := by
  obtain ⟨k0, k1, LX⟩ := blkTwoE w #[.slice s0 e.l0.length c0, .slice s1 e.l1.length c1, .slice s2 e.l2.length c2, .slice s3 e.l3.length c3, .slice s4 e.l4.length c4, .slice s5 e.l5.length c5, .slice s6 e.l6.length c6, .slice s7 e.l7.length c7, .bool e.sp, .bool e.kl] #[.slice s0 e.l0.length c0, .slice s1 e.l1.length c1, .slice s2 e.l2.length c2, .slice s3 e.l3.length c3, .slice s4 e.l4.length c4, .slice s5 e.l5.length c5, .slice s6 e.l6.length c6, .slice s7 e.l7.length c7] 35 46
  go_enter Tryd.func19, Tryd.ntmps19
  go_wp2_with fail
  refine bodyPost_ret (v := .agg #[.slice s0 e.l0.length c0, .slice s1 e.l1.length c1, .slice s2 e.l2.length c2, .slice s3 e.l3.length c3, .slice s4 e.l4.length c4, .slice s5 e.l5.length c5, .slice s6 e.l6.length c6, .slice s7 e.l7.length c7]) (results_cell_row (P := Tryd.prog) Tryd.results19 _ _ (w.heap.size + 1) _ _ _ _ rfl k1 Tryd.underlying46 rfl (by rw [Tryd.infoLs]; rfl)) rfl ⟨rfl, LX⟩
/-- the lists of an effect by their number. -/
def Ef.lst (e : Ef) : Nat → List Int
  | 0 => e.l0
  | 1 => e.l1
  | 2 => e.l2
  | 3 => e.l3
  | 4 => e.l4
  | 5 => e.l5
  | 6 => e.l6
  | 7 => e.l7
  | _ => []
theorem Ef.lst_len {e : Ef} (h : kEf e) (i : Nat) : (e.lst i).length ≤ 1048576 := by
  obtain ⟨m0, m1, m2, m3, m4, m5, m6, m7⟩ := h
  match i with
  | 0 => exact m0
  | 1 => exact m1
  | 2 => exact m2
  | 3 => exact m3
  | 4 => exact m4
  | 5 => exact m5
  | 6 => exact m6
  | 7 => exact m7
  | n + 8 => simp [Ef.lst]
theorem InE.at {w : World} {B : Nat} {s0 s1 s2 s3 s4 s5 s6 s7 : Option Addr} {e : Ef} (h : InE w B s0 s1 s2 s3 s4 s5 s6 s7 e) (c0 c1 c2 c3 c4 c5 c6 c7 : Nat) {i : Nat} (hi : i < 8) :
    ∃ s c, (#[.slice s0 e.l0.length c0, .slice s1 e.l1.length c1, .slice s2 e.l2.length c2, .slice s3 e.l3.length c3, .slice s4 e.l4.length c4, .slice s5 e.l5.length c5, .slice s6 e.l6.length c6, .slice s7 e.l7.length c7] : Array Value)[i]? = some (.slice s (e.lst i).length c) ∧ Els 1 cInt w B s (e.lst i) := by
  match i, hi with
  | 0, _ => exact ⟨s0, c0, rfl, h.p0⟩
  | 1, _ => exact ⟨s1, c1, rfl, h.p1⟩
  | 2, _ => exact ⟨s2, c2, rfl, h.p2⟩
  | 3, _ => exact ⟨s3, c3, rfl, h.p3⟩
  | 4, _ => exact ⟨s4, c4, rfl, h.p4⟩
  | 5, _ => exact ⟨s5, c5, rfl, h.p5⟩
  | 6, _ => exact ⟨s6, c6, rfl, h.p6⟩
  | 7, _ => exact ⟨s7, c7, rfl, h.p7⟩
theorem idx_row (cs : Array Value) (i : Nat) (hi : i < 8) (s : Option Addr) (n c : Nat) (h : cs[i]? = some (.slice s n c)) (w : World) : (Instr.index 46 (.agg cs) (.int .i64 (i : Int))).run Tryd.prog w = .ok (.slice s n c) w := by
  have hz : (sizeOf 25).run Tryd.prog w = .ok 1 w := by
    have h1 : (Tryd.prog.info? 25).map (·.size) = some 1 := by kernel_rfl
    cases hq : Tryd.prog.info? 25 with
    | none => rw [hq] at h1; cases h1
    | some i =>
      rw [hq] at h1
      simp only [Option.map_some, Option.some.injEq] at h1
      simp [sizeOf, typeInfo, hq, h1]
  have px : (Go.part 25 cs i).run Tryd.prog w = .ok (.slice s n c) w := by
    simp [Go.part, isAgg, run_underlying Tryd.underlying25, h]
  simp [Instr.index, asIntOf, run_underlying Tryd.underlying46, hz, px, show (i : Int) < 8 by omega, hi]


def effSo : List Int := [1, 1, 1, 2, 2, 3, 3, 1]
theorem cell_laterE {W w1 : World} {b o : Nat} {v : Value} (hb : Below W.heap.size W w1) (h : W.cell? ⟨b, o, none⟩ = some v) : w1.cell? ⟨b, o, none⟩ = some v := (hb.cell (p := ⟨b, o, none⟩) (World.block_lt_of_cell? _ _ h)).trans h
def risN (A B C : List (ByteArray × Int)) (e : Ef) (k : Nat) : Bool := (List.range k).all fun j => risB (e.lst j) (pickL A B C (effSo.getD j 0)).length
theorem risN_succ (A B C : List (ByteArray × Int)) (e : Ef) (k : Nat) : risN A B C e (k + 1) = (risN A B C e k && risB (e.lst k) (pickL A B C (effSo.getD k 0)).length) := by simp [risN, List.range_succ]
theorem efB_risN (A B C : List (ByteArray × Int)) (e : Ef) : efB A B C e = (okR A B C && risN A B C e 8) := by
  have h8 : risN A B C e 8 = (risB e.l0 A.length && (risB e.l1 A.length && (risB e.l2 A.length && (risB e.l3 B.length && (risB e.l4 B.length && (risB e.l5 C.length && (risB e.l6 C.length && (risB e.l7 A.length && true)))))))) := rfl
  rw [h8]
  unfold efB
  cases okR A B C <;> cases risB e.l0 A.length <;> cases risB e.l1 A.length <;> cases risB e.l2 A.length <;> cases risB e.l3 B.length <;> cases risB e.l4 B.length <;> cases risB e.l5 C.length <;> cases risB e.l6 C.length <;> cases risB e.l7 A.length <;> rfl
theorem risN_false {A B C : List (ByteArray × Int)} {e : Ef} {k : Nat} (hk : k < 8) (h : risB (e.lst k) (pickL A B C (effSo.getD k 0)).length = false) : false = efB A B C e := by
  rw [efB_risN]
  have : risN A B C e 8 = false := by
    unfold risN
    rw [List.all_eq_false]
    exact ⟨k, by simpa using hk, by rw [h]; decide⟩
  rw [this]; simp
theorem pick_len {A B C : List (ByteArray × Int)} (h : A.length ≤ 12 ∧ B.length ≤ 12 ∧ C.length ≤ 12) (k : Nat) : (pickL A B C (effSo.getD k 0)).length ≤ 12 := by
  unfold pickL
  by_cases h1 : effSo.getD k 0 = 1
  · rw [if_pos h1]; exact h.1
  rw [if_neg h1]
  by_cases h2 : effSo.getD k 0 = 2
  · rw [if_pos h2]; exact h.2.1
  rw [if_neg h2]
  by_cases h3 : effSo.getD k 0 = 3
  · rw [if_pos h3]; exact h.2.2
  rw [if_neg h3]
  simp
set_option maxRecDepth 100000 in
set_option maxHeartbeats 8000000 in
theorem implEffectOk_any (z1 z2 z3 : Option Addr) (y1 y2 y3 : Nat) (A B C : List (ByteArray × Int)) (s0 s1 s2 s3 s4 s5 s6 s7 : Option Addr) (c0 c1 c2 c3 c4 c5 c6 c7 : Nat) (e : Ef) (B0 : Nat) (w : World) (hA : Decls w z1 A) (hB : Decls w z2 B) (hC : Decls w z3 C) (nm : ∀ i, i < (A ++ B ++ C).length → (dAt (A ++ B ++ C) i).1.size ≤ maxLen) (n1 : A.length ≤ 1048576) (n2 : B.length ≤ 1048576) (n3 : C.length ≤ 1048576) (hE : InE w B0 s0 s1 s2 s3 s4 s5 s6 s7 e) (hk : kEf e) (hG : ∀ i : Nat, i < 8 → w.cell? ⟨0, i, none⟩ = some (.int .i64 (effSo.getD i 0))) :
    Calls Tryd.prog 9 #[.agg #[.slice z1 A.length y1, .slice z2 B.length y2, .slice z3 C.length y3], .agg #[.slice s0 e.l0.length c0, .slice s1 e.l1.length c1, .slice s2 e.l2.length c2, .slice s3 e.l3.length c3, .slice s4 e.l4.length c4, .slice s5 e.l5.length c5, .slice s6 e.l6.length c6, .slice s7 e.l7.length c7, .bool e.sp, .bool e.kl]] w fun z w' => z = .returned (.bool (efB A B C e)) ∧ Below w.heap.size w w' := by
  obtain ⟨k0, k1, LX⟩ := blkTwoE w #[.slice z1 A.length y1, .slice z2 B.length y2, .slice z3 C.length y3] #[.slice s0 e.l0.length c0, .slice s1 e.l1.length c1, .slice s2 e.l2.length c2, .slice s3 e.l3.length c3, .slice s4 e.l4.length c4, .slice s5 e.l5.length c5, .slice s6 e.l6.length c6, .slice s7 e.l7.length c7, .bool e.sp, .bool e.kl] 33 35
  obtain ⟨x0, x1, x2, x3⟩ := k0.three
  have HE : Hid (InE w B0 s0 s1 s2 s3 s4 s5 s6 s7 e) := hE
  have HK := Hid.mk2 hk
  have ha := Hid.mk2 (hA.later LX)
  have hb := Hid.mk2 (hB.later LX)
  have hc := Hid.mk2 (hC.later LX)
  have NM := Hid.mk2 nm
  have HG : Hid (∀ i : Nat, i < 8 → w.cell? ⟨0, i, none⟩ = some (.int .i64 (effSo.getD i 0))) := hG
  clear hE hk nm hG
  go_enter Tryd.func9, Tryd.ntmps9
  go_wp2_with fail
  refine (implRegOk_any z1 z2 z3 y1 y2 y3 A B C _ ha.out hb.out hc.out NM.out n1 n2 n3).mono ?_
  rintro z w1 ⟨rfl, hb1⟩
  replace LX := bl_trans LX hb1
  replace k0 := k0.later hb1
  replace k1 := k1.later hb1
  clear x0 x1 x2 x3 hb1 ha hb hc NM
  cases hr : okR A B C
  · have hF : Hid (false = efB A B C e) := by show _ = _; rw [efB_risN, hr]; rfl
    clear hr k0 k1 HE
    go_wp2_with fail
    go_ret
    exact ⟨congrArg (fun b => Ending.returned (.bool b)) hF.out, LX⟩
  have LN := okR_lens hr
  have HR := Hid.mk2 hr
  have LN := Hid.mk2 LN
  obtain ⟨x0, x1, x2, x3, x4, x5, x6, x7, x8, x9, xf⟩ := k1.ten
  clear hr
  go_wp2_with fail
  refine (listsOf_any s0 s1 s2 s3 s4 s5 s6 s7 c0 c1 c2 c3 c4 c5 c6 c7 e _).mono ?_
  rintro z wh ⟨rfl, hb1⟩
  replace LX := bl_trans LX hb1
  replace k0 := k0.later hb1
  have K0 := Hid.mk2 k0
  have LC := Hid.mk2 LX
  have ltw : Hid (w.heap.size < wh.heap.size) := k0.lt
  clear hb1 x0 x1 x2 x3 x4 x5 x6 x7 x8 x9 xf k0 k1 LX
  go_wp2_with fail
  go_loopw [13] (fun v wr => ∃ k : Nat, k ≤ 8 ∧ v = .int .i64 k ∧ Hid (risN A B C e k = true) ∧ Hid (Below wh.heap.size wh wr)) (fun v _ => 8 - (intOf v).toNat)
  case atStart => exact ⟨0, by omega, rfl, (show risN A B C e 0 = true from rfl), Below.refl _ _⟩
  case round =>
    obtain ⟨k, hk, rfl, hs, hb⟩ := hrel
    by_cases h8 : k < 8
    · obtain ⟨sA, cA, r1, E1⟩ := HE.out.at c0 c1 c2 c3 c4 c5 c6 c7 h8
      have hix := idx_row _ k h8 _ _ _ r1
      have lL := Ef.lst_len HK.out k
      have lp := pick_len LN.out k
      have E1 : Hid (Els 1 cInt wr 0 sA (e.lst k)) := (E1.drop cInt_drops (Nat.zero_le _)).later cInt_keeps (bl_trans LC.out hb.out)
      have HGc := cell_laterE (bl_trans LC.out hb.out) (HG.out k h8)
      have HF : Hid (risB (e.lst k) (pickL A B C (effSo.getD k 0)).length = false → false = efB A B C e) := fun h => risN_false h8 h
      have HT : Hid (risB (e.lst k) (pickL A B C (effSo.getD k 0)).length = true → risN A B C e (k + 1) = true) := fun h => by rw [risN_succ, hs.out, h]; rfl
      have HA := Hid.mk2 (hA.later (bl_trans LC.out hb.out))
      have HB := Hid.mk2 (hB.later (bl_trans LC.out hb.out))
      have HC := Hid.mk2 (hC.later (bl_trans LC.out hb.out))
      have K0 : Hid (Blk wr w.heap.size #[.slice z1 A.length y1, .slice z2 B.length y2, .slice z3 C.length y3] 33) := K0.out.later hb.out
      have ltw : Hid (w.heap.size < wr.heap.size) := K0.out.lt
      have i8 : decide ((k : Int) < 8) = true := by simp; omega
      have i8' : (k : Int) < 8 := by omega
      clear r1 hs
      generalize e.lst k = LL at hix lL E1 HF HT
      generalize effSo.getD k 0 = so at lp HGc HF HT
      go_wp2_with fail
      clear hix
      go_cut [7] (fun p0 wx => ∃ kz : Nat, p0 = .pointer (some ⟨kz, 0, none⟩) ∧ Blk wx kz (tch (setL LL (pickL A B C so).length)) 49 ∧ Below wr.heap.size wr wx)
      case first =>
        clear HF HT
        refine wp_region_held_drew (S := (fun w' => Blk w' w.heap.size #[.slice z1 A.length y1, .slice z2 B.length y2, .slice z3 C.length y3] 33 ∧ w'.cell? ⟨0, k, none⟩ = some (.int .i64 so))) (by kernel_rfl) ?_ (fun hHeld => ?_)
        · exact ⟨K0.out, HGc⟩
        have LX : Hid (Below wr.heap.size wr wr) := Below.refl _ _
        refine wpAnyH_one (i := 0) (d := 17) (v := ?_) rfl rfl (by kernel_rfl) (by kernel_rfl) (by kernel_rfl) (fun _ _ _ h => h) (by rfl) (by assumption) ?_ ?_
        rotate_left 1
        · intro w hSw; (try dsimp only at hSw); go_simp <;> with_reducible rfl
        simp only [List.foldl, Act.put, List.setIfInBounds_toArray, List.set_cons_zero, List.set_cons_succ]
        refine wpAnyH_one (i := 1) (d := 18) (v := ?_) rfl rfl (by kernel_rfl) (by kernel_rfl) (by kernel_rfl) (fun _ _ _ h => h) (by rfl) (by assumption) ?_ ?_
        rotate_left 1
        · intro w hSw; (try dsimp only at hSw); obtain ⟨q0, q1⟩ := hSw; obtain ⟨x0, x1, x2, x3⟩ := q0.three; go_simp <;> with_reducible rfl
        simp only [List.foldl, Act.put, List.setIfInBounds_toArray, List.set_cons_zero, List.set_cons_succ]
        refine wpAnyH_one (i := 2) (d := 19) (v := ?_) rfl rfl (by kernel_rfl) (by kernel_rfl) (by kernel_rfl) (fun _ _ _ h => h) (by rfl) (by assumption) ?_ ?_
        rotate_left 1
        · intro w hSw; (try dsimp only at hSw); go_simp <;> with_reducible rfl
        simp only [List.foldl, Act.put, List.setIfInBounds_toArray, List.set_cons_zero, List.set_cons_succ]
        refine wpAnyH_one (i := 3) (d := 20) (v := ?_) rfl rfl (by kernel_rfl) (by kernel_rfl) (by kernel_rfl) (fun _ _ _ h => h) (by rfl) (by assumption) ?_ ?_
        rotate_left 1
        · intro w hSw; (try dsimp only at hSw); go_simp <;> with_reducible rfl
        simp only [List.foldl, Act.put, List.setIfInBounds_toArray, List.set_cons_zero, List.set_cons_succ]
        refine wpAnyH_one (i := 4) (d := 21) (v := ?_) rfl rfl (by kernel_rfl) (by kernel_rfl) (by kernel_rfl) (fun _ _ _ h => h) (by rfl) (by assumption) ?_ ?_
        rotate_left 1
        · intro w hSw; (try dsimp only at hSw); obtain ⟨q0, q1⟩ := hSw; go_simp <;> with_reducible rfl
        simp only [List.foldl, Act.put, List.setIfInBounds_toArray, List.set_cons_zero, List.set_cons_succ]
        refine wpAnyH_ready (rs := [5, 8]) (by kernel_rfl) (by simp) ?_
        refine AllReadyH.cons rfl (fun K hK => ?_) ?_
        · skip
          go_simp
          refine (declsOf_any z1 z2 z3 y1 y2 y3 A B C so _ (HA.out.later (bl_drew LX.out)) (HB.out.later (bl_drew LX.out)) (HC.out.later (bl_drew LX.out))).mono ?_
          rintro z g1 ⟨⟨sD, cD, rfl, _⟩, hb0⟩
          have hc : Below wr.heap.size wr g1 := bl_trans (bl_drew (Below.refl _ _)) hb0
          have LX : Hid (Below wr.heap.size wr g1) := bl_trans LX.out hc
          have HGc := cell_laterE hc HGc
          have K0 : Hid (Blk g1 w.heap.size #[.slice z1 A.length y1, .slice z2 B.length y2, .slice z3 C.length y3] 33) := K0.out.later hc
          have E1 : Hid (Els 1 cInt g1 0 sA LL) := E1.out.later cInt_keeps hc
          clear hb0 hc
          refine hK.out _ _ ?_ (fun hHeld => ?_)
          · exact ⟨K0.out, HGc⟩
          clear hK K
          try simp only [List.foldl, Act.put, List.setIfInBounds_toArray, List.set_cons_zero, List.set_cons_succ]
          refine wpAnyH_one (i := 6) (d := 23) (v := ?_) rfl rfl (by kernel_rfl) (by kernel_rfl) (by kernel_rfl) (fun _ _ _ h => h) (by rfl) (by assumption) ?_ ?_
          rotate_left 1
          · intro w hSw; (try dsimp only at hSw); go_simp <;> with_reducible rfl
          simp only [List.foldl, Act.put, List.setIfInBounds_toArray, List.set_cons_zero, List.set_cons_succ]
          refine wpAnyH_ready (rs := [7, 8]) (by kernel_rfl) (by simp) ?_
          refine AllReadyH.cons rfl (fun K hK => ?_) ?_
          · skip
            go_simp
            refine (setOf_any sA cA LL (pickL A B C so).length 0 _ E1.out lL lp).mono ?_
            rintro z g2 ⟨rfl, hb0⟩
            have hc : Below g1.heap.size g1 g2 := hb0
            have LX : Hid (Below wr.heap.size wr g2) := bl_trans LX.out hc
            have HGc := cell_laterE hc HGc
            have K0 : Hid (Blk g2 w.heap.size #[.slice z1 A.length y1, .slice z2 B.length y2, .slice z3 C.length y3] 33) := K0.out.later hc
            have E1 : Hid (Els 1 cInt g2 0 sA LL) := E1.out.later cInt_keeps hc
            clear hb0 hc
            refine hK.out _ _ ?_ (fun hHeld => ?_)
            · exact ⟨K0.out, HGc⟩
            clear hK K
            try simp only [List.foldl, Act.put, List.setIfInBounds_toArray, List.set_cons_zero, List.set_cons_succ]
            refine wpAnyH_ready (rs := [8]) (by kernel_rfl) (by simp) ?_
            refine AllReadyH.cons rfl (fun K hK => ?_) AllReadyH.nil
            go_simp
            have hg : Below g2.heap.size g2 (g2.alloc (.cells #[.bool false, .bool false, .bool false, .bool false, .bool false, .bool false, .bool false, .bool false, .bool false, .bool false, .bool false, .bool false] 49)) := bl_alloc (Below.refl _ _) _
            have KZ : Hid (Blk (g2.alloc (.cells #[.bool false, .bool false, .bool false, .bool false, .bool false, .bool false, .bool false, .bool false, .bool false, .bool false, .bool false, .bool false] 49)) g2.heap.size #[.bool false, .bool false, .bool false, .bool false, .bool false, .bool false, .bool false, .bool false, .bool false, .bool false, .bool false, .bool false] 49) := Blk.new _ _ _
            have hxs : wr.heap.size ≤ g2.heap.size := LX.out.size
            have LX : Hid (Below wr.heap.size wr (g2.alloc (.cells #[.bool false, .bool false, .bool false, .bool false, .bool false, .bool false, .bool false, .bool false, .bool false, .bool false, .bool false, .bool false] 49))) := bl_trans LX.out hg
            have HGc := cell_laterE hg HGc
            have K0 : Hid (Blk (g2.alloc (.cells #[.bool false, .bool false, .bool false, .bool false, .bool false, .bool false, .bool false, .bool false, .bool false, .bool false, .bool false, .bool false] 49)) w.heap.size #[.slice z1 A.length y1, .slice z2 B.length y2, .slice z3 C.length y3] 33) := K0.out.later hg
            have E1 : Hid (Els 1 cInt (g2.alloc (.cells #[.bool false, .bool false, .bool false, .bool false, .bool false, .bool false, .bool false, .bool false, .bool false, .bool false, .bool false, .bool false] 49)) 0 sA LL) := E1.out.later cInt_keeps hg
            clear hg
            refine hK.out _ _ ?_ (fun hHeld => ?_)
            · exact ⟨K0.out, HGc⟩
            clear hK K
            try simp only [List.foldl, Act.put, List.setIfInBounds_toArray, List.set_cons_zero, List.set_cons_succ]
            generalize hGe : (g2.alloc (.cells #[.bool false, .bool false, .bool false, .bool false, .bool false, .bool false, .bool false, .bool false, .bool false, .bool false, .bool false, .bool false] 49)) = g3 at KZ hHeld LX K0 E1 HGc ⊢
            obtain ⟨kz, hkz⟩ : ∃ k, g2.heap.size = k := ⟨_, rfl⟩
            have HKZ : Hid (wr.heap.size ≤ kz) := Nat.le_trans hxs (Nat.le_of_eq hkz)
            clear hxs
            rw [hkz] at KZ
            try rw [hkz]
            clear hGe hkz
            refine wpAnyH_ready (rs := [9]) (by kernel_rfl) (by simp) ?_
            refine AllReadyH.cons rfl (fun K hK => ?_) AllReadyH.nil
            have hlx := HKZ.out
            refine wp_store_row 49 (.tmp 7) (.tmp 24) rfl kz (tch (setL LL (pickL A B C so).length)) rfl rfl 49 _ KZ.out (by rw [Tryd.infoNS, tch_size, setL_len]) (by rw [tch_size, setL_len]; rfl) (tch_one _) ?_
            have LX : Hid (Below wr.heap.size wr (g3.setRow kz (tch (setL LL (pickL A B C so).length)))) := below_setRow LX.out hlx _
            have KZ : Hid (Blk (g3.setRow kz (tch (setL LL (pickL A B C so).length))) kz (tch (setL LL (pickL A B C so).length)) 49) := setRow_heap _ _ _ _ _ _ KZ.out
            have K0 : Hid (Blk (g3.setRow kz (tch (setL LL (pickL A B C so).length))) w.heap.size #[.slice z1 A.length y1, .slice z2 B.length y2, .slice z3 C.length y3] 33) := (setRow_other _ _ _ _ (by have := ltw.out; omega)).trans K0.out
            have HGc := (cell_setRow_other g3 kz (tch (setL LL (pickL A B C so).length)) ⟨0, k, none⟩ (by have := ltw.out; show ¬ 0 = kz; omega)).trans HGc
            refine hK.out _ _ ?_ (fun hHeld => ?_)
            · exact ⟨K0.out, HGc⟩
            clear hK K
            try simp only [List.foldl, Act.put, List.setIfInBounds_toArray, List.set_cons_zero, List.set_cons_succ]
            refine wpAnyH_done (by kernel_rfl) ?_ _
            go_wp2_with fail
            go_meet
            exact ⟨kz, rfl, KZ.out, LX.out⟩
          refine AllReadyH.cons rfl (fun K hK => ?_) AllReadyH.nil
          go_simp
          have hg : Below g1.heap.size g1 (g1.alloc (.cells #[.bool false, .bool false, .bool false, .bool false, .bool false, .bool false, .bool false, .bool false, .bool false, .bool false, .bool false, .bool false] 49)) := bl_alloc (Below.refl _ _) _
          have KZ : Hid (Blk (g1.alloc (.cells #[.bool false, .bool false, .bool false, .bool false, .bool false, .bool false, .bool false, .bool false, .bool false, .bool false, .bool false, .bool false] 49)) g1.heap.size #[.bool false, .bool false, .bool false, .bool false, .bool false, .bool false, .bool false, .bool false, .bool false, .bool false, .bool false, .bool false] 49) := Blk.new _ _ _
          have hxs : wr.heap.size ≤ g1.heap.size := LX.out.size
          have LX : Hid (Below wr.heap.size wr (g1.alloc (.cells #[.bool false, .bool false, .bool false, .bool false, .bool false, .bool false, .bool false, .bool false, .bool false, .bool false, .bool false, .bool false] 49))) := bl_trans LX.out hg
          have HGc := cell_laterE hg HGc
          have K0 : Hid (Blk (g1.alloc (.cells #[.bool false, .bool false, .bool false, .bool false, .bool false, .bool false, .bool false, .bool false, .bool false, .bool false, .bool false, .bool false] 49)) w.heap.size #[.slice z1 A.length y1, .slice z2 B.length y2, .slice z3 C.length y3] 33) := K0.out.later hg
          have E1 : Hid (Els 1 cInt (g1.alloc (.cells #[.bool false, .bool false, .bool false, .bool false, .bool false, .bool false, .bool false, .bool false, .bool false, .bool false, .bool false, .bool false] 49)) 0 sA LL) := E1.out.later cInt_keeps hg
          clear hg
          refine hK.out _ _ ?_ (fun hHeld => ?_)
          · exact ⟨K0.out, HGc⟩
          clear hK K
          try simp only [List.foldl, Act.put, List.setIfInBounds_toArray, List.set_cons_zero, List.set_cons_succ]
          generalize hGe : (g1.alloc (.cells #[.bool false, .bool false, .bool false, .bool false, .bool false, .bool false, .bool false, .bool false, .bool false, .bool false, .bool false, .bool false] 49)) = g4 at KZ hHeld LX K0 E1 HGc ⊢
          obtain ⟨kz, hkz⟩ : ∃ k, g1.heap.size = k := ⟨_, rfl⟩
          have HKZ : Hid (wr.heap.size ≤ kz) := Nat.le_trans hxs (Nat.le_of_eq hkz)
          clear hxs
          rw [hkz] at KZ
          try rw [hkz]
          clear hGe hkz
          refine wpAnyH_ready (rs := [7]) (by kernel_rfl) (by simp) ?_
          refine AllReadyH.cons rfl (fun K hK => ?_) AllReadyH.nil
          go_simp
          refine (setOf_any sA cA LL (pickL A B C so).length 0 _ E1.out lL lp).mono ?_
          rintro z g5 ⟨rfl, hb0⟩
          have hc : Below g4.heap.size g4 g5 := hb0
          have LX : Hid (Below wr.heap.size wr g5) := bl_trans LX.out hc
          have HGc := cell_laterE hc HGc
          have K0 : Hid (Blk g5 w.heap.size #[.slice z1 A.length y1, .slice z2 B.length y2, .slice z3 C.length y3] 33) := K0.out.later hc
          have E1 : Hid (Els 1 cInt g5 0 sA LL) := E1.out.later cInt_keeps hc
          have KZ : Hid (Blk g5 kz #[.bool false, .bool false, .bool false, .bool false, .bool false, .bool false, .bool false, .bool false, .bool false, .bool false, .bool false, .bool false] 49) := KZ.out.later hc
          clear hb0 hc
          refine hK.out _ _ ?_ (fun hHeld => ?_)
          · exact ⟨K0.out, HGc⟩
          clear hK K
          try simp only [List.foldl, Act.put, List.setIfInBounds_toArray, List.set_cons_zero, List.set_cons_succ]
          refine wpAnyH_ready (rs := [9]) (by kernel_rfl) (by simp) ?_
          refine AllReadyH.cons rfl (fun K hK => ?_) AllReadyH.nil
          have hlx := HKZ.out
          refine wp_store_row 49 (.tmp 7) (.tmp 24) rfl kz (tch (setL LL (pickL A B C so).length)) rfl rfl 49 _ KZ.out (by rw [Tryd.infoNS, tch_size, setL_len]) (by rw [tch_size, setL_len]; rfl) (tch_one _) ?_
          have LX : Hid (Below wr.heap.size wr (g5.setRow kz (tch (setL LL (pickL A B C so).length)))) := below_setRow LX.out hlx _
          have KZ : Hid (Blk (g5.setRow kz (tch (setL LL (pickL A B C so).length))) kz (tch (setL LL (pickL A B C so).length)) 49) := setRow_heap _ _ _ _ _ _ KZ.out
          have K0 : Hid (Blk (g5.setRow kz (tch (setL LL (pickL A B C so).length))) w.heap.size #[.slice z1 A.length y1, .slice z2 B.length y2, .slice z3 C.length y3] 33) := (setRow_other _ _ _ _ (by have := ltw.out; omega)).trans K0.out
          have HGc := (cell_setRow_other g5 kz (tch (setL LL (pickL A B C so).length)) ⟨0, k, none⟩ (by have := ltw.out; show ¬ 0 = kz; omega)).trans HGc
          refine hK.out _ _ ?_ (fun hHeld => ?_)
          · exact ⟨K0.out, HGc⟩
          clear hK K
          try simp only [List.foldl, Act.put, List.setIfInBounds_toArray, List.set_cons_zero, List.set_cons_succ]
          refine wpAnyH_done (by kernel_rfl) ?_ _
          go_wp2_with fail
          go_meet
          exact ⟨kz, rfl, KZ.out, LX.out⟩
        refine AllReadyH.cons rfl (fun K hK => ?_) AllReadyH.nil
        go_simp
        have hg : Below wr.heap.size wr (wr.alloc (.cells #[.bool false, .bool false, .bool false, .bool false, .bool false, .bool false, .bool false, .bool false, .bool false, .bool false, .bool false, .bool false] 49)).drew := bl_drew (bl_alloc (Below.refl _ _) _)
        have KZ : Hid (Blk (wr.alloc (.cells #[.bool false, .bool false, .bool false, .bool false, .bool false, .bool false, .bool false, .bool false, .bool false, .bool false, .bool false, .bool false] 49)).drew wr.heap.size #[.bool false, .bool false, .bool false, .bool false, .bool false, .bool false, .bool false, .bool false, .bool false, .bool false, .bool false, .bool false] 49) := Blk.new _ _ _
        have hxs : wr.heap.size ≤ wr.heap.size := LX.out.size
        have LX : Hid (Below wr.heap.size wr (wr.alloc (.cells #[.bool false, .bool false, .bool false, .bool false, .bool false, .bool false, .bool false, .bool false, .bool false, .bool false, .bool false, .bool false] 49)).drew) := bl_trans LX.out hg
        have HGc := cell_laterE hg HGc
        have K0 : Hid (Blk (wr.alloc (.cells #[.bool false, .bool false, .bool false, .bool false, .bool false, .bool false, .bool false, .bool false, .bool false, .bool false, .bool false, .bool false] 49)).drew w.heap.size #[.slice z1 A.length y1, .slice z2 B.length y2, .slice z3 C.length y3] 33) := K0.out.later hg
        have E1 : Hid (Els 1 cInt (wr.alloc (.cells #[.bool false, .bool false, .bool false, .bool false, .bool false, .bool false, .bool false, .bool false, .bool false, .bool false, .bool false, .bool false] 49)).drew 0 sA LL) := E1.out.later cInt_keeps hg
        clear hg
        refine hK.out _ _ ?_ (fun hHeld => ?_)
        · exact ⟨K0.out, HGc⟩
        clear hK K
        try simp only [List.foldl, Act.put, List.setIfInBounds_toArray, List.set_cons_zero, List.set_cons_succ]
        generalize hGe : (wr.alloc (.cells #[.bool false, .bool false, .bool false, .bool false, .bool false, .bool false, .bool false, .bool false, .bool false, .bool false, .bool false, .bool false] 49)).drew = g6 at KZ hHeld LX K0 E1 HGc ⊢
        obtain ⟨kz, hkz⟩ : ∃ k, wr.heap.size = k := ⟨_, rfl⟩
        have HKZ : Hid (wr.heap.size ≤ kz) := Nat.le_trans hxs (Nat.le_of_eq hkz)
        clear hxs
        rw [hkz] at KZ
        try rw [hkz]
        clear hGe hkz
        refine wpAnyH_ready (rs := [5]) (by kernel_rfl) (by simp) ?_
        refine AllReadyH.cons rfl (fun K hK => ?_) AllReadyH.nil
        go_simp
        refine (declsOf_any z1 z2 z3 y1 y2 y3 A B C so _ (HA.out.later LX.out) (HB.out.later LX.out) (HC.out.later LX.out)).mono ?_
        rintro z g7 ⟨⟨sD, cD, rfl, _⟩, hb0⟩
        have hc : Below g6.heap.size g6 g7 := hb0
        have LX : Hid (Below wr.heap.size wr g7) := bl_trans LX.out hc
        have HGc := cell_laterE hc HGc
        have K0 : Hid (Blk g7 w.heap.size #[.slice z1 A.length y1, .slice z2 B.length y2, .slice z3 C.length y3] 33) := K0.out.later hc
        have E1 : Hid (Els 1 cInt g7 0 sA LL) := E1.out.later cInt_keeps hc
        have KZ : Hid (Blk g7 kz #[.bool false, .bool false, .bool false, .bool false, .bool false, .bool false, .bool false, .bool false, .bool false, .bool false, .bool false, .bool false] 49) := KZ.out.later hc
        clear hb0 hc
        refine hK.out _ _ ?_ (fun hHeld => ?_)
        · exact ⟨K0.out, HGc⟩
        clear hK K
        try simp only [List.foldl, Act.put, List.setIfInBounds_toArray, List.set_cons_zero, List.set_cons_succ]
        refine wpAnyH_one (i := 6) (d := 23) (v := ?_) rfl rfl (by kernel_rfl) (by kernel_rfl) (by kernel_rfl) (fun _ _ _ h => h) (by rfl) (by assumption) ?_ ?_
        rotate_left 1
        · intro w hSw; (try dsimp only at hSw); go_simp <;> with_reducible rfl
        simp only [List.foldl, Act.put, List.setIfInBounds_toArray, List.set_cons_zero, List.set_cons_succ]
        refine wpAnyH_ready (rs := [7]) (by kernel_rfl) (by simp) ?_
        refine AllReadyH.cons rfl (fun K hK => ?_) AllReadyH.nil
        go_simp
        refine (setOf_any sA cA LL (pickL A B C so).length 0 _ E1.out lL lp).mono ?_
        rintro z g8 ⟨rfl, hb0⟩
        have hc : Below g7.heap.size g7 g8 := hb0
        have LX : Hid (Below wr.heap.size wr g8) := bl_trans LX.out hc
        have HGc := cell_laterE hc HGc
        have K0 : Hid (Blk g8 w.heap.size #[.slice z1 A.length y1, .slice z2 B.length y2, .slice z3 C.length y3] 33) := K0.out.later hc
        have E1 : Hid (Els 1 cInt g8 0 sA LL) := E1.out.later cInt_keeps hc
        have KZ : Hid (Blk g8 kz #[.bool false, .bool false, .bool false, .bool false, .bool false, .bool false, .bool false, .bool false, .bool false, .bool false, .bool false, .bool false] 49) := KZ.out.later hc
        clear hb0 hc
        refine hK.out _ _ ?_ (fun hHeld => ?_)
        · exact ⟨K0.out, HGc⟩
        clear hK K
        try simp only [List.foldl, Act.put, List.setIfInBounds_toArray, List.set_cons_zero, List.set_cons_succ]
        refine wpAnyH_ready (rs := [9]) (by kernel_rfl) (by simp) ?_
        refine AllReadyH.cons rfl (fun K hK => ?_) AllReadyH.nil
        have hlx := HKZ.out
        refine wp_store_row 49 (.tmp 7) (.tmp 24) rfl kz (tch (setL LL (pickL A B C so).length)) rfl rfl 49 _ KZ.out (by rw [Tryd.infoNS, tch_size, setL_len]) (by rw [tch_size, setL_len]; rfl) (tch_one _) ?_
        have LX : Hid (Below wr.heap.size wr (g8.setRow kz (tch (setL LL (pickL A B C so).length)))) := below_setRow LX.out hlx _
        have KZ : Hid (Blk (g8.setRow kz (tch (setL LL (pickL A B C so).length))) kz (tch (setL LL (pickL A B C so).length)) 49) := setRow_heap _ _ _ _ _ _ KZ.out
        have K0 : Hid (Blk (g8.setRow kz (tch (setL LL (pickL A B C so).length))) w.heap.size #[.slice z1 A.length y1, .slice z2 B.length y2, .slice z3 C.length y3] 33) := (setRow_other _ _ _ _ (by have := ltw.out; omega)).trans K0.out
        have HGc := (cell_setRow_other g8 kz (tch (setL LL (pickL A B C so).length)) ⟨0, k, none⟩ (by have := ltw.out; show ¬ 0 = kz; omega)).trans HGc
        refine hK.out _ _ ?_ (fun hHeld => ?_)
        · exact ⟨K0.out, HGc⟩
        clear hK K
        try simp only [List.foldl, Act.put, List.setIfInBounds_toArray, List.set_cons_zero, List.set_cons_succ]
        refine wpAnyH_done (by kernel_rfl) ?_ _
        go_wp2_with fail
        go_meet
        exact ⟨kz, rfl, KZ.out, LX.out⟩
      case rest =>
        obtain ⟨kz, rfl, KZ, hwx⟩ := hcut
        have hldz := load_ns _ (setL_len _ _) _ _ KZ
        have hb2 : Hid (Below wh.heap.size wh wc) := bl_trans hb.out hwx
        have E2 : Hid (Els 1 cInt wc 0 sA LL) := E1.out.later cInt_keeps hwx
        clear E1 HA HB HC K0 ltw HGc KZ hwx hb
        go_wp2_with (refine wpList_load_run rfl 49 (.tmp 7) rfl _ rfl _ hldz ?_)
        clear hldz
        refine (numbers_any _ (setL_len _ _) _).mono ?_
        rintro z w5 ⟨⟨s9, c9, rfl, hO⟩, hb5⟩
        have O5 := Hid.mk2 hO
        have l5 := numK_len (setL LL (pickL A B C so).length) 12
        have HT2 := Hid.mk2 (told_again LL (pickL A B C so).length lp)
        clear hO
        generalize hN : numK (setL LL (pickL A B C so).length) 12 = NN at O5 l5 HT2 ⊢
        clear hN
        go_wp2_with fail
        refine (equalI_any s9 sA c9 cA NN LL _ _ w5 O5.out.els (E2.out.later cInt_keeps hb5) (by omega) lL).mono ?_
        rintro z w6 ⟨rfl, hb6⟩
        have LD : Hid (Below wh.heap.size wh w6) := bl_trans (bl_trans hb2.out hb5) hb6
        rw [HT2.out]
        clear O5 hb5 hb6 E2 hb2 HT2
        cases hcq : risB LL (pickL A B C so).length
        · have HFF := Hid.mk2 (HF.out hcq)
          clear HF HT hcq
          go_wp2_with fail
          go_ret
          exact ⟨congrArg (fun b => Ending.returned (.bool b)) HFF.out, bl_trans LC.out LD.out⟩
        · have hN : Hid (risN A B C e (k + 1) = true) := HT.out hcq
          clear HF HT hcq
          go_wp2_with fail
          go_roundw
          case rel => exact ⟨k + 1, by omega, by go_num, hN, LD⟩
          case measure => simp [intOf]; omega
    · have i8 : decide ((k : Int) < 8) = false := by simp; omega
      have HTT : Hid (true = efB A B C e) := by show _ = _; rw [efB_risN, HR.out, show 8 = k by omega, hs.out]; rfl
      clear hs
      go_wp2_with fail
      go_ret
      exact ⟨congrArg (fun b => Ending.returned (.bool b)) HTT.out, bl_trans LC.out hb.out⟩
end Go.Proofs.YtgcfhoojjgcpiaaDoor
