import Derived.Test.YtpfamdpgcbpiaaaYe
namespace Go.Proofs.Ytpfamdpgcbpiaaa
open Go.RowKit Go.Maps Go.WideMaps
set_option linter.unusedVariables false
set_option linter.unusedSimpArgs false
set_option maxRecDepth 100000

set_option maxHeartbeats 8000000 in
theorem names_any (sl : Option Addr) (len cap : Nat) (w : World) (hC : Code w sl len) :
    Calls Try.prog 4 #[.slice sl len cap] w fun e w' => e = .returned (.bool true) ∧ Below w.heap.size w w' := by
  have hal := alloc_old
  have haf := alloc_oldf
  by_cases hl : len ≤ 1048576
  · have hb : decide (1048576 < (len : Int)) = false := by simp; omega
    go_enter Try.func4, Try.ntmps4
    go_wp2_with fail
    refine (big_any sl len cap _).mono ?_
    rintro e w' ⟨rfl, h0⟩
    obtain rfl := h0.symm
    rw [hb]
    go_wp2_with fail
    refine (drawReg_any sl len cap _ hl hC).mono ?_
    rintro e w1 ⟨p1, p2, s3, c1, c2, c3, A, B, D, rfl, dA, dB, dD, ⟨nA, nB, nD⟩, ⟨lA, lB, lD⟩, hs3, L1⟩
    have nm := nms3 nA nB nD
    have LB : Below w1.heap.size w1 (w1.alloc (.cells #[.slice (some ⟨p1, 0, none⟩) A.length c1, .slice (some ⟨p2, 0, none⟩) B.length c2, .slice s3 D.length c3] 34)) := bl_alloc (Below.refl _ _) _
    have KR := Blk.new w1 #[.slice (some ⟨p1, 0, none⟩) A.length c1, .slice (some ⟨p2, 0, none⟩) B.length c2, .slice s3 D.length c3] 34
    have L := bl_trans L1 LB
    replace dA := dA.later LB
    replace dB := dB.later LB
    replace dD := dD.later LB
    obtain ⟨x0, x1, x2, x3⟩ := KR.three'
    clear hC hb L1 LB
    go_wp2_with fail
    generalize hX : w1.alloc (.cells #[.slice (some ⟨p1, 0, none⟩) A.length c1, .slice (some ⟨p2, 0, none⟩) B.length c2, .slice s3 D.length c3] 34) = X at KR L dA dB dD x0 x1 x2 x3 ⊢
    generalize hrb : w1.heap.size = rb at KR x0 x1 x2 x3 ⊢
    clear hX hrb
    refine (implRegOk_any _ _ _ _ _ _ A B D _ dA dB dD nm (by omega) (by omega) (by omega)).mono ?_
    rintro e w2 ⟨rfl, hb2⟩
    replace L := bl_trans L hb2
    replace KR := KR.later hb2
    replace dA := dA.later hb2
    replace dB := dB.later hb2
    replace dD := dD.later hb2
    clear x0 x1 x2 x3 hb2
    obtain ⟨x0, x1, x2, x3⟩ := KR.three'
    go_wp2_with fail
    refine (specReg_draw p1 p2 c1 c2 c3 s3 A B D _ dA dB dD hs3).mono ?_
    rintro e w3 ⟨rfl, hb3⟩
    replace L := bl_trans L hb3
    replace KR := KR.later hb3
    replace dA := dA.later hb3
    replace dB := dB.later hb3
    replace dD := dD.later hb3
    clear x0 x1 x2 x3 hb3 hs3
    obtain ⟨x0, x1, x2, x3⟩ := KR.three'
    have mA : A.length ≤ 1048576 := by omega
    have mB : B.length ≤ 1048576 := by omega
    have mD : D.length ≤ 1048576 := by omega
    cases hok : okR A B D
    · go_wp2_with fail
      go_loopw [5] (fun i wr => ∃ k : Nat, k ≤ A.length ∧ i = .int .i64 k ∧ Below w3.heap.size w3 wr) (fun i _ => A.length - (intOf i).toNat)
      case atStart => exact ⟨0, Nat.zero_le _, rfl, Below.refl _ _⟩
      case round =>
        clear x0 x1 x2 x3
        obtain ⟨k, hk, rfl, hb⟩ := hrel
        obtain ⟨x0, x1, x2, x3⟩ := (KR.later hb).three'
        by_cases hlt : k < A.length
        · obtain ⟨pb, po, hpo, hp, e1, e2⟩ := (dA.later hb).get hlt
          simp only [Option.some.injEq, Addr.mk.injEq, and_true] at hpo
          obtain ⟨rfl, rfl⟩ := hpo
          rw [Nat.zero_add] at e1 e2
          have hn := nA _ (dAt_mem hlt)
          obtain ⟨q, hq0⟩ : ∃ q, Hid (dAt A k = q) := ⟨_, rfl⟩
          rw [hq0.out] at e1 e2 hn
          obtain ⟨n1, k1⟩ := q
          have k20 : (k : Int) < 20 := by omega
          go_wp2_with fail
          refine (implRegFind_any _ _ _ c1 c2 c3 A B D 1 n1 _ (dA.later hb) (dB.later hb) (dD.later hb) nm mA mB mD hn).mono ?_
          rintro e w5 ⟨⟨r, rfl, hr⟩, hb5⟩
          obtain rfl := find_no hok hr
          have hb' := bl_trans hb hb5
          clear x0 x1 x2 x3 hr hb5
          obtain ⟨x0, x1, x2, x3⟩ := (KR.later hb').three'
          go_wp2_with fail
          refine (implRegKind_any _ _ _ c1 c2 c3 A B D 1 (k : Int) _ (dA.later hb') (dB.later hb') (dD.later hb') nm mA mB mD).mono ?_
          rintro e w6 ⟨rfl, hb6⟩
          rw [kind_no hok]
          have hb'' := bl_trans hb' hb6
          go_wp2_with fail
          go_roundw
          case rel => exact ⟨k + 1, by omega, by go_num, hb''⟩
          case measure => simp [intOf]; omega
        · have LF := bl_trans L hb
          have f1 : isW ⟨#[119, 105, 116, 104, 111, 117, 116]⟩ = true := by decide +kernel
          have f2 : nameB ⟨#[112, 105, 99, 107]⟩ = false := by decide +kernel
          have f3 : nameB ⟨#[112, 105, 99, 107, 115]⟩ = true := by decide +kernel
          go_wp2_with fail
          refine (implIsWord_any _ _ (by decide)).mono ?_
          rintro e v1 ⟨rfl, g1⟩
          rw [f1]
          go_wp2_with fail
          refine (implNameOk_any _ _ (by decide)).mono ?_
          rintro e v2 ⟨rfl, g2⟩
          rw [f2]
          go_wp2_with fail
          refine (implNameOk_any _ _ (by decide)).mono ?_
          rintro e v3 ⟨rfl, g3⟩
          rw [f3]
          go_wp2_with fail
          go_ret
          exact ⟨rfl, bl_trans (bl_trans (bl_trans LF g1) g2) g3⟩
    · go_wp2_with fail
      go_loopw [5] (fun i wr => ∃ k : Nat, k ≤ A.length ∧ i = .int .i64 k ∧ Below w3.heap.size w3 wr) (fun i _ => A.length - (intOf i).toNat)
      case atStart => exact ⟨0, Nat.zero_le _, rfl, Below.refl _ _⟩
      case round =>
        clear x0 x1 x2 x3
        obtain ⟨k, hk, rfl, hb⟩ := hrel
        obtain ⟨x0, x1, x2, x3⟩ := (KR.later hb).three'
        by_cases hlt : k < A.length
        · obtain ⟨pb, po, hpo, hp, e1, e2⟩ := (dA.later hb).get hlt
          simp only [Option.some.injEq, Addr.mk.injEq, and_true] at hpo
          obtain ⟨rfl, rfl⟩ := hpo
          rw [Nat.zero_add] at e1 e2
          have hn := nA _ (dAt_mem hlt)
          have hW := name_at hok hlt
          have hKd := kind_at hok hlt
          have hF : ∀ r, FindIs A B D 1 (dAt A k).1 r → r = k := fun r h => find_self hok hlt h
          have hF2 : ∀ r, FindIs A B D 2 (dAt A k).1 r → r = -1 := fun r h => find_other hok hlt (t := 2) (by omega) (by omega) h
          have hF3 : ∀ r, FindIs A B D 3 (dAt A k).1 r → r = -1 := fun r h => find_other hok hlt (t := 3) (by omega) (by omega) h
          obtain ⟨q, hq0⟩ : ∃ q, Hid (dAt A k = q) := ⟨_, rfl⟩
          rw [hq0.out] at e1 e2 hn hW hKd hF hF2 hF3
          obtain ⟨n1, k1⟩ := q
          have k20 : (k : Int) < 20 := by omega
          have HKd : Hid (kindB A B D 1 (k : Int) = k1) := hKd
          have HW : Hid (isW n1 = false) := hW
          clear hKd hW
          have KRH : Hid (Blk wr rb #[.slice (some ⟨p1, 0, none⟩) A.length c1, .slice (some ⟨p2, 0, none⟩) B.length c2, .slice s3 D.length c3] 34) := KR.later hb
          have DH : Hid (Decls wr (some ⟨p1, 0, none⟩) A ∧ Decls wr (some ⟨p2, 0, none⟩) B ∧ Decls wr s3 D) := ⟨dA.later hb, dB.later hb, dD.later hb⟩
          have e2' := e2
          go_wp2_with fail
          go_region_held3 (fun w' => w'.cell? ⟨rb, 0, none⟩ = some (.slice (some ⟨p1, 0, none⟩) A.length c1) ∧ w'.cell? ⟨rb, 1, none⟩ = some (.slice (some ⟨p2, 0, none⟩) B.length c2) ∧ w'.cell? ⟨rb, 2, none⟩ = some (.slice s3 D.length c3) ∧ w'.cell? ⟨p1, k * 2 + 1, none⟩ = some (.int .i64 k1)) (simp [x0, x1, x2, e2])
            (first
              | (go_at_call 16; refine (implRegFind_any _ _ _ c1 c2 c3 A B D 3 n1 wC (DH.out.1.later hwC) (DH.out.2.1.later hwC) (DH.out.2.2.later hwC) nm mA mB mD hn).mono ?_; rintro e wD ⟨⟨r3, rfl, hr3⟩, hbD⟩; have hwD : Below wr.heap.size wr wD := bl_trans hwC hbD; obtain rfl := hF3 _ hr3; obtain ⟨x0, x1, x2, x3⟩ := (KRH.out.later hwD).three'; have e2 := (hwD.cell (p := ⟨p1, k * 2 + 1, none⟩) hp).trans e2')
              | (go_at_call 16; refine (implRegFind_any _ _ _ c1 c2 c3 A B D 2 n1 wB (DH.out.1.later hwB) (DH.out.2.1.later hwB) (DH.out.2.2.later hwB) nm mA mB mD hn).mono ?_; rintro e wC ⟨⟨r2, rfl, hr2⟩, hbC⟩; have hwC : Below wr.heap.size wr wC := bl_trans hwB hbC; obtain rfl := hF2 _ hr2; obtain ⟨x0, x1, x2, x3⟩ := (KRH.out.later hwC).three'; have e2 := (hwC.cell (p := ⟨p1, k * 2 + 1, none⟩) hp).trans e2')
              | (go_at_call 16; refine (implRegFind_any _ _ _ c1 c2 c3 A B D 1 n1 _ (DH.out.1.later (bl_drew (Below.refl _ _))) (DH.out.2.1.later (bl_drew (Below.refl _ _))) (DH.out.2.2.later (bl_drew (Below.refl _ _))) nm mA mB mD hn).mono ?_; rintro e wA ⟨⟨r1, rfl, hr1⟩, hbA⟩; have hwA : Below wr.heap.size wr wA := bl_trans (bl_drew (Below.refl _ _)) hbA; obtain rfl := hF _ hr1; obtain ⟨x0, x1, x2, x3⟩ := (KRH.out.later hwA).three'; have e2 := (hwA.cell (p := ⟨p1, k * 2 + 1, none⟩) hp).trans e2')
              | (go_at_call 17; refine (implRegKind_any _ _ _ c1 c2 c3 A B D 1 (k : Int) wA (DH.out.1.later hwA) (DH.out.2.1.later hwA) (DH.out.2.2.later hwA) nm mA mB mD).mono ?_; rintro e wB ⟨rfl, hbB⟩; have hwB : Below wr.heap.size wr wB := bl_trans hwA hbB; rw [HKd.out]; obtain ⟨x0, x1, x2, x3⟩ := (KRH.out.later hwB).three'; have e2 := (hwB.cell (p := ⟨p1, k * 2 + 1, none⟩) hp).trans e2')
              | (go_at_call 18; refine (implIsWord_any n1 wD hn).mono ?_; rintro e wE ⟨rfl, hbE⟩; have hwE : Below wr.heap.size wr wE := bl_trans hwD hbE; rw [HW.out]; obtain ⟨x0, x1, x2, x3⟩ := (KRH.out.later hwE).three'; have e2 := (hwE.cell (p := ⟨p1, k * 2 + 1, none⟩) hp).trans e2'))
          have LQ := bl_trans hb hwE
          go_wp2_with fail
          go_roundw
          case rel => exact ⟨k + 1, by omega, by go_num, LQ⟩
          case measure => simp [intOf]; omega
        · have LF := bl_trans L hb
          have f1 : isW ⟨#[119, 105, 116, 104, 111, 117, 116]⟩ = true := by decide +kernel
          have f2 : nameB ⟨#[112, 105, 99, 107]⟩ = false := by decide +kernel
          have f3 : nameB ⟨#[112, 105, 99, 107, 115]⟩ = true := by decide +kernel
          go_wp2_with fail
          refine (implIsWord_any _ _ (by decide)).mono ?_
          rintro e v1 ⟨rfl, g1⟩
          rw [f1]
          go_wp2_with fail
          refine (implNameOk_any _ _ (by decide)).mono ?_
          rintro e v2 ⟨rfl, g2⟩
          rw [f2]
          go_wp2_with fail
          refine (implNameOk_any _ _ (by decide)).mono ?_
          rintro e v3 ⟨rfl, g3⟩
          rw [f3]
          go_wp2_with fail
          go_ret
          exact ⟨rfl, bl_trans (bl_trans (bl_trans LF g1) g2) g3⟩
  · have hb : decide (1048576 < (len : Int)) = true := by simp; omega
    go_enter Try.func4, Try.ntmps4
    go_wp2_with fail
    refine (big_any sl len cap _).mono ?_
    rintro e w' ⟨rfl, rfl⟩
    rw [hb]
    go_wp2_with fail
    go_ret
    exact ⟨rfl, Below.refl _ _⟩
end Go.Proofs.Ytpfamdpgcbpiaaa
