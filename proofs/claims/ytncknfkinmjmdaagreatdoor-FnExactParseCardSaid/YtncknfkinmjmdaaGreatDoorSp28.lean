import Derived.Test.YtncknfkinmjmdaaGreatDoorSp27
namespace Go.Proofs.YtncknfkinmjmdaaGreatDoor
open Go.RowKit
set_option linter.unusedVariables false
set_option linter.unusedSimpArgs false
set_option maxRecDepth 100000
set_option maxHeartbeats 8000000 in
theorem seach_of (T : List Tk) (E : Int) (k g : Nat) (sl : Option Addr) (cp : Nat) (i d : Nat) (v : Value) (Q : List NK) (P : List OR) (X : World) (B : Nat) (w : World) (SV : Sv T E X B g sl) (hR : Rs X B w (sR T E k sl cp i d v Q P)) (hi : i ≤ T.length) (hd : d ≤ 40) (hq : Q.length ≤ 2 * i) (hblock : ∀ j, i ≤ j → j ≤ T.length → SaysS T E X B k sl cp 40 13 #[.pointer (some ⟨k, 0, none⟩)] .block j) :
  Calls Tryz.prog 47 #[.pointer (some ⟨k, 0, none⟩)] w (OkS T E X B k sl cp d P (pEach T E d i (Q.map (·.1)))) := by
 have hlT := SV.l
 have Hblock := hid hblock
 have h0 := hid hR
 clear hR hblock; obtain ⟨Tg, hTg⟩ : ∃ r, Hid (pEach T E d i (Q.map (·.1)) = r) := ⟨_, rfl⟩
 rw [hTg.out]
 unfold pEach at hTg
 go_enter Tryz.func47, Tryz.ntmps47
 go_wp2_with fail; by_cases q0 : ¬ tx T i = bWith
 ·
  have Q0 := hid q0
  clear q0; refine (swant_bad T E k g sl cp i d v Q P X B ⟨#[119, 105, 116, 104]⟩ _ SV h0.out hi (by omega) Q0.out).mono ?_
  rintro e w1 ⟨rfl, r1⟩
  have h1 := hid r1
  clear r1 h0; have hF : Hid (Tg = .error (2, ta T E i)) := by show _ = _; rw [← hTg.out, want_no Q0.out]; first | done | rfl
  clear hTg; go_wp2_with fail; refine (names_dead T E k g sl cp P X B (2) (ta T E i) _ h1.out).mono ?_
  rintro e w2 ⟨s2, cc2, LL2, rfl, hl2, r2⟩
  have h2 := hid r2.one
  clear r2 h1; go_wp2_with fail; refine (node_dead T E k g sl cp P X B (2) (ta T E i) _ _ _ _ _ h2.out).mono ?_
  rintro e w3 ⟨rfl, r3⟩
  have h3 := hid r3
  clear r3 h2; have h4 := hid (sD_kids h3.out [] (by simp)).one
  clear h3; go_wp2_with fail; refine (is_dead T E k g sl cp P X B (2) (ta T E i) _ _ h4.out).mono ?_
  rintro e w5 ⟨rfl, r5⟩
  have h5 := hid r5
  clear r5 h4; go_wp2_with fail; refine (node_dead T E k g sl cp P X B (2) (ta T E i) _ _ _ _ _ h5.out).mono ?_
  rintro e w6 ⟨rfl, r6⟩
  have h6 := hid r6
  clear r6 h5; go_wp2_with fail; refine (block_dead T E k g sl cp P X B (2) (ta T E i) _ h6.out).mono ?_
  rintro e w7 ⟨rfl, r7⟩
  have h7 := hid r7
  clear r7 h6; have h8 := hid (sD_kids h7.out [(-1), (-1), (-1)] (by simp)).one
  clear h7; go_wp2_with fail; refine (node_dead T E k g sl cp P X B (2) (ta T E i) _ _ _ _ _ h8.out).mono ?_
  rintro e w9 ⟨rfl, r9⟩
  have h9 := hid r9
  clear r9 h8; go_wp2_with fail; go_ret; rw [hF.out]
  exact ⟨⟨_, rfl⟩, h9.out⟩
 have H0 := hid (Decidable.not_not.1 q0)
 clear q0; have l0 : i < T.length := tx_lt H0.out (by decide)
 refine (swant_ok T E k g sl cp i d v Q P X B ⟨#[119, 105, 116, 104]⟩ _ SV h0.out hi (by omega) H0.out (by simp [WMs, bWith])).mono ?_
 rintro e w10 ⟨rfl, r10⟩
 have h10 := hid r10
 clear r10 h0; go_wp2_with fail; have gg := PAR_good (T := T) (E := E) (p := .items 1 d []) (i := i + 1) (N := Q.map (·.1)) trivial (by omega)
 skip
 obtain ⟨Res, zn1⟩ : ∃ r, Hid (PAR T E (.items 1 d []) (i + 1) (Q.map (·.1)) = r) := ⟨_, rfl⟩
 rw [zn1.out] at gg
 have Gn1 := hid gg
 clear gg; refine (snames_any T E k g sl cp (i + 1) d v Q P X B _ SV h10.out (by omega) (by omega) (by omega)).mono ?_
 rw [zn1.out]
 rcases Res with ⟨c, a⟩ | ⟨yn1, jn1, Mn1⟩
 ·
  rintro e wn1 ⟨s, cc, LL, rfl, hl, rn1⟩
  have kn1 := hid rn1.one
  clear rn1 h10; have hF : Hid (Tg = .error (c, a)) := by show _ = _; rw [← hTg.out, want_yes H0.out, zn1.out]; first | done | rfl
  clear hTg; go_wp2_with fail; refine (node_dead T E k g sl cp P X B (c) (a) _ _ _ _ _ kn1.out).mono ?_
  rintro e w11 ⟨rfl, r11⟩
  have h11 := hid r11
  clear r11 kn1; have h12 := hid (sD_kids h11.out [] (by simp)).one
  clear h11; go_wp2_with fail; refine (is_dead T E k g sl cp P X B (c) (a) _ _ h12.out).mono ?_
  rintro e w13 ⟨rfl, r13⟩
  have h13 := hid r13
  clear r13 h12; go_wp2_with fail; refine (node_dead T E k g sl cp P X B (c) (a) _ _ _ _ _ h13.out).mono ?_
  rintro e w14 ⟨rfl, r14⟩
  have h14 := hid r14
  clear r14 h13; go_wp2_with fail; refine (block_dead T E k g sl cp P X B (c) (a) _ h14.out).mono ?_
  rintro e w15 ⟨rfl, r15⟩
  have h15 := hid r15
  clear r15 h14; have h16 := hid (sD_kids h15.out [(-1), (-1), (-1)] (by simp)).one
  clear h15; go_wp2_with fail; refine (node_dead T E k g sl cp P X B (c) (a) _ _ _ _ _ h16.out).mono ?_
  rintro e w17 ⟨rfl, r17⟩
  have h17 := hid r17
  clear r17 h16; go_wp2_with fail; go_ret; rw [hF.out]
  exact ⟨⟨_, rfl⟩, h17.out⟩
 rintro e wn1 ⟨sn1, cn1, vn1, Qn1, rfl, mn1, rn1⟩
 subst mn1
 have bn1 := Gn1.out.okv rfl
 simp only [List.length_map, Pf.lo] at bn1
 have kn1 : Qn1.length ≤ 2 * jn1 := by omega
 have tn1 := bn1.2.1
 have ln1 := bn1.1
 have ppn1 : Qn1.length + 2 * (i + 1) ≤ Q.length + 2 * jn1 := by omega
 clear bn1 Gn1; have fn1 := hid rn1
 clear rn1 h10; go_wp2_with fail; refine (node_live T E k g sl cp (jn1) d vn1 Qn1 P X B 29 0 ⟨#[]⟩ yn1 sn1 cn1 _ fn1.out (by omega)).mono ?_
 rintro e wd1 ⟨rfl, vd1, rd1⟩
 obtain ⟨Qd1, md1⟩ : ∃ q, Hid (Qn1 ++ [((nd 29 ⟨#[]⟩ 0 yn1, Value.slice sn1 (List.length (α := Int) yn1) cn1) : NK)] = q) := ⟨_, rfl⟩
 have pd1 : Hid (pNode (nd 29 nil 0 yn1) (jn1) (Qn1.map (·.1)) = .ok ([(Qn1.length : Int)], jn1, Qd1.map (·.1))) := by rw [← md1.out]; exact pNode_map _ _ _ _
 rw [md1.out] at rd1
 have kkd1 : Qd1.length ≤ Qn1.length + 1 := by rw [← md1.out, List.length_append, List.length_singleton]; omega
 have fd1 := hid rd1
 clear rd1 fn1 md1; have e1 := hid (sR_kids fd1.out [] (by simp))
 clear fd1; go_wp2_with fail; by_cases hs : tx T jn1 = bWithout
 ·
  have hlt : jn1 < T.length := tx_lt hs (by decide)
  have Hs := hid hs
  have Hk := hid (SV.m _ _ (by simp [WMs]) hs)
  have tw : IntKind.i64.wrap ((jn1 : Int) + 1) = (jn1 : Int) + 1 := by rw [IntKind.wrap_i64]; omega
  clear hs; refine (is_yes T E k g sl cp jn1 d vd1 Qd1 _ X B ⟨#[119, 105, 116, 104, 111, 117, 116]⟩ _ SV e1.out tn1 (by omega) hlt Hs.out Hk.out).mono ?_
  rintro e w3 ⟨rfl, r3⟩
  have r3 := sR_less r3
  obtain ⟨x0, x1, x2, x3, x4, x5, x6, xf⟩ := (r3.box [] (rN vd1 Qd1 :: (rK Qd1 ++ P))).seven
  have g3 : Hid (Rs X B (w3.setCell ⟨k, 1, none⟩ (.int .i64 ((jn1 : Int) + 1))) (sR T E k sl cp (jn1 + 1) d vd1 Qd1 P)) := Hid.mk' (r3.setB [] (rN vd1 Qd1 :: (rK Qd1 ++ P)) 1 (.int .i64 ((jn1 : Int) + 1)))
  clear r3 e1; go_wp2_with fail; clear x0 x1 x2 x3 x4 x5 x6 xf; have gg := PAR_good (T := T) (E := E) (p := .items 1 d []) (i := jn1 + 1) (N := Qd1.map (·.1)) trivial (by omega)
  skip
  obtain ⟨Res, zn2⟩ : ∃ r, Hid (PAR T E (.items 1 d []) (jn1 + 1) (Qd1.map (·.1)) = r) := ⟨_, rfl⟩
  rw [zn2.out] at gg
  have Gn2 := hid gg
  clear gg; refine (snames_any T E k g sl cp (jn1 + 1) d vd1 Qd1 P X B _ SV g3.out (by omega) (by omega) (by omega)).mono ?_
  rw [zn2.out]
  rcases Res with ⟨c, a⟩ | ⟨yn2, jn2, Mn2⟩
  ·
   rintro e wn2 ⟨s, cc, LL, rfl, hl, rn2⟩
   have kn2 := hid rn2.one
   clear rn2 g3; have hF : Hid (Tg = .error (c, a)) := by show _ = _; rw [← hTg.out, want_yes H0.out, zn1.out, then_ok, pd1.out, then_ok, if_pos Hs.out, zn2.out]; first | done | rfl
   clear hTg; go_wp2_with fail; refine (node_dead T E k g sl cp P X B (c) (a) _ _ _ _ _ kn2.out).mono ?_
   rintro e w18 ⟨rfl, r18⟩
   have h18 := hid r18
   clear r18 kn2; go_wp2_with fail; refine (block_dead T E k g sl cp P X B (c) (a) _ h18.out).mono ?_
   rintro e w19 ⟨rfl, r19⟩
   have h19 := hid r19
   clear r19 h18; have h20 := hid (sD_kids h19.out [(Qn1.length : Int), (-1), (-1)] (by simp)).one
   clear h19; go_wp2_with fail; refine (node_dead T E k g sl cp P X B (c) (a) _ _ _ _ _ h20.out).mono ?_
   rintro e w21 ⟨rfl, r21⟩
   have h21 := hid r21
   clear r21 h20; go_wp2_with fail; go_ret; rw [hF.out]
   exact ⟨⟨_, rfl⟩, h21.out⟩
  rintro e wn2 ⟨sn2, cn2, vn2, Qn2, rfl, mn2, rn2⟩
  subst mn2
  have bn2 := Gn2.out.okv rfl
  simp only [List.length_map, Pf.lo] at bn2
  have kn2 : Qn2.length ≤ 2 * jn2 := by omega
  have tn2 := bn2.2.1
  have ln2 := bn2.1
  have ppn2 : Qn2.length + 2 * (jn1 + 1) ≤ Qd1.length + 2 * jn2 := by omega
  clear bn2 Gn2; have fn2 := hid rn2
  clear rn2 g3; go_wp2_with fail; refine (node_live T E k g sl cp (jn2) d vn2 Qn2 P X B 30 0 ⟨#[]⟩ yn2 sn2 cn2 _ fn2.out (by omega)).mono ?_
  rintro e wd2p ⟨rfl, vd2p, rd2p⟩
  obtain ⟨Qd2p, md2p⟩ : ∃ q, Hid (Qn2 ++ [((nd 30 ⟨#[]⟩ 0 yn2, Value.slice sn2 (List.length (α := Int) yn2) cn2) : NK)] = q) := ⟨_, rfl⟩
  have pd2p : Hid (pNode (nd 30 nil 0 yn2) (jn2) (Qn2.map (·.1)) = .ok ([(Qn2.length : Int)], jn2, Qd2p.map (·.1))) := by rw [← md2p.out]; exact pNode_map _ _ _ _
  rw [md2p.out] at rd2p
  have kkd2p : Qd2p.length ≤ Qn2.length + 1 := by rw [← md2p.out, List.length_append, List.length_singleton]; omega
  have fd2p := hid rd2p
  clear rd2p fn2 md2p; go_wp2_with fail; have gg := PAR_good (T := T) (E := E) (p := .block d) (i := jn2) (N := Qd2p.map (·.1)) trivial (by omega)
  obtain ⟨Res, zbp⟩ : ∃ r, Hid (PAR T E (.block d) (jn2) (Qd2p.map (·.1)) = r) := ⟨_, rfl⟩
  rw [zbp.out] at gg
  have Gb := hid gg
  clear gg; refine (Hblock.out (jn2) (by omega) (by omega) d vd2p Qd2p P _ fd2p.out (by omega) hd).mono ?_
  rw [zbp.out]
  rcases Res with ⟨c, a⟩ | ⟨yb, jb, Mb⟩
  ·
   rintro e wb ⟨⟨y, rfl⟩, rb⟩
   have kb := hid rb
   clear rb fd2p; have hF : Hid (Tg = .error (c, a)) := by show _ = _; rw [← hTg.out, want_yes H0.out, zn1.out, then_ok, pd1.out, then_ok, if_pos Hs.out, zn2.out, then_ok, pd2p.out, then_ok, zbp.out]; first | done | rfl
   clear hTg; have h22 := hid (sD_kids kb.out [(Qn1.length : Int), (Qn2.length : Int), y] (by simp)).one
   clear kb; go_wp2_with fail; refine (node_dead T E k g sl cp P X B (c) (a) _ _ _ _ _ h22.out).mono ?_
   rintro e w23 ⟨rfl, r23⟩
   have h23 := hid r23
   clear r23 h22; go_wp2_with fail; go_ret; rw [hF.out]
   exact ⟨⟨_, rfl⟩, h23.out⟩
  rintro e wb ⟨rfl, vb, Qb, mb, rb⟩
  subst mb
  have bb := Gb.out.okv rfl
  simp only [List.length_map, Pf.lo] at bb
  have tb := bb.2.1
  have kb : Qb.length ≤ 2 * jb := by omega
  obtain ⟨ab, xb⟩ : ∃ c, Hid (yb.headD 0 = c) := ⟨_, rfl⟩
  rw [xb.out]
  clear bb Gb; have hk := hid (sR_kids rb [(Qn1.length : Int), (Qn2.length : Int), ab] (by simp))
  clear rb fd2p; go_wp2_with fail; refine (node_live T E k g sl cp jb d vb Qb P X B 18 0 ⟨#[]⟩ [(Qn1.length : Int), (Qn2.length : Int), ab] (some ⟨wb.heap.size, 0, none⟩) 3 _ hk.out (by omega)).mono ?_
  rintro e wz ⟨rfl, vz, rz⟩
  have hz := hid rz
  clear rz hk; go_wp2_with fail; go_ret; have hF : Tg = pNode (nd 18 nil 0 [(Qn1.length : Int), (Qn2.length : Int), ab]) jb (Qb.map (·.1)) := by rw [← hTg.out, want_yes H0.out, zn1.out, then_ok, pd1.out, then_ok, if_pos Hs.out, zn2.out, then_ok, pd2p.out, then_ok, zbp.out, then_ok, xb.out]; first | done | rfl
  rw [hF]
  exact ⟨by simp only [List.length_map]; rfl, vz, _, by simp [nd, nil], hz.out⟩
 have Hs := hid hs
 clear hs; refine (is_no T E k g sl cp jn1 d vd1 Qd1 _ X B ⟨#[119, 105, 116, 104, 111, 117, 116]⟩ _ SV e1.out tn1 (by omega) Hs.out).mono ?_
 rintro e w3 ⟨rfl, r3⟩
 have g3 := hid r3
 clear r3 e1; go_wp2_with fail; refine (node_live T E k g sl cp (jn1) d vd1 Qd1 P X B 30 0 ⟨#[]⟩ [] (some ⟨wd1.heap.size, 0, none⟩) 0 _ g3.out (by omega)).mono ?_
 rintro e wd2m ⟨rfl, vd2m, rd2m⟩
 obtain ⟨Qd2m, md2m⟩ : ∃ q, Hid (Qd1 ++ [((nd 30 ⟨#[]⟩ 0 [], Value.slice (some ⟨wd1.heap.size, 0, none⟩) (List.length (α := Int) []) 0) : NK)] = q) := ⟨_, rfl⟩
 have pd2m : Hid (pNode (nd 30 nil 0 []) (jn1) (Qd1.map (·.1)) = .ok ([(Qd1.length : Int)], jn1, Qd2m.map (·.1))) := by rw [← md2m.out]; exact pNode_map _ _ _ _
 rw [md2m.out] at rd2m
 have kkd2m : Qd2m.length ≤ Qd1.length + 1 := by rw [← md2m.out, List.length_append, List.length_singleton]; omega
 have fd2m := hid rd2m
 clear rd2m g3 md2m; go_wp2_with fail; have gg := PAR_good (T := T) (E := E) (p := .block d) (i := jn1) (N := Qd2m.map (·.1)) trivial (by omega)
 obtain ⟨Res, zbm⟩ : ∃ r, Hid (PAR T E (.block d) (jn1) (Qd2m.map (·.1)) = r) := ⟨_, rfl⟩
 rw [zbm.out] at gg
 have Gb := hid gg
 clear gg; refine (Hblock.out (jn1) (by omega) (by omega) d vd2m Qd2m P _ fd2m.out (by omega) hd).mono ?_
 rw [zbm.out]
 rcases Res with ⟨c, a⟩ | ⟨yb, jb, Mb⟩
 ·
  rintro e wb ⟨⟨y, rfl⟩, rb⟩
  have kb := hid rb
  clear rb fd2m; have hF : Hid (Tg = .error (c, a)) := by show _ = _; rw [← hTg.out, want_yes H0.out, zn1.out, then_ok, pd1.out, then_ok, if_neg Hs.out, then_ok, pd2m.out, then_ok, zbm.out]; first | done | rfl
  clear hTg; have h24 := hid (sD_kids kb.out [(Qn1.length : Int), (Qd1.length : Int), y] (by simp)).one
  clear kb; go_wp2_with fail; refine (node_dead T E k g sl cp P X B (c) (a) _ _ _ _ _ h24.out).mono ?_
  rintro e w25 ⟨rfl, r25⟩
  have h25 := hid r25
  clear r25 h24; go_wp2_with fail; go_ret; rw [hF.out]
  exact ⟨⟨_, rfl⟩, h25.out⟩
 rintro e wb ⟨rfl, vb, Qb, mb, rb⟩
 subst mb
 have bb := Gb.out.okv rfl
 simp only [List.length_map, Pf.lo] at bb
 have tb := bb.2.1
 have kb : Qb.length ≤ 2 * jb := by omega
 obtain ⟨ab, xb⟩ : ∃ c, Hid (yb.headD 0 = c) := ⟨_, rfl⟩
 rw [xb.out]
 clear bb Gb; have hk := hid (sR_kids rb [(Qn1.length : Int), (Qd1.length : Int), ab] (by simp))
 clear rb fd2m; go_wp2_with fail; refine (node_live T E k g sl cp jb d vb Qb P X B 18 0 ⟨#[]⟩ [(Qn1.length : Int), (Qd1.length : Int), ab] (some ⟨wb.heap.size, 0, none⟩) 3 _ hk.out (by omega)).mono ?_
 rintro e wz ⟨rfl, vz, rz⟩
 have hz := hid rz
 clear rz hk; go_wp2_with fail; go_ret; have hF : Tg = pNode (nd 18 nil 0 [(Qn1.length : Int), (Qd1.length : Int), ab]) jb (Qb.map (·.1)) := by rw [← hTg.out, want_yes H0.out, zn1.out, then_ok, pd1.out, then_ok, if_neg Hs.out, then_ok, pd2m.out, then_ok, zbm.out, then_ok, xb.out]; first | done | rfl
 rw [hF]
 exact ⟨by simp only [List.length_map]; rfl, vz, _, by simp [nd, nil], hz.out⟩
end Go.Proofs.YtncknfkinmjmdaaGreatDoor
