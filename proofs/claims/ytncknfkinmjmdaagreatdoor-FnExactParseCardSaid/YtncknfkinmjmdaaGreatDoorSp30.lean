import Derived.Test.YtncknfkinmjmdaaGreatDoorSp29
namespace Go.Proofs.YtncknfkinmjmdaaGreatDoor
set_option linter.unusedVariables false
set_option linter.unusedSimpArgs false
section
open Go.RowKit
set_option maxRecDepth 100000
def lstR (T : List Tk) (E : Int) (kk d : Nat) (KT : List Int → Nat → List Nd → PRes) (j : Nat) (N : List Nd) : PRes := if tx T j = bRp then KT [] (j + 1) N else (PAR T E (.items kk d []) j N).then fun x j N => pWant T E bRp j fun j => KT x j N
theorem listed_then {T : List Tk} {E : Int} {kk d i : Nat} {N : List Nd} (KT : List Int → Nat → List Nd → PRes) (hi : i ≤ T.length) : (PAR T E (.listed kk d) i N).then KT = pWant T E bLp i fun j => lstR T E kk d KT j N := by
 rw [PAR_listed hi, pWant_then]
 congr 1
 funext j
 rw [ite_then, then_ok, then_then]
 simp only [pWant_then, then_ok]
 rfl
theorem tailI_then {T : List Tk} {E : Int} {kk d j : Nat} {N : List Nd} {R : List Int} (g : List Int → Nat → List Nd → PRes) : (tailI T E kk d R j N).then g = if tx T j = bComma then (PAR T E (.items kk d R) (j + 1) N).then g else g R j N := by
 unfold tailI
 rw [ite_then, then_ok]
theorem PAR_cell2 {T : List Tk} {E : Int} {d i : Nat} {N : List Nd} (hi : i ≤ T.length) : PAR T E (.item 2 d) i N = pName T E i fun s j => pWant T E bEq j fun j => (PAR T E (.expr d) j N).then fun x j N => pNode (nd 28 s 0 [x.headD 0]) j N := by
 rw [PAR_eq (p := .item 2 d) trivial hi]
 rfl
theorem items2_then {T : List Tk} {E : Int} {d i : Nat} {acc : List Int} {N : List Nd} (hi : i ≤ T.length) (g : List Int → Nat → List Nd → PRes) : (PAR T E (.items 2 d acc) i N).then g = pName T E i fun s j => pWant T E bEq j fun j => (PAR T E (.expr d) j N).then fun x j N => (pNode (nd 28 s 0 [x.headD 0]) j N).then fun x j N => (tailI T E 2 d (acc ++ [x.headD 0]) j N).then g := by
 rw [PAR_items hi, PAR_cell2 hi]
 simp only [pName_then, pWant_then, then_then]
theorem items3_then {T : List Tk} {E : Int} {d i : Nat} {acc : List Int} {N : List Nd} (hi : i ≤ T.length) (g : List Int → Nat → List Nd → PRes) : (PAR T E (.items 3 d acc) i N).then g = pName T E i fun s j => pKind T E j fun q j => (pNode (nd 32 s q []) j N).then fun x j N => (tailI T E 3 d (acc ++ [x.headD 0]) j N).then g := by
 rw [PAR_items hi, PAR_param hi]
 simp only [pName_then, pKind_then, then_then]
def spT (T : List Tk) (E : Int) (x : List Int) (j : Nat) (N : List Nd) : PRes := pWant T E bSemi j fun j => pNode (nd 21 nil 0 x) j N
set_option maxHeartbeats 8000000 in
theorem sspawn_of (T : List Tk) (E : Int) (k g : Nat) (sl : Option Addr) (cp : Nat) (i d : Nat) (v : Value) (Q : List NK) (P : List OR) (X : World) (B : Nat) (w : World) (SV : Sv T E X B g sl) (hR : Rs X B w (sR T E k sl cp i d v Q P)) (hi : i ≤ T.length) (hd : d ≤ 40) (hq : Q.length ≤ 2 * i) (hexpr : ∀ j, i < j → j ≤ T.length → SaysS T E X B k sl cp 40 46 #[.pointer (some ⟨k, 0, none⟩)] .expr j) :
  Calls Tryz.prog 48 #[.pointer (some ⟨k, 0, none⟩)] w (OkS T E X B k sl cp d P ((PAR T E (.listed 2 d) i (Q.map (·.1))).then (spT T E))) := by
 have hlT := SV.l
 obtain ⟨Res, hRes⟩ : ∃ r, Hid ((PAR T E (.listed 2 d) i (Q.map (·.1))).then (spT T E) = r) := ⟨_, rfl⟩
 rw [hRes.out]
 have Hexpr := hid hexpr
 have h0 : Hid (SX T E X B k sl cp i 0 d P Res (fun i N => pWant T E bLp i fun j => lstR T E 2 d (spT T E) j N) w) := Or.inl ⟨i, v, Q, Nat.le_refl _, hi, by omega, by rw [← hRes.out, listed_then _ hi], hR⟩
 clear hR hexpr hRes; go_enter Tryz.func48, Tryz.ntmps48
 go_wp2_with fail; refine (want_x SV bLp (by simp [WMs]) (by omega) h0.out).mono ?_
 rintro e w1 ⟨⟨b1, rfl⟩, r1⟩
 have h1 := hid r1
 clear r1 h0; have r2 := h1.out.kids [] (by simp)
 have h2 := hid r2
 clear r2 h1; go_wp2_with fail; refine (is_x SV bRp (by simp [WMs]) (by omega) h2.out).mono ?_
 rintro e w3 (⟨rfl, i3, v3, Q3, l3a, l3b, l3c, A3, r3⟩ | ⟨rfl, r3⟩)
 ·
  obtain ⟨x0, x1, x2, x3, x4, x5, x6, xf⟩ := (r3.box [] (rN v3 Q3 :: (rK Q3 ++ (rI (.slice (some ⟨w1.heap.size, 0, none⟩) 0 0) [] :: P)))).seven
  have tw : IntKind.i64.wrap ((i3 : Int) + 1) = (i3 : Int) + 1 := by have := SV.l; rw [IntKind.wrap_i64]; omega
  have h3 : Hid (SX T E X B k sl cp (i3 + 1) 1 d (rI (.slice (some ⟨w1.heap.size, 0, none⟩) 0 0) [] :: P) _ (fun j N => spT T E [] j N) (w3.setCell ⟨k, 1, none⟩ (.int .i64 ((i3 : Int) + 1)))) := Hid.mk' (Or.inl ⟨i3 + 1, v3, Q3, Nat.le_refl _, by omega, by omega, A3, r3.setB [] (rN v3 Q3 :: (rK Q3 ++ (rI (.slice (some ⟨w1.heap.size, 0, none⟩) 0 0) [] :: P))) 1 (.int .i64 ((i3 : Int) + 1))⟩)
  clear r3 h2 A3; go_wp2_with fail; clear x0 x1 x2 x3 x4 x5 x6 xf tw; refine (want_x SV bSemi (by simp [WMs]) (by omega) h3.out).mono ?_
  rintro e w4 ⟨⟨b4, rfl⟩, r4⟩
  have h4 := hid r4
  clear r4 h3; go_wp2_with fail; have r5 := h4.out.turn (fun i N _ => node_then _ _ _)
  have h5 := hid r5
  clear r5 h4; refine (node_x (sp := 0) SV 21 0 (⟨#[]⟩) ([] : List Int) _ _ (h5.out.weak (Nat.le_refl _) (by omega))).mono ?_
  rintro e w6 ⟨x6, y6, q6, rfl, r6⟩
  simp only [q6] at r6
  have h6 := hid r6
  clear r6 h5; clear q6; go_wp2_with fail; go_ret; exact h6.out.done
 have h3 := hid r3
 clear r3 h2; go_wp2_with fail; go_loopw [3] (fun kv wr => ∃ (acc : List Int) (s : Option Addr) (c : Nat), kv = .slice s acc.length c ∧ acc.length ≤ 4001 ∧ Hid (SX T E X B k sl cp ((i + 1) + acc.length) 0 d (rI (.slice s acc.length c) acc :: P) Res (fun q N => (PAR T E (.items 2 d acc) q N).then (fun x j N => pWant T E bRp j fun j => spT T E x j N)) wr)) (fun _ wr => left T wr k)
 case atStart => exact ⟨[], _, _, rfl, by simp, h3.out.weak (Nat.le_refl _) (by omega)⟩
 obtain ⟨acc, s, c, rfl, hac, hb⟩ := hrel
 clear h3; rcases hb.out with ⟨q, v2, Q2, hiq, hqT, hq2, HR, hR2⟩ | ⟨cd, a, HR, hD⟩
 ·
  have HIX := hid (left_live hR2)
  obtain ⟨x0, x1, x2, x3, x4, x5, x6, xf⟩ := (hR2.box [] (rN v2 Q2 :: (rK Q2 ++ (rI (.slice s acc.length c) acc :: P)))).seven
  have hz2 : ((0 : Int) == 0) = true := rfl
  have ha : Hid (SX T E X B k sl cp q 0 d (rI (.slice s acc.length c) acc :: P) Res (fun q N => (PAR T E (.items 2 d acc) q N).then (fun x j N => pWant T E bRp j fun j => spT T E x j N)) wr) := Or.inl ⟨q, v2, Q2, Nat.le_refl _, hqT, hq2, HR, hR2⟩
  clear hR2 HR hb; go_wp2_with fail; clear x0 x1 x2 x3 x4 x5 x6 xf hz2; have r7 := ha.out.turn (fun i N hi => items2_then hi _)
  have h7 := hid r7
  clear r7 ha; refine (name_x SV (by omega) h7.out).mono ?_
  rintro e w8 ⟨s8, rfl, r8⟩
  have h8 := hid r8
  clear r8 h7; go_wp2_with fail; refine (want_x SV bEq (by simp [WMs]) (by omega) h8.out).mono ?_
  rintro e w9 ⟨⟨b9, rfl⟩, r9⟩
  have h9 := hid r9
  clear r9 h8; go_wp2_with fail; refine (sub_x (pf := .expr) SV (by omega) trivial (fun _ => by simp [Pf.lo]) (fun j hj => Hexpr.out j (by omega)) (fun c a hD => expr_dead T E k g sl cp _ X B c a _ hD) h9.out).mono ?_
  rintro e w10 ⟨x10, y10, q10, rfl, r10⟩
  simp only [q10] at r10
  have h10 := hid r10
  clear r10 h9; clear q10; have r11 := h10.out.kids [y10] (by simp)
  have h11 := hid r11
  clear r11 h10; go_wp2_with fail; refine (node_x (sp := 0) SV 28 0 (s8) [y10] _ _ (h11.out.weak (Nat.le_refl _) (by omega))).mono ?_
  rintro e w12 ⟨x12, y12, q12, rfl, r12⟩
  simp only [q12] at r12
  have h12 := hid r12
  clear r12 h11; clear q12; obtain ⟨R13, e13⟩ : ∃ R, Hid (acc ++ [y12] = R) := ⟨_, rfl⟩
  have l13 : Hid (R13.length = acc.length + 1) := by show _ = _; rw [← e13.out]; simp
  have r := h12.out
  simp only [e13.out] at r
  have g13 := hid r
  clear r h12; go_wp2_with (at_builtin; refine wpList_sx1 g13.out rfl _ _ rfl rfl y12 rfl (by omega) R13 e13.out ?_; intro s13 c13 w13 r13)
  have h13 := hid r13
  clear r13 g13; clear e13; have r14 := h13.out.turn (fun i N _ => tailI_then _)
  have h14 := hid r14
  clear r14 h13; refine (is_x SV bComma (by simp [WMs]) (by omega) h14.out).mono ?_
  rintro e w15 (⟨rfl, i15, v15, Q15, l15a, l15b, l15c, A15, r15⟩ | ⟨rfl, r15⟩)
  ·
   obtain ⟨x0, x1, x2, x3, x4, x5, x6, xf⟩ := (r15.box [] (rN v15 Q15 :: (rK Q15 ++ (rI (.slice s13 R13.length c13) R13 :: P)))).seven
   have tw : IntKind.i64.wrap ((i15 : Int) + 1) = (i15 : Int) + 1 := by have := SV.l; rw [IntKind.wrap_i64]; omega
   have h15 : Hid (SX T E X B k sl cp (i15 + 1) 1 d (rI (.slice s13 R13.length c13) R13 :: P) _ (fun q N => (PAR T E (.items 2 d R13) q N).then (fun x j N => pWant T E bRp j fun j => spT T E x j N)) (w15.setCell ⟨k, 1, none⟩ (.int .i64 ((i15 : Int) + 1)))) := Hid.mk' (Or.inl ⟨i15 + 1, v15, Q15, Nat.le_refl _, by omega, by omega, A15, r15.setB [] (rN v15 Q15 :: (rK Q15 ++ (rI (.slice s13 R13.length c13) R13 :: P))) 1 (.int .i64 ((i15 : Int) + 1))⟩)
   clear r15 h14 A15; go_wp2_with fail; clear x0 x1 x2 x3 x4 x5 x6 xf tw; go_roundw
   case rel => exact ⟨R13, s13, c13, rfl, by have := l13.out; omega, h15.out.weak (by have := l13.out; omega) (by omega)⟩
   have := h15.out.left
   rw [HIX.out]
   omega
  have h15 := hid r15
  clear r15 h14; go_wp2_with fail; refine (want_x SV bRp (by simp [WMs]) (by omega) h15.out).mono ?_
  rintro e w16 ⟨⟨b16, rfl⟩, r16⟩
  have h16 := hid r16
  clear r16 h15; go_wp2_with fail; refine (want_x SV bSemi (by simp [WMs]) (by omega) h16.out).mono ?_
  rintro e w17 ⟨⟨b17, rfl⟩, r17⟩
  have h17 := hid r17
  clear r17 h16; go_wp2_with fail; have r18 := h17.out.turn (fun i N _ => node_then _ _ _)
  have h18 := hid r18
  clear r18 h17; refine (node_x (sp := 0) SV 21 0 (⟨#[]⟩) R13 _ _ (h18.out.weak (Nat.le_refl _) (by omega))).mono ?_
  rintro e w19 ⟨x19, y19, q19, rfl, r19⟩
  simp only [q19] at r19
  have h19 := hid r19
  clear r19 h18; clear q19; go_wp2_with fail; go_ret; exact h19.out.done
 obtain ⟨hc, i', d', v', Q', r2⟩ := id hD
 obtain ⟨x0, x1, x2, x3, x4, x5, x6, xf⟩ := (r2.box [] (rN v' Q' :: (rK Q' ++ _))).seven
 have hz2 : (cd == 0) = false := by simpa using hc
 have ha : Hid (SX T E X B k sl cp (i + 5) 10 d (rI (.slice s acc.length c) acc :: P) Res (fun j N => spT T E acc j N) wr) := Or.inr ⟨cd, a, HR, hD⟩
 clear r2 hD HR hb hc; go_wp2_with fail; clear x0 x1 x2 x3 x4 x5 x6 xf hz2; refine (want_x SV bSemi (by simp [WMs]) (by omega) ha.out).mono ?_
 rintro e w20 ⟨⟨b20, rfl⟩, r20⟩
 have h20 := hid r20
 clear r20 ha; go_wp2_with fail; have r21 := h20.out.turn (fun i N _ => node_then _ _ _)
 have h21 := hid r21
 clear r21 h20; refine (node_x (sp := 0) SV 21 0 (⟨#[]⟩) acc _ _ (h21.out.weak (Nat.le_refl _) (by omega))).mono ?_
 rintro e w22 ⟨x22, y22, q22, rfl, r22⟩
 simp only [q22] at r22
 have h22 := hid r22
 clear r22 h21; clear q22; go_wp2_with fail; go_ret; exact h22.out.done
end
section
open Go.RowKit
set_option maxRecDepth 100000
def fnT (T : List Tk) (E : Int) (d : Nat) (s : ByteArray) (x : List Int) (j : Nat) (N : List Nd) : PRes := pKind T E j fun q j => (PAR T E (.block d) j N).then fun y j N => pNode (nd 33 s q (x ++ [y.headD 0])) j N
theorem pFn_is {T : List Tk} {E : Int} {d i : Nat} {N : List Nd} : pFn T E d i N = pName T E i fun s j => (PAR T E (.listed 3 d) j N).then (fnT T E d s) := rfl
set_option maxHeartbeats 8000000 in
theorem sfn_of (T : List Tk) (E : Int) (k g : Nat) (sl : Option Addr) (cp : Nat) (i d : Nat) (v : Value) (Q : List NK) (P : List OR) (X : World) (B : Nat) (w : World) (SV : Sv T E X B g sl) (hR : Rs X B w (sR T E k sl cp i d v Q P)) (hi : i ≤ T.length) (hd : d ≤ 40) (hq : Q.length ≤ 2 * i) (hblock : ∀ j, i < j → j ≤ T.length → SaysS T E X B k sl cp 40 13 #[.pointer (some ⟨k, 0, none⟩)] .block j) :
  Calls Tryz.prog 11 #[.pointer (some ⟨k, 0, none⟩)] w (OkS T E X B k sl cp d P (pFn T E d i (Q.map (·.1)))) := by
 have hlT := SV.l
 obtain ⟨Res, hRes⟩ : ∃ r, Hid (pFn T E d i (Q.map (·.1)) = r) := ⟨_, rfl⟩
 rw [hRes.out]
 have Hblock := hid hblock
 have h0 : Hid (SX T E X B k sl cp i 0 d P Res (fun i N => pName T E i fun s j => (PAR T E (.listed 3 d) j N).then (fnT T E d s)) w) := Or.inl ⟨i, v, Q, Nat.le_refl _, hi, by omega, by rw [← hRes.out, pFn_is], hR⟩
 clear hR hblock hRes; go_enter Tryz.func11, Tryz.ntmps11
 go_wp2_with fail; refine (name_x SV (by omega) h0.out).mono ?_
 rintro e w1 ⟨s1, rfl, r1⟩
 have h1 := hid r1
 clear r1 h0; go_wp2_with fail; have r2 := h1.out.turn (fun i N hi => listed_then _ hi)
 have h2 := hid r2
 clear r2 h1; refine (want_x SV bLp (by simp [WMs]) (by omega) h2.out).mono ?_
 rintro e w3 ⟨⟨b3, rfl⟩, r3⟩
 have h3 := hid r3
 clear r3 h2; have r4 := h3.out.kids [] (by simp)
 have h4 := hid r4
 clear r4 h3; go_wp2_with fail; refine (is_x SV bRp (by simp [WMs]) (by omega) h4.out).mono ?_
 rintro e w5 (⟨rfl, i5, v5, Q5, l5a, l5b, l5c, A5, r5⟩ | ⟨rfl, r5⟩)
 ·
  obtain ⟨x0, x1, x2, x3, x4, x5, x6, xf⟩ := (r5.box [] (rN v5 Q5 :: (rK Q5 ++ (rI (.slice (some ⟨w3.heap.size, 0, none⟩) 0 0) [] :: P)))).seven
  have tw : IntKind.i64.wrap ((i5 : Int) + 1) = (i5 : Int) + 1 := by have := SV.l; rw [IntKind.wrap_i64]; omega
  have h5 : Hid (SX T E X B k sl cp (i5 + 1) 1 d (rI (.slice (some ⟨w3.heap.size, 0, none⟩) 0 0) [] :: P) _ (fun j N => fnT T E d s1 [] j N) (w5.setCell ⟨k, 1, none⟩ (.int .i64 ((i5 : Int) + 1)))) := Hid.mk' (Or.inl ⟨i5 + 1, v5, Q5, Nat.le_refl _, by omega, by omega, A5, r5.setB [] (rN v5 Q5 :: (rK Q5 ++ (rI (.slice (some ⟨w3.heap.size, 0, none⟩) 0 0) [] :: P))) 1 (.int .i64 ((i5 : Int) + 1))⟩)
  clear r5 h4 A5; go_wp2_with fail; clear x0 x1 x2 x3 x4 x5 x6 xf tw; refine (sort_x SV (by omega) h5.out).mono ?_
  rintro e w6 ⟨k6, rfl, r6⟩
  have h6 := hid r6
  clear r6 h5; go_wp2_with fail; refine (sub_x (pf := .block) SV (by omega) trivial (fun _ => by simp [Pf.lo]) (fun j hj => Hblock.out j (by omega)) (fun c a hD => block_dead T E k g sl cp _ X B c a _ hD) h6.out).mono ?_
  rintro e w7 ⟨x7, y7, q7, rfl, r7⟩
  simp only [q7] at r7
  have h7 := hid r7
  clear r7 h6; clear q7; obtain ⟨R8, e8⟩ : ∃ R, Hid (([] : List Int) ++ [y7] = R) := ⟨_, rfl⟩
  have l8 : Hid (R8.length = ([] : List Int).length + 1) := by show _ = _; rw [← e8.out]; simp
  have r := h7.out
  simp only [e8.out] at r
  have g8 := hid r
  clear r h7; go_wp2_with (at_builtin; refine wpList_sx1 g8.out rfl _ _ rfl rfl y7 rfl (by simp) R8 e8.out ?_; intro s8 c8 w8 r8)
  have h8 := hid r8
  clear r8 g8; clear e8; have r9 := h8.out.turn (fun i N _ => node_then _ _ _)
  have h9 := hid r9
  clear r9 h8; refine (node_x (sp := 0) SV 33 k6 (s1) R8 _ _ (h9.out.weak (Nat.le_refl _) (by omega))).mono ?_
  rintro e w10 ⟨x10, y10, q10, rfl, r10⟩
  simp only [q10] at r10
  have h10 := hid r10
  clear r10 h9; clear q10; go_wp2_with fail; go_ret; exact h10.out.done
 have h5 := hid r5
 clear r5 h4; go_wp2_with fail; go_loopw [4] (fun kv wr => ∃ (acc : List Int) (s : Option Addr) (c : Nat), kv = .slice s acc.length c ∧ acc.length ≤ 4001 ∧ Hid (SX T E X B k sl cp ((i + 1 + 1) + acc.length) 0 d (rI (.slice s acc.length c) acc :: P) Res (fun q N => (PAR T E (.items 3 d acc) q N).then (fun x j N => pWant T E bRp j fun j => fnT T E d s1 x j N)) wr)) (fun _ wr => left T wr k)
 case atStart => exact ⟨[], _, _, rfl, by simp, h5.out.weak (Nat.le_refl _) (by omega)⟩
 obtain ⟨acc, s, c, rfl, hac, hb⟩ := hrel
 clear h5; rcases hb.out with ⟨q, v2, Q2, hiq, hqT, hq2, HR, hR2⟩ | ⟨cd, a, HR, hD⟩
 ·
  have HIX := hid (left_live hR2)
  obtain ⟨x0, x1, x2, x3, x4, x5, x6, xf⟩ := (hR2.box [] (rN v2 Q2 :: (rK Q2 ++ (rI (.slice s acc.length c) acc :: P)))).seven
  have hz2 : ((0 : Int) == 0) = true := rfl
  have ha : Hid (SX T E X B k sl cp q 0 d (rI (.slice s acc.length c) acc :: P) Res (fun q N => (PAR T E (.items 3 d acc) q N).then (fun x j N => pWant T E bRp j fun j => fnT T E d s1 x j N)) wr) := Or.inl ⟨q, v2, Q2, Nat.le_refl _, hqT, hq2, HR, hR2⟩
  clear hR2 HR hb; go_wp2_with fail; clear x0 x1 x2 x3 x4 x5 x6 xf hz2; have r11 := ha.out.turn (fun i N hi => items3_then hi _)
  have h11 := hid r11
  clear r11 ha; refine (name_x SV (by omega) h11.out).mono ?_
  rintro e w12 ⟨s12, rfl, r12⟩
  have h12 := hid r12
  clear r12 h11; go_wp2_with fail; refine (sort_x SV (by omega) h12.out).mono ?_
  rintro e w13 ⟨k13, rfl, r13⟩
  have h13 := hid r13
  clear r13 h12; go_wp2_with fail; refine (node0_x (sp := 0) SV 32 k13 (s12) (h13.out.weak (Nat.le_refl _) (by omega))).mono ?_
  rintro e w14 ⟨x14, y14, q14, rfl, r14⟩
  simp only [q14] at r14
  have h14 := hid r14
  clear r14 h13; clear q14; obtain ⟨R15, e15⟩ : ∃ R, Hid (acc ++ [y14] = R) := ⟨_, rfl⟩
  have l15 : Hid (R15.length = acc.length + 1) := by show _ = _; rw [← e15.out]; simp
  have r := h14.out
  simp only [e15.out] at r
  have g15 := hid r
  clear r h14; go_wp2_with (at_builtin; refine wpList_sx1 g15.out rfl _ _ rfl rfl y14 rfl (by omega) R15 e15.out ?_; intro s15 c15 w15 r15)
  have h15 := hid r15
  clear r15 g15; clear e15; have r16 := h15.out.turn (fun i N _ => tailI_then _)
  have h16 := hid r16
  clear r16 h15; refine (is_x SV bComma (by simp [WMs]) (by omega) h16.out).mono ?_
  rintro e w17 (⟨rfl, i17, v17, Q17, l17a, l17b, l17c, A17, r17⟩ | ⟨rfl, r17⟩)
  ·
   obtain ⟨x0, x1, x2, x3, x4, x5, x6, xf⟩ := (r17.box [] (rN v17 Q17 :: (rK Q17 ++ (rI (.slice s15 R15.length c15) R15 :: P)))).seven
   have tw : IntKind.i64.wrap ((i17 : Int) + 1) = (i17 : Int) + 1 := by have := SV.l; rw [IntKind.wrap_i64]; omega
   have h17 : Hid (SX T E X B k sl cp (i17 + 1) 1 d (rI (.slice s15 R15.length c15) R15 :: P) _ (fun q N => (PAR T E (.items 3 d R15) q N).then (fun x j N => pWant T E bRp j fun j => fnT T E d s1 x j N)) (w17.setCell ⟨k, 1, none⟩ (.int .i64 ((i17 : Int) + 1)))) := Hid.mk' (Or.inl ⟨i17 + 1, v17, Q17, Nat.le_refl _, by omega, by omega, A17, r17.setB [] (rN v17 Q17 :: (rK Q17 ++ (rI (.slice s15 R15.length c15) R15 :: P))) 1 (.int .i64 ((i17 : Int) + 1))⟩)
   clear r17 h16 A17; go_wp2_with fail; clear x0 x1 x2 x3 x4 x5 x6 xf tw; go_roundw
   case rel => exact ⟨R15, s15, c15, rfl, by have := l15.out; omega, h17.out.weak (by have := l15.out; omega) (by omega)⟩
   have := h17.out.left
   rw [HIX.out]
   omega
  have h17 := hid r17
  clear r17 h16; go_wp2_with fail; refine (want_x SV bRp (by simp [WMs]) (by omega) h17.out).mono ?_
  rintro e w18 ⟨⟨b18, rfl⟩, r18⟩
  have h18 := hid r18
  clear r18 h17; go_wp2_with fail; refine (sort_x SV (by omega) h18.out).mono ?_
  rintro e w19 ⟨k19, rfl, r19⟩
  have h19 := hid r19
  clear r19 h18; go_wp2_with fail; refine (sub_x (pf := .block) SV (by omega) trivial (fun _ => by simp [Pf.lo]) (fun j hj => Hblock.out j (by omega)) (fun c a hD => block_dead T E k g sl cp _ X B c a _ hD) h19.out).mono ?_
  rintro e w20 ⟨x20, y20, q20, rfl, r20⟩
  simp only [q20] at r20
  have h20 := hid r20
  clear r20 h19; clear q20; obtain ⟨R21, e21⟩ : ∃ R, Hid (R15 ++ [y20] = R) := ⟨_, rfl⟩
  have l21 : Hid (R21.length = R15.length + 1) := by show _ = _; rw [← e21.out]; simp
  have r := h20.out
  simp only [e21.out] at r
  have g21 := hid r
  clear r h20; go_wp2_with (at_builtin; refine wpList_sx1 g21.out rfl _ _ rfl rfl y20 rfl (by first | omega | (have := l15.out; omega)) R21 e21.out ?_; intro s21 c21 w21 r21)
  have h21 := hid r21
  clear r21 g21; clear e21; have r22 := h21.out.turn (fun i N _ => node_then _ _ _)
  have h22 := hid r22
  clear r22 h21; refine (node_x (sp := 0) SV 33 k19 (s1) R21 _ _ (h22.out.weak (Nat.le_refl _) (by omega))).mono ?_
  rintro e w23 ⟨x23, y23, q23, rfl, r23⟩
  simp only [q23] at r23
  have h23 := hid r23
  clear r23 h22; clear q23; go_wp2_with fail; go_ret; exact h23.out.done
 obtain ⟨hc, i', d', v', Q', r2⟩ := id hD
 obtain ⟨x0, x1, x2, x3, x4, x5, x6, xf⟩ := (r2.box [] (rN v' Q' :: (rK Q' ++ _))).seven
 have hz2 : (cd == 0) = false := by simpa using hc
 have ha : Hid (SX T E X B k sl cp (i + 5) 10 d (rI (.slice s acc.length c) acc :: P) Res (fun j N => fnT T E d s1 acc j N) wr) := Or.inr ⟨cd, a, HR, hD⟩
 clear r2 hD HR hb hc; go_wp2_with fail; clear x0 x1 x2 x3 x4 x5 x6 xf hz2; refine (sort_x SV (by omega) ha.out).mono ?_
 rintro e w24 ⟨k24, rfl, r24⟩
 have h24 := hid r24
 clear r24 ha; go_wp2_with fail; refine (sub_x (pf := .block) SV (by omega) trivial (fun _ => by simp [Pf.lo]) (fun j hj => Hblock.out j (by omega)) (fun c a hD => block_dead T E k g sl cp _ X B c a _ hD) h24.out).mono ?_
 rintro e w25 ⟨x25, y25, q25, rfl, r25⟩
 simp only [q25] at r25
 have h25 := hid r25
 clear r25 h24; clear q25; obtain ⟨R26, e26⟩ : ∃ R, Hid (acc ++ [y25] = R) := ⟨_, rfl⟩
 have l26 : Hid (R26.length = acc.length + 1) := by show _ = _; rw [← e26.out]; simp
 have r := h25.out
 simp only [e26.out] at r
 have g26 := hid r
 clear r h25; go_wp2_with (at_builtin; refine wpList_sx1 g26.out rfl _ _ rfl rfl y25 rfl (by omega) R26 e26.out ?_; intro s26 c26 w26 r26)
 have h26 := hid r26
 clear r26 g26; clear e26; have r27 := h26.out.turn (fun i N _ => node_then _ _ _)
 have h27 := hid r27
 clear r27 h26; refine (node_x (sp := 0) SV 33 k24 (s1) R26 _ _ (h27.out.weak (Nat.le_refl _) (by omega))).mono ?_
 rintro e w28 ⟨x28, y28, q28, rfl, r28⟩
 simp only [q28] at r28
 have h28 := hid r28
 clear r28 h27; clear q28; go_wp2_with fail; go_ret; exact h28.out.done
end
end Go.Proofs.YtncknfkinmjmdaaGreatDoor
