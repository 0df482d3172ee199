import Derived.Test.YtncknfkinmjmdaaGreatDoorSp30
namespace Go.Proofs.YtncknfkinmjmdaaGreatDoor
open Go.RowKit
set_option linter.unusedVariables false
set_option linter.unusedSimpArgs false
set_option maxRecDepth 100000
theorem wpList_frL {X w0 : World} {B c ct : Nat} {F P : List OR} {s t : Option Addr} {acc ys : List Int} {ops : Array Oper} {rest : List Oper} {o : Oper} {a : Act} {Qx : Exit → Act → World → Prop} (h : Rs X B w0 (F ++ (rI (.slice t ys.length ct) ys :: rI (.slice s acc.length c) acc :: P))) (hg : o.guard = none) (sx x : Operand) (ho : o.op = .call { callee := .builtin .append, args := #[sx, x], argTypes := #[23, 23] })
  (hs : a.eval sx = .slice s acc.length c) (hx : a.eval x = .slice t ys.length ct) (hl : acc.length ≤ 1000000) (hy : ys.length ≤ 1000000) (R : List Int) (hR : acc ++ ys = R)
  (hK : ∀ s' c' w', Rs X B w' (F ++ (rI (.slice t ys.length ct) ys :: rI (.slice s' R.length c') R :: P)) → wpList Tryz.prog ops Qx rest (a.put o.dst (.slice s' R.length c')) w') :
  wpList Tryz.prog ops Qx (o :: rest) a w0 := by
 subst hR
 obtain ⟨iI, hiI, hzI, hsI, hbI⟩ := info_parts Tryz.infoI8
 have hon : (rI (.slice t ys.length ct) ys).on w0 B := h.at F (rI (.slice s acc.length c) acc :: P)
 have h5 : Rs X B w0 ((F ++ [rI (.slice t ys.length ct) ys]) ++ rI (.slice s acc.length c) acc :: P) := by
  rw [List.append_assoc]
  exact h
 refine wpList_appI _ P h5 hg sx x 23 8 ho Tryz.underlying23 hiI hzI hsI hbI rfl Nat.zero_lt_one hs t ys.length ct (ys.map (Value.int .i64)) hx (by simp [rI]) (rI_cells hon) (by intro u hu; obtain ⟨x, _, rfl⟩ := List.mem_map.1 hu; rfl) (by show acc.length + ys.length ≤ _; unfold maxLen; omega) (by show (acc.length + ys.length) * 8 ≤ _; omega) (acc.length + ys.length) rfl (fun v => ⟨3, 1, v, acc.length + ys.length, acc.map (Value.int .i64) ++ ys.map (Value.int .i64)⟩) (fun _ => rfl) ?_
 intro s' c' w' h'
 have e0 : (acc ++ ys).length = acc.length + ys.length := by simp
 have e1 : rI (.slice s' (acc ++ ys).length c') (acc ++ ys) = (⟨3, 1, .slice s' (acc.length + ys.length) c', acc.length + ys.length, acc.map (Value.int .i64) ++ ys.map (Value.int .i64)⟩ : OR) := by
  simp [rI]
 have h7 : Rs X B w' (F ++ (rI (.slice t ys.length ct) ys :: rI (.slice s' (acc ++ ys).length c') (acc ++ ys) :: P)) := by
  rw [e1]
  rw [List.append_assoc] at h'
  exact h'
 have := hK s' c' w' h7
 rw [e0] at this
 exact this
theorem wpList_sxL {T : List Tk} {E : Int} {X w0 : World} {B k c ct : Nat} {sl : Option Addr} {cp lo sp d : Nat} {P : List OR} {Res : PRes} {K : Nat → List Nd → PRes} {s t : Option Addr} {acc ys : List Int} {ops : Array Oper} {rest : List Oper} {o : Oper} {a : Act} {Qx : Exit → Act → World → Prop} (h : SX T E X B k sl cp lo sp d (rI (.slice t ys.length ct) ys :: rI (.slice s acc.length c) acc :: P) Res K w0) (hg : o.guard = none) (sx x : Operand) (ho : o.op = .call { callee := .builtin .append, args := #[sx, x], argTypes := #[23, 23] })
  (hs : a.eval sx = .slice s acc.length c) (hx : a.eval x = .slice t ys.length ct) (hl : acc.length ≤ 1000000) (hy : ys.length ≤ 1000000) (R : List Int) (hR : acc ++ ys = R)
  (hK : ∀ s' c' w', SX T E X B k sl cp lo sp d (rI (.slice s' R.length c') R :: P) Res K w' → wpList Tryz.prog ops Qx rest (a.put o.dst (.slice s' R.length c')) w') :
  wpList Tryz.prog ops Qx (o :: rest) a w0 := by
 rcases h with ⟨i, v, Q, h1, h2, h3, h4, h5⟩ | ⟨cd, a', h1, hc, i, d', v, Q, h2⟩
 ·
  exact wpList_frL (F := (rB k 36 (bP sl T.length cp i v 0 0 d E) :: rN v Q :: rK Q)) h5 hg sx x ho hs hx hl hy R hR (fun s' c' w' r => hK s' c' w' (Or.inl ⟨i, v, Q, h1, h2, h3, h4, sR_less r⟩))
 exact wpList_frL (F := (rB k 36 (bP sl T.length cp i v cd a' d' E) :: rN v Q :: rK Q)) h2 hg sx x ho hs hx hl hy R hR (fun s' c' w' r => hK s' c' w' (Or.inr ⟨cd, a', h1, sD.one (r := rI (.slice t ys.length ct) ys) ⟨hc, i, d', v, Q, r⟩⟩))
theorem SX.done2 {T : List Tk} {E : Int} {X w : World} {B k : Nat} {sl : Option Addr} {cp lo sp d : Nat} {P : List OR} {Res : PRes} {x : List Int} {y : Int} (h : SX T E X B k sl cp lo sp d P Res (fun j N => .ok (x, j, N)) w) (hy : x.headD 0 = y) : OkS T E X B k sl cp d P Res (.returned (.int .i64 y)) w := by
 rcases h with ⟨i, v, Q, h1, h2, h3, h4, h5⟩ | ⟨c, a, h1, h2⟩
 ·
  rw [← h4]; exact ⟨by rw [hy], v, Q, rfl, h5⟩
 rw [h1]; exact ⟨⟨y, rfl⟩, h2⟩
theorem args_then {T : List Tk} {E : Int} {kk d j : Nat} {N : List Nd} (KT : List Int → Nat → List Nd → PRes) : (argsR T E kk d j N).then KT = lstR T E kk d KT j N := by
 unfold argsR lstR
 rw [ite_then, then_ok, then_then]
 simp only [shutR, pWant_then, then_ok]
theorem word_none {s : ByteArray} (h1 : ¬ s = bRe) (h2 : ¬ s = bIm) (h3 : ¬ s = bReal) (h4 : ¬ s = bSize) : wordOf s = 0 := by
 have g1 : ¬ bRe = s := fun h => h1 h.symm
 have g2 : ¬ bIm = s := fun h => h2 h.symm
 have g3 : ¬ bReal = s := fun h => h3 h.symm
 have g4 : ¬ bSize = s := fun h => h4 h.symm
 simp [wordOf, srch, uN, h1, h2, h3, h4, g1, g2, g3, g4]
set_option maxHeartbeats 8000000 in
theorem sprim_dot (T : List Tk) (E : Int) (k g : Nat) (sl : Option Addr) (cp : Nat) (i d : Nat) (v : Value) (Q : List NK) (P : List OR) (X : World) (B : Nat) (w : World) (SV : Sv T E X B g sl) (hR : Rs X B w (sR T E k sl cp i d v Q P)) (hi : i ≤ T.length) (hd : d ≤ 40) (hq : Q.length ≤ 2 * i) (n3 : ¬ kd T i = 3) (n4 : ¬ kd T i = 4) (n1 : ¬ kd T i = 1) (ht0 : tx T i = bDot) :
  Calls Tryz.prog 106 #[.pointer (some ⟨k, 0, none⟩)] w (OkS T E X B k sl cp d P (PAR T E (.prim d) i (Q.map (·.1)))) := by
 have hlT := SV.l
 have hlt : i < T.length := tx_lt ht0 (by decide)
 have ht := hid ht0
 have hk2 := hid (SV.m i bDot (by simp [WMs]) ht0)
 have h0 := hid hR
 obtain ⟨Res, hRes⟩ : ∃ r, Hid (PAR T E (.prim d) i (Q.map (·.1)) = r) := ⟨_, rfl⟩
 rw [hRes.out]
 have HK : Hid ((fun i N => pName T E i fun s j => pNode (nd 5 s 0 []) j N) (i + 1) (Q.map (·.1)) = Res) := by
  show _ = _
  rw [← hRes.out, PAR_prim hi, if_neg n3, if_neg n4, if_neg n1, ht0, if_neg (by decide), if_neg (by decide), if_pos (by decide)]
  first | done | rfl
 have hw : Hid (wordOf (tx T i) = 0) := by show _ = _; rw [ht0]; rfl
 obtain ⟨κ, hκ⟩ : ∃ c, Hid (kd T i = c) := ⟨_, rfl⟩
 have m3 : (κ == 3) = false := by have := hκ.out; simp; omega
 have m4 : (κ == 4) = false := by have := hκ.out; simp; omega
 have m1 : (κ == 1) = false := by have := hκ.out; simp; omega
 clear hR hRes n3 n4 n1 ht0; go_enter Tryz.func106, Tryz.ntmps106
 go_wp2_with fail; refine (kind_live T E k g sl cp i d v Q P X B _ SV h0.out hi (by omega)).mono ?_
 rintro e w1 ⟨rfl, r1⟩
 have h1 := hid r1
 clear r1 h0; rw [hκ.out]
 go_wp2_with fail; refine (turn_any T E k g sl cp i d v Q P X B _ SV h1.out hi (by omega)).mono ?_
 rintro e w2 ⟨rfl, r2⟩
 have h2 := hid r2
 clear r2 h1; rw [hw.out]
 go_wp2_with fail; refine (is_no T E k g sl cp i d v Q P X B ⟨#[121, 101, 115]⟩ _ SV h2.out hi (by omega) (by rw [ht.out]; decide)).mono ?_
 rintro e w3 ⟨rfl, r3⟩
 have h3 := hid r3
 clear r3 h2; go_wp2_with fail; refine (is_no T E k g sl cp i d v Q P X B ⟨#[110, 111]⟩ _ SV h3.out hi (by omega) (by rw [ht.out]; decide)).mono ?_
 rintro e w4 ⟨rfl, r4⟩
 have h4 := hid r4
 clear r4 h3; go_wp2_with fail; refine (is_yes T E k g sl cp i d v Q P X B ⟨#[46]⟩ _ SV h4.out hi (by omega) hlt ht.out hk2.out).mono ?_
 rintro e w5 ⟨rfl, r5⟩
 have h5 := hid r5
 clear r5 h4; go_wp2_with fail; refine (is_no T E k g sl cp i d v Q P X B ⟨#[36]⟩ _ SV h5.out hi (by omega) (by rw [ht.out]; decide)).mono ?_
 rintro e w6 ⟨rfl, r6⟩
 have h6 := hid r6
 clear r6 h5; have r7 := h6.out
 obtain ⟨x0, x1, x2, x3, x4, x5, x6, xf⟩ := (r7.box [] (rN v Q :: (rK Q ++ P))).seven
 have tw : IntKind.i64.wrap ((i : Int) + 1) = (i : Int) + 1 := by rw [IntKind.wrap_i64]; omega
 have h7 : Hid (SX T E X B k sl cp (i + 1) 2 d P Res (fun i N => pName T E i fun s j => pNode (nd 5 s 0 []) j N) (w6.setCell ⟨k, 1, none⟩ (.int .i64 ((i : Int) + 1)))) := Hid.mk' (Or.inl ⟨i + 1, v, Q, Nat.le_refl _, by omega, by omega, HK.out, r7.setB [] (rN v Q :: (rK Q ++ P)) 1 (.int .i64 ((i : Int) + 1))⟩)
 clear r7 h6 HK; go_wp2_with fail; clear x0 x1 x2 x3 x4 x5 x6 xf tw; refine (name_x SV (by omega) h7.out).mono ?_
 rintro e w8 ⟨s8, rfl, r8⟩
 have h8 := hid r8
 clear r8 h7; go_wp2_with fail; have r9 := h8.out.turn (fun i N _ => node_then _ _ _)
 have h9 := hid r9
 clear r9 h8; refine (node0_x (sp := 0) SV 5 0 (s8) (h9.out.weak (Nat.le_refl _) (by omega))).mono ?_
 rintro e w10 ⟨x10, y10, q10, rfl, r10⟩
 simp only [q10] at r10
 have h10 := hid r10
 clear r10 h9; clear q10; go_wp2_with fail; go_ret; exact h10.out.done
set_option maxHeartbeats 8000000 in
theorem sprim_dol (T : List Tk) (E : Int) (k g : Nat) (sl : Option Addr) (cp : Nat) (i d : Nat) (v : Value) (Q : List NK) (P : List OR) (X : World) (B : Nat) (w : World) (SV : Sv T E X B g sl) (hR : Rs X B w (sR T E k sl cp i d v Q P)) (hi : i ≤ T.length) (hd : d ≤ 40) (hq : Q.length ≤ 2 * i) (n3 : ¬ kd T i = 3) (n4 : ¬ kd T i = 4) (n1 : ¬ kd T i = 1) (ht0 : tx T i = bDol) :
  Calls Tryz.prog 106 #[.pointer (some ⟨k, 0, none⟩)] w (OkS T E X B k sl cp d P (PAR T E (.prim d) i (Q.map (·.1)))) := by
 have hlT := SV.l
 have hlt : i < T.length := tx_lt ht0 (by decide)
 have ht := hid ht0
 have hk2 := hid (SV.m i bDol (by simp [WMs]) ht0)
 have h0 := hid hR
 obtain ⟨Res, hRes⟩ : ∃ r, Hid (PAR T E (.prim d) i (Q.map (·.1)) = r) := ⟨_, rfl⟩
 rw [hRes.out]
 have HK : Hid ((fun i N => pName T E i fun s j => pNode (nd 6 s 0 []) j N) (i + 1) (Q.map (·.1)) = Res) := by
  show _ = _
  rw [← hRes.out, PAR_prim hi, if_neg n3, if_neg n4, if_neg n1, ht0, if_neg (by decide), if_neg (by decide), if_neg (by decide), if_pos (by decide)]
  first | done | rfl
 have hw : Hid (wordOf (tx T i) = 0) := by show _ = _; rw [ht0]; rfl
 obtain ⟨κ, hκ⟩ : ∃ c, Hid (kd T i = c) := ⟨_, rfl⟩
 have m3 : (κ == 3) = false := by have := hκ.out; simp; omega
 have m4 : (κ == 4) = false := by have := hκ.out; simp; omega
 have m1 : (κ == 1) = false := by have := hκ.out; simp; omega
 clear hR hRes n3 n4 n1 ht0; go_enter Tryz.func106, Tryz.ntmps106
 go_wp2_with fail; refine (kind_live T E k g sl cp i d v Q P X B _ SV h0.out hi (by omega)).mono ?_
 rintro e w1 ⟨rfl, r1⟩
 have h1 := hid r1
 clear r1 h0; rw [hκ.out]
 go_wp2_with fail; refine (turn_any T E k g sl cp i d v Q P X B _ SV h1.out hi (by omega)).mono ?_
 rintro e w2 ⟨rfl, r2⟩
 have h2 := hid r2
 clear r2 h1; rw [hw.out]
 go_wp2_with fail; refine (is_no T E k g sl cp i d v Q P X B ⟨#[121, 101, 115]⟩ _ SV h2.out hi (by omega) (by rw [ht.out]; decide)).mono ?_
 rintro e w3 ⟨rfl, r3⟩
 have h3 := hid r3
 clear r3 h2; go_wp2_with fail; refine (is_no T E k g sl cp i d v Q P X B ⟨#[110, 111]⟩ _ SV h3.out hi (by omega) (by rw [ht.out]; decide)).mono ?_
 rintro e w4 ⟨rfl, r4⟩
 have h4 := hid r4
 clear r4 h3; go_wp2_with fail; refine (is_no T E k g sl cp i d v Q P X B ⟨#[46]⟩ _ SV h4.out hi (by omega) (by rw [ht.out]; decide)).mono ?_
 rintro e w5 ⟨rfl, r5⟩
 have h5 := hid r5
 clear r5 h4; go_wp2_with fail; refine (is_yes T E k g sl cp i d v Q P X B ⟨#[36]⟩ _ SV h5.out hi (by omega) hlt ht.out hk2.out).mono ?_
 rintro e w6 ⟨rfl, r6⟩
 have h6 := hid r6
 clear r6 h5; go_wp2_with fail; refine (is_yes T E k g sl cp i d v Q P X B ⟨#[36]⟩ _ SV h6.out hi (by omega) hlt ht.out hk2.out).mono ?_
 rintro e w7 ⟨rfl, r7⟩
 have h7 := hid r7
 clear r7 h6; have r8 := h7.out
 obtain ⟨x0, x1, x2, x3, x4, x5, x6, xf⟩ := (r8.box [] (rN v Q :: (rK Q ++ P))).seven
 have tw : IntKind.i64.wrap ((i : Int) + 1) = (i : Int) + 1 := by rw [IntKind.wrap_i64]; omega
 have h8 : Hid (SX T E X B k sl cp (i + 1) 2 d P Res (fun i N => pName T E i fun s j => pNode (nd 6 s 0 []) j N) (w7.setCell ⟨k, 1, none⟩ (.int .i64 ((i : Int) + 1)))) := Hid.mk' (Or.inl ⟨i + 1, v, Q, Nat.le_refl _, by omega, by omega, HK.out, r8.setB [] (rN v Q :: (rK Q ++ P)) 1 (.int .i64 ((i : Int) + 1))⟩)
 clear r8 h7 HK; go_wp2_with fail; clear x0 x1 x2 x3 x4 x5 x6 xf tw; refine (name_x SV (by omega) h8.out).mono ?_
 rintro e w9 ⟨s9, rfl, r9⟩
 have h9 := hid r9
 clear r9 h8; go_wp2_with fail; have r10 := h9.out.turn (fun i N _ => node_then _ _ _)
 have h10 := hid r10
 clear r10 h9; refine (node0_x (sp := 0) SV 6 0 (s9) (h10.out.weak (Nat.le_refl _) (by omega))).mono ?_
 rintro e w11 ⟨x11, y11, q11, rfl, r11⟩
 simp only [q11] at r11
 have h11 := hid r11
 clear r11 h10; clear q11; go_wp2_with fail; go_ret; exact h11.out.done
set_option maxHeartbeats 8000000 in
theorem sprim_lp (T : List Tk) (E : Int) (k g : Nat) (sl : Option Addr) (cp : Nat) (i d : Nat) (v : Value) (Q : List NK) (P : List OR) (X : World) (B : Nat) (w : World) (SV : Sv T E X B g sl) (hR : Rs X B w (sR T E k sl cp i d v Q P)) (hi : i ≤ T.length) (hd : d ≤ 40) (hq : Q.length ≤ 2 * i) (n3 : ¬ kd T i = 3) (n4 : ¬ kd T i = 4) (n1 : ¬ kd T i = 1) (ht0 : tx T i = bLp) (hexpr : ∀ j, i < j → j ≤ T.length → SaysS T E X B k sl cp 40 46 #[.pointer (some ⟨k, 0, none⟩)] .expr j) :
  Calls Tryz.prog 106 #[.pointer (some ⟨k, 0, none⟩)] w (OkS T E X B k sl cp d P (PAR T E (.prim d) i (Q.map (·.1)))) := by
 have hlT := SV.l
 have hlt : i < T.length := tx_lt ht0 (by decide)
 have ht := hid ht0
 have hk2 := hid (SV.m i bLp (by simp [WMs]) ht0)
 have h0 := hid hR
 obtain ⟨Res, hRes⟩ : ∃ r, Hid (PAR T E (.prim d) i (Q.map (·.1)) = r) := ⟨_, rfl⟩
 rw [hRes.out]
 have HK : Hid ((fun i N => (PAR T E (.expr d) i N).then fun x j N => pWant T E bRp j fun j => .ok (x, j, N)) (i + 1) (Q.map (·.1)) = Res) := by
  show _ = _
  rw [← hRes.out, PAR_prim hi, if_neg n3, if_neg n4, if_neg n1, ht0, if_neg (by decide), if_neg (by decide), if_neg (by decide), if_neg (by decide), if_pos (by decide)]
  first | done | rfl
 have hw : Hid (wordOf (tx T i) = 0) := by show _ = _; rw [ht0]; rfl
 obtain ⟨κ, hκ⟩ : ∃ c, Hid (kd T i = c) := ⟨_, rfl⟩
 have m3 : (κ == 3) = false := by have := hκ.out; simp; omega
 have m4 : (κ == 4) = false := by have := hκ.out; simp; omega
 have m1 : (κ == 1) = false := by have := hκ.out; simp; omega
 have Hexpr := hid hexpr
 clear hexpr; clear hR hRes n3 n4 n1 ht0; go_enter Tryz.func106, Tryz.ntmps106
 go_wp2_with fail; refine (kind_live T E k g sl cp i d v Q P X B _ SV h0.out hi (by omega)).mono ?_
 rintro e w1 ⟨rfl, r1⟩
 have h1 := hid r1
 clear r1 h0; rw [hκ.out]
 go_wp2_with fail; refine (turn_any T E k g sl cp i d v Q P X B _ SV h1.out hi (by omega)).mono ?_
 rintro e w2 ⟨rfl, r2⟩
 have h2 := hid r2
 clear r2 h1; rw [hw.out]
 go_wp2_with fail; refine (is_no T E k g sl cp i d v Q P X B ⟨#[121, 101, 115]⟩ _ SV h2.out hi (by omega) (by rw [ht.out]; decide)).mono ?_
 rintro e w3 ⟨rfl, r3⟩
 have h3 := hid r3
 clear r3 h2; go_wp2_with fail; refine (is_no T E k g sl cp i d v Q P X B ⟨#[110, 111]⟩ _ SV h3.out hi (by omega) (by rw [ht.out]; decide)).mono ?_
 rintro e w4 ⟨rfl, r4⟩
 have h4 := hid r4
 clear r4 h3; go_wp2_with fail; refine (is_no T E k g sl cp i d v Q P X B ⟨#[46]⟩ _ SV h4.out hi (by omega) (by rw [ht.out]; decide)).mono ?_
 rintro e w5 ⟨rfl, r5⟩
 have h5 := hid r5
 clear r5 h4; go_wp2_with fail; refine (is_no T E k g sl cp i d v Q P X B ⟨#[36]⟩ _ SV h5.out hi (by omega) (by rw [ht.out]; decide)).mono ?_
 rintro e w6 ⟨rfl, r6⟩
 have h6 := hid r6
 clear r6 h5; go_wp2_with fail; refine (is_yes T E k g sl cp i d v Q P X B ⟨#[40]⟩ _ SV h6.out hi (by omega) hlt ht.out hk2.out).mono ?_
 rintro e w7 ⟨rfl, r7⟩
 have h7 := hid r7
 clear r7 h6; have r8 := h7.out
 obtain ⟨x0, x1, x2, x3, x4, x5, x6, xf⟩ := (r8.box [] (rN v Q :: (rK Q ++ P))).seven
 have tw : IntKind.i64.wrap ((i : Int) + 1) = (i : Int) + 1 := by rw [IntKind.wrap_i64]; omega
 have h8 : Hid (SX T E X B k sl cp (i + 1) 2 d P Res (fun i N => (PAR T E (.expr d) i N).then fun x j N => pWant T E bRp j fun j => .ok (x, j, N)) (w7.setCell ⟨k, 1, none⟩ (.int .i64 ((i : Int) + 1)))) := Hid.mk' (Or.inl ⟨i + 1, v, Q, Nat.le_refl _, by omega, by omega, HK.out, r8.setB [] (rN v Q :: (rK Q ++ P)) 1 (.int .i64 ((i : Int) + 1))⟩)
 clear r8 h7 HK; go_wp2_with fail; clear x0 x1 x2 x3 x4 x5 x6 xf tw; refine (sub_x (pf := .expr) SV (by omega) trivial (fun _ => by simp [Pf.lo]) (fun j hj => Hexpr.out j (by omega)) (fun c a hD => expr_dead T E k g sl cp _ X B c a _ hD) h8.out).mono ?_
 rintro e w9 ⟨x9, y9, q9, rfl, r9⟩
 have Q9 := hid q9
 have h9 := hid r9
 clear r9 h8; clear q9; go_wp2_with fail; refine (want_x SV bRp (by simp [WMs]) (by omega) h9.out).mono ?_
 rintro e w10 ⟨⟨b10, rfl⟩, r10⟩
 have h10 := hid r10
 clear r10 h9; go_wp2_with fail; go_ret; exact h10.out.done2 Q9.out
set_option maxHeartbeats 8000000 in
theorem sprim_re (T : List Tk) (E : Int) (k g : Nat) (sl : Option Addr) (cp : Nat) (i d : Nat) (v : Value) (Q : List NK) (P : List OR) (X : World) (B : Nat) (w : World) (SV : Sv T E X B g sl) (hR : Rs X B w (sR T E k sl cp i d v Q P)) (hi : i ≤ T.length) (hd : d ≤ 40) (hq : Q.length ≤ 2 * i) (n3 : ¬ kd T i = 3) (n4 : ¬ kd T i = 4) (n1 : ¬ kd T i = 1) (ht0 : tx T i = bRe) (hexpr : ∀ j, i < j → j ≤ T.length → SaysS T E X B k sl cp 40 46 #[.pointer (some ⟨k, 0, none⟩)] .expr j) :
  Calls Tryz.prog 106 #[.pointer (some ⟨k, 0, none⟩)] w (OkS T E X B k sl cp d P (PAR T E (.prim d) i (Q.map (·.1)))) := by
 have hlT := SV.l
 have hlt : i < T.length := tx_lt ht0 (by decide)
 have ht := hid ht0
 have hk2 := hid (SV.m i bRe (by simp [WMs]) ht0)
 have h0 := hid hR
 obtain ⟨Res, hRes⟩ : ∃ r, Hid (PAR T E (.prim d) i (Q.map (·.1)) = r) := ⟨_, rfl⟩
 rw [hRes.out]
 have HK : Hid ((fun i N => pWant T E bLp i fun j => (PAR T E (.expr d) j N).then fun x j N => pWant T E bRp j fun j => pNode (nd 9 nil 3 [x.headD 0]) j N) (i + 1) (Q.map (·.1)) = Res) := by
  show _ = _
  rw [← hRes.out, PAR_prim hi, if_neg n3, if_neg n4, if_neg n1, ht0, if_neg (by decide), if_neg (by decide), if_neg (by decide), if_neg (by decide), if_neg (by decide), if_neg (by decide), if_pos (by decide)]
  first | done | rfl
 have hw : Hid (wordOf (tx T i) = 3) := by show _ = _; rw [ht0]; rfl
 obtain ⟨κ, hκ⟩ : ∃ c, Hid (kd T i = c) := ⟨_, rfl⟩
 have m3 : (κ == 3) = false := by have := hκ.out; simp; omega
 have m4 : (κ == 4) = false := by have := hκ.out; simp; omega
 have m1 : (κ == 1) = false := by have := hκ.out; simp; omega
 have Hexpr := hid hexpr
 clear hexpr; clear hR hRes n3 n4 n1 ht0; go_enter Tryz.func106, Tryz.ntmps106
 go_wp2_with fail; refine (kind_live T E k g sl cp i d v Q P X B _ SV h0.out hi (by omega)).mono ?_
 rintro e w1 ⟨rfl, r1⟩
 have h1 := hid r1
 clear r1 h0; rw [hκ.out]
 go_wp2_with fail; refine (turn_any T E k g sl cp i d v Q P X B _ SV h1.out hi (by omega)).mono ?_
 rintro e w2 ⟨rfl, r2⟩
 have h2 := hid r2
 clear r2 h1; rw [hw.out]
 go_wp2_with fail; refine (is_no T E k g sl cp i d v Q P X B ⟨#[121, 101, 115]⟩ _ SV h2.out hi (by omega) (by rw [ht.out]; decide)).mono ?_
 rintro e w3 ⟨rfl, r3⟩
 have h3 := hid r3
 clear r3 h2; go_wp2_with fail; refine (is_no T E k g sl cp i d v Q P X B ⟨#[110, 111]⟩ _ SV h3.out hi (by omega) (by rw [ht.out]; decide)).mono ?_
 rintro e w4 ⟨rfl, r4⟩
 have h4 := hid r4
 clear r4 h3; go_wp2_with fail; refine (is_no T E k g sl cp i d v Q P X B ⟨#[46]⟩ _ SV h4.out hi (by omega) (by rw [ht.out]; decide)).mono ?_
 rintro e w5 ⟨rfl, r5⟩
 have h5 := hid r5
 clear r5 h4; go_wp2_with fail; refine (is_no T E k g sl cp i d v Q P X B ⟨#[36]⟩ _ SV h5.out hi (by omega) (by rw [ht.out]; decide)).mono ?_
 rintro e w6 ⟨rfl, r6⟩
 have h6 := hid r6
 clear r6 h5; go_wp2_with fail; refine (is_no T E k g sl cp i d v Q P X B ⟨#[40]⟩ _ SV h6.out hi (by omega) (by rw [ht.out]; decide)).mono ?_
 rintro e w7 ⟨rfl, r7⟩
 have h7 := hid r7
 clear r7 h6; have r8 := h7.out
 obtain ⟨x0, x1, x2, x3, x4, x5, x6, xf⟩ := (r8.box [] (rN v Q :: (rK Q ++ P))).seven
 have tw : IntKind.i64.wrap ((i : Int) + 1) = (i : Int) + 1 := by rw [IntKind.wrap_i64]; omega
 have h8 : Hid (SX T E X B k sl cp (i + 1) 2 d P Res (fun i N => pWant T E bLp i fun j => (PAR T E (.expr d) j N).then fun x j N => pWant T E bRp j fun j => pNode (nd 9 nil 3 [x.headD 0]) j N) (w7.setCell ⟨k, 1, none⟩ (.int .i64 ((i : Int) + 1)))) := Hid.mk' (Or.inl ⟨i + 1, v, Q, Nat.le_refl _, by omega, by omega, HK.out, r8.setB [] (rN v Q :: (rK Q ++ P)) 1 (.int .i64 ((i : Int) + 1))⟩)
 clear r8 h7 HK; go_wp2_with fail; clear x0 x1 x2 x3 x4 x5 x6 xf tw; refine (want_x SV bLp (by simp [WMs]) (by omega) h8.out).mono ?_
 rintro e w9 ⟨⟨b9, rfl⟩, r9⟩
 have h9 := hid r9
 clear r9 h8; go_wp2_with fail; refine (sub_x (pf := .expr) SV (by omega) trivial (fun _ => by simp [Pf.lo]) (fun j hj => Hexpr.out j (by omega)) (fun c a hD => expr_dead T E k g sl cp _ X B c a _ hD) h9.out).mono ?_
 rintro e w10 ⟨x10, y10, q10, rfl, r10⟩
 simp only [q10] at r10
 have h10 := hid r10
 clear r10 h9; clear q10; go_wp2_with fail; refine (want_x SV bRp (by simp [WMs]) (by omega) h10.out).mono ?_
 rintro e w11 ⟨⟨b11, rfl⟩, r11⟩
 have h11 := hid r11
 clear r11 h10; have r12 := h11.out.kids [y10] (by simp)
 have h12 := hid r12
 clear r12 h11; go_wp2_with fail; have r13 := h12.out.turn (fun i N _ => node_then _ _ _)
 have h13 := hid r13
 clear r13 h12; refine (node_x (sp := 0) SV 9 3 (⟨#[]⟩) [y10] _ _ (h13.out.weak (Nat.le_refl _) (by omega))).mono ?_
 rintro e w14 ⟨x14, y14, q14, rfl, r14⟩
 simp only [q14] at r14
 have h14 := hid r14
 clear r14 h13; clear q14; go_wp2_with fail; go_ret; exact h14.out.done
set_option maxHeartbeats 8000000 in
theorem sprim_im (T : List Tk) (E : Int) (k g : Nat) (sl : Option Addr) (cp : Nat) (i d : Nat) (v : Value) (Q : List NK) (P : List OR) (X : World) (B : Nat) (w : World) (SV : Sv T E X B g sl) (hR : Rs X B w (sR T E k sl cp i d v Q P)) (hi : i ≤ T.length) (hd : d ≤ 40) (hq : Q.length ≤ 2 * i) (n3 : ¬ kd T i = 3) (n4 : ¬ kd T i = 4) (n1 : ¬ kd T i = 1) (ht0 : tx T i = bIm) (hexpr : ∀ j, i < j → j ≤ T.length → SaysS T E X B k sl cp 40 46 #[.pointer (some ⟨k, 0, none⟩)] .expr j) :
  Calls Tryz.prog 106 #[.pointer (some ⟨k, 0, none⟩)] w (OkS T E X B k sl cp d P (PAR T E (.prim d) i (Q.map (·.1)))) := by
 have hlT := SV.l
 have hlt : i < T.length := tx_lt ht0 (by decide)
 have ht := hid ht0
 have hk2 := hid (SV.m i bIm (by simp [WMs]) ht0)
 have h0 := hid hR
 obtain ⟨Res, hRes⟩ : ∃ r, Hid (PAR T E (.prim d) i (Q.map (·.1)) = r) := ⟨_, rfl⟩
 rw [hRes.out]
 have HK : Hid ((fun i N => pWant T E bLp i fun j => (PAR T E (.expr d) j N).then fun x j N => pWant T E bRp j fun j => pNode (nd 9 nil 4 [x.headD 0]) j N) (i + 1) (Q.map (·.1)) = Res) := by
  show _ = _
  rw [← hRes.out, PAR_prim hi, if_neg n3, if_neg n4, if_neg n1, ht0, if_neg (by decide), if_neg (by decide), if_neg (by decide), if_neg (by decide), if_neg (by decide), if_neg (by decide), if_pos (by decide)]
  first | done | rfl
 have hw : Hid (wordOf (tx T i) = 4) := by show _ = _; rw [ht0]; rfl
 obtain ⟨κ, hκ⟩ : ∃ c, Hid (kd T i = c) := ⟨_, rfl⟩
 have m3 : (κ == 3) = false := by have := hκ.out; simp; omega
 have m4 : (κ == 4) = false := by have := hκ.out; simp; omega
 have m1 : (κ == 1) = false := by have := hκ.out; simp; omega
 have Hexpr := hid hexpr
 clear hexpr; clear hR hRes n3 n4 n1 ht0; go_enter Tryz.func106, Tryz.ntmps106
 go_wp2_with fail; refine (kind_live T E k g sl cp i d v Q P X B _ SV h0.out hi (by omega)).mono ?_
 rintro e w1 ⟨rfl, r1⟩
 have h1 := hid r1
 clear r1 h0; rw [hκ.out]
 go_wp2_with fail; refine (turn_any T E k g sl cp i d v Q P X B _ SV h1.out hi (by omega)).mono ?_
 rintro e w2 ⟨rfl, r2⟩
 have h2 := hid r2
 clear r2 h1; rw [hw.out]
 go_wp2_with fail; refine (is_no T E k g sl cp i d v Q P X B ⟨#[121, 101, 115]⟩ _ SV h2.out hi (by omega) (by rw [ht.out]; decide)).mono ?_
 rintro e w3 ⟨rfl, r3⟩
 have h3 := hid r3
 clear r3 h2; go_wp2_with fail; refine (is_no T E k g sl cp i d v Q P X B ⟨#[110, 111]⟩ _ SV h3.out hi (by omega) (by rw [ht.out]; decide)).mono ?_
 rintro e w4 ⟨rfl, r4⟩
 have h4 := hid r4
 clear r4 h3; go_wp2_with fail; refine (is_no T E k g sl cp i d v Q P X B ⟨#[46]⟩ _ SV h4.out hi (by omega) (by rw [ht.out]; decide)).mono ?_
 rintro e w5 ⟨rfl, r5⟩
 have h5 := hid r5
 clear r5 h4; go_wp2_with fail; refine (is_no T E k g sl cp i d v Q P X B ⟨#[36]⟩ _ SV h5.out hi (by omega) (by rw [ht.out]; decide)).mono ?_
 rintro e w6 ⟨rfl, r6⟩
 have h6 := hid r6
 clear r6 h5; go_wp2_with fail; refine (is_no T E k g sl cp i d v Q P X B ⟨#[40]⟩ _ SV h6.out hi (by omega) (by rw [ht.out]; decide)).mono ?_
 rintro e w7 ⟨rfl, r7⟩
 have h7 := hid r7
 clear r7 h6; have r8 := h7.out
 obtain ⟨x0, x1, x2, x3, x4, x5, x6, xf⟩ := (r8.box [] (rN v Q :: (rK Q ++ P))).seven
 have tw : IntKind.i64.wrap ((i : Int) + 1) = (i : Int) + 1 := by rw [IntKind.wrap_i64]; omega
 have h8 : Hid (SX T E X B k sl cp (i + 1) 2 d P Res (fun i N => pWant T E bLp i fun j => (PAR T E (.expr d) j N).then fun x j N => pWant T E bRp j fun j => pNode (nd 9 nil 4 [x.headD 0]) j N) (w7.setCell ⟨k, 1, none⟩ (.int .i64 ((i : Int) + 1)))) := Hid.mk' (Or.inl ⟨i + 1, v, Q, Nat.le_refl _, by omega, by omega, HK.out, r8.setB [] (rN v Q :: (rK Q ++ P)) 1 (.int .i64 ((i : Int) + 1))⟩)
 clear r8 h7 HK; go_wp2_with fail; clear x0 x1 x2 x3 x4 x5 x6 xf tw; refine (want_x SV bLp (by simp [WMs]) (by omega) h8.out).mono ?_
 rintro e w9 ⟨⟨b9, rfl⟩, r9⟩
 have h9 := hid r9
 clear r9 h8; go_wp2_with fail; refine (sub_x (pf := .expr) SV (by omega) trivial (fun _ => by simp [Pf.lo]) (fun j hj => Hexpr.out j (by omega)) (fun c a hD => expr_dead T E k g sl cp _ X B c a _ hD) h9.out).mono ?_
 rintro e w10 ⟨x10, y10, q10, rfl, r10⟩
 simp only [q10] at r10
 have h10 := hid r10
 clear r10 h9; clear q10; go_wp2_with fail; refine (want_x SV bRp (by simp [WMs]) (by omega) h10.out).mono ?_
 rintro e w11 ⟨⟨b11, rfl⟩, r11⟩
 have h11 := hid r11
 clear r11 h10; have r12 := h11.out.kids [y10] (by simp)
 have h12 := hid r12
 clear r12 h11; go_wp2_with fail; have r13 := h12.out.turn (fun i N _ => node_then _ _ _)
 have h13 := hid r13
 clear r13 h12; refine (node_x (sp := 0) SV 9 4 (⟨#[]⟩) [y10] _ _ (h13.out.weak (Nat.le_refl _) (by omega))).mono ?_
 rintro e w14 ⟨x14, y14, q14, rfl, r14⟩
 simp only [q14] at r14
 have h14 := hid r14
 clear r14 h13; clear q14; go_wp2_with fail; go_ret; exact h14.out.done
set_option maxHeartbeats 8000000 in
theorem sprim_realw (T : List Tk) (E : Int) (k g : Nat) (sl : Option Addr) (cp : Nat) (i d : Nat) (v : Value) (Q : List NK) (P : List OR) (X : World) (B : Nat) (w : World) (SV : Sv T E X B g sl) (hR : Rs X B w (sR T E k sl cp i d v Q P)) (hi : i ≤ T.length) (hd : d ≤ 40) (hq : Q.length ≤ 2 * i) (n3 : ¬ kd T i = 3) (n4 : ¬ kd T i = 4) (n1 : ¬ kd T i = 1) (ht0 : tx T i = bReal) (hexpr : ∀ j, i < j → j ≤ T.length → SaysS T E X B k sl cp 40 46 #[.pointer (some ⟨k, 0, none⟩)] .expr j) :
  Calls Tryz.prog 106 #[.pointer (some ⟨k, 0, none⟩)] w (OkS T E X B k sl cp d P (PAR T E (.prim d) i (Q.map (·.1)))) := by
 have hlT := SV.l
 have hlt : i < T.length := tx_lt ht0 (by decide)
 have ht := hid ht0
 have hk2 := hid (SV.m i bReal (by simp [WMs]) ht0)
 have h0 := hid hR
 obtain ⟨Res, hRes⟩ : ∃ r, Hid (PAR T E (.prim d) i (Q.map (·.1)) = r) := ⟨_, rfl⟩
 rw [hRes.out]
 have HK : Hid ((fun i N => pWant T E bLp i fun j => (PAR T E (.expr d) j N).then fun x j N => pWant T E bRp j fun j => pNode (nd 9 nil 5 [x.headD 0]) j N) (i + 1) (Q.map (·.1)) = Res) := by
  show _ = _
  rw [← hRes.out, PAR_prim hi, if_neg n3, if_neg n4, if_neg n1, ht0, if_neg (by decide), if_neg (by decide), if_neg (by decide), if_neg (by decide), if_neg (by decide), if_neg (by decide), if_pos (by decide)]
  first | done | rfl
 have hw : Hid (wordOf (tx T i) = 5) := by show _ = _; rw [ht0]; rfl
 obtain ⟨κ, hκ⟩ : ∃ c, Hid (kd T i = c) := ⟨_, rfl⟩
 have m3 : (κ == 3) = false := by have := hκ.out; simp; omega
 have m4 : (κ == 4) = false := by have := hκ.out; simp; omega
 have m1 : (κ == 1) = false := by have := hκ.out; simp; omega
 have Hexpr := hid hexpr
 clear hexpr; clear hR hRes n3 n4 n1 ht0; go_enter Tryz.func106, Tryz.ntmps106
 go_wp2_with fail; refine (kind_live T E k g sl cp i d v Q P X B _ SV h0.out hi (by omega)).mono ?_
 rintro e w1 ⟨rfl, r1⟩
 have h1 := hid r1
 clear r1 h0; rw [hκ.out]
 go_wp2_with fail; refine (turn_any T E k g sl cp i d v Q P X B _ SV h1.out hi (by omega)).mono ?_
 rintro e w2 ⟨rfl, r2⟩
 have h2 := hid r2
 clear r2 h1; rw [hw.out]
 go_wp2_with fail; refine (is_no T E k g sl cp i d v Q P X B ⟨#[121, 101, 115]⟩ _ SV h2.out hi (by omega) (by rw [ht.out]; decide)).mono ?_
 rintro e w3 ⟨rfl, r3⟩
 have h3 := hid r3
 clear r3 h2; go_wp2_with fail; refine (is_no T E k g sl cp i d v Q P X B ⟨#[110, 111]⟩ _ SV h3.out hi (by omega) (by rw [ht.out]; decide)).mono ?_
 rintro e w4 ⟨rfl, r4⟩
 have h4 := hid r4
 clear r4 h3; go_wp2_with fail; refine (is_no T E k g sl cp i d v Q P X B ⟨#[46]⟩ _ SV h4.out hi (by omega) (by rw [ht.out]; decide)).mono ?_
 rintro e w5 ⟨rfl, r5⟩
 have h5 := hid r5
 clear r5 h4; go_wp2_with fail; refine (is_no T E k g sl cp i d v Q P X B ⟨#[36]⟩ _ SV h5.out hi (by omega) (by rw [ht.out]; decide)).mono ?_
 rintro e w6 ⟨rfl, r6⟩
 have h6 := hid r6
 clear r6 h5; go_wp2_with fail; refine (is_no T E k g sl cp i d v Q P X B ⟨#[40]⟩ _ SV h6.out hi (by omega) (by rw [ht.out]; decide)).mono ?_
 rintro e w7 ⟨rfl, r7⟩
 have h7 := hid r7
 clear r7 h6; have r8 := h7.out
 obtain ⟨x0, x1, x2, x3, x4, x5, x6, xf⟩ := (r8.box [] (rN v Q :: (rK Q ++ P))).seven
 have tw : IntKind.i64.wrap ((i : Int) + 1) = (i : Int) + 1 := by rw [IntKind.wrap_i64]; omega
 have h8 : Hid (SX T E X B k sl cp (i + 1) 2 d P Res (fun i N => pWant T E bLp i fun j => (PAR T E (.expr d) j N).then fun x j N => pWant T E bRp j fun j => pNode (nd 9 nil 5 [x.headD 0]) j N) (w7.setCell ⟨k, 1, none⟩ (.int .i64 ((i : Int) + 1)))) := Hid.mk' (Or.inl ⟨i + 1, v, Q, Nat.le_refl _, by omega, by omega, HK.out, r8.setB [] (rN v Q :: (rK Q ++ P)) 1 (.int .i64 ((i : Int) + 1))⟩)
 clear r8 h7 HK; go_wp2_with fail; clear x0 x1 x2 x3 x4 x5 x6 xf tw; refine (want_x SV bLp (by simp [WMs]) (by omega) h8.out).mono ?_
 rintro e w9 ⟨⟨b9, rfl⟩, r9⟩
 have h9 := hid r9
 clear r9 h8; go_wp2_with fail; refine (sub_x (pf := .expr) SV (by omega) trivial (fun _ => by simp [Pf.lo]) (fun j hj => Hexpr.out j (by omega)) (fun c a hD => expr_dead T E k g sl cp _ X B c a _ hD) h9.out).mono ?_
 rintro e w10 ⟨x10, y10, q10, rfl, r10⟩
 simp only [q10] at r10
 have h10 := hid r10
 clear r10 h9; clear q10; go_wp2_with fail; refine (want_x SV bRp (by simp [WMs]) (by omega) h10.out).mono ?_
 rintro e w11 ⟨⟨b11, rfl⟩, r11⟩
 have h11 := hid r11
 clear r11 h10; have r12 := h11.out.kids [y10] (by simp)
 have h12 := hid r12
 clear r12 h11; go_wp2_with fail; have r13 := h12.out.turn (fun i N _ => node_then _ _ _)
 have h13 := hid r13
 clear r13 h12; refine (node_x (sp := 0) SV 9 5 (⟨#[]⟩) [y10] _ _ (h13.out.weak (Nat.le_refl _) (by omega))).mono ?_
 rintro e w14 ⟨x14, y14, q14, rfl, r14⟩
 simp only [q14] at r14
 have h14 := hid r14
 clear r14 h13; clear q14; go_wp2_with fail; go_ret; exact h14.out.done
set_option maxHeartbeats 8000000 in
theorem sprim_size (T : List Tk) (E : Int) (k g : Nat) (sl : Option Addr) (cp : Nat) (i d : Nat) (v : Value) (Q : List NK) (P : List OR) (X : World) (B : Nat) (w : World) (SV : Sv T E X B g sl) (hR : Rs X B w (sR T E k sl cp i d v Q P)) (hi : i ≤ T.length) (hd : d ≤ 40) (hq : Q.length ≤ 2 * i) (n3 : ¬ kd T i = 3) (n4 : ¬ kd T i = 4) (n1 : ¬ kd T i = 1) (ht0 : tx T i = bSize) (hexpr : ∀ j, i < j → j ≤ T.length → SaysS T E X B k sl cp 40 46 #[.pointer (some ⟨k, 0, none⟩)] .expr j) :
  Calls Tryz.prog 106 #[.pointer (some ⟨k, 0, none⟩)] w (OkS T E X B k sl cp d P (PAR T E (.prim d) i (Q.map (·.1)))) := by
 have hlT := SV.l
 have hlt : i < T.length := tx_lt ht0 (by decide)
 have ht := hid ht0
 have hk2 := hid (SV.m i bSize (by simp [WMs]) ht0)
 have h0 := hid hR
 obtain ⟨Res, hRes⟩ : ∃ r, Hid (PAR T E (.prim d) i (Q.map (·.1)) = r) := ⟨_, rfl⟩
 rw [hRes.out]
 have HK : Hid ((fun i N => pWant T E bLp i fun j => (PAR T E (.expr d) j N).then fun x j N => pWant T E bRp j fun j => pNode (nd 9 nil 6 [x.headD 0]) j N) (i + 1) (Q.map (·.1)) = Res) := by
  show _ = _
  rw [← hRes.out, PAR_prim hi, if_neg n3, if_neg n4, if_neg n1, ht0, if_neg (by decide), if_neg (by decide), if_neg (by decide), if_neg (by decide), if_neg (by decide), if_neg (by decide), if_pos (by decide)]
  first | done | rfl
 have hw : Hid (wordOf (tx T i) = 6) := by show _ = _; rw [ht0]; rfl
 obtain ⟨κ, hκ⟩ : ∃ c, Hid (kd T i = c) := ⟨_, rfl⟩
 have m3 : (κ == 3) = false := by have := hκ.out; simp; omega
 have m4 : (κ == 4) = false := by have := hκ.out; simp; omega
 have m1 : (κ == 1) = false := by have := hκ.out; simp; omega
 have Hexpr := hid hexpr
 clear hexpr; clear hR hRes n3 n4 n1 ht0; go_enter Tryz.func106, Tryz.ntmps106
 go_wp2_with fail; refine (kind_live T E k g sl cp i d v Q P X B _ SV h0.out hi (by omega)).mono ?_
 rintro e w1 ⟨rfl, r1⟩
 have h1 := hid r1
 clear r1 h0; rw [hκ.out]
 go_wp2_with fail; refine (turn_any T E k g sl cp i d v Q P X B _ SV h1.out hi (by omega)).mono ?_
 rintro e w2 ⟨rfl, r2⟩
 have h2 := hid r2
 clear r2 h1; rw [hw.out]
 go_wp2_with fail; refine (is_no T E k g sl cp i d v Q P X B ⟨#[121, 101, 115]⟩ _ SV h2.out hi (by omega) (by rw [ht.out]; decide)).mono ?_
 rintro e w3 ⟨rfl, r3⟩
 have h3 := hid r3
 clear r3 h2; go_wp2_with fail; refine (is_no T E k g sl cp i d v Q P X B ⟨#[110, 111]⟩ _ SV h3.out hi (by omega) (by rw [ht.out]; decide)).mono ?_
 rintro e w4 ⟨rfl, r4⟩
 have h4 := hid r4
 clear r4 h3; go_wp2_with fail; refine (is_no T E k g sl cp i d v Q P X B ⟨#[46]⟩ _ SV h4.out hi (by omega) (by rw [ht.out]; decide)).mono ?_
 rintro e w5 ⟨rfl, r5⟩
 have h5 := hid r5
 clear r5 h4; go_wp2_with fail; refine (is_no T E k g sl cp i d v Q P X B ⟨#[36]⟩ _ SV h5.out hi (by omega) (by rw [ht.out]; decide)).mono ?_
 rintro e w6 ⟨rfl, r6⟩
 have h6 := hid r6
 clear r6 h5; go_wp2_with fail; refine (is_no T E k g sl cp i d v Q P X B ⟨#[40]⟩ _ SV h6.out hi (by omega) (by rw [ht.out]; decide)).mono ?_
 rintro e w7 ⟨rfl, r7⟩
 have h7 := hid r7
 clear r7 h6; have r8 := h7.out
 obtain ⟨x0, x1, x2, x3, x4, x5, x6, xf⟩ := (r8.box [] (rN v Q :: (rK Q ++ P))).seven
 have tw : IntKind.i64.wrap ((i : Int) + 1) = (i : Int) + 1 := by rw [IntKind.wrap_i64]; omega
 have h8 : Hid (SX T E X B k sl cp (i + 1) 2 d P Res (fun i N => pWant T E bLp i fun j => (PAR T E (.expr d) j N).then fun x j N => pWant T E bRp j fun j => pNode (nd 9 nil 6 [x.headD 0]) j N) (w7.setCell ⟨k, 1, none⟩ (.int .i64 ((i : Int) + 1)))) := Hid.mk' (Or.inl ⟨i + 1, v, Q, Nat.le_refl _, by omega, by omega, HK.out, r8.setB [] (rN v Q :: (rK Q ++ P)) 1 (.int .i64 ((i : Int) + 1))⟩)
 clear r8 h7 HK; go_wp2_with fail; clear x0 x1 x2 x3 x4 x5 x6 xf tw; refine (want_x SV bLp (by simp [WMs]) (by omega) h8.out).mono ?_
 rintro e w9 ⟨⟨b9, rfl⟩, r9⟩
 have h9 := hid r9
 clear r9 h8; go_wp2_with fail; refine (sub_x (pf := .expr) SV (by omega) trivial (fun _ => by simp [Pf.lo]) (fun j hj => Hexpr.out j (by omega)) (fun c a hD => expr_dead T E k g sl cp _ X B c a _ hD) h9.out).mono ?_
 rintro e w10 ⟨x10, y10, q10, rfl, r10⟩
 simp only [q10] at r10
 have h10 := hid r10
 clear r10 h9; clear q10; go_wp2_with fail; refine (want_x SV bRp (by simp [WMs]) (by omega) h10.out).mono ?_
 rintro e w11 ⟨⟨b11, rfl⟩, r11⟩
 have h11 := hid r11
 clear r11 h10; have r12 := h11.out.kids [y10] (by simp)
 have h12 := hid r12
 clear r12 h11; go_wp2_with fail; have r13 := h12.out.turn (fun i N _ => node_then _ _ _)
 have h13 := hid r13
 clear r13 h12; refine (node_x (sp := 0) SV 9 6 (⟨#[]⟩) [y10] _ _ (h13.out.weak (Nat.le_refl _) (by omega))).mono ?_
 rintro e w14 ⟨x14, y14, q14, rfl, r14⟩
 simp only [q14] at r14
 have h14 := hid r14
 clear r14 h13; clear q14; go_wp2_with fail; go_ret; exact h14.out.done
set_option maxHeartbeats 8000000 in
theorem sprim_pair (T : List Tk) (E : Int) (k g : Nat) (sl : Option Addr) (cp : Nat) (i d : Nat) (v : Value) (Q : List NK) (P : List OR) (X : World) (B : Nat) (w : World) (SV : Sv T E X B g sl) (hR : Rs X B w (sR T E k sl cp i d v Q P)) (hi : i ≤ T.length) (hd : d ≤ 40) (hq : Q.length ≤ 2 * i) (n3 : ¬ kd T i = 3) (n4 : ¬ kd T i = 4) (n1 : ¬ kd T i = 1) (ht0 : tx T i = bPair) (hexpr : ∀ j, i < j → j ≤ T.length → SaysS T E X B k sl cp 40 46 #[.pointer (some ⟨k, 0, none⟩)] .expr j) :
  Calls Tryz.prog 106 #[.pointer (some ⟨k, 0, none⟩)] w (OkS T E X B k sl cp d P (PAR T E (.prim d) i (Q.map (·.1)))) := by
 have hlT := SV.l
 have hlt : i < T.length := tx_lt ht0 (by decide)
 have ht := hid ht0
 have hk2 := hid (SV.m i bPair (by simp [WMs]) ht0)
 have h0 := hid hR
 obtain ⟨Res, hRes⟩ : ∃ r, Hid (PAR T E (.prim d) i (Q.map (·.1)) = r) := ⟨_, rfl⟩
 rw [hRes.out]
 have HK : Hid ((fun i N => pWant T E bLp i fun j => (PAR T E (.expr d) j N).then fun x j N => pWant T E bComma j fun j => (PAR T E (.expr d) j N).then fun y j N => pWant T E bRp j fun j => pNode (nd 10 nil 0 [x.headD 0, y.headD 0]) j N) (i + 1) (Q.map (·.1)) = Res) := by
  show _ = _
  rw [← hRes.out, PAR_prim hi, if_neg n3, if_neg n4, if_neg n1, ht0, if_neg (by decide), if_neg (by decide), if_neg (by decide), if_neg (by decide), if_neg (by decide), if_neg (by decide), if_neg (by decide), if_pos (by decide)]
  first | done | rfl
 have hw : Hid (wordOf (tx T i) = 0) := by show _ = _; rw [ht0]; rfl
 obtain ⟨κ, hκ⟩ : ∃ c, Hid (kd T i = c) := ⟨_, rfl⟩
 have m3 : (κ == 3) = false := by have := hκ.out; simp; omega
 have m4 : (κ == 4) = false := by have := hκ.out; simp; omega
 have m1 : (κ == 1) = false := by have := hκ.out; simp; omega
 have Hexpr := hid hexpr
 clear hexpr; clear hR hRes n3 n4 n1 ht0; go_enter Tryz.func106, Tryz.ntmps106
 go_wp2_with fail; refine (kind_live T E k g sl cp i d v Q P X B _ SV h0.out hi (by omega)).mono ?_
 rintro e w1 ⟨rfl, r1⟩
 have h1 := hid r1
 clear r1 h0; rw [hκ.out]
 go_wp2_with fail; refine (turn_any T E k g sl cp i d v Q P X B _ SV h1.out hi (by omega)).mono ?_
 rintro e w2 ⟨rfl, r2⟩
 have h2 := hid r2
 clear r2 h1; rw [hw.out]
 go_wp2_with fail; refine (is_no T E k g sl cp i d v Q P X B ⟨#[121, 101, 115]⟩ _ SV h2.out hi (by omega) (by rw [ht.out]; decide)).mono ?_
 rintro e w3 ⟨rfl, r3⟩
 have h3 := hid r3
 clear r3 h2; go_wp2_with fail; refine (is_no T E k g sl cp i d v Q P X B ⟨#[110, 111]⟩ _ SV h3.out hi (by omega) (by rw [ht.out]; decide)).mono ?_
 rintro e w4 ⟨rfl, r4⟩
 have h4 := hid r4
 clear r4 h3; go_wp2_with fail; refine (is_no T E k g sl cp i d v Q P X B ⟨#[46]⟩ _ SV h4.out hi (by omega) (by rw [ht.out]; decide)).mono ?_
 rintro e w5 ⟨rfl, r5⟩
 have h5 := hid r5
 clear r5 h4; go_wp2_with fail; refine (is_no T E k g sl cp i d v Q P X B ⟨#[36]⟩ _ SV h5.out hi (by omega) (by rw [ht.out]; decide)).mono ?_
 rintro e w6 ⟨rfl, r6⟩
 have h6 := hid r6
 clear r6 h5; go_wp2_with fail; refine (is_no T E k g sl cp i d v Q P X B ⟨#[40]⟩ _ SV h6.out hi (by omega) (by rw [ht.out]; decide)).mono ?_
 rintro e w7 ⟨rfl, r7⟩
 have h7 := hid r7
 clear r7 h6; go_wp2_with fail; refine (is_yes T E k g sl cp i d v Q P X B ⟨#[112, 97, 105, 114]⟩ _ SV h7.out hi (by omega) hlt ht.out hk2.out).mono ?_
 rintro e w8 ⟨rfl, r8⟩
 have h8 := hid r8
 clear r8 h7; have r9 := h8.out
 obtain ⟨x0, x1, x2, x3, x4, x5, x6, xf⟩ := (r9.box [] (rN v Q :: (rK Q ++ P))).seven
 have tw : IntKind.i64.wrap ((i : Int) + 1) = (i : Int) + 1 := by rw [IntKind.wrap_i64]; omega
 have h9 : Hid (SX T E X B k sl cp (i + 1) 2 d P Res (fun i N => pWant T E bLp i fun j => (PAR T E (.expr d) j N).then fun x j N => pWant T E bComma j fun j => (PAR T E (.expr d) j N).then fun y j N => pWant T E bRp j fun j => pNode (nd 10 nil 0 [x.headD 0, y.headD 0]) j N) (w8.setCell ⟨k, 1, none⟩ (.int .i64 ((i : Int) + 1)))) := Hid.mk' (Or.inl ⟨i + 1, v, Q, Nat.le_refl _, by omega, by omega, HK.out, r9.setB [] (rN v Q :: (rK Q ++ P)) 1 (.int .i64 ((i : Int) + 1))⟩)
 clear r9 h8 HK; go_wp2_with fail; clear x0 x1 x2 x3 x4 x5 x6 xf tw; refine (want_x SV bLp (by simp [WMs]) (by omega) h9.out).mono ?_
 rintro e w10 ⟨⟨b10, rfl⟩, r10⟩
 have h10 := hid r10
 clear r10 h9; go_wp2_with fail; refine (sub_x (pf := .expr) SV (by omega) trivial (fun _ => by simp [Pf.lo]) (fun j hj => Hexpr.out j (by omega)) (fun c a hD => expr_dead T E k g sl cp _ X B c a _ hD) h10.out).mono ?_
 rintro e w11 ⟨x11, y11, q11, rfl, r11⟩
 simp only [q11] at r11
 have h11 := hid r11
 clear r11 h10; clear q11; go_wp2_with fail; refine (want_x SV bComma (by simp [WMs]) (by omega) h11.out).mono ?_
 rintro e w12 ⟨⟨b12, rfl⟩, r12⟩
 have h12 := hid r12
 clear r12 h11; go_wp2_with fail; refine (sub_x (pf := .expr) SV (by omega) trivial (fun _ => by simp [Pf.lo]) (fun j hj => Hexpr.out j (by omega)) (fun c a hD => expr_dead T E k g sl cp _ X B c a _ hD) h12.out).mono ?_
 rintro e w13 ⟨x13, y13, q13, rfl, r13⟩
 simp only [q13] at r13
 have h13 := hid r13
 clear r13 h12; clear q13; go_wp2_with fail; refine (want_x SV bRp (by simp [WMs]) (by omega) h13.out).mono ?_
 rintro e w14 ⟨⟨b14, rfl⟩, r14⟩
 have h14 := hid r14
 clear r14 h13; have r15 := h14.out.kids [y11, y13] (by simp)
 have h15 := hid r15
 clear r15 h14; go_wp2_with fail; have r16 := h15.out.turn (fun i N _ => node_then _ _ _)
 have h16 := hid r16
 clear r16 h15; refine (node_x (sp := 0) SV 10 0 (⟨#[]⟩) [y11, y13] _ _ (h16.out.weak (Nat.le_refl _) (by omega))).mono ?_
 rintro e w17 ⟨x17, y17, q17, rfl, r17⟩
 simp only [q17] at r17
 have h17 := hid r17
 clear r17 h16; clear q17; go_wp2_with fail; go_ret; exact h17.out.done
set_option maxHeartbeats 8000000 in
theorem sprim_pick (T : List Tk) (E : Int) (k g : Nat) (sl : Option Addr) (cp : Nat) (i d : Nat) (v : Value) (Q : List NK) (P : List OR) (X : World) (B : Nat) (w : World) (SV : Sv T E X B g sl) (hR : Rs X B w (sR T E k sl cp i d v Q P)) (hi : i ≤ T.length) (hd : d ≤ 40) (hq : Q.length ≤ 2 * i) (n3 : ¬ kd T i = 3) (n4 : ¬ kd T i = 4) (n1 : ¬ kd T i = 1) (ht0 : tx T i = bPick) (hexpr : ∀ j, i < j → j ≤ T.length → SaysS T E X B k sl cp 40 46 #[.pointer (some ⟨k, 0, none⟩)] .expr j) :
  Calls Tryz.prog 106 #[.pointer (some ⟨k, 0, none⟩)] w (OkS T E X B k sl cp d P (PAR T E (.prim d) i (Q.map (·.1)))) := by
 have hlT := SV.l
 have hlt : i < T.length := tx_lt ht0 (by decide)
 have ht := hid ht0
 have hk2 := hid (SV.m i bPick (by simp [WMs]) ht0)
 have h0 := hid hR
 obtain ⟨Res, hRes⟩ : ∃ r, Hid (PAR T E (.prim d) i (Q.map (·.1)) = r) := ⟨_, rfl⟩
 rw [hRes.out]
 have HK : Hid ((fun i N => pWant T E bLp i fun j => (PAR T E (.expr d) j N).then fun x j N => pWant T E bOf j fun j => (PAR T E (.items 1 d []) j N).then fun y j N => pWant T E bRp j fun j => pNode (nd 11 nil 0 (x.headD 0 :: y)) j N) (i + 1) (Q.map (·.1)) = Res) := by
  show _ = _
  rw [← hRes.out, PAR_prim hi, if_neg n3, if_neg n4, if_neg n1, ht0, if_neg (by decide), if_neg (by decide), if_neg (by decide), if_neg (by decide), if_neg (by decide), if_neg (by decide), if_neg (by decide), if_neg (by decide), if_pos (by decide)]
  first | done | rfl
 have hw : Hid (wordOf (tx T i) = 0) := by show _ = _; rw [ht0]; rfl
 obtain ⟨κ, hκ⟩ : ∃ c, Hid (kd T i = c) := ⟨_, rfl⟩
 have m3 : (κ == 3) = false := by have := hκ.out; simp; omega
 have m4 : (κ == 4) = false := by have := hκ.out; simp; omega
 have m1 : (κ == 1) = false := by have := hκ.out; simp; omega
 have Hexpr := hid hexpr
 clear hexpr; clear hR hRes n3 n4 n1 ht0; go_enter Tryz.func106, Tryz.ntmps106
 go_wp2_with fail; refine (kind_live T E k g sl cp i d v Q P X B _ SV h0.out hi (by omega)).mono ?_
 rintro e w1 ⟨rfl, r1⟩
 have h1 := hid r1
 clear r1 h0; rw [hκ.out]
 go_wp2_with fail; refine (turn_any T E k g sl cp i d v Q P X B _ SV h1.out hi (by omega)).mono ?_
 rintro e w2 ⟨rfl, r2⟩
 have h2 := hid r2
 clear r2 h1; rw [hw.out]
 go_wp2_with fail; refine (is_no T E k g sl cp i d v Q P X B ⟨#[121, 101, 115]⟩ _ SV h2.out hi (by omega) (by rw [ht.out]; decide)).mono ?_
 rintro e w3 ⟨rfl, r3⟩
 have h3 := hid r3
 clear r3 h2; go_wp2_with fail; refine (is_no T E k g sl cp i d v Q P X B ⟨#[110, 111]⟩ _ SV h3.out hi (by omega) (by rw [ht.out]; decide)).mono ?_
 rintro e w4 ⟨rfl, r4⟩
 have h4 := hid r4
 clear r4 h3; go_wp2_with fail; refine (is_no T E k g sl cp i d v Q P X B ⟨#[46]⟩ _ SV h4.out hi (by omega) (by rw [ht.out]; decide)).mono ?_
 rintro e w5 ⟨rfl, r5⟩
 have h5 := hid r5
 clear r5 h4; go_wp2_with fail; refine (is_no T E k g sl cp i d v Q P X B ⟨#[36]⟩ _ SV h5.out hi (by omega) (by rw [ht.out]; decide)).mono ?_
 rintro e w6 ⟨rfl, r6⟩
 have h6 := hid r6
 clear r6 h5; go_wp2_with fail; refine (is_no T E k g sl cp i d v Q P X B ⟨#[40]⟩ _ SV h6.out hi (by omega) (by rw [ht.out]; decide)).mono ?_
 rintro e w7 ⟨rfl, r7⟩
 have h7 := hid r7
 clear r7 h6; go_wp2_with fail; refine (is_no T E k g sl cp i d v Q P X B ⟨#[112, 97, 105, 114]⟩ _ SV h7.out hi (by omega) (by rw [ht.out]; decide)).mono ?_
 rintro e w8 ⟨rfl, r8⟩
 have h8 := hid r8
 clear r8 h7; go_wp2_with fail; refine (is_yes T E k g sl cp i d v Q P X B ⟨#[112, 105, 99, 107]⟩ _ SV h8.out hi (by omega) hlt ht.out hk2.out).mono ?_
 rintro e w9 ⟨rfl, r9⟩
 have h9 := hid r9
 clear r9 h8; have r10 := h9.out
 obtain ⟨x0, x1, x2, x3, x4, x5, x6, xf⟩ := (r10.box [] (rN v Q :: (rK Q ++ P))).seven
 have tw : IntKind.i64.wrap ((i : Int) + 1) = (i : Int) + 1 := by rw [IntKind.wrap_i64]; omega
 have h10 : Hid (SX T E X B k sl cp (i + 1) 2 d P Res (fun i N => pWant T E bLp i fun j => (PAR T E (.expr d) j N).then fun x j N => pWant T E bOf j fun j => (PAR T E (.items 1 d []) j N).then fun y j N => pWant T E bRp j fun j => pNode (nd 11 nil 0 (x.headD 0 :: y)) j N) (w9.setCell ⟨k, 1, none⟩ (.int .i64 ((i : Int) + 1)))) := Hid.mk' (Or.inl ⟨i + 1, v, Q, Nat.le_refl _, by omega, by omega, HK.out, r10.setB [] (rN v Q :: (rK Q ++ P)) 1 (.int .i64 ((i : Int) + 1))⟩)
 clear r10 h9 HK; go_wp2_with fail; clear x0 x1 x2 x3 x4 x5 x6 xf tw; refine (want_x SV bLp (by simp [WMs]) (by omega) h10.out).mono ?_
 rintro e w11 ⟨⟨b11, rfl⟩, r11⟩
 have h11 := hid r11
 clear r11 h10; go_wp2_with fail; refine (sub_x (pf := .expr) SV (by omega) trivial (fun _ => by simp [Pf.lo]) (fun j hj => Hexpr.out j (by omega)) (fun c a hD => expr_dead T E k g sl cp _ X B c a _ hD) h11.out).mono ?_
 rintro e w12 ⟨x12, y12, q12, rfl, r12⟩
 simp only [q12] at r12
 have h12 := hid r12
 clear r12 h11; clear q12; go_wp2_with fail; refine (want_x SV bOf (by simp [WMs]) (by omega) h12.out).mono ?_
 rintro e w13 ⟨⟨b13, rfl⟩, r13⟩
 have h13 := hid r13
 clear r13 h12; have r14 := h13.out.kids [y12] (by simp)
 have h14 := hid r14
 clear r14 h13; go_wp2_with fail; refine (names_x SV (by omega) h14.out).mono ?_
 rintro e w15 ⟨t15, ct15, L15, rfl, hl15, r15⟩
 have h15 := hid r15
 clear r15 h14; obtain ⟨R16, e16⟩ : ∃ R, Hid ([y12] ++ L15 = R) := ⟨_, rfl⟩
 have r := h15.out
 simp only [show y12 :: L15 = R16 from e16.out] at r
 have g16 := hid r
 clear r h15; go_wp2_with (at_builtin; refine wpList_sxL g16.out rfl _ _ rfl rfl rfl (by simp) (by omega) R16 e16.out ?_; intro s16 c16 w16 r16)
 have h16 := hid r16
 clear r16 g16 e16; go_wp2_with fail; refine (want_x SV bRp (by simp [WMs]) (by omega) h16.out).mono ?_
 rintro e w17 ⟨⟨b17, rfl⟩, r17⟩
 have h17 := hid r17
 clear r17 h16; go_wp2_with fail; have r18 := h17.out.turn (fun i N _ => node_then _ _ _)
 have h18 := hid r18
 clear r18 h17; refine (node_x (sp := 0) SV 11 0 (⟨#[]⟩) R16 _ _ (h18.out.weak (Nat.le_refl _) (by omega))).mono ?_
 rintro e w19 ⟨x19, y19, q19, rfl, r19⟩
 simp only [q19] at r19
 have h19 := hid r19
 clear r19 h18; clear q19; go_wp2_with fail; go_ret; exact h19.out.done
end Go.Proofs.YtncknfkinmjmdaaGreatDoor
