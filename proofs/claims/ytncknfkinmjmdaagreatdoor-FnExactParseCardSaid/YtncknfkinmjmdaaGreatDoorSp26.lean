import Derived.Test.YtncknfkinmjmdaaGreatDoorSp25
namespace Go.Proofs.YtncknfkinmjmdaaGreatDoor
set_option linter.unusedVariables false
set_option linter.unusedSimpArgs false
section
open Go.RowKit
set_option maxRecDepth 100000
theorem wpList_fr1 {X w0 : World} {B c : Nat} {F P : List OR} {s : Option Addr} {acc : List Int} {ops : Array Oper} {rest : List Oper} {o : Oper} {a : Act} {Qx : Exit → Act → World → Prop} (h : Rs X B w0 (F ++ rI (.slice s acc.length c) acc :: P)) (hg : o.guard = none) (sx x : Operand) (ho : o.op = .call { callee := .builtin .append, args := #[sx, x], argTypes := #[23, 23] })
  (hs : a.eval sx = .slice s acc.length c) (b : Int) (hx : a.eval x = .slice (some ⟨w0.heap.size, 0, none⟩) 1 1) (hl : acc.length ≤ 1000000) (R : List Int) (hR : acc ++ [b] = R)
  (hK : ∀ s' c' w', Rs X B w' (F ++ rI (.slice s' R.length c') R :: P) → wpList Tryz.prog ops Qx rest (a.put o.dst (.slice s' R.length c')) w') :
  wpList Tryz.prog ops Qx (o :: rest) a (w0.alloc (.cells #[.int .i64 b] 3)) := by
 subst hR
 obtain ⟨iI, hiI, hzI, hsI, hbI⟩ := info_parts Tryz.infoI8
 have h4 : Rs X B (w0.alloc (.cells #[.int .i64 b] 3)) (F ++ rB w0.heap.size 3 [.int .i64 b] :: rI (.slice s acc.length c) acc :: P) := h.ins F (rI (.slice s acc.length c) acc :: P) (bl_alloc (Below.refl _ _) _) (blk_rB (Blk.new w0 _ _) (Nat.le_refl _))
 have h5 : Rs X B (w0.alloc (.cells #[.int .i64 b] 3)) ((F ++ [rB w0.heap.size 3 [.int .i64 b]]) ++ rI (.slice s acc.length c) acc :: P) := by
  rw [List.append_assoc]
  exact h4
 refine wpList_appI _ P h5 hg sx x 23 8 ho Tryz.underlying23 hiI hzI hsI hbI rfl Nat.zero_lt_one hs (some ⟨w0.heap.size, 0, none⟩) 1 1 [.int .i64 b] hx rfl (Or.inr ⟨_, rfl, news1 (h4.box F (rI (.slice s acc.length c) acc :: P))⟩) (by intro u hu; simp only [List.mem_singleton] at hu; subst hu; rfl) (by show acc.length + 1 ≤ _; unfold maxLen; omega) (by show (acc.length + 1) * 8 ≤ _; omega) (acc.length + 1) rfl (fun v => ⟨3, 1, v, acc.length + 1, acc.map (Value.int .i64) ++ [.int .i64 b]⟩) (fun _ => rfl) ?_
 intro s' c' w' h'
 have e0 : (acc ++ [b]).length = acc.length + 1 := by simp
 have e1 : rI (.slice s' (acc ++ [b]).length c') (acc ++ [b]) = (⟨3, 1, .slice s' (acc.length + 1) c', acc.length + 1, acc.map (Value.int .i64) ++ [.int .i64 b]⟩ : OR) := by
  simp [rI]
 have h7 : Rs X B w' (F ++ rB w0.heap.size 3 [.int .i64 b] :: rI (.slice s' (acc ++ [b]).length c') (acc ++ [b]) :: P) := by
  rw [e1]
  rw [List.append_assoc] at h'
  exact h'
 have := hK s' c' w' (h7.less F _)
 rw [e0] at this
 exact this
theorem wpList_sR1 {T : List Tk} {E : Int} {k : Nat} {sl : Option Addr} {cp j d : Nat} {v : Value} {Q : List NK} {X w0 : World} {B c : Nat} {P : List OR} {s : Option Addr} {acc : List Int} {ops : Array Oper} {rest : List Oper} {o : Oper} {a : Act} {Qx : Exit → Act → World → Prop} (h : Rs X B w0 (sR T E k sl cp j d v Q (rI (.slice s acc.length c) acc :: P))) (hg : o.guard = none) (sx x : Operand) (ho : o.op = .call { callee := .builtin .append, args := #[sx, x], argTypes := #[23, 23] })
  (hs : a.eval sx = .slice s acc.length c) (b : Int) (hx : a.eval x = .slice (some ⟨w0.heap.size, 0, none⟩) 1 1) (hl : acc.length ≤ 1000000) (R : List Int) (hR : acc ++ [b] = R)
  (hK : ∀ s' c' w', Rs X B w' (sR T E k sl cp j d v Q (rI (.slice s' R.length c') R :: P)) → wpList Tryz.prog ops Qx rest (a.put o.dst (.slice s' R.length c')) w') :
  wpList Tryz.prog ops Qx (o :: rest) a (w0.alloc (.cells #[.int .i64 b] 3)) :=
 wpList_fr1 (F := (rB k 36 (bP sl T.length cp j v 0 0 d E) :: rN v Q :: rK Q)) h hg sx x ho hs b hx hl R hR hK
theorem wpList_sD1 {T : List Tk} {E : Int} {k : Nat} {sl : Option Addr} {cp : Nat} {cd at' : Int} {X w0 : World} {B c : Nat} {P : List OR} {s : Option Addr} {acc : List Int} {ops : Array Oper} {rest : List Oper} {o : Oper} {a : Act} {Qx : Exit → Act → World → Prop} (h : sD T E k sl cp cd at' X B w0 (rI (.slice s acc.length c) acc :: P)) (hg : o.guard = none) (sx x : Operand) (ho : o.op = .call { callee := .builtin .append, args := #[sx, x], argTypes := #[23, 23] })
  (hs : a.eval sx = .slice s acc.length c) (b : Int) (hx : a.eval x = .slice (some ⟨w0.heap.size, 0, none⟩) 1 1) (hl : acc.length ≤ 1000000) (R : List Int) (hR : acc ++ [b] = R)
  (hK : ∀ s' c' w', sD T E k sl cp cd at' X B w' (rI (.slice s' R.length c') R :: P) → wpList Tryz.prog ops Qx rest (a.put o.dst (.slice s' R.length c')) w') :
  wpList Tryz.prog ops Qx (o :: rest) a (w0.alloc (.cells #[.int .i64 b] 3)) := by
 obtain ⟨hc, i, d, v, Q, hr⟩ := h
 exact wpList_fr1 (F := (rB k 36 (bP sl T.length cp i v cd at' d E) :: rN v Q :: rK Q)) hr hg sx x ho hs b hx hl R hR (fun s' c' w' h' => hK s' c' w' ⟨hc, i, d, v, Q, h'⟩)
theorem sR_none {T : List Tk} {E : Int} {k : Nat} {sl : Option Addr} {cp i d : Nat} {v : Value} {Q : List NK} {P : List OR} {X w : World} {B : Nat} (h : Rs X B w (sR T E k sl cp i d v Q P)) : Rs X B w (sR T E k sl cp i d v Q (rI (.slice none 0 0) [] :: P)) :=
 h.none (rB k 36 (bP sl T.length cp i v 0 0 d E) :: rN v Q :: rK Q) P
theorem sD_kids {T : List Tk} {E : Int} {k : Nat} {sl : Option Addr} {cp : Nat} {c a : Int} {P : List OR} {X w : World} {B : Nat} (h : sD T E k sl cp c a X B w P) (L : List Int) (hl : L.length ≤ 1000000) : sD T E k sl cp c a X B (w.alloc (.cells (L.map (Value.int .i64)).toArray 3)) (rI (.slice (some ⟨w.heap.size, 0, none⟩) L.length L.length) L :: P) := by
 obtain ⟨hc, i, d, v, Q, hR⟩ := h
 exact ⟨hc, i, d, v, Q, hR.ins (rB k 36 (bP sl T.length cp i v c a d E) :: rN v Q :: rK Q) P (bl_alloc (Below.refl _ _) _) (World.ownsRow_lit (base := w.heap.size) (e := 3) (size := 1) w (L.map (Value.int .i64)).toArray L.length (Nat.le_refl _) (by unfold maxLen; omega) (by simp))⟩
set_option maxHeartbeats 8000000 in
theorem snames_any (T : List Tk) (E : Int) (k g : Nat) (sl : Option Addr) (cp : Nat) (i d : Nat) (v : Value) (Q : List NK) (P : List OR) (X : World) (B : Nat) (w : World) (SV : Sv T E X B g sl) (hR : Rs X B w (sR T E k sl cp i d v Q P)) (hi : i ≤ T.length) (hd : d ≤ 1000) (hq : Q.length ≤ 2 * i) :
  Calls Tryz.prog 68 #[.pointer (some ⟨k, 0, none⟩)] w (OkLS T E X B k sl cp d P (PAR T E (.items 1 d []) i (Q.map (·.1)))) := by
 have hlT := SV.l
 have SV0 := hid SV
 have h0 := hid (sR_kids hR [] (by simp))
 obtain ⟨Res, hRes⟩ : ∃ r, Hid (PAR T E (.items 1 d []) i (Q.map (·.1)) = r) := ⟨_, rfl⟩
 rw [hRes.out]
 clear hR SV; go_enter Tryz.func68, Tryz.ntmps68
 go_wp2_with fail; go_loopw [3] (fun kv wr => ∃ (acc : List Int) (q : Nat) (v2 : Value) (Q2 : List NK) (s : Option Addr) (c : Nat), kv = .slice s acc.length c ∧ q ≤ T.length ∧ acc.length ≤ q ∧ Q2.length ≤ 2 * q ∧ Hid (PAR T E (.items 1 d acc) q (Q2.map (·.1)) = Res) ∧ Hid (Rs X B wr (sR T E k sl cp q d v2 Q2 (rI (.slice s acc.length c) acc :: P)))) (fun _ wr => left T wr k)
 case atStart => exact ⟨[], i, v, Q, _, _, rfl, hi, by simp, hq, hRes, h0⟩
 obtain ⟨acc, q, v2, Q2, s, c, rfl, hqT, hac, hq2, HR, h2⟩ := hrel
 clear h0 hRes; have HIX := hid (left_live h2.out)
 obtain ⟨x0, x1, x2, x3, x4, x5, x6, xf⟩ := (h2.out.box [] (rN v2 Q2 :: (rK Q2 ++ (rI (.slice s acc.length c) acc :: P)))).seven
 have hz2 : ((0 : Int) == 0) = true := rfl
 go_wp2_with fail; clear x0 x1 x2 x3 x4 x5 x6 xf hz2; have HR2 := HR.out
 rw [PAR_items hqT, PAR_item1 hqT] at HR2
 clear HR; by_cases hk : kd T q = 1
 ·
  have hqlt : q < T.length := kd_lt hk (by decide)
  rw [name_yes hk] at HR2
  have HR2 := hid HR2
  have Hk := hid hk
  clear hk; refine (sname_ok T E k g sl cp q d v2 Q2 (rI (.slice s acc.length c) acc :: P) X B _ SV0.out h2.out hqT hd Hk.out).mono ?_
  rintro e w3 ⟨rfl, r3⟩
  have h3 := hid (sR_none r3)
  clear r3 h2; go_wp2_with fail; refine (node_live T E k g sl cp (q + 1) d v2 Q2 (rI (.slice s acc.length c) acc :: P) X B 31 0 (tx T q) [] none 0 _ h3.out (by omega)).mono ?_
  rintro e w4 ⟨rfl, v4, r4⟩
  have h4 := hid r4
  obtain ⟨Q4, hQ4⟩ : ∃ Q4, Hid (Q2 ++ [((nd 31 (tx T q) 0 [], Value.slice none (List.length (α := Int) []) 0) : NK)] = Q4) := ⟨_, rfl⟩
  rw [hQ4.out] at h4
  have k4 : Q4.length = Q2.length + 1 := by rw [← hQ4.out]; simp
  have e4 : Hid (tailI T E 1 d (acc ++ [(Q2.length : Int)]) (q + 1) (Q4.map (·.1)) = Res) := by
   show _ = _
   rw [← HR2.out, ← hQ4.out]
   simp [then_ok, pNode, nd]
  clear r4 h3 HR2 hQ4; obtain ⟨R, eR⟩ : ∃ R, Hid (acc ++ [(Q2.length : Int)] = R) := ⟨_, rfl⟩
  have hRl : Hid (R.length = acc.length + 1) := by show _ = _; rw [← eR.out]; simp
  rw [eR.out] at e4
  go_wp2_with (at_builtin; refine wpList_sR1 h4.out rfl _ _ rfl rfl (Q2.length : Int) rfl (by omega) R eR.out ?_; intro s5 c5 w5 r5)
  have h5 := hid r5
  clear r5 h4 eR; by_cases hs : tx T (q + 1) = bComma
  ·
   have hqlt2 : q + 1 < T.length := tx_lt hs (by decide)
   have HR3 := e4.out
   unfold tailI at HR3
   rw [if_pos hs] at HR3
   have HR3 := hid HR3
   have Hs := hid hs
   have Hk2 := hid (SV0.out.m _ _ (by simp [WMs]) hs)
   have tw : IntKind.i64.wrap (((q + 1 : Nat) : Int) + 1) = ((q + 1 : Nat) : Int) + 1 := by rw [IntKind.wrap_i64]; omega
   have tw2 : IntKind.i64.wrap ((q : Int) + 1 + 1) = (q : Int) + 1 + 1 := by rw [IntKind.wrap_i64]; omega
   clear e4 hs; refine (is_yes T E k g sl cp (q + 1) d v4 Q4 (rI (.slice s5 R.length c5) R :: P) X B ⟨#[44]⟩ _ SV0.out h5.out hqlt hd hqlt2 Hs.out Hk2.out).mono ?_
   rintro e w6 ⟨rfl, r6⟩
   obtain ⟨x0, x1, x2, x3, x4, x5, x6, xf⟩ := (r6.box [] (rN v4 Q4 :: (rK Q4 ++ (rI (.slice s5 R.length c5) R :: P)))).seven
   have h7 : Hid (Rs X B (w6.setCell ⟨k, 1, none⟩ (.int .i64 ((q : Int) + 1 + 1))) (sR T E k sl cp (q + 1 + 1) d v4 Q4 (rI (.slice s5 R.length c5) R :: P))) := Hid.mk' (r6.setB [] (rN v4 Q4 :: (rK Q4 ++ (rI (.slice s5 R.length c5) R :: P))) 1 (.int .i64 ((q : Int) + 1 + 1)))
   clear r6 h5; go_wp2_with fail; go_roundw
   case rel => exact ⟨R, q + 1 + 1, v4, Q4, s5, c5, rfl, by omega, by have := hRl.out; omega, by omega, HR3, h7⟩
   rw [left_live h7.out, HIX.out]
   omega
  have HR3 := e4.out
  unfold tailI at HR3
  rw [if_neg hs] at HR3
  have HR3 := hid HR3
  have Hs := hid hs
  clear e4 hs; refine (is_no T E k g sl cp (q + 1) d v4 Q4 (rI (.slice s5 R.length c5) R :: P) X B ⟨#[44]⟩ _ SV0.out h5.out hqlt hd Hs.out).mono ?_
  rintro e w6 ⟨rfl, r6⟩
  have h6 := hid r6
  clear r6 h5; go_wp2_with fail; go_ret; rw [← HR3.out]
  exact ⟨s5, c5, v4, Q4, rfl, rfl, h6.out⟩
 rw [name_no hk] at HR2
 have HR2 := hid HR2
 have Hk := hid hk
 clear hk; refine (sname_bad T E k g sl cp q d v2 Q2 (rI (.slice s acc.length c) acc :: P) X B _ SV0.out h2.out hqT hd Hk.out).mono ?_
 rintro e w3 ⟨rfl, r3⟩
 have h3 := hid r3
 clear r3 h2; go_wp2_with fail; refine (node_dead T E k g sl cp (rI (.slice s acc.length c) acc :: P) X B 2 (ta T E q) _ _ _ _ _ h3.out).mono ?_
 rintro e w4 ⟨rfl, r4⟩
 have h4 := hid r4
 clear r4 h3; obtain ⟨R, eR⟩ : ∃ R, Hid (acc ++ [(-1 : Int)] = R) := ⟨_, rfl⟩
 have hRl : Hid (R.length = acc.length + 1) := by show _ = _; rw [← eR.out]; simp
 go_wp2_with (at_builtin; refine wpList_sD1 h4.out rfl _ _ rfl rfl (-1) rfl (by omega) R eR.out ?_; intro s5 c5 w5 r5)
 have h5 := hid r5
 clear r5 h4 eR; refine (is_dead T E k g sl cp _ X B 2 (ta T E q) _ _ h5.out).mono ?_
 rintro e w6 ⟨rfl, r6⟩
 have h6 := hid r6
 clear r6 h5; go_wp2_with fail; go_ret; rw [← HR2.out]
 exact ⟨s5, c5, R, rfl, by have := hRl.out; omega, h6.out⟩
set_option maxHeartbeats 4000000 in
theorem names_dead (T : List Tk) (E : Int) (k g : Nat) (sl : Option Addr) (cp : Nat) (P : List OR) (X : World) (B : Nat) (c a : Int) (w : World) (hD : sD T E k sl cp c a X B w P) :
  Calls Tryz.prog 68 #[.pointer (some ⟨k, 0, none⟩)] w fun e w' => ∃ s cc, ∃ L : List Int, e = .returned (.slice s L.length cc) ∧ L.length ≤ 5000 ∧ sD T E k sl cp c a X B w' (rI (.slice s L.length cc) L :: P) := by
 have h0 := hid (sD_kids hD [] (by simp))
 clear hD; go_enter Tryz.func68, Tryz.ntmps68
 go_wp2_with fail; go_loopw [3] (fun kv wr => kv = .slice (some ⟨w.heap.size, 0, none⟩) 0 0 ∧ Hid (sD T E k sl cp c a X B wr (rI (.slice (some ⟨w.heap.size, 0, none⟩) 0 0) [] :: P))) (fun _ wr => left T wr k)
 case atStart => exact ⟨rfl, h0⟩
 obtain ⟨rfl, hb⟩ := hrel
 clear h0; obtain ⟨hc, i', d', v', Q', r2⟩ := hb.out
 obtain ⟨x0, x1, x2, x3, x4, x5, x6, xf⟩ := (r2.box [] (rN v' Q' :: (rK Q' ++ _))).seven
 have hz2 : (c == 0) = false := by simpa using hc
 clear r2; go_wp2_with fail; go_ret; exact ⟨_, _, [], rfl, by simp, hb.out⟩
end
section
open Go.RowKit
set_option maxRecDepth 100000
theorem PAR_item0 {T : List Tk} {E : Int} {d i : Nat} {N : List Nd} (hi : i ≤ T.length) : PAR T E (.item 0 d) i N = PAR T E (.expr d) i N := by
 rw [PAR_eq (p := .item 0 d) trivial hi]
 rfl
def shutR (T : List Tk) (E : Int) (x : List Int) (j : Nat) (N : List Nd) : PRes := pWant T E bRp j fun j => .ok (x, j, N)
def argsR (T : List Tk) (E : Int) (kk d j : Nat) (N : List Nd) : PRes := if tx T j = bRp then .ok ([], j + 1, N) else (PAR T E (.items kk d []) j N).then (shutR T E)
set_option maxHeartbeats 8000000 in
theorem sargs_of (T : List Tk) (E : Int) (k g : Nat) (sl : Option Addr) (cp : Nat) (i d : Nat) (v : Value) (Q : List NK) (P : List OR) (X : World) (B : Nat) (w : World) (SV : Sv T E X B g sl) (hR : Rs X B w (sR T E k sl cp i d v Q P)) (hi : i ≤ T.length) (hd : d ≤ 40) (hq : Q.length ≤ 2 * i) (hexpr : ∀ j, i ≤ j → j ≤ T.length → SaysS T E X B k sl cp 40 46 #[.pointer (some ⟨k, 0, none⟩)] .expr j) :
  Calls Tryz.prog 49 #[.pointer (some ⟨k, 0, none⟩)] w (OkLS T E X B k sl cp d P (argsR T E 0 d i (Q.map (·.1)))) := by
 have hlT := SV.l
 have SV0 := hid SV
 have HE := hid hexpr
 have h0 := hid (sR_kids hR [] (by simp))
 clear hR SV hexpr; unfold argsR
 by_cases hs : tx T i = bRp
 ·
  rw [if_pos hs]
  have hlt : i < T.length := tx_lt hs (by decide)
  have Hs := hid hs
  have Hk2 := hid (SV0.out.m _ _ (by simp [WMs]) hs)
  have tw : IntKind.i64.wrap ((i : Int) + 1) = (i : Int) + 1 := by rw [IntKind.wrap_i64]; omega
  clear hs; go_enter Tryz.func49, Tryz.ntmps49
  go_wp2_with fail; refine (is_yes T E k g sl cp i d v Q _ X B ⟨#[41]⟩ _ SV0.out h0.out hi (by omega) hlt Hs.out Hk2.out).mono ?_
  rintro e w1 ⟨rfl, r1⟩
  obtain ⟨x0, x1, x2, x3, x4, x5, x6, xf⟩ := (r1.box [] (rN v Q :: (rK Q ++ (rI (.slice (some ⟨w.heap.size, 0, none⟩) 0 0) [] :: P)))).seven
  have h2 := hid (r1.setB [] (rN v Q :: (rK Q ++ (rI (.slice (some ⟨w.heap.size, 0, none⟩) 0 0) [] :: P))) 1 (.int .i64 ((i : Int) + 1)))
  clear r1 h0; go_wp2_with fail; go_ret; exact ⟨_, _, v, Q, rfl, rfl, h2.out⟩
 rw [if_neg hs]
 obtain ⟨Res, hRes⟩ : ∃ r, Hid ((PAR T E (.items 0 d []) i (Q.map (·.1))).then (shutR T E) = r) := ⟨_, rfl⟩
 rw [hRes.out]
 have Hs := hid hs
 clear hs; go_enter Tryz.func49, Tryz.ntmps49
 go_wp2_with fail; refine (is_no T E k g sl cp i d v Q _ X B ⟨#[41]⟩ _ SV0.out h0.out hi (by omega) Hs.out).mono ?_
 rintro e w1 ⟨rfl, r1⟩
 have h1 := hid r1
 clear r1 h0 Hs; go_wp2_with fail; go_loopw [3] (fun kv wr => ∃ (acc : List Int) (q : Nat) (v2 : Value) (Q2 : List NK) (s : Option Addr) (c : Nat), kv = .slice s acc.length c ∧ i ≤ q ∧ q ≤ T.length ∧ acc.length ≤ q ∧ Q2.length ≤ 2 * q ∧ Hid ((PAR T E (.items 0 d acc) q (Q2.map (·.1))).then (shutR T E) = Res) ∧ Hid (Rs X B wr (sR T E k sl cp q d v2 Q2 (rI (.slice s acc.length c) acc :: P)))) (fun _ wr => left T wr k)
 case atStart => exact ⟨[], i, v, Q, _, _, rfl, Nat.le_refl _, hi, by simp, hq, hRes, h1⟩
 obtain ⟨acc, q, v2, Q2, s, c, rfl, hiq, hqT, hac, hq2, HR, h2⟩ := hrel
 clear h1 hRes; have HIX := hid (left_live h2.out)
 obtain ⟨x0, x1, x2, x3, x4, x5, x6, xf⟩ := (h2.out.box [] (rN v2 Q2 :: (rK Q2 ++ (rI (.slice s acc.length c) acc :: P)))).seven
 have hz2 : ((0 : Int) == 0) = true := rfl
 go_wp2_with fail; clear x0 x1 x2 x3 x4 x5 x6 xf hz2; have HR2 := HR.out
 rw [PAR_items hqT, PAR_item0 hqT] at HR2
 have HR2 := hid HR2
 clear HR; refine (HE.out q hiq hqT d v2 Q2 (rI (.slice s acc.length c) acc :: P) _ h2.out hq2 hd).mono ?_
 have hgd := PAR_good (T := T) (E := E) (p := .expr d) (i := q) (N := Q2.map (·.1)) trivial hqT
 cases hr : PAR T E (.expr d) q (Q2.map (·.1)) with
 | error ca =>
  obtain ⟨c1, a1⟩ := ca
  rintro e w4 ⟨⟨y, rfl⟩, r4⟩
  have HR3 : Hid (Res = .error (c1, a1)) := by show _ = _; rw [← HR2.out, hr]; rfl
  have h4 := hid r4
  clear r4 h2 HR2 hr hgd; obtain ⟨R, eR⟩ : ∃ R, Hid (acc ++ [y] = R) := ⟨_, rfl⟩
  have hRl : Hid (R.length = acc.length + 1) := by show _ = _; rw [← eR.out]; simp
  go_wp2_with (at_builtin; refine wpList_sD1 h4.out rfl _ _ rfl rfl y rfl (by omega) R eR.out ?_; intro s5 c5 w5 r5)
  have h5 := hid r5
  clear r5 h4 eR; refine (is_dead T E k g sl cp _ X B c1 a1 _ _ h5.out).mono ?_
  rintro e w6 ⟨rfl, r6⟩
  have h6 := hid r6
  clear r6 h5; go_wp2_with fail; refine (swant_dead T E k g sl cp _ X B c1 a1 _ _ h6.out).mono ?_
  rintro e w7 ⟨rfl, r7⟩
  have h7 := hid r7
  clear r7 h6; go_wp2_with fail; go_ret; rw [HR3.out]
  exact ⟨s5, c5, R, rfl, by have := hRl.out; omega, h7.out⟩
 | ok z =>
  obtain ⟨x, j, M⟩ := z
  have hb := hgd.okv hr
  rintro e w4 ⟨rfl, v4, Q4, rfl, r4⟩
  obtain ⟨y, ey⟩ : ∃ y, x.headD 0 = y := ⟨_, rfl⟩
  rw [ey]
  obtain ⟨R, eR⟩ : ∃ R, Hid (acc ++ [y] = R) := ⟨_, rfl⟩
  have hRl : Hid (R.length = acc.length + 1) := by show _ = _; rw [← eR.out]; simp
  have e4 : Hid ((tailI T E 0 d R j (Q4.map (·.1))).then (shutR T E) = Res) := by
   show _ = _
   rw [← HR2.out, hr, then_ok, ey, eR.out]
  simp only [List.length_map, Pf.lo] at hb
  have hjq : q < j := by omega
  have hjT := hb.2.1
  have hq4 : Q4.length ≤ 2 * j := by omega
  have h4 := hid r4
  clear r4 h2 HR2 hr hgd hb ey; go_wp2_with (at_builtin; refine wpList_sR1 h4.out rfl _ _ rfl rfl y rfl (by omega) R eR.out ?_; intro s5 c5 w5 r5)
  have h5 := hid r5
  clear r5 h4 eR; by_cases hs : tx T j = bComma
  ·
   have hjlt : j < T.length := tx_lt hs (by decide)
   have HR3 := e4.out
   unfold tailI at HR3
   rw [if_pos hs] at HR3
   have HR3 := hid HR3
   have Hs := hid hs
   have Hk2 := hid (SV0.out.m _ _ (by simp [WMs]) hs)
   have tw : IntKind.i64.wrap ((j : Int) + 1) = (j : Int) + 1 := by rw [IntKind.wrap_i64]; omega
   clear e4 hs; refine (is_yes T E k g sl cp j d v4 Q4 (rI (.slice s5 R.length c5) R :: P) X B ⟨#[44]⟩ _ SV0.out h5.out hjT (by omega) hjlt Hs.out Hk2.out).mono ?_
   rintro e w6 ⟨rfl, r6⟩
   obtain ⟨x0, x1, x2, x3, x4, x5, x6, xf⟩ := (r6.box [] (rN v4 Q4 :: (rK Q4 ++ (rI (.slice s5 R.length c5) R :: P)))).seven
   have h7 : Hid (Rs X B (w6.setCell ⟨k, 1, none⟩ (.int .i64 ((j : Int) + 1))) (sR T E k sl cp (j + 1) d v4 Q4 (rI (.slice s5 R.length c5) R :: P))) := Hid.mk' (r6.setB [] (rN v4 Q4 :: (rK Q4 ++ (rI (.slice s5 R.length c5) R :: P))) 1 (.int .i64 ((j : Int) + 1)))
   clear r6 h5; go_wp2_with fail; go_roundw
   case rel => exact ⟨R, j + 1, v4, Q4, s5, c5, rfl, by omega, by omega, by have := hRl.out; omega, by omega, HR3, h7⟩
   rw [left_live h7.out, HIX.out]
   omega
  have HR3 := e4.out
  unfold tailI at HR3
  rw [if_neg hs, then_ok] at HR3
  unfold shutR at HR3
  have Hs := hid hs
  clear e4 hs; by_cases hp : tx T j = bRp
  ·
   rw [want_yes hp] at HR3
   have HR3 := hid HR3
   have Hp := hid hp
   clear hp; refine (is_no T E k g sl cp j d v4 Q4 (rI (.slice s5 R.length c5) R :: P) X B ⟨#[44]⟩ _ SV0.out h5.out hjT (by omega) Hs.out).mono ?_
   rintro e w6 ⟨rfl, r6⟩
   have h6 := hid r6
   clear r6 h5; go_wp2_with fail; refine (swant_ok T E k g sl cp j d v4 Q4 (rI (.slice s5 R.length c5) R :: P) X B ⟨#[41]⟩ _ SV0.out h6.out hjT (by omega) Hp.out (by simp [WMs, bRp])).mono ?_
   rintro e w7 ⟨rfl, r7⟩
   have h7 := hid r7
   clear r7 h6; go_wp2_with fail; go_ret; rw [← HR3.out]
   exact ⟨s5, c5, v4, Q4, rfl, rfl, h7.out⟩
  rw [want_no hp] at HR3
  have HR3 := hid HR3
  have Hp := hid hp
  clear hp; refine (is_no T E k g sl cp j d v4 Q4 (rI (.slice s5 R.length c5) R :: P) X B ⟨#[44]⟩ _ SV0.out h5.out hjT (by omega) Hs.out).mono ?_
  rintro e w6 ⟨rfl, r6⟩
  have h6 := hid r6
  clear r6 h5; go_wp2_with fail; refine (swant_bad T E k g sl cp j d v4 Q4 (rI (.slice s5 R.length c5) R :: P) X B ⟨#[41]⟩ _ SV0.out h6.out hjT (by omega) Hp.out).mono ?_
  rintro e w7 ⟨rfl, r7⟩
  have h7 := hid r7
  clear r7 h6; go_wp2_with fail; go_ret; rw [← HR3.out]
  exact ⟨s5, c5, R, rfl, by have := hRl.out; omega, h7.out⟩
set_option maxHeartbeats 4000000 in
theorem args_dead (T : List Tk) (E : Int) (k g : Nat) (sl : Option Addr) (cp : Nat) (P : List OR) (X : World) (B : Nat) (c a : Int) (w : World) (hD : sD T E k sl cp c a X B w P) :
  Calls Tryz.prog 49 #[.pointer (some ⟨k, 0, none⟩)] w fun e w' => ∃ s cc, ∃ L : List Int, e = .returned (.slice s L.length cc) ∧ L.length ≤ 5000 ∧ sD T E k sl cp c a X B w' (rI (.slice s L.length cc) L :: P) := by
 have h0 := hid (sD_kids hD [] (by simp))
 clear hD; go_enter Tryz.func49, Tryz.ntmps49
 go_wp2_with fail; refine (is_dead T E k g sl cp _ X B c a _ _ h0.out).mono ?_
 rintro e w6 ⟨rfl, r6⟩
 have h1 := hid r6
 clear r6 h0; go_wp2_with fail; go_loopw [3] (fun kv wr => kv = .slice (some ⟨w.heap.size, 0, none⟩) 0 0 ∧ Hid (sD T E k sl cp c a X B wr (rI (.slice (some ⟨w.heap.size, 0, none⟩) 0 0) [] :: P))) (fun _ wr => left T wr k)
 case atStart => exact ⟨rfl, h1⟩
 obtain ⟨rfl, hb⟩ := hrel
 clear h1; obtain ⟨hc, i', d', v', Q', r2⟩ := hb.out
 obtain ⟨x0, x1, x2, x3, x4, x5, x6, xf⟩ := (r2.box [] (rN v' Q' :: (rK Q' ++ _))).seven
 have hz2 : (c == 0) = false := by simpa using hc
 clear r2; go_wp2_with fail; go_ret; exact ⟨_, _, [], rfl, by simp, hb.out⟩
end
end Go.Proofs.YtncknfkinmjmdaaGreatDoor
