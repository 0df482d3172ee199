import Derived.Test.YtncknfkinmjmdaaGreatDoorSp26
namespace Go.Proofs.YtncknfkinmjmdaaGreatDoor
set_option linter.unusedVariables false
set_option linter.unusedSimpArgs false
section
open Go.RowKit
set_option maxRecDepth 100000
set_option maxHeartbeats 8000000 in
theorem sput_of (T : List Tk) (E : Int) (k g : Nat) (sl : Option Addr) (cp : Nat) (i d : Nat) (v : Value) (Q : List NK) (P : List OR) (X : World) (B : Nat) (kind : Int) (w : World) (SV : Sv T E X B g sl) (hR : Rs X B w (sR T E k sl cp i d v Q P)) (hi : i ≤ T.length) (hd : d ≤ 40) (hq : Q.length ≤ 2 * i) (hexpr : ∀ j, i < j → j ≤ T.length → SaysS T E X B k sl cp 40 46 #[.pointer (some ⟨k, 0, none⟩)] .expr j) :
  Calls Tryz.prog 44 #[.pointer (some ⟨k, 0, none⟩), .int .i64 kind] w (OkS T E X B k sl cp d P (pName T E i fun s j => pStore T E d kind s j (Q.map (·.1)))) := by
 have hlT := SV.l
 have Hexpr := hid hexpr
 have h0 := hid hR
 clear hR hexpr; unfold pStore pBehind
 obtain ⟨Tg, hTg⟩ : ∃ r, Hid ((pName T E i fun s j => (pWant T E bEq j fun j => (PAR T E (.expr d) j (Q.map (·.1))).then fun x j M => .ok ([x.headD 0], j, M)).then fun x j N => pWant T E bSemi j fun j => pNode (nd kind s 0 x) j N) = r) := ⟨_, rfl⟩
 rw [hTg.out]
 go_enter Tryz.func44, Tryz.ntmps44
 go_wp2_with fail; by_cases q1 : ¬ kd T (i) = 1
 ·
  have Q1 := hid q1
  clear q1; refine (sname_bad T E k g sl cp (i) d v Q P X B _ SV h0.out (by omega) (by omega) Q1.out).mono ?_
  rintro e w1 ⟨rfl, r1⟩
  have h1 := hid r1
  clear r1 h0; go_wp2_with fail; have hF : Hid (Tg = .error (2, ta T E (i))) := by show _ = _; rw [← hTg.out, name_no Q1.out]; first | done | rfl
  clear hTg; refine (swant_dead T E k g sl cp P X B (2) (ta T E (i)) _ _ h1.out).mono ?_
  rintro e w2 ⟨rfl, r2⟩
  have h2 := hid r2
  clear r2 h1; go_wp2_with fail; refine (expr_dead T E k g sl cp P X B (2) (ta T E (i)) _ h2.out).mono ?_
  rintro e w3 ⟨rfl, r3⟩
  have h3 := hid r3
  clear r3 h2; go_wp2_with fail; refine (swant_dead T E k g sl cp P X B (2) (ta T E (i)) _ _ h3.out).mono ?_
  rintro e w4 ⟨rfl, r4⟩
  have h4 := hid r4
  clear r4 h3; have r5 := (sD_kids h4.out [(-1)] (by simp)).one
  have h5 := hid r5
  clear r5 h4; go_wp2_with fail; refine (node_dead T E k g sl cp P X B (2) (ta T E (i)) _ _ _ _ _ h5.out).mono ?_
  rintro e w6 ⟨rfl, r6⟩
  have h6 := hid r6
  clear r6 h5; go_wp2_with fail; go_ret; rw [hF.out]
  exact ⟨⟨_, rfl⟩, h6.out⟩
 have H1 := hid (Decidable.not_not.1 q1)
 clear q1; have l1 : i < T.length := kd_lt H1.out (by decide)
 refine (sname_ok T E k g sl cp (i) d v Q P X B _ SV h0.out (by omega) (by omega) H1.out).mono ?_
 rintro e w1 ⟨rfl, r1⟩
 have h1 := hid r1
 clear r1 h0; go_wp2_with fail; by_cases q2 : ¬ tx T (i + 1) = bEq
 ·
  have Q2 := hid q2
  clear q2; refine (swant_bad T E k g sl cp (i + 1) d v Q P X B ⟨#[61]⟩ _ SV h1.out (by omega) (by omega) Q2.out).mono ?_
  rintro e w2 ⟨rfl, r2⟩
  have h2 := hid r2
  clear r2 h1; go_wp2_with fail; have hF : Hid (Tg = .error (2, ta T E (i + 1))) := by show _ = _; rw [← hTg.out, name_yes H1.out, want_no Q2.out]; first | done | rfl
  clear hTg; refine (expr_dead T E k g sl cp P X B (2) (ta T E (i + 1)) _ h2.out).mono ?_
  rintro e w3 ⟨rfl, r3⟩
  have h3 := hid r3
  clear r3 h2; go_wp2_with fail; refine (swant_dead T E k g sl cp P X B (2) (ta T E (i + 1)) _ _ h3.out).mono ?_
  rintro e w4 ⟨rfl, r4⟩
  have h4 := hid r4
  clear r4 h3; have r5 := (sD_kids h4.out [(-1)] (by simp)).one
  have h5 := hid r5
  clear r5 h4; go_wp2_with fail; refine (node_dead T E k g sl cp P X B (2) (ta T E (i + 1)) _ _ _ _ _ h5.out).mono ?_
  rintro e w6 ⟨rfl, r6⟩
  have h6 := hid r6
  clear r6 h5; go_wp2_with fail; go_ret; rw [hF.out]
  exact ⟨⟨_, rfl⟩, h6.out⟩
 have H2 := hid (Decidable.not_not.1 q2)
 clear q2; have l2 : i + 1 < T.length := tx_lt H2.out (by decide)
 refine (swant_ok T E k g sl cp (i + 1) d v Q P X B ⟨#[61]⟩ _ SV h1.out (by omega) (by omega) H2.out (by simp [WMs, bEq])).mono ?_
 rintro e w2 ⟨rfl, r2⟩
 have h2 := hid r2
 clear r2 h1; go_wp2_with fail; have g3 := PAR_good (T := T) (E := E) (p := .expr d) (i := i + 1 + 1) (N := Q.map (·.1)) trivial (by omega)
 obtain ⟨Res, z3⟩ : ∃ r, Hid (PAR T E (.expr d) (i + 1 + 1) (Q.map (·.1)) = r) := ⟨_, rfl⟩
 rw [z3.out] at g3
 have G3 := hid g3
 clear g3; refine (Hexpr.out (i + 1 + 1) (by omega) (by omega) d v Q P _ h2.out (by omega) (by omega)).mono ?_
 rw [z3.out]
 rcases Res with ⟨c, a⟩ | ⟨y3, j3, M3⟩
 ·
  rintro e w3 ⟨⟨y, rfl⟩, r3⟩
  have h3 := hid r3
  clear r3 h2; go_wp2_with fail; have hF : Hid (Tg = .error (c, a)) := by show _ = _; rw [← hTg.out, name_yes H1.out, want_yes H2.out, z3.out]; first | done | rfl
  clear hTg; refine (swant_dead T E k g sl cp P X B (c) (a) _ _ h3.out).mono ?_
  rintro e w4 ⟨rfl, r4⟩
  have h4 := hid r4
  clear r4 h3; have r5 := (sD_kids h4.out [y] (by simp)).one
  have h5 := hid r5
  clear r5 h4; go_wp2_with fail; refine (node_dead T E k g sl cp P X B (c) (a) _ _ _ _ _ h5.out).mono ?_
  rintro e w6 ⟨rfl, r6⟩
  have h6 := hid r6
  clear r6 h5; go_wp2_with fail; go_ret; rw [hF.out]
  exact ⟨⟨_, rfl⟩, h6.out⟩
 rintro e w3 ⟨rfl, v3, Q3, m3, r3⟩
 subst m3
 have b3 := G3.out.okv rfl
 simp only [List.length_map, Pf.lo] at b3
 have k3 : Q3.length ≤ 2 * j3 := by omega
 have j3T := b3.2.1
 have j3L := b3.1
 obtain ⟨a3, x3⟩ : ∃ c, Hid (y3.headD 0 = c) := ⟨_, rfl⟩
 rw [x3.out]
 clear b3 G3; have h3 := hid r3
 clear r3 h2; go_wp2_with fail; by_cases q4 : ¬ tx T (j3) = bSemi
 ·
  have Q4 := hid q4
  clear q4; refine (swant_bad T E k g sl cp (j3) d v3 Q3 P X B ⟨#[59]⟩ _ SV h3.out (by omega) (by omega) Q4.out).mono ?_
  rintro e w4 ⟨rfl, r4⟩
  have h4 := hid r4
  clear r4 h3; have r5 := (sD_kids h4.out [a3] (by simp)).one
  have h5 := hid r5
  clear r5 h4; go_wp2_with fail; have hF : Hid (Tg = .error (2, ta T E (j3))) := by show _ = _; rw [← hTg.out, name_yes H1.out, want_yes H2.out, z3.out, then_ok, then_ok, x3.out, want_no Q4.out]; first | done | rfl
  clear hTg; refine (node_dead T E k g sl cp P X B (2) (ta T E (j3)) _ _ _ _ _ h5.out).mono ?_
  rintro e w6 ⟨rfl, r6⟩
  have h6 := hid r6
  clear r6 h5; go_wp2_with fail; go_ret; rw [hF.out]
  exact ⟨⟨_, rfl⟩, h6.out⟩
 have H4 := hid (Decidable.not_not.1 q4)
 clear q4; have l4 : j3 < T.length := tx_lt H4.out (by decide)
 refine (swant_ok T E k g sl cp (j3) d v3 Q3 P X B ⟨#[59]⟩ _ SV h3.out (by omega) (by omega) H4.out (by simp [WMs, bSemi])).mono ?_
 rintro e w4 ⟨rfl, r4⟩
 have h4 := hid r4
 clear r4 h3; have r6 := sR_kids h4.out [a3] (by simp)
 have h6 := hid r6
 clear r6 h4; go_wp2_with fail; refine (node_live T E k g sl cp (j3 + 1) d v3 Q3 P X B kind 0 (tx T (i)) [a3] (some ⟨w4.heap.size, 0, none⟩) 1 _ h6.out (by have := SV.l; omega)).mono ?_
 rintro e w7 ⟨rfl, v7, r7⟩
 have h7 := hid r7
 clear r7 h6; go_wp2_with fail; go_ret; have hF : Tg = pNode (nd kind (tx T (i)) 0 [a3]) (j3 + 1) (Q3.map (·.1)) := by rw [← hTg.out, name_yes H1.out, want_yes H2.out, z3.out, then_ok, then_ok, x3.out, want_yes H4.out]; first | done | rfl
 rw [hF]
 exact ⟨by simp only [List.length_map]; rfl, v7, _, by simp [nd, nil], h7.out⟩
end
section
open Go.RowKit
set_option maxRecDepth 100000
theorem block_end {T : List Tk} {E : Int} {d i : Nat} {N : List Nd} (hi : i ≤ T.length) (h : ¬ i < T.length) : PAR T E (.block d) i N = .error (2, ta T E i) := by
 rw [PAR_block hi, if_neg (fun x => h x.2), want_no (by rw [stx_none h]; decide)]
def BkS (T : List Tk) (E : Int) (X : World) (B k : Nat) (sl : Option Addr) (cp d i : Nat) (P : List OR) (Res : PRes) (acc : List Int) (s : Option Addr) (c : Nat) (wr : World) : Prop :=
 (∃ (q : Nat) (v2 : Value) (Q2 : List NK), i < q ∧ q ≤ T.length ∧ acc.length ≤ q ∧ Q2.length ≤ 2 * q ∧ (PAR T E (.stmts (d + 1) acc) q (Q2.map (·.1))).then (fun x j N => pNode (nd 27 nil 0 x) j N) = Res ∧ Rs X B wr (sR T E k sl cp q (d + 1) v2 Q2 (rI (.slice s acc.length c) acc :: P))) ∨ (∃ cd a, Res = .error (cd, a) ∧ sD T E k sl cp cd a X B wr (rI (.slice s acc.length c) acc :: P))
set_option maxHeartbeats 8000000 in
theorem sblock_of (T : List Tk) (E : Int) (X : World) (B k g : Nat) (sl : Option Addr) (cp i : Nat) (SV : Sv T E X B g sl) (hi : i ≤ T.length)
  (hstmt : ∀ j, i < j → j ≤ T.length → SaysS T E X B k sl cp 40 29 #[.pointer (some ⟨k, 0, none⟩)] .stmt j) : SaysS T E X B k sl cp 40 13 #[.pointer (some ⟨k, 0, none⟩)] .block i := by
 intro d v Q P w hR hq hd
 have HS := hid hstmt
 have h0 := hid hR
 have hlT := SV.l
 clear hstmt hR; by_cases hlt : ¬ i < T.length
 ·
  rw [block_end hi hlt]
  have Hlt := hid hlt
  clear hlt; go_enter Tryz.func13, Tryz.ntmps13
  go_wp2_with fail; refine (open_end T E k g sl cp i d v Q P X B _ SV h0.out hi (by omega) Hlt.out).mono ?_
  rintro e w1 ⟨rfl, r1⟩
  have h1 := hid r1
  clear r1 h0; go_wp2_with fail; go_ret; exact ⟨⟨_, rfl⟩, h1.out⟩
 have hlt := Decidable.not_not.1 hlt
 rw [PAR_block hi]
 by_cases h40 : d = 40
 ·
  rw [if_pos ⟨h40, hlt⟩]
  have h40 : 40 ≤ d := by omega
  go_enter Tryz.func13, Tryz.ntmps13
  go_wp2_with fail; refine (open_deep T E k g sl cp i d v Q P X B _ SV h0.out hi (by omega) hlt h40).mono ?_
  rintro e w1 ⟨rfl, r1⟩
  have h1 := hid r1
  clear r1 h0; go_wp2_with fail; go_ret; exact ⟨⟨_, rfl⟩, h1.out⟩
 rw [if_neg (fun x => h40 x.1)]
 have h40 : d < 40 := by omega
 obtain ⟨Res, hRes⟩ : ∃ r, Hid ((pWant T E bLb i fun j => (PAR T E (.stmts (d + 1) []) j (Q.map (·.1))).then fun x j N => pNode (nd 27 nil 0 x) j N) = r) := ⟨_, rfl⟩
 rw [hRes.out]
 go_enter Tryz.func13, Tryz.ntmps13
 go_wp2_with fail; refine (open_ok T E k g sl cp i d v Q P X B _ SV h0.out hi (by omega) hlt h40).mono ?_
 rintro e w1 ⟨rfl, r1⟩
 have h1 := hid (sR_kids r1 [] (by simp))
 clear r1 h0; go_wp2_with fail; have hw : Calls Tryz.prog 25 #[.pointer (some ⟨k, 0, none⟩), .string ⟨#[123]⟩] (w1.alloc (.cells #[] 3)) fun e w' => (∃ b, e = .returned (.bool b)) ∧ BkS T E X B k sl cp d i P Res [] (some ⟨w1.heap.size, 0, none⟩) 0 w' := by
  by_cases hs : tx T i = bLb
  ·
   refine (swant_ok T E k g sl cp i (d + 1) v Q _ X B ⟨#[123]⟩ _ SV h1.out hi (by omega) hs (by simp [WMs, bLb])).mono ?_
   rintro e w2 ⟨rfl, r2⟩
   exact ⟨⟨_, rfl⟩, Or.inl ⟨i + 1, v, Q, by omega, by omega, by simp, by omega, by rw [← hRes.out, want_yes hs], r2⟩⟩
  refine (swant_bad T E k g sl cp i (d + 1) v Q _ X B ⟨#[123]⟩ _ SV h1.out hi (by omega) hs).mono ?_
  rintro e w2 ⟨rfl, r2⟩
  exact ⟨⟨_, rfl⟩, Or.inr ⟨2, ta T E i, by rw [← hRes.out, want_no hs], r2⟩⟩
 refine hw.mono ?_
 rintro e w2 ⟨⟨bb, rfl⟩, r2⟩
 have h2 := hid r2
 clear r2 h1 hw hRes; go_wp2_with fail; go_loopw [3] (fun kv wr => ∃ (acc : List Int) (s : Option Addr) (c : Nat), kv = .slice s acc.length c ∧ acc.length ≤ 4500 ∧ Hid (BkS T E X B k sl cp d i P Res acc s c wr)) (fun _ wr => left T wr k)
 case atStart => exact ⟨[], _, _, rfl, by simp, h2⟩
 obtain ⟨acc, s, c, rfl, hac, hb⟩ := hrel
 clear h2; rcases hb.out with ⟨q, v2, Q2, hiq, hqT, hacq, hq2, HR, hR2⟩ | ⟨cd, a, HR, hD⟩
 ·
  have HIX := hid (left_live hR2)
  have h3 := hid hR2
  obtain ⟨x0, x1, x2, x3, x4, x5, x6, xf⟩ := (hR2.box [] (rN v2 Q2 :: (rK Q2 ++ (rI (.slice s acc.length c) acc :: P)))).seven
  have hz2 : ((0 : Int) == 0) = true := rfl
  rw [PAR_stmts hqT] at HR
  clear hR2 hb; by_cases hs : tx T q = bRb
  ·
   rw [if_pos hs, then_ok] at HR
   have HR := hid HR
   have Hs := hid hs
   have Hk := hid (SV.m _ _ (by simp [WMs]) hs)
   have hqlt : q < T.length := tx_lt hs (by decide)
   clear hs; go_wp2_with fail; clear x0 x1 x2 x3 x4 x5 x6 xf; refine (is_yes T E k g sl cp q (d + 1) v2 Q2 (rI (.slice s acc.length c) acc :: P) X B ⟨#[125]⟩ _ SV h3.out hqT (by omega) hqlt Hs.out Hk.out).mono ?_
   rintro e w4 ⟨rfl, r4⟩
   have h4 := hid r4
   clear r4 h3; go_wp2_with fail; refine (swant_ok T E k g sl cp q (d + 1) v2 Q2 (rI (.slice s acc.length c) acc :: P) X B ⟨#[125]⟩ _ SV h4.out hqT (by omega) Hs.out (by simp [WMs, bRb])).mono ?_
   rintro e w5 ⟨rfl, r5⟩
   have tw1 : IntKind.i64.wrap (((d + 1 : Nat) : Int) - 1) = (d : Int) := by rw [IntKind.wrap_i64]; omega
   have tw2 : IntKind.i64.wrap ((d : Int) + 1 - 1) = (d : Int) := by rw [IntKind.wrap_i64]; omega
   obtain ⟨x0, x1, x2, x3, x4, x5, x6, xf⟩ := (r5.box [] (rN v2 Q2 :: (rK Q2 ++ (rI (.slice s acc.length c) acc :: P)))).seven
   have h6 : Hid (Rs X B (w5.setCell ⟨k, 5, none⟩ (.int .i64 (d : Int))) (sR T E k sl cp (q + 1) d v2 Q2 (rI (.slice s acc.length c) acc :: P))) := Hid.mk' (r5.setB [] (rN v2 Q2 :: (rK Q2 ++ (rI (.slice s acc.length c) acc :: P))) 5 (.int .i64 (d : Int)))
   clear r5 h4; go_wp2_with fail; refine (node_live T E k g sl cp (q + 1) d v2 Q2 P X B 27 0 ⟨#[]⟩ acc s c _ h6.out (by omega)).mono ?_
   rintro e w9 ⟨rfl, v9, r9⟩
   have h9 := hid r9
   clear r9 h6; go_wp2_with fail; go_ret; rw [← HR.out]
   exact ⟨by simp only [List.length_map]; rfl, v9, _, by simp [nd, nil], h9.out⟩
  rw [if_neg hs] at HR
  have HR := hid HR
  have Hs := hid hs
  clear hs; go_wp2_with fail; clear x0 x1 x2 x3 x4 x5 x6 xf; refine (is_no T E k g sl cp q (d + 1) v2 Q2 (rI (.slice s acc.length c) acc :: P) X B ⟨#[125]⟩ _ SV h3.out hqT (by omega) Hs.out).mono ?_
  rintro e w4 ⟨rfl, r4⟩
  have h4 := hid r4
  clear r4 h3; go_wp2_with fail; have hgd := PAR_good (T := T) (E := E) (p := .stmt (d + 1)) (i := q) (N := Q2.map (·.1)) trivial hqT
  refine (HS.out q hiq hqT (d + 1) v2 Q2 (rI (.slice s acc.length c) acc :: P) _ h4.out hq2 (by omega)).mono ?_
  cases hr : PAR T E (.stmt (d + 1)) q (Q2.map (·.1)) with
  | error ca =>
   obtain ⟨c1, a1⟩ := ca
   rintro e w5 ⟨⟨y, rfl⟩, r5⟩
   have HR3 : Hid (Res = .error (c1, a1)) := by show _ = _; rw [← HR.out, hr]; rfl
   have h5 := hid r5
   clear r5 h4 HR hr hgd; obtain ⟨R, eR⟩ : ∃ R, Hid (acc ++ [y] = R) := ⟨_, rfl⟩
   have hRl : Hid (R.length = acc.length + 1) := by show _ = _; rw [← eR.out]; simp
   go_wp2_with (at_builtin; refine wpList_sD1 h5.out rfl _ _ rfl rfl y rfl (by omega) R eR.out ?_; intro s6 c6 w6 r6)
   have h6 := hid r6
   clear r6 h5 eR; try go_wp2_with fail
   go_roundw
   case rel => exact ⟨R, s6, c6, rfl, by have := hRl.out; omega, Hid.mk' (Or.inr ⟨c1, a1, HR3.out, h6.out⟩)⟩
   rw [left_dead h6.out, HIX.out]
   omega
  | ok z =>
   obtain ⟨x, j, M⟩ := z
   have hb := hgd.okv hr
   rintro e w5 ⟨rfl, v4, Q4, rfl, r5⟩
   obtain ⟨y, ey⟩ : ∃ y, x.headD 0 = y := ⟨_, rfl⟩
   rw [ey]
   obtain ⟨R, eR⟩ : ∃ R, Hid (acc ++ [y] = R) := ⟨_, rfl⟩
   have hRl : Hid (R.length = acc.length + 1) := by show _ = _; rw [← eR.out]; simp
   have e4 : Hid ((PAR T E (.stmts (d + 1) R) j (Q4.map (·.1))).then (fun x j N => pNode (nd 27 nil 0 x) j N) = Res) := by
    show _ = _
    rw [← HR.out, hr, then_ok, ey, eR.out]
   simp only [List.length_map, Pf.lo] at hb
   have hjq : q < j := by omega
   have hjT := hb.2.1
   have hq4 : Q4.length ≤ 2 * j := by omega
   have h5 := hid r5
   clear r5 h4 HR hr hgd hb ey; go_wp2_with (at_builtin; refine wpList_sR1 h5.out rfl _ _ rfl rfl y rfl (by omega) R eR.out ?_; intro s6 c6 w6 r6)
   have h6 := hid r6
   clear r6 h5 eR; try go_wp2_with fail
   go_roundw
   case rel => exact ⟨R, s6, c6, rfl, by have := hRl.out; omega, Hid.mk' (Or.inl ⟨j, v4, Q4, by omega, hjT, by have := hRl.out; omega, hq4, e4.out, h6.out⟩)⟩
   rw [left_live h6.out, HIX.out]
   omega
 have HR3 := hid HR
 have h3 := hid hD
 obtain ⟨hc, i', d', v', Q', r2⟩ := hD
 obtain ⟨x0, x1, x2, x3, x4, x5, x6, xf⟩ := (r2.box [] (rN v' Q' :: (rK Q' ++ (rI (.slice s acc.length c) acc :: P)))).seven
 have hz2 : (cd == 0) = false := by simpa using hc
 clear r2 hb HR; go_wp2_with fail; clear x0 x1 x2 x3 x4 x5 x6 xf hz2; refine (swant_dead T E k g sl cp (rI (.slice s acc.length c) acc :: P) X B cd a _ _ h3.out).mono ?_
 rintro e w4 ⟨rfl, hc, i', d', v', Q', r4⟩
 obtain ⟨x0, x1, x2, x3, x4, x5, x6, xf⟩ := (r4.box [] (rN v' Q' :: (rK Q' ++ (rI (.slice s acc.length c) acc :: P)))).seven
 have h6 : Hid (sD T E k sl cp cd a X B (w4.setCell ⟨k, 5, none⟩ (.int .i64 (wrap64 (d' - 1)))) P) := Hid.mk' (sD.one (r := rI (.slice s acc.length c) acc) ⟨hc, i', wrap64 (d' - 1), v', Q', r4.setB [] (rN v' Q' :: (rK Q' ++ (rI (.slice s acc.length c) acc :: P))) 5 (.int .i64 (wrap64 (d' - 1)))⟩)
 clear r4 h3; go_wp2_with fail; refine (node_dead T E k g sl cp P X B cd a _ _ _ _ _ h6.out).mono ?_
 rintro e w9 ⟨rfl, r9⟩
 have h9 := hid r9
 clear r9 h6; go_wp2_with fail; go_ret; rw [HR3.out]
 exact ⟨⟨_, rfl⟩, h9.out⟩
set_option maxHeartbeats 4000000 in
theorem block_dead (T : List Tk) (E : Int) (k g : Nat) (sl : Option Addr) (cp : Nat) (P : List OR) (X : World) (B : Nat) (c a : Int)  (w : World) (hD : sD T E k sl cp c a X B w P) :
  Calls Tryz.prog 13 #[.pointer (some ⟨k, 0, none⟩)] w fun e w' => e = .returned (.int .i64 (-1)) ∧ sD T E k sl cp c a X B w' P := by
 have h0 := hid hD
 clear hD; go_enter Tryz.func13, Tryz.ntmps13
 go_wp2_with fail; refine (open_dead T E k g sl cp P X B c a _ h0.out).mono ?_
 rintro e w1 ⟨rfl, r1⟩
 have h1 := hid r1
 clear r1 h0; go_wp2_with fail; go_ret; exact ⟨rfl, h1.out⟩
end
section
open Go.RowKit
set_option maxRecDepth 100000
set_option maxHeartbeats 8000000 in
theorem sif_of (T : List Tk) (E : Int) (k g : Nat) (sl : Option Addr) (cp : Nat) (i d : Nat) (v : Value) (Q : List NK) (P : List OR) (X : World) (B : Nat) (w : World) (SV : Sv T E X B g sl) (hR : Rs X B w (sR T E k sl cp i d v Q P)) (hi : i ≤ T.length) (hd : d ≤ 40) (hq : Q.length ≤ 2 * i) (hexpr : ∀ j, i ≤ j → j ≤ T.length → SaysS T E X B k sl cp 40 46 #[.pointer (some ⟨k, 0, none⟩)] .expr j) (hblock : ∀ j, i ≤ j → j ≤ T.length → SaysS T E X B k sl cp 40 13 #[.pointer (some ⟨k, 0, none⟩)] .block j) :
  Calls Tryz.prog 45 #[.pointer (some ⟨k, 0, none⟩)] w (OkS T E X B k sl cp d P (pIf T E d i (Q.map (·.1)))) := by
 have hlT := SV.l
 have Hexpr := hid hexpr
 have Hblock := hid hblock
 have h0 := hid hR
 clear hR hexpr hblock; obtain ⟨Tg, hTg⟩ : ∃ r, Hid (pIf T E d i (Q.map (·.1)) = r) := ⟨_, rfl⟩
 rw [hTg.out]
 unfold pIf at hTg
 go_enter Tryz.func45, Tryz.ntmps45
 go_wp2_with fail; refine (Hexpr.out i (Nat.le_refl _) hi d v Q P _ h0.out hq hd).mono ?_
 have hgd := PAR_good (T := T) (E := E) (p := .expr d) (i := i) (N := Q.map (·.1)) trivial hi
 obtain ⟨Res, z1⟩ : ∃ r, Hid (PAR T E (.expr d) i (Q.map (·.1)) = r) := ⟨_, rfl⟩
 rw [z1.out] at hgd ⊢
 have G1 := hid hgd
 clear hgd; rcases Res with ⟨c, a⟩ | ⟨y1, j1, M1⟩
 ·
  rintro e w1 ⟨⟨y, rfl⟩, r1⟩
  have hF : Hid (Tg = .error (c, a)) := by show _ = _; rw [← hTg.out, z1.out]; rfl
  clear hTg z1 G1; have h1 := hid (sD_kids r1 [y] (by simp))
  clear r1 h0; go_wp2_with fail; refine (block_dead T E k g sl cp _ X B (c) (a) _ h1.out).mono ?_
  rintro e wbx ⟨rfl, rbx⟩
  have hbx := hid rbx
  clear rbx h1; obtain ⟨Rbx, eRbx⟩ : ∃ R : List Int, Hid (([y] : List Int) ++ [(-1 : Int)] = R) := ⟨_, rfl⟩
  have hlbx : Hid (Rbx.length = ([y] : List Int).length + 1) := by show _ = _; rw [← eRbx.out]; simp
  go_wp2_with (at_builtin; refine wpList_sD1 hbx.out rfl _ _ rfl rfl (-1) rfl (by simp) Rbx eRbx.out ?_; intro sbx cbx ubx rbx)
  have gbx := hid rbx
  clear rbx hbx; refine (is_dead T E k g sl cp _ X B (c) (a) _ _ gbx.out).mono ?_
  rintro e wix ⟨rfl, rix⟩
  have hix := hid rix
  clear rix gbx; go_wp2_with fail; refine (node_dead T E k g sl cp P X B (c) (a) _ _ _ _ _ (hix.out.one)).mono ?_
  rintro e wnx ⟨rfl, rnx⟩
  have hnx := hid rnx
  clear rnx hix; go_wp2_with fail; go_ret; rw [hF.out]
  exact ⟨⟨_, rfl⟩, hnx.out⟩
 rintro e w1 ⟨rfl, v1, Q1, m1, r1⟩
 subst m1
 have b1 := G1.out.okv rfl
 simp only [List.length_map, Pf.lo] at b1
 have k1 : Q1.length ≤ 2 * j1 := by omega
 have t1 := b1.2.1
 have l1 := b1.1
 obtain ⟨a1, x1⟩ : ∃ c, Hid (y1.headD 0 = c) := ⟨_, rfl⟩
 rw [x1.out]
 clear b1 G1; have h1 := hid (sR_kids r1 [a1] (by simp))
 clear r1 h0; go_wp2_with fail; have hgd := PAR_good (T := T) (E := E) (p := .block d) (i := j1) (N := Q1.map (·.1)) trivial (by omega)
 obtain ⟨Res, z2⟩ : ∃ r, Hid (PAR T E (.block d) (j1) (Q1.map (·.1)) = r) := ⟨_, rfl⟩
 rw [z2.out] at hgd
 have G2 := hid hgd
 clear hgd; refine (Hblock.out (j1) (by omega) (by omega) d v1 Q1 _ _ h1.out (by omega) hd).mono ?_
 rw [z2.out]
 rcases Res with ⟨c, a⟩ | ⟨y2, j2, M2⟩
 ·
  rintro e w2 ⟨⟨y, rfl⟩, r2⟩
  have hF : Hid (Tg = .error (c, a)) := by show _ = _; rw [← hTg.out, z1.out, then_ok, z2.out]; rfl
  clear hTg z1 G2; have h2 := hid r2
  clear r2 h1; obtain ⟨Ry, eRy⟩ : ∃ R : List Int, Hid (([a1] : List Int) ++ [(y : Int)] = R) := ⟨_, rfl⟩
  have hly : Hid (Ry.length = ([a1] : List Int).length + 1) := by show _ = _; rw [← eRy.out]; simp
  go_wp2_with (at_builtin; refine wpList_sD1 h2.out rfl _ _ rfl rfl (y) rfl (by simp) Ry eRy.out ?_; intro sy cy uy ry)
  have gy := hid ry
  clear ry h2; refine (is_dead T E k g sl cp _ X B (c) (a) _ _ gy.out).mono ?_
  rintro e wiy ⟨rfl, riy⟩
  have hiy := hid riy
  clear riy gy; go_wp2_with fail; refine (node_dead T E k g sl cp P X B (c) (a) _ _ _ _ _ (hiy.out.one)).mono ?_
  rintro e wny ⟨rfl, rny⟩
  have hny := hid rny
  clear rny hiy; go_wp2_with fail; go_ret; rw [hF.out]
  exact ⟨⟨_, rfl⟩, hny.out⟩
 rintro e w2 ⟨rfl, v2, Q2, m2, r2⟩
 subst m2
 have b2 := G2.out.okv rfl
 simp only [List.length_map, Pf.lo] at b2
 have k2 : Q2.length ≤ 2 * j2 := by omega
 have t2 := b2.2.1
 have l2 := b2.1
 obtain ⟨a2, x2⟩ : ∃ c, Hid (y2.headD 0 = c) := ⟨_, rfl⟩
 rw [x2.out]
 clear b2 G2; have h2 := hid r2
 clear r2 h1; obtain ⟨Rp, eRp⟩ : ∃ R : List Int, Hid (([a1] : List Int) ++ [(a2 : Int)] = R) := ⟨_, rfl⟩
 have hlp : Hid (Rp.length = ([a1] : List Int).length + 1) := by show _ = _; rw [← eRp.out]; simp
 go_wp2_with (at_builtin; refine wpList_sR1 h2.out rfl _ _ rfl rfl (a2) rfl (by simp) Rp eRp.out ?_; intro sp cpp up rp)
 have gp := hid rp
 clear rp h2; by_cases hs : tx T j2 = bElse
 ·
  have hlt : j2 < T.length := tx_lt hs (by decide)
  have Hs := hid hs
  have Hk := hid (SV.m _ _ (by simp [WMs]) hs)
  have tw : IntKind.i64.wrap ((j2 : Int) + 1) = (j2 : Int) + 1 := by rw [IntKind.wrap_i64]; omega
  clear hs; refine (is_yes T E k g sl cp j2 d v2 Q2 _ X B ⟨#[101, 108, 115, 101]⟩ _ SV gp.out t2 (by omega) hlt Hs.out Hk.out).mono ?_
  rintro e w3 ⟨rfl, r3⟩
  obtain ⟨x0, xx1, xx2, x3, x4, x5, x6, xf⟩ := (r3.box [] (rN v2 Q2 :: (rK Q2 ++ _))).seven
  have h3 : Hid (Rs X B (w3.setCell ⟨k, 1, none⟩ (.int .i64 ((j2 : Int) + 1))) (sR T E k sl cp (j2 + 1) d v2 Q2 (rI (.slice sp Rp.length cpp) Rp :: P))) := Hid.mk' (r3.setB [] (rN v2 Q2 :: (rK Q2 ++ (rI (.slice sp Rp.length cpp) Rp :: P))) 1 (.int .i64 ((j2 : Int) + 1)))
  clear r3 gp; go_wp2_with fail; clear x0 xx1 xx2 x3 x4 x5 x6 xf; have hgd := PAR_good (T := T) (E := E) (p := .block d) (i := j2 + 1) (N := Q2.map (·.1)) trivial (by omega)
  obtain ⟨Res, z4⟩ : ∃ r, Hid (PAR T E (.block d) (j2 + 1) (Q2.map (·.1)) = r) := ⟨_, rfl⟩
  rw [z4.out] at hgd
  have G4 := hid hgd
  clear hgd; refine (Hblock.out (j2 + 1) (by omega) (by omega) d v2 Q2 _ _ h3.out (by omega) hd).mono ?_
  rw [z4.out]
  rcases Res with ⟨c, a⟩ | ⟨y4, j4, M4⟩
  ·
   rintro e w4 ⟨⟨y, rfl⟩, r4⟩
   have hF : Hid (Tg = .error (c, a)) := by show _ = _; rw [← hTg.out, z1.out, then_ok, z2.out, then_ok, if_pos Hs.out, z4.out]; rfl
   clear hTg z1 G4; have h4 := hid r4
   clear r4 h3; obtain ⟨Rz, eRz⟩ : ∃ R : List Int, Hid ((Rp : List Int) ++ [(y : Int)] = R) := ⟨_, rfl⟩
   have hlz : Hid (Rz.length = (Rp : List Int).length + 1) := by show _ = _; rw [← eRz.out]; simp
   go_wp2_with (at_builtin; refine wpList_sD1 h4.out rfl _ _ rfl rfl (y) rfl (by have := hlp.out; simp at this; omega) Rz eRz.out ?_; intro sz cz uz rz)
   have gz := hid rz
   clear rz h4; refine (node_dead T E k g sl cp P X B (c) (a) _ _ _ _ _ (gz.out.one)).mono ?_
   rintro e wnz ⟨rfl, rnz⟩
   have hnz := hid rnz
   clear rnz gz; go_wp2_with fail; go_ret; rw [hF.out]
   exact ⟨⟨_, rfl⟩, hnz.out⟩
  rintro e w4 ⟨rfl, v4, Q4, m4, r4⟩
  subst m4
  have b4 := G4.out.okv rfl
  simp only [List.length_map, Pf.lo] at b4
  have k4 : Q4.length ≤ 2 * j4 := by omega
  have t4 := b4.2.1
  have l4 := b4.1
  obtain ⟨a4, x4⟩ : ∃ c, Hid (y4.headD 0 = c) := ⟨_, rfl⟩
  rw [x4.out]
  clear b4 G4; have h4 := hid r4
  clear r4 h3; obtain ⟨Rq, eRq⟩ : ∃ R : List Int, Hid ((Rp : List Int) ++ [(a4 : Int)] = R) := ⟨_, rfl⟩
  have hlq : Hid (Rq.length = (Rp : List Int).length + 1) := by show _ = _; rw [← eRq.out]; simp
  go_wp2_with (at_builtin; refine wpList_sR1 h4.out rfl _ _ rfl rfl (a4) rfl (by have := hlp.out; simp at this; omega) Rq eRq.out ?_; intro sq cq uq rq)
  have gq := hid rq
  clear rq h4; have eK : Hid ([a1, a2, a4] = Rq) := by show _ = _; rw [← eRq.out, ← eRp.out]; rfl
  refine (node_live T E k g sl cp (j4) d v4 Q4 P X B 16 0 ⟨#[]⟩ Rq sq cq _ gq.out (by omega)).mono ?_
  rintro e w5 ⟨rfl, v5, r5⟩
  have h5 := hid r5
  clear r5 gq; go_wp2_with fail; go_ret; have hF : Tg = pNode (nd 16 nil 0 Rq) (j4) (Q4.map (·.1)) := by rw [← hTg.out, z1.out, then_ok, z2.out, then_ok, if_pos Hs.out, z4.out, then_ok, x1.out, x2.out, x4.out, eK.out]; first | done | rfl
  rw [hF]
  exact ⟨by simp only [List.length_map]; rfl, v5, _, by simp [nd, nil], h5.out⟩
 have Hs := hid hs
 clear hs; refine (is_no T E k g sl cp j2 d v2 Q2 _ X B ⟨#[101, 108, 115, 101]⟩ _ SV gp.out t2 (by omega) Hs.out).mono ?_
 rintro e w3 ⟨rfl, r3⟩
 have h3 := hid r3
 clear r3 gp; go_wp2_with fail; have eK : Hid ([a1, a2] = Rp) := by show _ = _; rw [← eRp.out]; rfl
 refine (node_live T E k g sl cp (j2) d v2 Q2 P X B 16 0 ⟨#[]⟩ Rp sp cpp _ h3.out (by omega)).mono ?_
 rintro e w6 ⟨rfl, v6, r6⟩
 have h6 := hid r6
 clear r6 h3; go_wp2_with fail; go_ret; have hF : Tg = pNode (nd 16 nil 0 Rp) (j2) (Q2.map (·.1)) := by rw [← hTg.out, z1.out, then_ok, z2.out, then_ok, if_neg Hs.out, x1.out, x2.out, eK.out]; first | done | rfl
 rw [hF]
 exact ⟨by simp only [List.length_map]; rfl, v6, _, by simp [nd, nil], h6.out⟩
end
end Go.Proofs.YtncknfkinmjmdaaGreatDoor
