import Derived.Test.YtkkofminndboaaaGreatDoorSb17
namespace Go.Proofs.YtkkofminndboaaaGreatDoor
open Go.RowKit
set_option linter.unusedVariables false
set_option linter.unusedSimpArgs false
set_option maxRecDepth 100000
theorem PAR_prim {T : List Tk} {E : Int} {d i : Nat} {N : List Nd} (hi : i ≤ T.length) : PAR T E (.prim d) i N = if kd T i = 3 then pNode (nd 1 nil (ti T i) []) (i + 1) N else if kd T i = 4 then pNode (nd 2 (tx T i) 0 []) (i + 1) N else if kd T i = 1 then (if tx T (i + 1) = bLp then (PAR T E (.listed 0 d) (i + 1) N).then fun x j N => pNode (nd 7 (tx T i) 0 x) j N else pNode (nd 4 (tx T i) 0 []) (i + 1) N) else if tx T i = bYes then pNode (nd 3 nil 1 []) (i + 1) N else if tx T i = bNo then pNode (nd 3 nil 0 []) (i + 1) N else if tx T i = bDot then pName T E (i + 1) fun s j => pNode (nd 5 s 0 []) j N else if tx T i = bDol then pName T E (i + 1) fun s j => pNode (nd 6 s 0 []) j N else if tx T i = bLp then (PAR T E (.expr d) (i + 1) N).then fun x j N => pWant T E bRp j fun j => .ok (x, j, N) else if tx T i = bMinus ∨ tx T i = bNot then (if d = 40 then .error (3, ta T E i) else (PAR T E (.prim (d + 1)) (i + 1) N).then fun y j M => pNode (nd 9 nil (turnOf (tx T i)) [y.headD 0]) j M) else if tx T i = bRe ∨ tx T i = bIm ∨ tx T i = bReal ∨ tx T i = bSize then pWant T E bLp (i + 1) fun j => (PAR T E (.expr d) j N).then fun x j N => pWant T E bRp j fun j => pNode (nd 9 nil (turnOf (tx T i)) [x.headD 0]) j N else if tx T i = bPair then pPair T E d (i + 1) N else if tx T i = bPick then pPick T E d (i + 1) N else .error (2, ta T E i) := by
 rw [PAR_eq (p := .prim d) trivial hi]
 unfold pPair pPick
 rfl
set_option maxHeartbeats 32000000 in
theorem operand_of (T : List Tk) (E : Int) (X : World) (B k g cp i : Nat) (EV : Env T E X B g) (hi : i ≤ T.length) (hexpr : ∀ j, i < j → j ≤ T.length → Says T E X B k g cp 40 62 #[.pointer (some ⟨k, 0, none⟩)] .expr j) (hprim : i < T.length → Says T E X B k g cp 41 83 #[.pointer (some ⟨k, 0, none⟩)] .prim (i + 1)) : Says T E X B k g cp 41 83 #[.pointer (some ⟨k, 0, none⟩)] .prim i := by
 intro d v Q P w hR hq hd hd1
 have HX := hid hexpr
 have HP := hid hprim
 have HD1 := hid hd1
 clear hexpr hprim hd1; rw [PAR_prim hi]
 have hal := alloc_old
 have haf := alloc_oldf
 have h0 := hid hR
 clear hR; obtain ⟨Tg, hTg⟩ : ∃ r, Hid ((if kd T i = 3 then pNode (nd 1 nil (ti T i) []) (i + 1) (Q.map (·.1)) else if kd T i = 4 then pNode (nd 2 (tx T i) 0 []) (i + 1) (Q.map (·.1)) else if kd T i = 1 then (if tx T (i + 1) = bLp then (PAR T E (.listed 0 d) (i + 1) (Q.map (·.1))).then fun x j N => pNode (nd 7 (tx T i) 0 x) j N else pNode (nd 4 (tx T i) 0 []) (i + 1) (Q.map (·.1))) else if tx T i = bYes then pNode (nd 3 nil 1 []) (i + 1) (Q.map (·.1)) else if tx T i = bNo then pNode (nd 3 nil 0 []) (i + 1) (Q.map (·.1)) else if tx T i = bDot then pName T E (i + 1) fun s j => pNode (nd 5 s 0 []) j (Q.map (·.1)) else if tx T i = bDol then pName T E (i + 1) fun s j => pNode (nd 6 s 0 []) j (Q.map (·.1)) else if tx T i = bLp then (PAR T E (.expr d) (i + 1) (Q.map (·.1))).then fun x j N => pWant T E bRp j fun j => .ok (x, j, N) else if tx T i = bMinus ∨ tx T i = bNot then (if d = 40 then .error (3, ta T E i) else (PAR T E (.prim (d + 1)) (i + 1) (Q.map (·.1))).then fun y j M => pNode (nd 9 nil (turnOf (tx T i)) [y.headD 0]) j M) else if tx T i = bRe ∨ tx T i = bIm ∨ tx T i = bReal ∨ tx T i = bSize then pWant T E bLp (i + 1) fun j => (PAR T E (.expr d) j (Q.map (·.1))).then fun x j N => pWant T E bRp j fun j => pNode (nd 9 nil (turnOf (tx T i)) [x.headD 0]) j N else if tx T i = bPair then pPair T E d (i + 1) (Q.map (·.1)) else if tx T i = bPick then pPick T E d (i + 1) (Q.map (·.1)) else .error (2, ta T E i)) = r) := ⟨_, rfl⟩
 rw [hTg.out]
 by_cases c_K3 : kd T i = 3
 ·
  have hlt : i < T.length := kd_lt c_K3 (by decide)
  have g_K3 : (kd T i == 3) = true := by rw [c_K3]; rfl
  have C1 := hid c_K3
  clear c_K3; go_enter Tryz.func83, Tryz.ntmps83
  go_wp2_with fail; refine (next_any T E k g cp i d v Q P X B _ h0.out EV.t EV.g hi EV.l).mono ?_
  rintro e w1 ⟨⟨x, rfl⟩, r1⟩
  have h1 := hid (r1.later (bl_alloc (Below.refl _ _) (.cells #[.int .i64 (kd T i), .int .i64 (ta T E i), .string (tx T i), .int .i64 (ti T i), .float .f64 x] 38)))
  clear h0 r1; have h2 := hid (rR_none h1.out)
  clear h1; go_wp2_with fail; refine (add_any T E k g cp (i + 1) d v Q P X B 1 (ti T i) ⟨#[]⟩ [] none 0 _ h2.out (by have := EV.l; omega)).mono ?_
  rintro e w3 ⟨rfl, v3, r3⟩
  have h3 := hid r3
  clear r3 h2; go_wp2_with fail; go_ret; have hF : Tg = .ok ([(Q.length : Int)], i + 1, List.map (fun q : NK => q.1) (Q ++ [((nd 1 ⟨#[]⟩ (ti T i) [], Value.slice none (List.length (α := Int) []) 0) : NK)])) := by rw [← hTg.out, if_pos C1.out]; exact pNode_map _ _ _ _
  clear hTg; subst hF
  exact ⟨rfl, v3, _, rfl, h3.out⟩
 have C_K3 := hid c_K3
 have g_K3 : (kd T i == 3) = false := by simpa using c_K3
 clear c_K3; by_cases c_K4 : kd T i = 4
 ·
  have hlt : i < T.length := kd_lt c_K4 (by decide)
  have g_K4 : (kd T i == 4) = true := by rw [c_K4]; rfl
  have C1 := hid c_K4
  clear c_K4; go_enter Tryz.func83, Tryz.ntmps83
  go_wp2_with fail; refine (next_any T E k g cp i d v Q P X B _ h0.out EV.t EV.g hi EV.l).mono ?_
  rintro e w1 ⟨⟨x, rfl⟩, r1⟩
  have h1 := hid (r1.later (bl_alloc (Below.refl _ _) (.cells #[.int .i64 (kd T i), .int .i64 (ta T E i), .string (tx T i), .int .i64 (ti T i), .float .f64 x] 38)))
  clear h0 r1; have h2 := hid (rR_none h1.out)
  clear h1; go_wp2_with fail; refine (add_any T E k g cp (i + 1) d v Q P X B 2 0 (tx T i) [] none 0 _ h2.out (by have := EV.l; omega)).mono ?_
  rintro e w3 ⟨rfl, v3, r3⟩
  have h3 := hid r3
  clear r3 h2; go_wp2_with fail; go_ret; have hF : Tg = .ok ([(Q.length : Int)], i + 1, List.map (fun q : NK => q.1) (Q ++ [((nd 2 (tx T i) 0 [], Value.slice none (List.length (α := Int) []) 0) : NK)])) := by rw [← hTg.out, if_neg C_K3.out, if_pos C1.out]; exact pNode_map _ _ _ _
  clear hTg; subst hF
  exact ⟨rfl, v3, _, rfl, h3.out⟩
 have C_K4 := hid c_K4
 have g_K4 : (kd T i == 4) = false := by simpa using c_K4
 clear c_K4; by_cases c_K1 : kd T i = 1
 ·
  have hlt : i < T.length := kd_lt c_K1 (by decide)
  have g_K1 : (kd T i == 1) = true := by rw [c_K1]; rfl
  have C1 := hid c_K1
  have hf := tok_text (kd T (i + 1)) (ta T E (i + 1)) (ti T (i + 1)) (tx T (i + 1))
  clear c_K1; have hd40 : d ≤ 40 := by have := HD1.out; omega
  by_cases c2 : tx T (i + 1) = bLp
  ·
   have C2 := hid c2
   have f_bLp : ((tx T (i + 1)).toList == [40]) = true := by rw [← tl_bLp]; exact str_yes c2
   clear c2; go_enter Tryz.func83, Tryz.ntmps83
   go_wp2_with fail; refine (next_any T E k g cp i d v Q P X B _ h0.out EV.t EV.g hi EV.l).mono ?_
   rintro e w1 ⟨⟨x, rfl⟩, r1⟩
   have h1 := hid (rR_box r1 [.int .i64 (kd T i), .int .i64 (ta T E i), .string (tx T i), .int .i64 (ti T i), .float .f64 x] 38)
   clear h0 r1; go_wp2_with fail; refine (here_any T E k g cp (i + 1) d v _ (h1.out.box [] (rN v Q :: (rK Q ++ (rB w1.heap.size 38 [.int .i64 (kd T i), .int .i64 (ta T E i), .string (tx T i), .int .i64 (ti T i), .float .f64 x] :: P)))) (EV.t.rs h1.out EV.g) (by omega) EV.l).mono ?_
   rintro e w2 ⟨⟨x2, rfl⟩, b2⟩
   have h2 := hid (h1.out.later b2)
   obtain ⟨y0, y1, y2, y3, y4, y5⟩ := (rR_see h2.out).five'
   have h3 := hid (rR_less h2.out)
   clear h1 b2 h2; go_wp2_with fail; clear y0 y1 y2 y3 y4 y5; obtain ⟨Res, z4⟩ : ∃ r, Hid (((PAR T E (.listed 0 d) (i + 1) (Q.map (·.1))).then fun x j N => pNode (nd 7 (tx T i) 0 x) j N) = r) := ⟨_, rfl⟩
   refine (call_of T E X B k g cp (i + 1) EV (by omega) (fun j h1 h2 => item_expr h2 (HX.out j (by omega) h2)) (tx T i) d v Q P _ h3.out (by omega) (by omega)).mono ?_
   rw [z4.out]
   rcases Res with ⟨c, a⟩ | ⟨y4, j4, M4⟩
   ·
    rintro e w4 ⟨rfl, r4⟩
    have hF : Tg = .error (c, a) := by rw [← hTg.out, if_neg C_K3.out, if_neg C_K4.out, if_pos C1.out, if_pos C2.out, z4.out]
    clear hTg; subst hF
    dsimp only
    exact ⟨rfl, rfl, r4⟩
   rintro e w4 ⟨rfl, v4, Q4, m4, r4⟩
   have h4 := hid r4
   have mm4 := hid m4
   obtain ⟨a4, x4⟩ : ∃ c, Hid (y4.headD 0 = c) := ⟨_, rfl⟩
   rw [x4.out]
   clear r4 m4 h3; go_wp2_with fail; go_ret; have hF : Tg = .ok (y4, j4, M4) := by rw [← hTg.out, if_neg C_K3.out, if_neg C_K4.out, if_pos C1.out, if_pos C2.out, z4.out]
   clear hTg; subst hF
   exact ⟨by rw [x4.out]; rfl, v4, Q4, mm4.out, h4.out⟩
  have C2 := hid c2
  have f_bLp : ((tx T (i + 1)).toList == [40]) = false := by rw [← tl_bLp]; exact str_no c2
  clear c2; go_enter Tryz.func83, Tryz.ntmps83
  go_wp2_with fail; refine (next_any T E k g cp i d v Q P X B _ h0.out EV.t EV.g hi EV.l).mono ?_
  rintro e w1 ⟨⟨x, rfl⟩, r1⟩
  have h1 := hid (rR_box r1 [.int .i64 (kd T i), .int .i64 (ta T E i), .string (tx T i), .int .i64 (ti T i), .float .f64 x] 38)
  clear h0 r1; go_wp2_with fail; refine (here_any T E k g cp (i + 1) d v _ (h1.out.box [] (rN v Q :: (rK Q ++ (rB w1.heap.size 38 [.int .i64 (kd T i), .int .i64 (ta T E i), .string (tx T i), .int .i64 (ti T i), .float .f64 x] :: P)))) (EV.t.rs h1.out EV.g) (by omega) EV.l).mono ?_
  rintro e w2 ⟨⟨x2, rfl⟩, b2⟩
  have h2 := hid (h1.out.later b2)
  obtain ⟨y0, y1, y2, y3, y4, y5⟩ := (rR_see h2.out).five'
  have h3 := hid (rR_less h2.out)
  clear h1 b2 h2; have h4 := hid (rR_none h3.out)
  clear h3; go_wp2_with fail; clear y0 y1 y2 y3 y4 y5; refine (add_any T E k g cp (i + 1) d v Q P X B 4 0 (tx T i) [] none 0 _ h4.out (by have := EV.l; omega)).mono ?_
  rintro e w5 ⟨rfl, v5, r5⟩
  have h5 := hid r5
  clear r5 h4; go_wp2_with fail; go_ret; have hF : Tg = .ok ([(Q.length : Int)], i + 1, List.map (fun q : NK => q.1) (Q ++ [((nd 4 (tx T i) 0 [], Value.slice none (List.length (α := Int) []) 0) : NK)])) := by rw [← hTg.out, if_neg C_K3.out, if_neg C_K4.out, if_pos C1.out, if_neg C2.out]; exact pNode_map _ _ _ _
  clear hTg; subst hF
  exact ⟨rfl, v5, _, rfl, h5.out⟩
 have C_K1 := hid c_K1
 have g_K1 : (kd T i == 1) = false := by simpa using c_K1
 clear c_K1; by_cases c_bYes : tx T i = bYes
 ·
  have hlt : i < T.length := tx_lt c_bYes (by decide)
  have hd40 : d ≤ 40 := by have := HD1.out; omega
  have C1 := hid c_bYes
  have f_bYes : ((tx T (i)).toList == [121, 101, 115]) = true := by rw [← tl_bYes]; exact str_yes c_bYes
  clear c_bYes; go_enter Tryz.func83, Tryz.ntmps83
  go_wp2_with fail; refine (next_any T E k g cp i d v Q P X B _ h0.out EV.t EV.g hi EV.l).mono ?_
  rintro e w1 ⟨⟨x, rfl⟩, r1⟩
  have h1 := hid (r1.later (bl_alloc (Below.refl _ _) (.cells #[.int .i64 (kd T i), .int .i64 (ta T E i), .string (tx T i), .int .i64 (ti T i), .float .f64 x] 38)))
  clear h0 r1; have h2 := hid (rR_none h1.out)
  clear h1; go_wp2_with fail; refine (add_any T E k g cp (i + 1) d v Q P X B 3 1 ⟨#[]⟩ [] none 0 _ h2.out (by have := EV.l; omega)).mono ?_
  rintro e w3 ⟨rfl, v3, r3⟩
  have h3 := hid r3
  clear r3 h2; go_wp2_with fail; go_ret; have hF : Tg = .ok ([(Q.length : Int)], i + 1, List.map (fun q : NK => q.1) (Q ++ [((nd 3 ⟨#[]⟩ 1 [], Value.slice none (List.length (α := Int) []) 0) : NK)])) := by rw [← hTg.out, if_neg C_K3.out, if_neg C_K4.out, if_neg C_K1.out, if_pos C1.out]; exact pNode_map _ _ _ _
  clear hTg; subst hF
  exact ⟨rfl, v3, _, rfl, h3.out⟩
 have C_bYes := hid c_bYes
 have f_bYes : ((tx T (i)).toList == [121, 101, 115]) = false := by rw [← tl_bYes]; exact str_no c_bYes
 clear c_bYes; by_cases c_bNo : tx T i = bNo
 ·
  have hlt : i < T.length := tx_lt c_bNo (by decide)
  have hd40 : d ≤ 40 := by have := HD1.out; omega
  have C1 := hid c_bNo
  have f_bNo : ((tx T (i)).toList == [110, 111]) = true := by rw [← tl_bNo]; exact str_yes c_bNo
  clear c_bNo; go_enter Tryz.func83, Tryz.ntmps83
  go_wp2_with fail; refine (next_any T E k g cp i d v Q P X B _ h0.out EV.t EV.g hi EV.l).mono ?_
  rintro e w1 ⟨⟨x, rfl⟩, r1⟩
  have h1 := hid (r1.later (bl_alloc (Below.refl _ _) (.cells #[.int .i64 (kd T i), .int .i64 (ta T E i), .string (tx T i), .int .i64 (ti T i), .float .f64 x] 38)))
  clear h0 r1; have h2 := hid (rR_none h1.out)
  clear h1; go_wp2_with fail; refine (add_any T E k g cp (i + 1) d v Q P X B 3 0 ⟨#[]⟩ [] none 0 _ h2.out (by have := EV.l; omega)).mono ?_
  rintro e w3 ⟨rfl, v3, r3⟩
  have h3 := hid r3
  clear r3 h2; go_wp2_with fail; go_ret; have hF : Tg = .ok ([(Q.length : Int)], i + 1, List.map (fun q : NK => q.1) (Q ++ [((nd 3 ⟨#[]⟩ 0 [], Value.slice none (List.length (α := Int) []) 0) : NK)])) := by rw [← hTg.out, if_neg C_K3.out, if_neg C_K4.out, if_neg C_K1.out, if_neg C_bYes.out, if_pos C1.out]; exact pNode_map _ _ _ _
  clear hTg; subst hF
  exact ⟨rfl, v3, _, rfl, h3.out⟩
 have C_bNo := hid c_bNo
 have f_bNo : ((tx T (i)).toList == [110, 111]) = false := by rw [← tl_bNo]; exact str_no c_bNo
 clear c_bNo; by_cases c_bDot : tx T i = bDot
 ·
  have hlt : i < T.length := tx_lt c_bDot (by decide)
  have hd40 : d ≤ 40 := by have := HD1.out; omega
  have C1 := hid c_bDot
  have f_bDot : ((tx T (i)).toList == [46]) = true := by rw [← tl_bDot]; exact str_yes c_bDot
  clear c_bDot; go_enter Tryz.func83, Tryz.ntmps83
  go_wp2_with fail; refine (next_any T E k g cp i d v Q P X B _ h0.out EV.t EV.g hi EV.l).mono ?_
  rintro e w1 ⟨⟨x, rfl⟩, r1⟩
  have h1 := hid (r1.later (bl_alloc (Below.refl _ _) (.cells #[.int .i64 (kd T i), .int .i64 (ta T E i), .string (tx T i), .int .i64 (ti T i), .float .f64 x] 38)))
  clear h0 r1; go_wp2_with fail; by_cases q2 : ¬ kd T (i + 1) = 1
  ·
   refine (name_bad T E k g cp (i + 1) d v Q P X B _ h1.out EV.t EV.g (by omega) EV.l q2).mono ?_
   rintro e w2 ⟨rfl, r2⟩
   have hF : Tg = .error (2, ta T E (i + 1)) := by rw [← hTg.out, if_neg C_K3.out, if_neg C_K4.out, if_neg C_K1.out, if_neg C_bYes.out, if_neg C_bNo.out, if_pos C1.out, name_no q2]
   clear hTg; subst hF
   dsimp only
   exact ⟨rfl, rfl, r2⟩
  have H2 := hid (Decidable.not_not.1 q2)
  clear q2; have l2 : i + 1 < T.length := kd_lt H2.out (by decide)
  refine (name_ok T E k g cp (i + 1) d v Q P X B _ h1.out EV.t EV.g (by omega) EV.l H2.out).mono ?_
  rintro e w2 ⟨rfl, r2⟩
  have h2 := hid r2
  clear r2 h1; have h3 := hid (rR_none h2.out)
  clear h2; go_wp2_with fail; refine (add_any T E k g cp (i + 1 + 1) d v Q P X B 5 0 (tx T (i + 1)) [] none 0 _ h3.out (by have := EV.l; omega)).mono ?_
  rintro e w4 ⟨rfl, v4, r4⟩
  have h4 := hid r4
  clear r4 h3; go_wp2_with fail; go_ret; have hF : Tg = .ok ([(Q.length : Int)], i + 1 + 1, List.map (fun q : NK => q.1) (Q ++ [((nd 5 (tx T (i + 1)) 0 [], Value.slice none (List.length (α := Int) []) 0) : NK)])) := by rw [← hTg.out, if_neg C_K3.out, if_neg C_K4.out, if_neg C_K1.out, if_neg C_bYes.out, if_neg C_bNo.out, if_pos C1.out, name_yes H2.out]; exact pNode_map _ _ _ _
  clear hTg; subst hF
  exact ⟨rfl, v4, _, rfl, h4.out⟩
 have C_bDot := hid c_bDot
 have f_bDot : ((tx T (i)).toList == [46]) = false := by rw [← tl_bDot]; exact str_no c_bDot
 clear c_bDot; by_cases c_bDol : tx T i = bDol
 ·
  have hlt : i < T.length := tx_lt c_bDol (by decide)
  have hd40 : d ≤ 40 := by have := HD1.out; omega
  have C1 := hid c_bDol
  have f_bDol : ((tx T (i)).toList == [36]) = true := by rw [← tl_bDol]; exact str_yes c_bDol
  clear c_bDol; go_enter Tryz.func83, Tryz.ntmps83
  go_wp2_with fail; refine (next_any T E k g cp i d v Q P X B _ h0.out EV.t EV.g hi EV.l).mono ?_
  rintro e w1 ⟨⟨x, rfl⟩, r1⟩
  have h1 := hid (r1.later (bl_alloc (Below.refl _ _) (.cells #[.int .i64 (kd T i), .int .i64 (ta T E i), .string (tx T i), .int .i64 (ti T i), .float .f64 x] 38)))
  clear h0 r1; go_wp2_with fail; by_cases q2 : ¬ kd T (i + 1) = 1
  ·
   refine (name_bad T E k g cp (i + 1) d v Q P X B _ h1.out EV.t EV.g (by omega) EV.l q2).mono ?_
   rintro e w2 ⟨rfl, r2⟩
   have hF : Tg = .error (2, ta T E (i + 1)) := by rw [← hTg.out, if_neg C_K3.out, if_neg C_K4.out, if_neg C_K1.out, if_neg C_bYes.out, if_neg C_bNo.out, if_neg C_bDot.out, if_pos C1.out, name_no q2]
   clear hTg; subst hF
   dsimp only
   exact ⟨rfl, rfl, r2⟩
  have H2 := hid (Decidable.not_not.1 q2)
  clear q2; have l2 : i + 1 < T.length := kd_lt H2.out (by decide)
  refine (name_ok T E k g cp (i + 1) d v Q P X B _ h1.out EV.t EV.g (by omega) EV.l H2.out).mono ?_
  rintro e w2 ⟨rfl, r2⟩
  have h2 := hid r2
  clear r2 h1; have h3 := hid (rR_none h2.out)
  clear h2; go_wp2_with fail; refine (add_any T E k g cp (i + 1 + 1) d v Q P X B 6 0 (tx T (i + 1)) [] none 0 _ h3.out (by have := EV.l; omega)).mono ?_
  rintro e w4 ⟨rfl, v4, r4⟩
  have h4 := hid r4
  clear r4 h3; go_wp2_with fail; go_ret; have hF : Tg = .ok ([(Q.length : Int)], i + 1 + 1, List.map (fun q : NK => q.1) (Q ++ [((nd 6 (tx T (i + 1)) 0 [], Value.slice none (List.length (α := Int) []) 0) : NK)])) := by rw [← hTg.out, if_neg C_K3.out, if_neg C_K4.out, if_neg C_K1.out, if_neg C_bYes.out, if_neg C_bNo.out, if_neg C_bDot.out, if_pos C1.out, name_yes H2.out]; exact pNode_map _ _ _ _
  clear hTg; subst hF
  exact ⟨rfl, v4, _, rfl, h4.out⟩
 have C_bDol := hid c_bDol
 have f_bDol : ((tx T (i)).toList == [36]) = false := by rw [← tl_bDol]; exact str_no c_bDol
 clear c_bDol; by_cases c_bLp : tx T i = bLp
 ·
  have hlt : i < T.length := tx_lt c_bLp (by decide)
  have hd40 : d ≤ 40 := by have := HD1.out; omega
  have C1 := hid c_bLp
  have f_bLp : ((tx T (i)).toList == [40]) = true := by rw [← tl_bLp]; exact str_yes c_bLp
  clear c_bLp; go_enter Tryz.func83, Tryz.ntmps83
  go_wp2_with fail; refine (next_any T E k g cp i d v Q P X B _ h0.out EV.t EV.g hi EV.l).mono ?_
  rintro e w1 ⟨⟨x, rfl⟩, r1⟩
  have h1 := hid (r1.later (bl_alloc (Below.refl _ _) (.cells #[.int .i64 (kd T i), .int .i64 (ta T E i), .string (tx T i), .int .i64 (ti T i), .float .f64 x] 38)))
  clear h0 r1; go_wp2_with fail; obtain ⟨Res, z2⟩ : ∃ r, Hid ((PAR T E (.expr d) (i + 1) (Q.map (·.1))) = r) := ⟨_, rfl⟩
  have g2 := PAR_good (T := T) (E := E) (p := .expr d) (i := i + 1) (N := Q.map (·.1)) trivial (by omega)
  rw [z2.out] at g2
  have G2 := hid g2
  clear g2; refine (HX.out (i + 1) (by omega) (by omega) d v Q P _ h1.out (by omega) (by omega) (fun h => by omega)).mono ?_
  rw [z2.out]
  rcases Res with ⟨c, a⟩ | ⟨y2, j2, M2⟩
  ·
   rintro e w2 ⟨rfl, r2⟩
   have hF : Tg = .error (c, a) := by rw [← hTg.out, if_neg C_K3.out, if_neg C_K4.out, if_neg C_K1.out, if_neg C_bYes.out, if_neg C_bNo.out, if_neg C_bDot.out, if_neg C_bDol.out, if_pos C1.out, z2.out]; rfl
   clear hTg; subst hF
   dsimp only
   exact ⟨rfl, rfl, r2⟩
  rintro e w2 ⟨rfl, v2, Q2, m2, r2⟩
  subst m2
  have b2 := G2.out.okv rfl
  simp only [List.length_map, Pf.lo] at b2
  have kk2 := b2.2.2
  have k2 : Q2.length ≤ 2 * j2 := by omega
  have j2T := b2.2.1
  have j2L := b2.1
  obtain ⟨a2, x2⟩ : ∃ c, Hid (y2.headD 0 = c) := ⟨_, rfl⟩
  rw [x2.out]
  have h2 := hid r2
  clear r2 h1 b2 G2; go_wp2_with fail; by_cases q3 : ¬ tx T (j2) = bRp
  ·
   refine (closed_bad T E k g cp (j2) d v2 Q2 P X B a2 _ EV h2.out (by omega) (by omega) q3).mono ?_
   rintro e w3 ⟨rfl, r3⟩
   have hF : Tg = .error (2, ta T E (j2)) := by rw [← hTg.out, if_neg C_K3.out, if_neg C_K4.out, if_neg C_K1.out, if_neg C_bYes.out, if_neg C_bNo.out, if_neg C_bDot.out, if_neg C_bDol.out, if_pos C1.out, z2.out, then_ok, want_no q3]
   clear hTg; subst hF
   dsimp only
   exact ⟨rfl, rfl, r3⟩
  have H3 := hid (Decidable.not_not.1 q3)
  clear q3; have l3 : j2 < T.length := tx_lt H3.out (by decide)
  refine (closed_ok T E k g cp (j2) d v2 Q2 P X B a2 _ EV h2.out (by omega) (by omega) H3.out).mono ?_
  rintro e w3 ⟨rfl, r3⟩
  have h3 := hid r3
  clear r3 h2; go_wp2_with fail; go_ret; have hF : Tg = .ok (y2, j2 + 1, Q2.map (·.1)) := by rw [← hTg.out, if_neg C_K3.out, if_neg C_K4.out, if_neg C_K1.out, if_neg C_bYes.out, if_neg C_bNo.out, if_neg C_bDot.out, if_neg C_bDol.out, if_pos C1.out, z2.out, then_ok, want_yes H3.out]
  clear hTg; subst hF
  exact ⟨by rw [x2.out]; rfl, v2, Q2, rfl, h3.out⟩
 have C_bLp := hid c_bLp
 have f_bLp : ((tx T (i)).toList == [40]) = false := by rw [← tl_bLp]; exact str_no c_bLp
 clear c_bLp; by_cases c_bMinus : tx T i = bMinus
 ·
  have hlt : i < T.length := tx_lt c_bMinus (by decide)
  have hd40 : d ≤ 40 := by have := HD1.out; omega
  have C1 : Hid (tx T i = bMinus ∨ tx T i = bNot) := Or.inl c_bMinus
  have f_bMinus : ((tx T (i)).toList == [45]) = true := by rw [← tl_bMinus]; exact str_yes c_bMinus
  clear c_bMinus; go_enter Tryz.func83, Tryz.ntmps83
  go_wp2_with fail; refine (next_any T E k g cp i d v Q P X B _ h0.out EV.t EV.g hi EV.l).mono ?_
  rintro e w1 ⟨⟨x, rfl⟩, r1⟩
  have h1 := hid (r1.later (bl_alloc (Below.refl _ _) (.cells #[.int .i64 (kd T i), .int .i64 (ta T E i), .string (tx T i), .int .i64 (ti T i), .float .f64 x] 38)))
  clear h0 r1; go_wp2_with fail; obtain ⟨Res, z2⟩ : ∃ r, Hid ((if d = 40 then .error (3, ta T E i) else (PAR T E (.prim (d + 1)) (i + 1) (Q.map (·.1))).then fun y j M => pNode (nd 9 nil (turnOf (tx T i)) [y.headD 0]) j M) = r) := ⟨_, rfl⟩
  refine (turned_of T E k g cp i d x v Q P X B _ EV h1.out hlt hq hd40 (HP.out hlt)).mono ?_
  rw [z2.out]
  rcases Res with ⟨c, a⟩ | ⟨y2, j2, M2⟩
  ·
   rintro e w2 ⟨rfl, r2⟩
   have hF : Tg = .error (c, a) := by rw [← hTg.out, if_neg C_K3.out, if_neg C_K4.out, if_neg C_K1.out, if_neg C_bYes.out, if_neg C_bNo.out, if_neg C_bDot.out, if_neg C_bDol.out, if_neg C_bLp.out, if_pos C1.out, z2.out]
   clear hTg; subst hF
   dsimp only
   exact ⟨rfl, rfl, r2⟩
  rintro e w2 ⟨rfl, v2, Q2, m2, r2⟩
  have h2 := hid r2
  have mm2 := hid m2
  obtain ⟨a2, x2⟩ : ∃ c, Hid (y2.headD 0 = c) := ⟨_, rfl⟩
  rw [x2.out]
  clear r2 m2 h1; go_wp2_with fail; go_ret; have hF : Tg = .ok (y2, j2, M2) := by rw [← hTg.out, if_neg C_K3.out, if_neg C_K4.out, if_neg C_K1.out, if_neg C_bYes.out, if_neg C_bNo.out, if_neg C_bDot.out, if_neg C_bDol.out, if_neg C_bLp.out, if_pos C1.out, z2.out]
  clear hTg; subst hF
  exact ⟨by rw [x2.out]; rfl, v2, Q2, mm2.out, h2.out⟩
 have C_bMinus := hid c_bMinus
 have f_bMinus : ((tx T (i)).toList == [45]) = false := by rw [← tl_bMinus]; exact str_no c_bMinus
 clear c_bMinus; by_cases c_bNot : tx T i = bNot
 ·
  have hlt : i < T.length := tx_lt c_bNot (by decide)
  have hd40 : d ≤ 40 := by have := HD1.out; omega
  have C1 : Hid (tx T i = bMinus ∨ tx T i = bNot) := Or.inr c_bNot
  have f_bNot : ((tx T (i)).toList == [110, 111, 116]) = true := by rw [← tl_bNot]; exact str_yes c_bNot
  clear c_bNot; go_enter Tryz.func83, Tryz.ntmps83
  go_wp2_with fail; refine (next_any T E k g cp i d v Q P X B _ h0.out EV.t EV.g hi EV.l).mono ?_
  rintro e w1 ⟨⟨x, rfl⟩, r1⟩
  have h1 := hid (r1.later (bl_alloc (Below.refl _ _) (.cells #[.int .i64 (kd T i), .int .i64 (ta T E i), .string (tx T i), .int .i64 (ti T i), .float .f64 x] 38)))
  clear h0 r1; go_wp2_with fail; obtain ⟨Res, z2⟩ : ∃ r, Hid ((if d = 40 then .error (3, ta T E i) else (PAR T E (.prim (d + 1)) (i + 1) (Q.map (·.1))).then fun y j M => pNode (nd 9 nil (turnOf (tx T i)) [y.headD 0]) j M) = r) := ⟨_, rfl⟩
  refine (turned_of T E k g cp i d x v Q P X B _ EV h1.out hlt hq hd40 (HP.out hlt)).mono ?_
  rw [z2.out]
  rcases Res with ⟨c, a⟩ | ⟨y2, j2, M2⟩
  ·
   rintro e w2 ⟨rfl, r2⟩
   have hF : Tg = .error (c, a) := by rw [← hTg.out, if_neg C_K3.out, if_neg C_K4.out, if_neg C_K1.out, if_neg C_bYes.out, if_neg C_bNo.out, if_neg C_bDot.out, if_neg C_bDol.out, if_neg C_bLp.out, if_pos C1.out, z2.out]
   clear hTg; subst hF
   dsimp only
   exact ⟨rfl, rfl, r2⟩
  rintro e w2 ⟨rfl, v2, Q2, m2, r2⟩
  have h2 := hid r2
  have mm2 := hid m2
  obtain ⟨a2, x2⟩ : ∃ c, Hid (y2.headD 0 = c) := ⟨_, rfl⟩
  rw [x2.out]
  clear r2 m2 h1; go_wp2_with fail; go_ret; have hF : Tg = .ok (y2, j2, M2) := by rw [← hTg.out, if_neg C_K3.out, if_neg C_K4.out, if_neg C_K1.out, if_neg C_bYes.out, if_neg C_bNo.out, if_neg C_bDot.out, if_neg C_bDol.out, if_neg C_bLp.out, if_pos C1.out, z2.out]
  clear hTg; subst hF
  exact ⟨by rw [x2.out]; rfl, v2, Q2, mm2.out, h2.out⟩
 have C_bNot := hid c_bNot
 have f_bNot : ((tx T (i)).toList == [110, 111, 116]) = false := by rw [← tl_bNot]; exact str_no c_bNot
 clear c_bNot; have C_neg : Hid (¬ (tx T i = bMinus ∨ tx T i = bNot)) := fun h => h.elim C_bMinus.out C_bNot.out
 by_cases c_bRe : tx T i = bRe
 ·
  have hlt : i < T.length := tx_lt c_bRe (by decide)
  have hd40 : d ≤ 40 := by have := HD1.out; omega
  have C1 : Hid (tx T i = bRe ∨ tx T i = bIm ∨ tx T i = bReal ∨ tx T i = bSize) := Or.inl c_bRe
  have f_bRe : ((tx T (i)).toList == [114, 101]) = true := by rw [← tl_bRe]; exact str_yes c_bRe
  clear c_bRe; go_enter Tryz.func83, Tryz.ntmps83
  go_wp2_with fail; refine (next_any T E k g cp i d v Q P X B _ h0.out EV.t EV.g hi EV.l).mono ?_
  rintro e w1 ⟨⟨x, rfl⟩, r1⟩
  have h1 := hid (rR_box r1 [.int .i64 (kd T i), .int .i64 (ta T E i), .string (tx T i), .int .i64 (ti T i), .float .f64 x] 38)
  clear h0 r1; go_wp2_with fail; by_cases q2 : ¬ tx T (i + 1) = bLp
  ·
   refine (want_bad T E k g cp (i + 1) d v Q (rB w1.heap.size 38 [.int .i64 (kd T i), .int .i64 (ta T E i), .string (tx T i), .int .i64 (ti T i), .float .f64 x] :: P) X B ⟨#[40]⟩ _ h1.out EV.t EV.g (by omega) EV.l q2).mono ?_
   rintro e w2 ⟨rfl, r2⟩
   have hF : Tg = .error (2, ta T E (i + 1)) := by rw [← hTg.out, if_neg C_K3.out, if_neg C_K4.out, if_neg C_K1.out, if_neg C_bYes.out, if_neg C_bNo.out, if_neg C_bDot.out, if_neg C_bDol.out, if_neg C_bLp.out, if_neg C_neg.out, if_pos C1.out, want_no q2]
   clear hTg; subst hF
   dsimp only
   exact ⟨rfl, rfl, r2.one⟩
  have H2 := hid (Decidable.not_not.1 q2)
  clear q2; have l2 : i + 1 < T.length := tx_lt H2.out (by decide)
  refine (want_ok T E k g cp (i + 1) d v Q (rB w1.heap.size 38 [.int .i64 (kd T i), .int .i64 (ta T E i), .string (tx T i), .int .i64 (ti T i), .float .f64 x] :: P) X B ⟨#[40]⟩ _ h1.out EV.t EV.g (by omega) EV.l H2.out).mono ?_
  rintro e w2 ⟨rfl, r2⟩
  have h2 := hid r2
  clear r2 h1; obtain ⟨y0, y1, y2, y3, y4, y5⟩ := (rR_see h2.out).five'
  have hN := hid (rR_less h2.out)
  clear h2; go_wp2_with fail; clear y0 y1 y2 y3 y4 y5; refine (turnNamed_any (tx T i) _ (EV.y.rs hN.out EV.b)).mono ?_
  rintro e u5 ⟨rfl, hw5⟩
  subst hw5
  obtain ⟨op, hop⟩ : ∃ op, Hid (turnOf (tx T i) = op) := ⟨_, rfl⟩
  rw [hop.out]
  go_wp2_with fail; obtain ⟨Res, z3⟩ : ∃ r, Hid ((PAR T E (.expr d) (i + 1 + 1) (Q.map (·.1))) = r) := ⟨_, rfl⟩
  have g3 := PAR_good (T := T) (E := E) (p := .expr d) (i := i + 1 + 1) (N := Q.map (·.1)) trivial (by omega)
  rw [z3.out] at g3
  have G3 := hid g3
  clear g3; refine (HX.out (i + 1 + 1) (by omega) (by omega) d v Q P _ hN.out (by omega) (by omega) (fun h => by omega)).mono ?_
  rw [z3.out]
  rcases Res with ⟨c, a⟩ | ⟨y3, j3, M3⟩
  ·
   rintro e w3 ⟨rfl, r3⟩
   have hF : Tg = .error (c, a) := by rw [← hTg.out, if_neg C_K3.out, if_neg C_K4.out, if_neg C_K1.out, if_neg C_bYes.out, if_neg C_bNo.out, if_neg C_bDot.out, if_neg C_bDol.out, if_neg C_bLp.out, if_neg C_neg.out, if_pos C1.out, want_yes H2.out, z3.out]; rfl
   clear hTg; subst hF
   dsimp only
   exact ⟨rfl, rfl, r3⟩
  rintro e w3 ⟨rfl, v3, Q3, m3, r3⟩
  subst m3
  have b3 := G3.out.okv rfl
  simp only [List.length_map, Pf.lo] at b3
  have kk3 := b3.2.2
  have k3 : Q3.length ≤ 2 * j3 := by omega
  have j3T := b3.2.1
  have j3L := b3.1
  obtain ⟨a3, x3⟩ : ∃ c, Hid (y3.headD 0 = c) := ⟨_, rfl⟩
  rw [x3.out]
  have h3 := hid r3
  clear r3 hN b3 G3; go_wp2_with fail; by_cases q4 : ¬ tx T (j3) = bRp
  ·
   refine (closed_bad T E k g cp (j3) d v3 Q3 P X B a3 _ EV h3.out (by omega) (by omega) q4).mono ?_
   rintro e w4 ⟨rfl, r4⟩
   have hF : Tg = .error (2, ta T E (j3)) := by rw [← hTg.out, if_neg C_K3.out, if_neg C_K4.out, if_neg C_K1.out, if_neg C_bYes.out, if_neg C_bNo.out, if_neg C_bDot.out, if_neg C_bDol.out, if_neg C_bLp.out, if_neg C_neg.out, if_pos C1.out, want_yes H2.out, z3.out, then_ok, x3.out, want_no q4]
   clear hTg; subst hF
   dsimp only
   exact ⟨rfl, rfl, r4⟩
  have H4 := hid (Decidable.not_not.1 q4)
  clear q4; have l4 : j3 < T.length := tx_lt H4.out (by decide)
  refine (closed_ok T E k g cp (j3) d v3 Q3 P X B a3 _ EV h3.out (by omega) (by omega) H4.out).mono ?_
  rintro e w4 ⟨rfl, r4⟩
  have h4 := hid r4
  clear r4 h3; have h5 := hid (rR_kids h4.out [a3] (by simp))
  clear h4; go_wp2_with fail; refine (add_any T E k g cp (j3 + 1) d v3 Q3 P X B 9 op ⟨#[]⟩ [a3] (some ⟨w4.heap.size, 0, none⟩) 1 _ h5.out (by have := EV.l; omega)).mono ?_
  rintro e w6 ⟨rfl, v6, r6⟩
  have h6 := hid r6
  clear r6 h5; go_wp2_with fail; go_ret; have hF : Tg = .ok ([(Q3.length : Int)], j3 + 1, List.map (fun q : NK => q.1) (Q3 ++ [((nd 9 ⟨#[]⟩ op [a3], Value.slice (some ⟨w4.heap.size, 0, none⟩) (List.length (α := Int) [a3]) 1) : NK)])) := by rw [← hTg.out, if_neg C_K3.out, if_neg C_K4.out, if_neg C_K1.out, if_neg C_bYes.out, if_neg C_bNo.out, if_neg C_bDot.out, if_neg C_bDol.out, if_neg C_bLp.out, if_neg C_neg.out, if_pos C1.out, want_yes H2.out, z3.out, then_ok, x3.out, want_yes H4.out, hop.out]; exact pNode_map _ _ _ _
  clear hTg; subst hF
  exact ⟨rfl, v6, _, rfl, h6.out⟩
 have C_bRe := hid c_bRe
 have f_bRe : ((tx T (i)).toList == [114, 101]) = false := by rw [← tl_bRe]; exact str_no c_bRe
 clear c_bRe; by_cases c_bIm : tx T i = bIm
 ·
  have hlt : i < T.length := tx_lt c_bIm (by decide)
  have hd40 : d ≤ 40 := by have := HD1.out; omega
  have C1 : Hid (tx T i = bRe ∨ tx T i = bIm ∨ tx T i = bReal ∨ tx T i = bSize) := Or.inr (Or.inl c_bIm)
  have f_bIm : ((tx T (i)).toList == [105, 109]) = true := by rw [← tl_bIm]; exact str_yes c_bIm
  clear c_bIm; go_enter Tryz.func83, Tryz.ntmps83
  go_wp2_with fail; refine (next_any T E k g cp i d v Q P X B _ h0.out EV.t EV.g hi EV.l).mono ?_
  rintro e w1 ⟨⟨x, rfl⟩, r1⟩
  have h1 := hid (rR_box r1 [.int .i64 (kd T i), .int .i64 (ta T E i), .string (tx T i), .int .i64 (ti T i), .float .f64 x] 38)
  clear h0 r1; go_wp2_with fail; by_cases q2 : ¬ tx T (i + 1) = bLp
  ·
   refine (want_bad T E k g cp (i + 1) d v Q (rB w1.heap.size 38 [.int .i64 (kd T i), .int .i64 (ta T E i), .string (tx T i), .int .i64 (ti T i), .float .f64 x] :: P) X B ⟨#[40]⟩ _ h1.out EV.t EV.g (by omega) EV.l q2).mono ?_
   rintro e w2 ⟨rfl, r2⟩
   have hF : Tg = .error (2, ta T E (i + 1)) := by rw [← hTg.out, if_neg C_K3.out, if_neg C_K4.out, if_neg C_K1.out, if_neg C_bYes.out, if_neg C_bNo.out, if_neg C_bDot.out, if_neg C_bDol.out, if_neg C_bLp.out, if_neg C_neg.out, if_pos C1.out, want_no q2]
   clear hTg; subst hF
   dsimp only
   exact ⟨rfl, rfl, r2.one⟩
  have H2 := hid (Decidable.not_not.1 q2)
  clear q2; have l2 : i + 1 < T.length := tx_lt H2.out (by decide)
  refine (want_ok T E k g cp (i + 1) d v Q (rB w1.heap.size 38 [.int .i64 (kd T i), .int .i64 (ta T E i), .string (tx T i), .int .i64 (ti T i), .float .f64 x] :: P) X B ⟨#[40]⟩ _ h1.out EV.t EV.g (by omega) EV.l H2.out).mono ?_
  rintro e w2 ⟨rfl, r2⟩
  have h2 := hid r2
  clear r2 h1; obtain ⟨y0, y1, y2, y3, y4, y5⟩ := (rR_see h2.out).five'
  have hN := hid (rR_less h2.out)
  clear h2; go_wp2_with fail; clear y0 y1 y2 y3 y4 y5; refine (turnNamed_any (tx T i) _ (EV.y.rs hN.out EV.b)).mono ?_
  rintro e u5 ⟨rfl, hw5⟩
  subst hw5
  obtain ⟨op, hop⟩ : ∃ op, Hid (turnOf (tx T i) = op) := ⟨_, rfl⟩
  rw [hop.out]
  go_wp2_with fail; obtain ⟨Res, z3⟩ : ∃ r, Hid ((PAR T E (.expr d) (i + 1 + 1) (Q.map (·.1))) = r) := ⟨_, rfl⟩
  have g3 := PAR_good (T := T) (E := E) (p := .expr d) (i := i + 1 + 1) (N := Q.map (·.1)) trivial (by omega)
  rw [z3.out] at g3
  have G3 := hid g3
  clear g3; refine (HX.out (i + 1 + 1) (by omega) (by omega) d v Q P _ hN.out (by omega) (by omega) (fun h => by omega)).mono ?_
  rw [z3.out]
  rcases Res with ⟨c, a⟩ | ⟨y3, j3, M3⟩
  ·
   rintro e w3 ⟨rfl, r3⟩
   have hF : Tg = .error (c, a) := by rw [← hTg.out, if_neg C_K3.out, if_neg C_K4.out, if_neg C_K1.out, if_neg C_bYes.out, if_neg C_bNo.out, if_neg C_bDot.out, if_neg C_bDol.out, if_neg C_bLp.out, if_neg C_neg.out, if_pos C1.out, want_yes H2.out, z3.out]; rfl
   clear hTg; subst hF
   dsimp only
   exact ⟨rfl, rfl, r3⟩
  rintro e w3 ⟨rfl, v3, Q3, m3, r3⟩
  subst m3
  have b3 := G3.out.okv rfl
  simp only [List.length_map, Pf.lo] at b3
  have kk3 := b3.2.2
  have k3 : Q3.length ≤ 2 * j3 := by omega
  have j3T := b3.2.1
  have j3L := b3.1
  obtain ⟨a3, x3⟩ : ∃ c, Hid (y3.headD 0 = c) := ⟨_, rfl⟩
  rw [x3.out]
  have h3 := hid r3
  clear r3 hN b3 G3; go_wp2_with fail; by_cases q4 : ¬ tx T (j3) = bRp
  ·
   refine (closed_bad T E k g cp (j3) d v3 Q3 P X B a3 _ EV h3.out (by omega) (by omega) q4).mono ?_
   rintro e w4 ⟨rfl, r4⟩
   have hF : Tg = .error (2, ta T E (j3)) := by rw [← hTg.out, if_neg C_K3.out, if_neg C_K4.out, if_neg C_K1.out, if_neg C_bYes.out, if_neg C_bNo.out, if_neg C_bDot.out, if_neg C_bDol.out, if_neg C_bLp.out, if_neg C_neg.out, if_pos C1.out, want_yes H2.out, z3.out, then_ok, x3.out, want_no q4]
   clear hTg; subst hF
   dsimp only
   exact ⟨rfl, rfl, r4⟩
  have H4 := hid (Decidable.not_not.1 q4)
  clear q4; have l4 : j3 < T.length := tx_lt H4.out (by decide)
  refine (closed_ok T E k g cp (j3) d v3 Q3 P X B a3 _ EV h3.out (by omega) (by omega) H4.out).mono ?_
  rintro e w4 ⟨rfl, r4⟩
  have h4 := hid r4
  clear r4 h3; have h5 := hid (rR_kids h4.out [a3] (by simp))
  clear h4; go_wp2_with fail; refine (add_any T E k g cp (j3 + 1) d v3 Q3 P X B 9 op ⟨#[]⟩ [a3] (some ⟨w4.heap.size, 0, none⟩) 1 _ h5.out (by have := EV.l; omega)).mono ?_
  rintro e w6 ⟨rfl, v6, r6⟩
  have h6 := hid r6
  clear r6 h5; go_wp2_with fail; go_ret; have hF : Tg = .ok ([(Q3.length : Int)], j3 + 1, List.map (fun q : NK => q.1) (Q3 ++ [((nd 9 ⟨#[]⟩ op [a3], Value.slice (some ⟨w4.heap.size, 0, none⟩) (List.length (α := Int) [a3]) 1) : NK)])) := by rw [← hTg.out, if_neg C_K3.out, if_neg C_K4.out, if_neg C_K1.out, if_neg C_bYes.out, if_neg C_bNo.out, if_neg C_bDot.out, if_neg C_bDol.out, if_neg C_bLp.out, if_neg C_neg.out, if_pos C1.out, want_yes H2.out, z3.out, then_ok, x3.out, want_yes H4.out, hop.out]; exact pNode_map _ _ _ _
  clear hTg; subst hF
  exact ⟨rfl, v6, _, rfl, h6.out⟩
 have C_bIm := hid c_bIm
 have f_bIm : ((tx T (i)).toList == [105, 109]) = false := by rw [← tl_bIm]; exact str_no c_bIm
 clear c_bIm; by_cases c_bReal : tx T i = bReal
 ·
  have hlt : i < T.length := tx_lt c_bReal (by decide)
  have hd40 : d ≤ 40 := by have := HD1.out; omega
  have C1 : Hid (tx T i = bRe ∨ tx T i = bIm ∨ tx T i = bReal ∨ tx T i = bSize) := Or.inr (Or.inr (Or.inl c_bReal))
  have f_bReal : ((tx T (i)).toList == [114, 101, 97, 108]) = true := by rw [← tl_bReal]; exact str_yes c_bReal
  clear c_bReal; go_enter Tryz.func83, Tryz.ntmps83
  go_wp2_with fail; refine (next_any T E k g cp i d v Q P X B _ h0.out EV.t EV.g hi EV.l).mono ?_
  rintro e w1 ⟨⟨x, rfl⟩, r1⟩
  have h1 := hid (rR_box r1 [.int .i64 (kd T i), .int .i64 (ta T E i), .string (tx T i), .int .i64 (ti T i), .float .f64 x] 38)
  clear h0 r1; go_wp2_with fail; by_cases q2 : ¬ tx T (i + 1) = bLp
  ·
   refine (want_bad T E k g cp (i + 1) d v Q (rB w1.heap.size 38 [.int .i64 (kd T i), .int .i64 (ta T E i), .string (tx T i), .int .i64 (ti T i), .float .f64 x] :: P) X B ⟨#[40]⟩ _ h1.out EV.t EV.g (by omega) EV.l q2).mono ?_
   rintro e w2 ⟨rfl, r2⟩
   have hF : Tg = .error (2, ta T E (i + 1)) := by rw [← hTg.out, if_neg C_K3.out, if_neg C_K4.out, if_neg C_K1.out, if_neg C_bYes.out, if_neg C_bNo.out, if_neg C_bDot.out, if_neg C_bDol.out, if_neg C_bLp.out, if_neg C_neg.out, if_pos C1.out, want_no q2]
   clear hTg; subst hF
   dsimp only
   exact ⟨rfl, rfl, r2.one⟩
  have H2 := hid (Decidable.not_not.1 q2)
  clear q2; have l2 : i + 1 < T.length := tx_lt H2.out (by decide)
  refine (want_ok T E k g cp (i + 1) d v Q (rB w1.heap.size 38 [.int .i64 (kd T i), .int .i64 (ta T E i), .string (tx T i), .int .i64 (ti T i), .float .f64 x] :: P) X B ⟨#[40]⟩ _ h1.out EV.t EV.g (by omega) EV.l H2.out).mono ?_
  rintro e w2 ⟨rfl, r2⟩
  have h2 := hid r2
  clear r2 h1; obtain ⟨y0, y1, y2, y3, y4, y5⟩ := (rR_see h2.out).five'
  have hN := hid (rR_less h2.out)
  clear h2; go_wp2_with fail; clear y0 y1 y2 y3 y4 y5; refine (turnNamed_any (tx T i) _ (EV.y.rs hN.out EV.b)).mono ?_
  rintro e u5 ⟨rfl, hw5⟩
  subst hw5
  obtain ⟨op, hop⟩ : ∃ op, Hid (turnOf (tx T i) = op) := ⟨_, rfl⟩
  rw [hop.out]
  go_wp2_with fail; obtain ⟨Res, z3⟩ : ∃ r, Hid ((PAR T E (.expr d) (i + 1 + 1) (Q.map (·.1))) = r) := ⟨_, rfl⟩
  have g3 := PAR_good (T := T) (E := E) (p := .expr d) (i := i + 1 + 1) (N := Q.map (·.1)) trivial (by omega)
  rw [z3.out] at g3
  have G3 := hid g3
  clear g3; refine (HX.out (i + 1 + 1) (by omega) (by omega) d v Q P _ hN.out (by omega) (by omega) (fun h => by omega)).mono ?_
  rw [z3.out]
  rcases Res with ⟨c, a⟩ | ⟨y3, j3, M3⟩
  ·
   rintro e w3 ⟨rfl, r3⟩
   have hF : Tg = .error (c, a) := by rw [← hTg.out, if_neg C_K3.out, if_neg C_K4.out, if_neg C_K1.out, if_neg C_bYes.out, if_neg C_bNo.out, if_neg C_bDot.out, if_neg C_bDol.out, if_neg C_bLp.out, if_neg C_neg.out, if_pos C1.out, want_yes H2.out, z3.out]; rfl
   clear hTg; subst hF
   dsimp only
   exact ⟨rfl, rfl, r3⟩
  rintro e w3 ⟨rfl, v3, Q3, m3, r3⟩
  subst m3
  have b3 := G3.out.okv rfl
  simp only [List.length_map, Pf.lo] at b3
  have kk3 := b3.2.2
  have k3 : Q3.length ≤ 2 * j3 := by omega
  have j3T := b3.2.1
  have j3L := b3.1
  obtain ⟨a3, x3⟩ : ∃ c, Hid (y3.headD 0 = c) := ⟨_, rfl⟩
  rw [x3.out]
  have h3 := hid r3
  clear r3 hN b3 G3; go_wp2_with fail; by_cases q4 : ¬ tx T (j3) = bRp
  ·
   refine (closed_bad T E k g cp (j3) d v3 Q3 P X B a3 _ EV h3.out (by omega) (by omega) q4).mono ?_
   rintro e w4 ⟨rfl, r4⟩
   have hF : Tg = .error (2, ta T E (j3)) := by rw [← hTg.out, if_neg C_K3.out, if_neg C_K4.out, if_neg C_K1.out, if_neg C_bYes.out, if_neg C_bNo.out, if_neg C_bDot.out, if_neg C_bDol.out, if_neg C_bLp.out, if_neg C_neg.out, if_pos C1.out, want_yes H2.out, z3.out, then_ok, x3.out, want_no q4]
   clear hTg; subst hF
   dsimp only
   exact ⟨rfl, rfl, r4⟩
  have H4 := hid (Decidable.not_not.1 q4)
  clear q4; have l4 : j3 < T.length := tx_lt H4.out (by decide)
  refine (closed_ok T E k g cp (j3) d v3 Q3 P X B a3 _ EV h3.out (by omega) (by omega) H4.out).mono ?_
  rintro e w4 ⟨rfl, r4⟩
  have h4 := hid r4
  clear r4 h3; have h5 := hid (rR_kids h4.out [a3] (by simp))
  clear h4; go_wp2_with fail; refine (add_any T E k g cp (j3 + 1) d v3 Q3 P X B 9 op ⟨#[]⟩ [a3] (some ⟨w4.heap.size, 0, none⟩) 1 _ h5.out (by have := EV.l; omega)).mono ?_
  rintro e w6 ⟨rfl, v6, r6⟩
  have h6 := hid r6
  clear r6 h5; go_wp2_with fail; go_ret; have hF : Tg = .ok ([(Q3.length : Int)], j3 + 1, List.map (fun q : NK => q.1) (Q3 ++ [((nd 9 ⟨#[]⟩ op [a3], Value.slice (some ⟨w4.heap.size, 0, none⟩) (List.length (α := Int) [a3]) 1) : NK)])) := by rw [← hTg.out, if_neg C_K3.out, if_neg C_K4.out, if_neg C_K1.out, if_neg C_bYes.out, if_neg C_bNo.out, if_neg C_bDot.out, if_neg C_bDol.out, if_neg C_bLp.out, if_neg C_neg.out, if_pos C1.out, want_yes H2.out, z3.out, then_ok, x3.out, want_yes H4.out, hop.out]; exact pNode_map _ _ _ _
  clear hTg; subst hF
  exact ⟨rfl, v6, _, rfl, h6.out⟩
 have C_bReal := hid c_bReal
 have f_bReal : ((tx T (i)).toList == [114, 101, 97, 108]) = false := by rw [← tl_bReal]; exact str_no c_bReal
 clear c_bReal; by_cases c_bSize : tx T i = bSize
 ·
  have hlt : i < T.length := tx_lt c_bSize (by decide)
  have hd40 : d ≤ 40 := by have := HD1.out; omega
  have C1 : Hid (tx T i = bRe ∨ tx T i = bIm ∨ tx T i = bReal ∨ tx T i = bSize) := Or.inr (Or.inr (Or.inr c_bSize))
  have f_bSize : ((tx T (i)).toList == [115, 105, 122, 101]) = true := by rw [← tl_bSize]; exact str_yes c_bSize
  clear c_bSize; go_enter Tryz.func83, Tryz.ntmps83
  go_wp2_with fail; refine (next_any T E k g cp i d v Q P X B _ h0.out EV.t EV.g hi EV.l).mono ?_
  rintro e w1 ⟨⟨x, rfl⟩, r1⟩
  have h1 := hid (rR_box r1 [.int .i64 (kd T i), .int .i64 (ta T E i), .string (tx T i), .int .i64 (ti T i), .float .f64 x] 38)
  clear h0 r1; go_wp2_with fail; by_cases q2 : ¬ tx T (i + 1) = bLp
  ·
   refine (want_bad T E k g cp (i + 1) d v Q (rB w1.heap.size 38 [.int .i64 (kd T i), .int .i64 (ta T E i), .string (tx T i), .int .i64 (ti T i), .float .f64 x] :: P) X B ⟨#[40]⟩ _ h1.out EV.t EV.g (by omega) EV.l q2).mono ?_
   rintro e w2 ⟨rfl, r2⟩
   have hF : Tg = .error (2, ta T E (i + 1)) := by rw [← hTg.out, if_neg C_K3.out, if_neg C_K4.out, if_neg C_K1.out, if_neg C_bYes.out, if_neg C_bNo.out, if_neg C_bDot.out, if_neg C_bDol.out, if_neg C_bLp.out, if_neg C_neg.out, if_pos C1.out, want_no q2]
   clear hTg; subst hF
   dsimp only
   exact ⟨rfl, rfl, r2.one⟩
  have H2 := hid (Decidable.not_not.1 q2)
  clear q2; have l2 : i + 1 < T.length := tx_lt H2.out (by decide)
  refine (want_ok T E k g cp (i + 1) d v Q (rB w1.heap.size 38 [.int .i64 (kd T i), .int .i64 (ta T E i), .string (tx T i), .int .i64 (ti T i), .float .f64 x] :: P) X B ⟨#[40]⟩ _ h1.out EV.t EV.g (by omega) EV.l H2.out).mono ?_
  rintro e w2 ⟨rfl, r2⟩
  have h2 := hid r2
  clear r2 h1; obtain ⟨y0, y1, y2, y3, y4, y5⟩ := (rR_see h2.out).five'
  have hN := hid (rR_less h2.out)
  clear h2; go_wp2_with fail; clear y0 y1 y2 y3 y4 y5; refine (turnNamed_any (tx T i) _ (EV.y.rs hN.out EV.b)).mono ?_
  rintro e u5 ⟨rfl, hw5⟩
  subst hw5
  obtain ⟨op, hop⟩ : ∃ op, Hid (turnOf (tx T i) = op) := ⟨_, rfl⟩
  rw [hop.out]
  go_wp2_with fail; obtain ⟨Res, z3⟩ : ∃ r, Hid ((PAR T E (.expr d) (i + 1 + 1) (Q.map (·.1))) = r) := ⟨_, rfl⟩
  have g3 := PAR_good (T := T) (E := E) (p := .expr d) (i := i + 1 + 1) (N := Q.map (·.1)) trivial (by omega)
  rw [z3.out] at g3
  have G3 := hid g3
  clear g3; refine (HX.out (i + 1 + 1) (by omega) (by omega) d v Q P _ hN.out (by omega) (by omega) (fun h => by omega)).mono ?_
  rw [z3.out]
  rcases Res with ⟨c, a⟩ | ⟨y3, j3, M3⟩
  ·
   rintro e w3 ⟨rfl, r3⟩
   have hF : Tg = .error (c, a) := by rw [← hTg.out, if_neg C_K3.out, if_neg C_K4.out, if_neg C_K1.out, if_neg C_bYes.out, if_neg C_bNo.out, if_neg C_bDot.out, if_neg C_bDol.out, if_neg C_bLp.out, if_neg C_neg.out, if_pos C1.out, want_yes H2.out, z3.out]; rfl
   clear hTg; subst hF
   dsimp only
   exact ⟨rfl, rfl, r3⟩
  rintro e w3 ⟨rfl, v3, Q3, m3, r3⟩
  subst m3
  have b3 := G3.out.okv rfl
  simp only [List.length_map, Pf.lo] at b3
  have kk3 := b3.2.2
  have k3 : Q3.length ≤ 2 * j3 := by omega
  have j3T := b3.2.1
  have j3L := b3.1
  obtain ⟨a3, x3⟩ : ∃ c, Hid (y3.headD 0 = c) := ⟨_, rfl⟩
  rw [x3.out]
  have h3 := hid r3
  clear r3 hN b3 G3; go_wp2_with fail; by_cases q4 : ¬ tx T (j3) = bRp
  ·
   refine (closed_bad T E k g cp (j3) d v3 Q3 P X B a3 _ EV h3.out (by omega) (by omega) q4).mono ?_
   rintro e w4 ⟨rfl, r4⟩
   have hF : Tg = .error (2, ta T E (j3)) := by rw [← hTg.out, if_neg C_K3.out, if_neg C_K4.out, if_neg C_K1.out, if_neg C_bYes.out, if_neg C_bNo.out, if_neg C_bDot.out, if_neg C_bDol.out, if_neg C_bLp.out, if_neg C_neg.out, if_pos C1.out, want_yes H2.out, z3.out, then_ok, x3.out, want_no q4]
   clear hTg; subst hF
   dsimp only
   exact ⟨rfl, rfl, r4⟩
  have H4 := hid (Decidable.not_not.1 q4)
  clear q4; have l4 : j3 < T.length := tx_lt H4.out (by decide)
  refine (closed_ok T E k g cp (j3) d v3 Q3 P X B a3 _ EV h3.out (by omega) (by omega) H4.out).mono ?_
  rintro e w4 ⟨rfl, r4⟩
  have h4 := hid r4
  clear r4 h3; have h5 := hid (rR_kids h4.out [a3] (by simp))
  clear h4; go_wp2_with fail; refine (add_any T E k g cp (j3 + 1) d v3 Q3 P X B 9 op ⟨#[]⟩ [a3] (some ⟨w4.heap.size, 0, none⟩) 1 _ h5.out (by have := EV.l; omega)).mono ?_
  rintro e w6 ⟨rfl, v6, r6⟩
  have h6 := hid r6
  clear r6 h5; go_wp2_with fail; go_ret; have hF : Tg = .ok ([(Q3.length : Int)], j3 + 1, List.map (fun q : NK => q.1) (Q3 ++ [((nd 9 ⟨#[]⟩ op [a3], Value.slice (some ⟨w4.heap.size, 0, none⟩) (List.length (α := Int) [a3]) 1) : NK)])) := by rw [← hTg.out, if_neg C_K3.out, if_neg C_K4.out, if_neg C_K1.out, if_neg C_bYes.out, if_neg C_bNo.out, if_neg C_bDot.out, if_neg C_bDol.out, if_neg C_bLp.out, if_neg C_neg.out, if_pos C1.out, want_yes H2.out, z3.out, then_ok, x3.out, want_yes H4.out, hop.out]; exact pNode_map _ _ _ _
  clear hTg; subst hF
  exact ⟨rfl, v6, _, rfl, h6.out⟩
 have C_bSize := hid c_bSize
 have f_bSize : ((tx T (i)).toList == [115, 105, 122, 101]) = false := by rw [← tl_bSize]; exact str_no c_bSize
 clear c_bSize; have C_turn : Hid (¬ (tx T i = bRe ∨ tx T i = bIm ∨ tx T i = bReal ∨ tx T i = bSize)) := fun h => h.elim C_bRe.out fun h => h.elim C_bIm.out fun h => h.elim C_bReal.out C_bSize.out
 by_cases c_bPair : tx T i = bPair
 ·
  have hlt : i < T.length := tx_lt c_bPair (by decide)
  have hd40 : d ≤ 40 := by have := HD1.out; omega
  have C1 := hid c_bPair
  have f_bPair : ((tx T (i)).toList == [112, 97, 105, 114]) = true := by rw [← tl_bPair]; exact str_yes c_bPair
  clear c_bPair; go_enter Tryz.func83, Tryz.ntmps83
  go_wp2_with fail; refine (next_any T E k g cp i d v Q P X B _ h0.out EV.t EV.g hi EV.l).mono ?_
  rintro e w1 ⟨⟨x, rfl⟩, r1⟩
  have h1 := hid (r1.later (bl_alloc (Below.refl _ _) (.cells #[.int .i64 (kd T i), .int .i64 (ta T E i), .string (tx T i), .int .i64 (ti T i), .float .f64 x] 38)))
  clear h0 r1; go_wp2_with fail; obtain ⟨Res, z2⟩ : ∃ r, Hid ((pPair T E d (i + 1) (Q.map (·.1))) = r) := ⟨_, rfl⟩
  refine (pair_of T E X B k g cp (i + 1) EV (by omega) (fun j h1 h2 => HX.out j (by omega) h2) d v Q P _ h1.out (by omega) (by omega)).mono ?_
  rw [z2.out]
  rcases Res with ⟨c, a⟩ | ⟨y2, j2, M2⟩
  ·
   rintro e w2 ⟨rfl, r2⟩
   have hF : Tg = .error (c, a) := by rw [← hTg.out, if_neg C_K3.out, if_neg C_K4.out, if_neg C_K1.out, if_neg C_bYes.out, if_neg C_bNo.out, if_neg C_bDot.out, if_neg C_bDol.out, if_neg C_bLp.out, if_neg C_neg.out, if_neg C_turn.out, if_pos C1.out, z2.out]
   clear hTg; subst hF
   dsimp only
   exact ⟨rfl, rfl, r2⟩
  rintro e w2 ⟨rfl, v2, Q2, m2, r2⟩
  have h2 := hid r2
  have mm2 := hid m2
  obtain ⟨a2, x2⟩ : ∃ c, Hid (y2.headD 0 = c) := ⟨_, rfl⟩
  rw [x2.out]
  clear r2 m2 h1; go_wp2_with fail; go_ret; have hF : Tg = .ok (y2, j2, M2) := by rw [← hTg.out, if_neg C_K3.out, if_neg C_K4.out, if_neg C_K1.out, if_neg C_bYes.out, if_neg C_bNo.out, if_neg C_bDot.out, if_neg C_bDol.out, if_neg C_bLp.out, if_neg C_neg.out, if_neg C_turn.out, if_pos C1.out, z2.out]
  clear hTg; subst hF
  exact ⟨by rw [x2.out]; rfl, v2, Q2, mm2.out, h2.out⟩
 have C_bPair := hid c_bPair
 have f_bPair : ((tx T (i)).toList == [112, 97, 105, 114]) = false := by rw [← tl_bPair]; exact str_no c_bPair
 clear c_bPair; by_cases c_bPick : tx T i = bPick
 ·
  have hlt : i < T.length := tx_lt c_bPick (by decide)
  have hd40 : d ≤ 40 := by have := HD1.out; omega
  have C1 := hid c_bPick
  have f_bPick : ((tx T (i)).toList == [112, 105, 99, 107]) = true := by rw [← tl_bPick]; exact str_yes c_bPick
  clear c_bPick; go_enter Tryz.func83, Tryz.ntmps83
  go_wp2_with fail; refine (next_any T E k g cp i d v Q P X B _ h0.out EV.t EV.g hi EV.l).mono ?_
  rintro e w1 ⟨⟨x, rfl⟩, r1⟩
  have h1 := hid (r1.later (bl_alloc (Below.refl _ _) (.cells #[.int .i64 (kd T i), .int .i64 (ta T E i), .string (tx T i), .int .i64 (ti T i), .float .f64 x] 38)))
  clear h0 r1; go_wp2_with fail; obtain ⟨Res, z2⟩ : ∃ r, Hid ((pPick T E d (i + 1) (Q.map (·.1))) = r) := ⟨_, rfl⟩
  refine (pick_of T E X B k g cp (i + 1) EV (by omega) (fun j h1 h2 => HX.out j (by omega) h2) d v Q P _ h1.out (by omega) (by omega)).mono ?_
  rw [z2.out]
  rcases Res with ⟨c, a⟩ | ⟨y2, j2, M2⟩
  ·
   rintro e w2 ⟨rfl, r2⟩
   have hF : Tg = .error (c, a) := by rw [← hTg.out, if_neg C_K3.out, if_neg C_K4.out, if_neg C_K1.out, if_neg C_bYes.out, if_neg C_bNo.out, if_neg C_bDot.out, if_neg C_bDol.out, if_neg C_bLp.out, if_neg C_neg.out, if_neg C_turn.out, if_neg C_bPair.out, if_pos C1.out, z2.out]
   clear hTg; subst hF
   dsimp only
   exact ⟨rfl, rfl, r2⟩
  rintro e w2 ⟨rfl, v2, Q2, m2, r2⟩
  have h2 := hid r2
  have mm2 := hid m2
  obtain ⟨a2, x2⟩ : ∃ c, Hid (y2.headD 0 = c) := ⟨_, rfl⟩
  rw [x2.out]
  clear r2 m2 h1; go_wp2_with fail; go_ret; have hF : Tg = .ok (y2, j2, M2) := by rw [← hTg.out, if_neg C_K3.out, if_neg C_K4.out, if_neg C_K1.out, if_neg C_bYes.out, if_neg C_bNo.out, if_neg C_bDot.out, if_neg C_bDol.out, if_neg C_bLp.out, if_neg C_neg.out, if_neg C_turn.out, if_neg C_bPair.out, if_pos C1.out, z2.out]
  clear hTg; subst hF
  exact ⟨by rw [x2.out]; rfl, v2, Q2, mm2.out, h2.out⟩
 have C_bPick := hid c_bPick
 have f_bPick : ((tx T (i)).toList == [112, 105, 99, 107]) = false := by rw [← tl_bPick]; exact str_no c_bPick
 clear c_bPick; go_enter Tryz.func83, Tryz.ntmps83
 go_wp2_with fail; refine (next_any T E k g cp i d v Q P X B _ h0.out EV.t EV.g hi EV.l).mono ?_
 rintro e w1 ⟨⟨x, rfl⟩, r1⟩
 have h1 := hid (r1.later (bl_alloc (Below.refl _ _) (.cells #[.int .i64 (kd T i), .int .i64 (ta T E i), .string (tx T i), .int .i64 (ti T i), .float .f64 x] 38)))
 clear h0 r1; go_wp2_with fail; have hF : Tg = .error (2, ta T E i) := by rw [← hTg.out, if_neg C_K3.out, if_neg C_K4.out, if_neg C_K1.out, if_neg C_bYes.out, if_neg C_bNo.out, if_neg C_bDot.out, if_neg C_bDol.out, if_neg C_bLp.out, if_neg C_neg.out, if_neg C_turn.out, if_neg C_bPair.out, if_neg C_bPick.out]
 clear hTg; subst hF
 exact ⟨rfl, rfl, h1.out.dead⟩
end Go.Proofs.YtkkofminndboaaaGreatDoor
