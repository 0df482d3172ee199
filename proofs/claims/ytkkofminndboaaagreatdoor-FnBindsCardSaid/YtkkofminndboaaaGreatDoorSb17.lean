import Derived.Test.YtkkofminndboaaaGreatDoorSb16
namespace Go.Proofs.YtkkofminndboaaaGreatDoor
open Go.RowKit
set_option linter.unusedVariables false
set_option linter.unusedSimpArgs false
set_option maxRecDepth 100000
def NW (T : List Tk) : Prop := ∀ j b, b ∈ [bLet, bDot, bDol, bPut, bIf, bLoop, bEach, bEmit, bHear, bSpawn, bKill, bDrop, bDo, bReturn] → tx T j = b → ¬ kd T j = 1
theorem store_is {T : List Tk} {E : Int} {d : Nat} {kind : Int} {s : ByteArray} {i : Nat} {N : List Nd} : pStore T E d kind s i N = pWant T E bEq i fun j => (PAR T E (.expr d) j N).then fun x j N => pWant T E bSemi j fun j => pNode (nd kind s 0 [x.headD 0]) j N := by
 unfold pStore
 rw [behind_then]
theorem name_then {T : List Tk} {E : Int} {i : Nat} (k : ByteArray → Nat → PRes) (k2 : List Int → Nat → List Nd → PRes) : (pName T E i k).then k2 = pName T E i fun s j => (k s j).then k2 := by
 by_cases h : kd T i = 1
 ·
  rw [name_yes h, name_yes h]
 rw [name_no h, name_no h]; rfl
theorem PAR_item1 {T : List Tk} {E : Int} {d i : Nat} {N : List Nd} (hi : i ≤ T.length) : PAR T E (.item 1 d) i N = pName T E i fun s j => pNode (nd 31 s 0 []) j N := by
 rw [PAR_eq (p := .item 1 d) trivial hi]
 rfl
theorem hear_is {T : List Tk} {E : Int} {d i : Nat} {N : List Nd} : pHear T E d i N = pName T E i fun s j => pWant T E bAs j fun j => pName T E j fun v j => (pNode (nd 31 v 0 []) j N).then fun x j N => (PAR T E (.block d) j N).then fun y j N => pNode (nd 20 s 0 [x.headD 0, y.headD 0]) j N := by
 unfold pHear
 by_cases h : kd T i = 1
 ·
  rw [name_yes h, name_yes h]
  by_cases h2 : tx T (i + 1) = bAs
  ·
   rw [want_yes h2, want_yes h2]
   have hlt : i + 1 < T.length := tx_lt h2 (by decide)
   rw [PAR_item1 (by omega), name_then]
  rw [want_no h2, want_no h2]
 rw [name_no h, name_no h]
theorem PAR_stmt {T : List Tk} {E : Int} {d i : Nat} {N : List Nd} (hi : i ≤ T.length) : PAR T E (.stmt d) i N = if kd T i = 1 then pName T E (i) fun s j => pStore T E d 13 s j N else if tx T i = bLet then pName T E (i + 1) fun s j => pStore T E d 12 s j N else if tx T i = bDot then pName T E (i + 1) fun s j => pStore T E d 14 s j N else if tx T i = bDol then pName T E (i + 1) fun s j => pStore T E d 15 s j N else if tx T i = bPut then pName T E (i + 1) fun s j => pStore T E d 23 s j N else if tx T i = bIf then pIf T E d (i + 1) N else if tx T i = bLoop then (PAR T E (.expr d) (i + 1) N).then fun x j N => (PAR T E (.block d) j N).then fun y j N => pNode (nd 17 nil 0 [x.headD 0, y.headD 0]) j N else if tx T i = bEach then pEach T E d (i + 1) N else if tx T i = bEmit then pName T E (i + 1) fun s j => (PAR T E (.expr d) j N).then fun x j N => pWant T E bSemi j fun j => pNode (nd 19 s 0 [x.headD 0]) j N else if tx T i = bHear then pHear T E d (i + 1) N else if tx T i = bSpawn then (PAR T E (.listed 2 d) (i + 1) N).then fun x j N => pWant T E bSemi j fun j => pNode (nd 21 nil 0 x) j N else if tx T i = bKill then pWant T E bSemi (i + 1) fun j => pNode (nd 22 nil 0 []) j N else if tx T i = bDrop then pName T E (i + 1) fun s j => pWant T E bSemi j fun j => pNode (nd 24 s 0 []) j N else if tx T i = bDo then pName T E (i + 1) fun s j => ((PAR T E (.listed 0 d) j N).then fun x j N => pNode (nd 7 s 0 x) j N).then fun y j N => pWant T E bSemi j fun j => pNode (nd 25 nil 0 [y.headD 0]) j N else if tx T i = bReturn then (PAR T E (.expr d) (i + 1) N).then fun x j N => pWant T E bSemi j fun j => pNode (nd 26 nil 0 [x.headD 0]) j N else .error (2, ta T E i) := by
 rw [PAR_eq (p := .stmt d) trivial hi]
 simp only [store_is, hear_is, pIf, pEach, then_assoc]
 rfl
theorem item_expr {T : List Tk} {E : Int} {X : World} {B k g cp j : Nat} {fn : FuncId} {args : Array Value} (hj : j ≤ T.length) (h : Says T E X B k g cp 40 fn args .expr j) : Says T E X B k g cp 40 fn args (.item 0) j := by
 intro d v Q P w hR hq hd hd1
 have e : PAR T E (.item 0 d) j (Q.map (·.1)) = PAR T E (.expr d) j (Q.map (·.1)) := by
  rw [PAR_eq (p := .item 0 d) trivial hj]
  rfl
 rw [e]
 exact h d v Q P w hR hq hd hd1
theorem call_good {T : List Tk} {E : Int} {d i : Nat} {N : List Nd} (s : ByteArray) (hi : i ≤ T.length) {y : List Int} {j : Nat} {M : List Nd} (h : ((PAR T E (.listed 0 d) i N).then fun x j N => pNode (nd 7 s 0 x) j N) = .ok (y, j, M)) : i + 1 ≤ j ∧ j ≤ T.length ∧ M.length + 2 * i ≤ N.length + 1 + 2 * j := by
 have hg := PAR_good (T := T) (E := E) (p := .listed 0 d) (i := i) (N := N) trivial hi
 cases hr : PAR T E (.listed 0 d) i N with
 | error e => rw [hr] at h; cases h
 | ok z =>
  obtain ⟨z, j2, M2⟩ := z
  have hb := hg.okv hr
  simp only [Pf.lo] at hb
  rw [hr, then_ok] at h
  unfold pNode at h
  simp only [Except.ok.injEq, Prod.mk.injEq] at h
  obtain ⟨_, rfl, rfl⟩ := h
  rw [List.length_append, List.length_singleton]
  omega
set_option maxHeartbeats 32000000 in
theorem statement_of (T : List Tk) (E : Int) (X : World) (B k g cp i : Nat) (EV : Env T E X B g) (NWT : NW T) (hi : i ≤ T.length) (hexpr : ∀ j, i < j → j ≤ T.length → Says T E X B k g cp 40 62 #[.pointer (some ⟨k, 0, none⟩)] .expr j) (hblock : ∀ j, i < j → j ≤ T.length → Says T E X B k g cp 40 32 #[.pointer (some ⟨k, 0, none⟩)] .block j) : Says T E X B k g cp 40 47 #[.pointer (some ⟨k, 0, none⟩)] .stmt i := by
 intro d v Q P w hR hq hd _
 have HX := hid hexpr
 have HB := hid hblock
 have hmf : ∀ (fn : Fn) (first cap : Array Value) (w : World), (Instr.makeFunc fn first cap).run Tryz.prog w = .ok (.func fn first cap) w := fun _ _ _ _ => rfl
 clear hexpr hblock; rw [PAR_stmt hi]
 have hal := alloc_old
 have haf := alloc_oldf
 have h0 := hid hR
 clear hR; obtain ⟨Tg, hTg⟩ : ∃ r, Hid ((if kd T i = 1 then pName T E (i) fun s j => pStore T E d 13 s j (Q.map (·.1)) else if tx T i = bLet then pName T E (i + 1) fun s j => pStore T E d 12 s j (Q.map (·.1)) else if tx T i = bDot then pName T E (i + 1) fun s j => pStore T E d 14 s j (Q.map (·.1)) else if tx T i = bDol then pName T E (i + 1) fun s j => pStore T E d 15 s j (Q.map (·.1)) else if tx T i = bPut then pName T E (i + 1) fun s j => pStore T E d 23 s j (Q.map (·.1)) else if tx T i = bIf then pIf T E d (i + 1) (Q.map (·.1)) else if tx T i = bLoop then (PAR T E (.expr d) (i + 1) (Q.map (·.1))).then fun x j N => (PAR T E (.block d) j N).then fun y j N => pNode (nd 17 nil 0 [x.headD 0, y.headD 0]) j N else if tx T i = bEach then pEach T E d (i + 1) (Q.map (·.1)) else if tx T i = bEmit then pName T E (i + 1) fun s j => (PAR T E (.expr d) j (Q.map (·.1))).then fun x j N => pWant T E bSemi j fun j => pNode (nd 19 s 0 [x.headD 0]) j N else if tx T i = bHear then pHear T E d (i + 1) (Q.map (·.1)) else if tx T i = bSpawn then (PAR T E (.listed 2 d) (i + 1) (Q.map (·.1))).then fun x j N => pWant T E bSemi j fun j => pNode (nd 21 nil 0 x) j N else if tx T i = bKill then pWant T E bSemi (i + 1) fun j => pNode (nd 22 nil 0 []) j (Q.map (·.1)) else if tx T i = bDrop then pName T E (i + 1) fun s j => pWant T E bSemi j fun j => pNode (nd 24 s 0 []) j (Q.map (·.1)) else if tx T i = bDo then pName T E (i + 1) fun s j => ((PAR T E (.listed 0 d) j (Q.map (·.1))).then fun x j N => pNode (nd 7 s 0 x) j N).then fun y j N => pWant T E bSemi j fun j => pNode (nd 25 nil 0 [y.headD 0]) j N else if tx T i = bReturn then (PAR T E (.expr d) (i + 1) (Q.map (·.1))).then fun x j N => pWant T E bSemi j fun j => pNode (nd 26 nil 0 [x.headD 0]) j N else .error (2, ta T E i)) = r) := ⟨_, rfl⟩
 rw [hTg.out]
 by_cases c_bLet : tx T i = bLet
 ·
  have hlt : i < T.length := tx_lt c_bLet (by decide)
  have C0 := hid (NWT i bLet (by simp) c_bLet)
  have C1 := hid c_bLet
  have f_bLet : ((tx T (i)).toList == [108, 101, 116]) = true := by rw [← tl_bLet]; exact str_yes c_bLet
  clear c_bLet; go_enter Tryz.func47, Tryz.ntmps47
  go_wp2_with fail; refine (next_any T E k g cp i d v Q P X B _ h0.out EV.t EV.g hi EV.l).mono ?_
  rintro e w1 ⟨⟨x, rfl⟩, r1⟩
  have h1 := hid (r1.later (bl_alloc (Below.refl _ _) (.cells #[.int .i64 (kd T i), .int .i64 (ta T E i), .string (tx T i), .int .i64 (ti T i), .float .f64 x] 38)))
  clear h0 r1; go_wp2_with fail; by_cases q2 : ¬ kd T (i + 1) = 1
  ·
   refine (name_bad T E k g cp (i + 1) d v Q P X B _ h1.out EV.t EV.g (by omega) EV.l q2).mono ?_
   rintro e w2 ⟨rfl, r2⟩
   have hF : Tg = .error (2, ta T E (i + 1)) := by rw [← hTg.out, if_neg C0.out, if_pos C1.out, name_no q2]
   clear hTg; subst hF
   dsimp only
   exact ⟨rfl, rfl, r2⟩
  have H2 := hid (Decidable.not_not.1 q2)
  clear q2; have l2 : i + 1 < T.length := kd_lt H2.out (by decide)
  refine (name_ok T E k g cp (i + 1) d v Q P X B _ h1.out EV.t EV.g (by omega) EV.l H2.out).mono ?_
  rintro e w2 ⟨rfl, r2⟩
  have h2 := hid r2
  clear r2 h1; go_wp2_with fail; obtain ⟨Res, z3⟩ : ∃ r, Hid ((pStore T E d 12 (tx T (i + 1)) (i + 1 + 1) (Q.map (·.1))) = r) := ⟨_, rfl⟩
  refine (storing_of T E X B k g cp (i + 1 + 1) EV (by omega) (fun h => HX.out _ (by omega) h) 12 (tx T (i + 1)) d v Q P _ h2.out (by omega) (by omega)).mono ?_
  rw [z3.out]
  rcases Res with ⟨c, a⟩ | ⟨y3, j3, M3⟩
  ·
   rintro e w3 ⟨rfl, r3⟩
   have hF : Tg = .error (c, a) := by rw [← hTg.out, if_neg C0.out, if_pos C1.out, name_yes H2.out, z3.out]
   clear hTg; subst hF
   dsimp only
   exact ⟨rfl, rfl, r3⟩
  rintro e w3 ⟨rfl, v3, Q3, m3, r3⟩
  have h3 := hid r3
  have mm3 := hid m3
  obtain ⟨a3, x3⟩ : ∃ c, Hid (y3.headD 0 = c) := ⟨_, rfl⟩
  rw [x3.out]
  clear r3 m3 h2; go_wp2_with fail; go_ret; have hF : Tg = .ok (y3, j3, M3) := by rw [← hTg.out, if_neg C0.out, if_pos C1.out, name_yes H2.out, z3.out]
  clear hTg; subst hF
  exact ⟨by rw [x3.out]; rfl, v3, Q3, mm3.out, h3.out⟩
 have C_bLet := hid c_bLet
 have f_bLet : ((tx T (i)).toList == [108, 101, 116]) = false := by rw [← tl_bLet]; exact str_no c_bLet
 clear c_bLet; by_cases c_bDot : tx T i = bDot
 ·
  have hlt : i < T.length := tx_lt c_bDot (by decide)
  have C0 := hid (NWT i bDot (by simp) c_bDot)
  have C1 := hid c_bDot
  have f_bDot : ((tx T (i)).toList == [46]) = true := by rw [← tl_bDot]; exact str_yes c_bDot
  clear c_bDot; go_enter Tryz.func47, Tryz.ntmps47
  go_wp2_with fail; refine (next_any T E k g cp i d v Q P X B _ h0.out EV.t EV.g hi EV.l).mono ?_
  rintro e w1 ⟨⟨x, rfl⟩, r1⟩
  have h1 := hid (r1.later (bl_alloc (Below.refl _ _) (.cells #[.int .i64 (kd T i), .int .i64 (ta T E i), .string (tx T i), .int .i64 (ti T i), .float .f64 x] 38)))
  clear h0 r1; go_wp2_with fail; by_cases q2 : ¬ kd T (i + 1) = 1
  ·
   refine (name_bad T E k g cp (i + 1) d v Q P X B _ h1.out EV.t EV.g (by omega) EV.l q2).mono ?_
   rintro e w2 ⟨rfl, r2⟩
   have hF : Tg = .error (2, ta T E (i + 1)) := by rw [← hTg.out, if_neg C0.out, if_neg C_bLet.out, if_pos C1.out, name_no q2]
   clear hTg; subst hF
   dsimp only
   exact ⟨rfl, rfl, r2⟩
  have H2 := hid (Decidable.not_not.1 q2)
  clear q2; have l2 : i + 1 < T.length := kd_lt H2.out (by decide)
  refine (name_ok T E k g cp (i + 1) d v Q P X B _ h1.out EV.t EV.g (by omega) EV.l H2.out).mono ?_
  rintro e w2 ⟨rfl, r2⟩
  have h2 := hid r2
  clear r2 h1; go_wp2_with fail; obtain ⟨Res, z3⟩ : ∃ r, Hid ((pStore T E d 14 (tx T (i + 1)) (i + 1 + 1) (Q.map (·.1))) = r) := ⟨_, rfl⟩
  refine (storing_of T E X B k g cp (i + 1 + 1) EV (by omega) (fun h => HX.out _ (by omega) h) 14 (tx T (i + 1)) d v Q P _ h2.out (by omega) (by omega)).mono ?_
  rw [z3.out]
  rcases Res with ⟨c, a⟩ | ⟨y3, j3, M3⟩
  ·
   rintro e w3 ⟨rfl, r3⟩
   have hF : Tg = .error (c, a) := by rw [← hTg.out, if_neg C0.out, if_neg C_bLet.out, if_pos C1.out, name_yes H2.out, z3.out]
   clear hTg; subst hF
   dsimp only
   exact ⟨rfl, rfl, r3⟩
  rintro e w3 ⟨rfl, v3, Q3, m3, r3⟩
  have h3 := hid r3
  have mm3 := hid m3
  obtain ⟨a3, x3⟩ : ∃ c, Hid (y3.headD 0 = c) := ⟨_, rfl⟩
  rw [x3.out]
  clear r3 m3 h2; go_wp2_with fail; go_ret; have hF : Tg = .ok (y3, j3, M3) := by rw [← hTg.out, if_neg C0.out, if_neg C_bLet.out, if_pos C1.out, name_yes H2.out, z3.out]
  clear hTg; subst hF
  exact ⟨by rw [x3.out]; rfl, v3, Q3, mm3.out, h3.out⟩
 have C_bDot := hid c_bDot
 have f_bDot : ((tx T (i)).toList == [46]) = false := by rw [← tl_bDot]; exact str_no c_bDot
 clear c_bDot; by_cases c_bDol : tx T i = bDol
 ·
  have hlt : i < T.length := tx_lt c_bDol (by decide)
  have C0 := hid (NWT i bDol (by simp) c_bDol)
  have C1 := hid c_bDol
  have f_bDol : ((tx T (i)).toList == [36]) = true := by rw [← tl_bDol]; exact str_yes c_bDol
  clear c_bDol; go_enter Tryz.func47, Tryz.ntmps47
  go_wp2_with fail; refine (next_any T E k g cp i d v Q P X B _ h0.out EV.t EV.g hi EV.l).mono ?_
  rintro e w1 ⟨⟨x, rfl⟩, r1⟩
  have h1 := hid (r1.later (bl_alloc (Below.refl _ _) (.cells #[.int .i64 (kd T i), .int .i64 (ta T E i), .string (tx T i), .int .i64 (ti T i), .float .f64 x] 38)))
  clear h0 r1; go_wp2_with fail; by_cases q2 : ¬ kd T (i + 1) = 1
  ·
   refine (name_bad T E k g cp (i + 1) d v Q P X B _ h1.out EV.t EV.g (by omega) EV.l q2).mono ?_
   rintro e w2 ⟨rfl, r2⟩
   have hF : Tg = .error (2, ta T E (i + 1)) := by rw [← hTg.out, if_neg C0.out, if_neg C_bLet.out, if_neg C_bDot.out, if_pos C1.out, name_no q2]
   clear hTg; subst hF
   dsimp only
   exact ⟨rfl, rfl, r2⟩
  have H2 := hid (Decidable.not_not.1 q2)
  clear q2; have l2 : i + 1 < T.length := kd_lt H2.out (by decide)
  refine (name_ok T E k g cp (i + 1) d v Q P X B _ h1.out EV.t EV.g (by omega) EV.l H2.out).mono ?_
  rintro e w2 ⟨rfl, r2⟩
  have h2 := hid r2
  clear r2 h1; go_wp2_with fail; obtain ⟨Res, z3⟩ : ∃ r, Hid ((pStore T E d 15 (tx T (i + 1)) (i + 1 + 1) (Q.map (·.1))) = r) := ⟨_, rfl⟩
  refine (storing_of T E X B k g cp (i + 1 + 1) EV (by omega) (fun h => HX.out _ (by omega) h) 15 (tx T (i + 1)) d v Q P _ h2.out (by omega) (by omega)).mono ?_
  rw [z3.out]
  rcases Res with ⟨c, a⟩ | ⟨y3, j3, M3⟩
  ·
   rintro e w3 ⟨rfl, r3⟩
   have hF : Tg = .error (c, a) := by rw [← hTg.out, if_neg C0.out, if_neg C_bLet.out, if_neg C_bDot.out, if_pos C1.out, name_yes H2.out, z3.out]
   clear hTg; subst hF
   dsimp only
   exact ⟨rfl, rfl, r3⟩
  rintro e w3 ⟨rfl, v3, Q3, m3, r3⟩
  have h3 := hid r3
  have mm3 := hid m3
  obtain ⟨a3, x3⟩ : ∃ c, Hid (y3.headD 0 = c) := ⟨_, rfl⟩
  rw [x3.out]
  clear r3 m3 h2; go_wp2_with fail; go_ret; have hF : Tg = .ok (y3, j3, M3) := by rw [← hTg.out, if_neg C0.out, if_neg C_bLet.out, if_neg C_bDot.out, if_pos C1.out, name_yes H2.out, z3.out]
  clear hTg; subst hF
  exact ⟨by rw [x3.out]; rfl, v3, Q3, mm3.out, h3.out⟩
 have C_bDol := hid c_bDol
 have f_bDol : ((tx T (i)).toList == [36]) = false := by rw [← tl_bDol]; exact str_no c_bDol
 clear c_bDol; by_cases c_bPut : tx T i = bPut
 ·
  have hlt : i < T.length := tx_lt c_bPut (by decide)
  have C0 := hid (NWT i bPut (by simp) c_bPut)
  have C1 := hid c_bPut
  have f_bPut : ((tx T (i)).toList == [112, 117, 116]) = true := by rw [← tl_bPut]; exact str_yes c_bPut
  clear c_bPut; go_enter Tryz.func47, Tryz.ntmps47
  go_wp2_with fail; refine (next_any T E k g cp i d v Q P X B _ h0.out EV.t EV.g hi EV.l).mono ?_
  rintro e w1 ⟨⟨x, rfl⟩, r1⟩
  have h1 := hid (r1.later (bl_alloc (Below.refl _ _) (.cells #[.int .i64 (kd T i), .int .i64 (ta T E i), .string (tx T i), .int .i64 (ti T i), .float .f64 x] 38)))
  clear h0 r1; go_wp2_with fail; by_cases q2 : ¬ kd T (i + 1) = 1
  ·
   refine (name_bad T E k g cp (i + 1) d v Q P X B _ h1.out EV.t EV.g (by omega) EV.l q2).mono ?_
   rintro e w2 ⟨rfl, r2⟩
   have hF : Tg = .error (2, ta T E (i + 1)) := by rw [← hTg.out, if_neg C0.out, if_neg C_bLet.out, if_neg C_bDot.out, if_neg C_bDol.out, if_pos C1.out, name_no q2]
   clear hTg; subst hF
   dsimp only
   exact ⟨rfl, rfl, r2⟩
  have H2 := hid (Decidable.not_not.1 q2)
  clear q2; have l2 : i + 1 < T.length := kd_lt H2.out (by decide)
  refine (name_ok T E k g cp (i + 1) d v Q P X B _ h1.out EV.t EV.g (by omega) EV.l H2.out).mono ?_
  rintro e w2 ⟨rfl, r2⟩
  have h2 := hid r2
  clear r2 h1; go_wp2_with fail; obtain ⟨Res, z3⟩ : ∃ r, Hid ((pStore T E d 23 (tx T (i + 1)) (i + 1 + 1) (Q.map (·.1))) = r) := ⟨_, rfl⟩
  refine (storing_of T E X B k g cp (i + 1 + 1) EV (by omega) (fun h => HX.out _ (by omega) h) 23 (tx T (i + 1)) d v Q P _ h2.out (by omega) (by omega)).mono ?_
  rw [z3.out]
  rcases Res with ⟨c, a⟩ | ⟨y3, j3, M3⟩
  ·
   rintro e w3 ⟨rfl, r3⟩
   have hF : Tg = .error (c, a) := by rw [← hTg.out, if_neg C0.out, if_neg C_bLet.out, if_neg C_bDot.out, if_neg C_bDol.out, if_pos C1.out, name_yes H2.out, z3.out]
   clear hTg; subst hF
   dsimp only
   exact ⟨rfl, rfl, r3⟩
  rintro e w3 ⟨rfl, v3, Q3, m3, r3⟩
  have h3 := hid r3
  have mm3 := hid m3
  obtain ⟨a3, x3⟩ : ∃ c, Hid (y3.headD 0 = c) := ⟨_, rfl⟩
  rw [x3.out]
  clear r3 m3 h2; go_wp2_with fail; go_ret; have hF : Tg = .ok (y3, j3, M3) := by rw [← hTg.out, if_neg C0.out, if_neg C_bLet.out, if_neg C_bDot.out, if_neg C_bDol.out, if_pos C1.out, name_yes H2.out, z3.out]
  clear hTg; subst hF
  exact ⟨by rw [x3.out]; rfl, v3, Q3, mm3.out, h3.out⟩
 have C_bPut := hid c_bPut
 have f_bPut : ((tx T (i)).toList == [112, 117, 116]) = false := by rw [← tl_bPut]; exact str_no c_bPut
 clear c_bPut; by_cases c_bIf : tx T i = bIf
 ·
  have hlt : i < T.length := tx_lt c_bIf (by decide)
  have C0 := hid (NWT i bIf (by simp) c_bIf)
  have C1 := hid c_bIf
  have f_bIf : ((tx T (i)).toList == [105, 102]) = true := by rw [← tl_bIf]; exact str_yes c_bIf
  clear c_bIf; go_enter Tryz.func47, Tryz.ntmps47
  go_wp2_with fail; refine (next_any T E k g cp i d v Q P X B _ h0.out EV.t EV.g hi EV.l).mono ?_
  rintro e w1 ⟨⟨x, rfl⟩, r1⟩
  have h1 := hid (r1.later (bl_alloc (Below.refl _ _) (.cells #[.int .i64 (kd T i), .int .i64 (ta T E i), .string (tx T i), .int .i64 (ti T i), .float .f64 x] 38)))
  clear h0 r1; go_wp2_with fail; obtain ⟨Res, z2⟩ : ∃ r, Hid ((pIf T E d (i + 1) (Q.map (·.1))) = r) := ⟨_, rfl⟩
  refine (choice_of T E X B k g cp (i + 1) EV (by omega) (fun j h1 h2 => HX.out j (by omega) h2) (fun j h1 h2 => HB.out j (by omega) h2) d v Q P _ h1.out (by omega) (by omega)).mono ?_
  rw [z2.out]
  rcases Res with ⟨c, a⟩ | ⟨y2, j2, M2⟩
  ·
   rintro e w2 ⟨rfl, r2⟩
   have hF : Tg = .error (c, a) := by rw [← hTg.out, if_neg C0.out, if_neg C_bLet.out, if_neg C_bDot.out, if_neg C_bDol.out, if_neg C_bPut.out, if_pos C1.out, z2.out]
   clear hTg; subst hF
   dsimp only
   exact ⟨rfl, rfl, r2⟩
  rintro e w2 ⟨rfl, v2, Q2, m2, r2⟩
  have h2 := hid r2
  have mm2 := hid m2
  obtain ⟨a2, x2⟩ : ∃ c, Hid (y2.headD 0 = c) := ⟨_, rfl⟩
  rw [x2.out]
  clear r2 m2 h1; go_wp2_with fail; go_ret; have hF : Tg = .ok (y2, j2, M2) := by rw [← hTg.out, if_neg C0.out, if_neg C_bLet.out, if_neg C_bDot.out, if_neg C_bDol.out, if_neg C_bPut.out, if_pos C1.out, z2.out]
  clear hTg; subst hF
  exact ⟨by rw [x2.out]; rfl, v2, Q2, mm2.out, h2.out⟩
 have C_bIf := hid c_bIf
 have f_bIf : ((tx T (i)).toList == [105, 102]) = false := by rw [← tl_bIf]; exact str_no c_bIf
 clear c_bIf; by_cases c_bLoop : tx T i = bLoop
 ·
  have hlt : i < T.length := tx_lt c_bLoop (by decide)
  have C0 := hid (NWT i bLoop (by simp) c_bLoop)
  have C1 := hid c_bLoop
  have f_bLoop : ((tx T (i)).toList == [108, 111, 111, 112]) = true := by rw [← tl_bLoop]; exact str_yes c_bLoop
  clear c_bLoop; go_enter Tryz.func47, Tryz.ntmps47
  go_wp2_with fail; refine (next_any T E k g cp i d v Q P X B _ h0.out EV.t EV.g hi EV.l).mono ?_
  rintro e w1 ⟨⟨x, rfl⟩, r1⟩
  have h1 := hid (r1.later (bl_alloc (Below.refl _ _) (.cells #[.int .i64 (kd T i), .int .i64 (ta T E i), .string (tx T i), .int .i64 (ti T i), .float .f64 x] 38)))
  clear h0 r1; go_wp2_with fail; obtain ⟨Res, z2⟩ : ∃ r, Hid ((PAR T E (.expr d) (i + 1) (Q.map (·.1))) = r) := ⟨_, rfl⟩
  have g2 := PAR_good (T := T) (E := E) (p := .expr d) (i := i + 1) (N := Q.map (·.1)) trivial (by omega)
  rw [z2.out] at g2
  have G2 := hid g2
  clear g2; refine (HX.out (i + 1) (by omega) (by omega) d v Q P _ h1.out (by omega) (by omega) (fun h => by omega)).mono ?_
  rw [z2.out]
  rcases Res with ⟨c, a⟩ | ⟨y2, j2, M2⟩
  ·
   rintro e w2 ⟨rfl, r2⟩
   have hF : Tg = .error (c, a) := by rw [← hTg.out, if_neg C0.out, if_neg C_bLet.out, if_neg C_bDot.out, if_neg C_bDol.out, if_neg C_bPut.out, if_neg C_bIf.out, if_pos C1.out, z2.out]; rfl
   clear hTg; subst hF
   dsimp only
   exact ⟨rfl, rfl, r2⟩
  rintro e w2 ⟨rfl, v2, Q2, m2, r2⟩
  subst m2
  have b2 := G2.out.okv rfl
  simp only [List.length_map, Pf.lo] at b2
  have kk2 := b2.2.2
  have k2 : Q2.length ≤ 2 * j2 := by omega
  have j2T := b2.2.1
  have j2L := b2.1
  obtain ⟨a2, x2⟩ : ∃ c, Hid (y2.headD 0 = c) := ⟨_, rfl⟩
  rw [x2.out]
  have h2 := hid r2
  clear r2 h1 b2 G2; go_wp2_with fail; obtain ⟨Res, z3⟩ : ∃ r, Hid ((PAR T E (.block d) (j2) (Q2.map (·.1))) = r) := ⟨_, rfl⟩
  have g3 := PAR_good (T := T) (E := E) (p := .block d) (i := j2) (N := Q2.map (·.1)) trivial (by omega)
  rw [z3.out] at g3
  have G3 := hid g3
  clear g3; refine (HB.out (j2) (by omega) (by omega) d v2 Q2 P _ h2.out (by omega) (by omega) (fun h => by omega)).mono ?_
  rw [z3.out]
  rcases Res with ⟨c, a⟩ | ⟨y3, j3, M3⟩
  ·
   rintro e w3 ⟨rfl, r3⟩
   have hF : Tg = .error (c, a) := by rw [← hTg.out, if_neg C0.out, if_neg C_bLet.out, if_neg C_bDot.out, if_neg C_bDol.out, if_neg C_bPut.out, if_neg C_bIf.out, if_pos C1.out, z2.out, then_ok, x2.out, z3.out]; rfl
   clear hTg; subst hF
   dsimp only
   exact ⟨rfl, rfl, r3⟩
  rintro e w3 ⟨rfl, v3, Q3, m3, r3⟩
  subst m3
  have b3 := G3.out.okv rfl
  simp only [List.length_map, Pf.lo] at b3
  have kk3 := b3.2.2
  have k3 : Q3.length ≤ 2 * j3 := by omega
  have j3T := b3.2.1
  have j3L := b3.1
  obtain ⟨a3, x3⟩ : ∃ c, Hid (y3.headD 0 = c) := ⟨_, rfl⟩
  rw [x3.out]
  have h3 := hid r3
  clear r3 h2 b3 G3; have h4 := hid (rR_kids h3.out [a2, a3] (by simp))
  clear h3; go_wp2_with fail; refine (add_any T E k g cp (j3) d v3 Q3 P X B 17 0 ⟨#[]⟩ [a2, a3] (some ⟨w3.heap.size, 0, none⟩) 2 _ h4.out (by have := EV.l; omega)).mono ?_
  rintro e w5 ⟨rfl, v5, r5⟩
  have h5 := hid r5
  clear r5 h4; go_wp2_with fail; go_ret; have hF : Tg = .ok ([(Q3.length : Int)], j3, List.map (fun q : NK => q.1) (Q3 ++ [((nd 17 ⟨#[]⟩ 0 [a2, a3], Value.slice (some ⟨w3.heap.size, 0, none⟩) (List.length (α := Int) [a2, a3]) 2) : NK)])) := by rw [← hTg.out, if_neg C0.out, if_neg C_bLet.out, if_neg C_bDot.out, if_neg C_bDol.out, if_neg C_bPut.out, if_neg C_bIf.out, if_pos C1.out, z2.out, then_ok, x2.out, z3.out, then_ok, x3.out]; exact pNode_map _ _ _ _
  clear hTg; subst hF
  exact ⟨rfl, v5, _, rfl, h5.out⟩
 have C_bLoop := hid c_bLoop
 have f_bLoop : ((tx T (i)).toList == [108, 111, 111, 112]) = false := by rw [← tl_bLoop]; exact str_no c_bLoop
 clear c_bLoop; by_cases c_bEach : tx T i = bEach
 ·
  have hlt : i < T.length := tx_lt c_bEach (by decide)
  have C0 := hid (NWT i bEach (by simp) c_bEach)
  have C1 := hid c_bEach
  have f_bEach : ((tx T (i)).toList == [101, 97, 99, 104]) = true := by rw [← tl_bEach]; exact str_yes c_bEach
  clear c_bEach; go_enter Tryz.func47, Tryz.ntmps47
  go_wp2_with fail; refine (next_any T E k g cp i d v Q P X B _ h0.out EV.t EV.g hi EV.l).mono ?_
  rintro e w1 ⟨⟨x, rfl⟩, r1⟩
  have h1 := hid (r1.later (bl_alloc (Below.refl _ _) (.cells #[.int .i64 (kd T i), .int .i64 (ta T E i), .string (tx T i), .int .i64 (ti T i), .float .f64 x] 38)))
  clear h0 r1; go_wp2_with fail; obtain ⟨Res, z2⟩ : ∃ r, Hid ((pEach T E d (i + 1) (Q.map (·.1))) = r) := ⟨_, rfl⟩
  refine (each_of T E X B k g cp (i + 1) EV (by omega) (fun j h1 h2 => HB.out j (by omega) h2) d v Q P _ h1.out (by omega) (by omega)).mono ?_
  rw [z2.out]
  rcases Res with ⟨c, a⟩ | ⟨y2, j2, M2⟩
  ·
   rintro e w2 ⟨rfl, r2⟩
   have hF : Tg = .error (c, a) := by rw [← hTg.out, if_neg C0.out, if_neg C_bLet.out, if_neg C_bDot.out, if_neg C_bDol.out, if_neg C_bPut.out, if_neg C_bIf.out, if_neg C_bLoop.out, if_pos C1.out, z2.out]
   clear hTg; subst hF
   dsimp only
   exact ⟨rfl, rfl, r2⟩
  rintro e w2 ⟨rfl, v2, Q2, m2, r2⟩
  have h2 := hid r2
  have mm2 := hid m2
  obtain ⟨a2, x2⟩ : ∃ c, Hid (y2.headD 0 = c) := ⟨_, rfl⟩
  rw [x2.out]
  clear r2 m2 h1; go_wp2_with fail; go_ret; have hF : Tg = .ok (y2, j2, M2) := by rw [← hTg.out, if_neg C0.out, if_neg C_bLet.out, if_neg C_bDot.out, if_neg C_bDol.out, if_neg C_bPut.out, if_neg C_bIf.out, if_neg C_bLoop.out, if_pos C1.out, z2.out]
  clear hTg; subst hF
  exact ⟨by rw [x2.out]; rfl, v2, Q2, mm2.out, h2.out⟩
 have C_bEach := hid c_bEach
 have f_bEach : ((tx T (i)).toList == [101, 97, 99, 104]) = false := by rw [← tl_bEach]; exact str_no c_bEach
 clear c_bEach; by_cases c_bEmit : tx T i = bEmit
 ·
  have hlt : i < T.length := tx_lt c_bEmit (by decide)
  have C0 := hid (NWT i bEmit (by simp) c_bEmit)
  have C1 := hid c_bEmit
  have f_bEmit : ((tx T (i)).toList == [101, 109, 105, 116]) = true := by rw [← tl_bEmit]; exact str_yes c_bEmit
  clear c_bEmit; go_enter Tryz.func47, Tryz.ntmps47
  go_wp2_with fail; refine (next_any T E k g cp i d v Q P X B _ h0.out EV.t EV.g hi EV.l).mono ?_
  rintro e w1 ⟨⟨x, rfl⟩, r1⟩
  have h1 := hid (r1.later (bl_alloc (Below.refl _ _) (.cells #[.int .i64 (kd T i), .int .i64 (ta T E i), .string (tx T i), .int .i64 (ti T i), .float .f64 x] 38)))
  clear h0 r1; go_wp2_with fail; by_cases q2 : ¬ kd T (i + 1) = 1
  ·
   refine (name_bad T E k g cp (i + 1) d v Q P X B _ h1.out EV.t EV.g (by omega) EV.l q2).mono ?_
   rintro e w2 ⟨rfl, r2⟩
   have hF : Tg = .error (2, ta T E (i + 1)) := by rw [← hTg.out, if_neg C0.out, if_neg C_bLet.out, if_neg C_bDot.out, if_neg C_bDol.out, if_neg C_bPut.out, if_neg C_bIf.out, if_neg C_bLoop.out, if_neg C_bEach.out, if_pos C1.out, name_no q2]
   clear hTg; subst hF
   dsimp only
   exact ⟨rfl, rfl, r2⟩
  have H2 := hid (Decidable.not_not.1 q2)
  clear q2; have l2 : i + 1 < T.length := kd_lt H2.out (by decide)
  refine (name_ok T E k g cp (i + 1) d v Q P X B _ h1.out EV.t EV.g (by omega) EV.l H2.out).mono ?_
  rintro e w2 ⟨rfl, r2⟩
  have h2 := hid r2
  clear r2 h1; go_wp2_with fail; obtain ⟨Res, z3⟩ : ∃ r, Hid ((PAR T E (.expr d) (i + 1 + 1) (Q.map (·.1))) = r) := ⟨_, rfl⟩
  have g3 := PAR_good (T := T) (E := E) (p := .expr d) (i := i + 1 + 1) (N := Q.map (·.1)) trivial (by omega)
  rw [z3.out] at g3
  have G3 := hid g3
  clear g3; refine (HX.out (i + 1 + 1) (by omega) (by omega) d v Q P _ h2.out (by omega) (by omega) (fun h => by omega)).mono ?_
  rw [z3.out]
  rcases Res with ⟨c, a⟩ | ⟨y3, j3, M3⟩
  ·
   rintro e w3 ⟨rfl, r3⟩
   have hF : Tg = .error (c, a) := by rw [← hTg.out, if_neg C0.out, if_neg C_bLet.out, if_neg C_bDot.out, if_neg C_bDol.out, if_neg C_bPut.out, if_neg C_bIf.out, if_neg C_bLoop.out, if_neg C_bEach.out, if_pos C1.out, name_yes H2.out, z3.out]; rfl
   clear hTg; subst hF
   dsimp only
   exact ⟨rfl, rfl, r3⟩
  rintro e w3 ⟨rfl, v3, Q3, m3, r3⟩
  subst m3
  have b3 := G3.out.okv rfl
  simp only [List.length_map, Pf.lo] at b3
  have kk3 := b3.2.2
  have k3 : Q3.length ≤ 2 * j3 := by omega
  have j3T := b3.2.1
  have j3L := b3.1
  obtain ⟨a3, x3⟩ : ∃ c, Hid (y3.headD 0 = c) := ⟨_, rfl⟩
  rw [x3.out]
  have h3 := hid r3
  clear r3 h2 b3 G3; have h4 := hid (rR_kids h3.out [a3] (by simp))
  clear h3; go_wp2_with fail; obtain ⟨Res, z5⟩ : ∃ r, Hid ((pWant T E bSemi (j3) fun j => pNode (nd 19 (tx T (i + 1)) 0 [a3]) j (Q3.map (·.1))) = r) := ⟨_, rfl⟩
  refine (ended_of T E X B k g cp (j3) EV (by omega) 19 0 (tx T (i + 1)) [a3] (some ⟨w3.heap.size, 0, none⟩) 1 d v3 Q3 P _ h4.out (by omega)).mono ?_
  rw [z5.out]
  rcases Res with ⟨c, a⟩ | ⟨y5, j5, M5⟩
  ·
   rintro e w5 ⟨rfl, r5⟩
   have hF : Tg = .error (c, a) := by rw [← hTg.out, if_neg C0.out, if_neg C_bLet.out, if_neg C_bDot.out, if_neg C_bDol.out, if_neg C_bPut.out, if_neg C_bIf.out, if_neg C_bLoop.out, if_neg C_bEach.out, if_pos C1.out, name_yes H2.out, z3.out, then_ok, x3.out, z5.out]
   clear hTg; subst hF
   dsimp only
   exact ⟨rfl, rfl, r5⟩
  rintro e w5 ⟨rfl, v5, Q5, m5, r5⟩
  have h5 := hid r5
  have mm5 := hid m5
  obtain ⟨a5, x5⟩ : ∃ c, Hid (y5.headD 0 = c) := ⟨_, rfl⟩
  rw [x5.out]
  clear r5 m5 h4; go_wp2_with fail; go_ret; have hF : Tg = .ok (y5, j5, M5) := by rw [← hTg.out, if_neg C0.out, if_neg C_bLet.out, if_neg C_bDot.out, if_neg C_bDol.out, if_neg C_bPut.out, if_neg C_bIf.out, if_neg C_bLoop.out, if_neg C_bEach.out, if_pos C1.out, name_yes H2.out, z3.out, then_ok, x3.out, z5.out]
  clear hTg; subst hF
  exact ⟨by rw [x5.out]; rfl, v5, Q5, mm5.out, h5.out⟩
 have C_bEmit := hid c_bEmit
 have f_bEmit : ((tx T (i)).toList == [101, 109, 105, 116]) = false := by rw [← tl_bEmit]; exact str_no c_bEmit
 clear c_bEmit; by_cases c_bHear : tx T i = bHear
 ·
  have hlt : i < T.length := tx_lt c_bHear (by decide)
  have C0 := hid (NWT i bHear (by simp) c_bHear)
  have C1 := hid c_bHear
  have f_bHear : ((tx T (i)).toList == [104, 101, 97, 114]) = true := by rw [← tl_bHear]; exact str_yes c_bHear
  clear c_bHear; go_enter Tryz.func47, Tryz.ntmps47
  go_wp2_with fail; refine (next_any T E k g cp i d v Q P X B _ h0.out EV.t EV.g hi EV.l).mono ?_
  rintro e w1 ⟨⟨x, rfl⟩, r1⟩
  have h1 := hid (r1.later (bl_alloc (Below.refl _ _) (.cells #[.int .i64 (kd T i), .int .i64 (ta T E i), .string (tx T i), .int .i64 (ti T i), .float .f64 x] 38)))
  clear h0 r1; go_wp2_with fail; obtain ⟨Res, z2⟩ : ∃ r, Hid ((pHear T E d (i + 1) (Q.map (·.1))) = r) := ⟨_, rfl⟩
  refine (hear_of T E X B k g cp (i + 1) EV (by omega) (fun j h1 h2 => HB.out j (by omega) h2) d v Q P _ h1.out (by omega) (by omega)).mono ?_
  rw [z2.out]
  rcases Res with ⟨c, a⟩ | ⟨y2, j2, M2⟩
  ·
   rintro e w2 ⟨rfl, r2⟩
   have hF : Tg = .error (c, a) := by rw [← hTg.out, if_neg C0.out, if_neg C_bLet.out, if_neg C_bDot.out, if_neg C_bDol.out, if_neg C_bPut.out, if_neg C_bIf.out, if_neg C_bLoop.out, if_neg C_bEach.out, if_neg C_bEmit.out, if_pos C1.out, z2.out]
   clear hTg; subst hF
   dsimp only
   exact ⟨rfl, rfl, r2⟩
  rintro e w2 ⟨rfl, v2, Q2, m2, r2⟩
  have h2 := hid r2
  have mm2 := hid m2
  obtain ⟨a2, x2⟩ : ∃ c, Hid (y2.headD 0 = c) := ⟨_, rfl⟩
  rw [x2.out]
  clear r2 m2 h1; go_wp2_with fail; go_ret; have hF : Tg = .ok (y2, j2, M2) := by rw [← hTg.out, if_neg C0.out, if_neg C_bLet.out, if_neg C_bDot.out, if_neg C_bDol.out, if_neg C_bPut.out, if_neg C_bIf.out, if_neg C_bLoop.out, if_neg C_bEach.out, if_neg C_bEmit.out, if_pos C1.out, z2.out]
  clear hTg; subst hF
  exact ⟨by rw [x2.out]; rfl, v2, Q2, mm2.out, h2.out⟩
 have C_bHear := hid c_bHear
 have f_bHear : ((tx T (i)).toList == [104, 101, 97, 114]) = false := by rw [← tl_bHear]; exact str_no c_bHear
 clear c_bHear; by_cases c_bSpawn : tx T i = bSpawn
 ·
  have hlt : i < T.length := tx_lt c_bSpawn (by decide)
  have C0 := hid (NWT i bSpawn (by simp) c_bSpawn)
  have C1 := hid c_bSpawn
  have f_bSpawn : ((tx T (i)).toList == [115, 112, 97, 119, 110]) = true := by rw [← tl_bSpawn]; exact str_yes c_bSpawn
  clear c_bSpawn; go_enter Tryz.func47, Tryz.ntmps47
  go_wp2_with fail; refine (next_any T E k g cp i d v Q P X B _ h0.out EV.t EV.g hi EV.l).mono ?_
  rintro e w1 ⟨⟨x, rfl⟩, r1⟩
  have h1 := hid (r1.later (bl_alloc (Below.refl _ _) (.cells #[.int .i64 (kd T i), .int .i64 (ta T E i), .string (tx T i), .int .i64 (ti T i), .float .f64 x] 38)))
  clear h0 r1; go_wp2_with fail; obtain ⟨Res, z2⟩ : ∃ r, Hid ((PAR T E (.listed 2 d) (i + 1) (Q.map (·.1))) = r) := ⟨_, rfl⟩
  have g2 := PAR_good (T := T) (E := E) (p := .listed 2 d) (i := i + 1) (N := Q.map (·.1)) trivial (by omega)
  rw [z2.out] at g2
  have G2 := hid g2
  clear g2; refine (listedCell_of T E X B k g cp (i + 1) EV (by omega) (fun j h1 h2 => cell_of T E X B k g cp j EV h2 (fun j2 h3 h4 => HX.out j2 (by omega) h4)) d v Q P _ h1.out (by omega) (by omega)).mono ?_
  rw [z2.out]
  rcases Res with ⟨c, a⟩ | ⟨y2, j2, M2⟩
  ·
   rintro e w2 ⟨rfl, r2⟩
   have hF : Tg = .error (c, a) := by rw [← hTg.out, if_neg C0.out, if_neg C_bLet.out, if_neg C_bDot.out, if_neg C_bDol.out, if_neg C_bPut.out, if_neg C_bIf.out, if_neg C_bLoop.out, if_neg C_bEach.out, if_neg C_bEmit.out, if_neg C_bHear.out, if_pos C1.out, z2.out]; rfl
   clear hTg; subst hF
   dsimp only
   exact ⟨rfl, rfl, r2⟩
  rintro e w2 ⟨s2, c2, v2, Q2, rfl, m2, r2⟩
  subst m2
  have b2 := G2.out.okv rfl
  simp only [List.length_map, Pf.lo] at b2
  have kk2 := b2.2.2
  have k2 : Q2.length ≤ 2 * j2 := by omega
  have j2T := b2.2.1
  have j2L := b2.1
  have h2 := hid r2
  clear r2 h1 b2 G2; go_wp2_with fail; obtain ⟨Res, z3⟩ : ∃ r, Hid ((pWant T E bSemi (j2) fun j => pNode (nd 21 nil 0 y2) j (Q2.map (·.1))) = r) := ⟨_, rfl⟩
  refine (ended_of T E X B k g cp (j2) EV (by omega) 21 0 nil y2 s2 c2 d v2 Q2 P _ h2.out (by omega)).mono ?_
  rw [z3.out]
  rcases Res with ⟨c, a⟩ | ⟨y3, j3, M3⟩
  ·
   rintro e w3 ⟨rfl, r3⟩
   have hF : Tg = .error (c, a) := by rw [← hTg.out, if_neg C0.out, if_neg C_bLet.out, if_neg C_bDot.out, if_neg C_bDol.out, if_neg C_bPut.out, if_neg C_bIf.out, if_neg C_bLoop.out, if_neg C_bEach.out, if_neg C_bEmit.out, if_neg C_bHear.out, if_pos C1.out, z2.out, then_ok, z3.out]
   clear hTg; subst hF
   dsimp only
   exact ⟨rfl, rfl, r3⟩
  rintro e w3 ⟨rfl, v3, Q3, m3, r3⟩
  have h3 := hid r3
  have mm3 := hid m3
  obtain ⟨a3, x3⟩ : ∃ c, Hid (y3.headD 0 = c) := ⟨_, rfl⟩
  rw [x3.out]
  clear r3 m3 h2; go_wp2_with fail; go_ret; have hF : Tg = .ok (y3, j3, M3) := by rw [← hTg.out, if_neg C0.out, if_neg C_bLet.out, if_neg C_bDot.out, if_neg C_bDol.out, if_neg C_bPut.out, if_neg C_bIf.out, if_neg C_bLoop.out, if_neg C_bEach.out, if_neg C_bEmit.out, if_neg C_bHear.out, if_pos C1.out, z2.out, then_ok, z3.out]
  clear hTg; subst hF
  exact ⟨by rw [x3.out]; rfl, v3, Q3, mm3.out, h3.out⟩
 have C_bSpawn := hid c_bSpawn
 have f_bSpawn : ((tx T (i)).toList == [115, 112, 97, 119, 110]) = false := by rw [← tl_bSpawn]; exact str_no c_bSpawn
 clear c_bSpawn; by_cases c_bKill : tx T i = bKill
 ·
  have hlt : i < T.length := tx_lt c_bKill (by decide)
  have C0 := hid (NWT i bKill (by simp) c_bKill)
  have C1 := hid c_bKill
  have f_bKill : ((tx T (i)).toList == [107, 105, 108, 108]) = true := by rw [← tl_bKill]; exact str_yes c_bKill
  clear c_bKill; go_enter Tryz.func47, Tryz.ntmps47
  go_wp2_with fail; refine (next_any T E k g cp i d v Q P X B _ h0.out EV.t EV.g hi EV.l).mono ?_
  rintro e w1 ⟨⟨x, rfl⟩, r1⟩
  have h1 := hid (r1.later (bl_alloc (Below.refl _ _) (.cells #[.int .i64 (kd T i), .int .i64 (ta T E i), .string (tx T i), .int .i64 (ti T i), .float .f64 x] 38)))
  clear h0 r1; go_wp2_with fail; have h2 := hid (rR_none h1.out)
  clear h1; go_wp2_with fail; obtain ⟨Res, z3⟩ : ∃ r, Hid ((pWant T E bSemi (i + 1) fun j => pNode (nd 22 nil 0 []) j (Q.map (·.1))) = r) := ⟨_, rfl⟩
  refine (ended_of T E X B k g cp (i + 1) EV (by omega) 22 0 nil [] none 0 d v Q P _ h2.out (by omega)).mono ?_
  rw [z3.out]
  rcases Res with ⟨c, a⟩ | ⟨y3, j3, M3⟩
  ·
   rintro e w3 ⟨rfl, r3⟩
   have hF : Tg = .error (c, a) := by rw [← hTg.out, if_neg C0.out, if_neg C_bLet.out, if_neg C_bDot.out, if_neg C_bDol.out, if_neg C_bPut.out, if_neg C_bIf.out, if_neg C_bLoop.out, if_neg C_bEach.out, if_neg C_bEmit.out, if_neg C_bHear.out, if_neg C_bSpawn.out, if_pos C1.out, z3.out]
   clear hTg; subst hF
   dsimp only
   exact ⟨rfl, rfl, r3⟩
  rintro e w3 ⟨rfl, v3, Q3, m3, r3⟩
  have h3 := hid r3
  have mm3 := hid m3
  obtain ⟨a3, x3⟩ : ∃ c, Hid (y3.headD 0 = c) := ⟨_, rfl⟩
  rw [x3.out]
  clear r3 m3 h2; go_wp2_with fail; go_ret; have hF : Tg = .ok (y3, j3, M3) := by rw [← hTg.out, if_neg C0.out, if_neg C_bLet.out, if_neg C_bDot.out, if_neg C_bDol.out, if_neg C_bPut.out, if_neg C_bIf.out, if_neg C_bLoop.out, if_neg C_bEach.out, if_neg C_bEmit.out, if_neg C_bHear.out, if_neg C_bSpawn.out, if_pos C1.out, z3.out]
  clear hTg; subst hF
  exact ⟨by rw [x3.out]; rfl, v3, Q3, mm3.out, h3.out⟩
 have C_bKill := hid c_bKill
 have f_bKill : ((tx T (i)).toList == [107, 105, 108, 108]) = false := by rw [← tl_bKill]; exact str_no c_bKill
 clear c_bKill; by_cases c_bDrop : tx T i = bDrop
 ·
  have hlt : i < T.length := tx_lt c_bDrop (by decide)
  have C0 := hid (NWT i bDrop (by simp) c_bDrop)
  have C1 := hid c_bDrop
  have f_bDrop : ((tx T (i)).toList == [100, 114, 111, 112]) = true := by rw [← tl_bDrop]; exact str_yes c_bDrop
  clear c_bDrop; go_enter Tryz.func47, Tryz.ntmps47
  go_wp2_with fail; refine (next_any T E k g cp i d v Q P X B _ h0.out EV.t EV.g hi EV.l).mono ?_
  rintro e w1 ⟨⟨x, rfl⟩, r1⟩
  have h1 := hid (r1.later (bl_alloc (Below.refl _ _) (.cells #[.int .i64 (kd T i), .int .i64 (ta T E i), .string (tx T i), .int .i64 (ti T i), .float .f64 x] 38)))
  clear h0 r1; go_wp2_with fail; by_cases q2 : ¬ kd T (i + 1) = 1
  ·
   refine (name_bad T E k g cp (i + 1) d v Q P X B _ h1.out EV.t EV.g (by omega) EV.l q2).mono ?_
   rintro e w2 ⟨rfl, r2⟩
   have hF : Tg = .error (2, ta T E (i + 1)) := by rw [← hTg.out, if_neg C0.out, if_neg C_bLet.out, if_neg C_bDot.out, if_neg C_bDol.out, if_neg C_bPut.out, if_neg C_bIf.out, if_neg C_bLoop.out, if_neg C_bEach.out, if_neg C_bEmit.out, if_neg C_bHear.out, if_neg C_bSpawn.out, if_neg C_bKill.out, if_pos C1.out, name_no q2]
   clear hTg; subst hF
   dsimp only
   exact ⟨rfl, rfl, r2⟩
  have H2 := hid (Decidable.not_not.1 q2)
  clear q2; have l2 : i + 1 < T.length := kd_lt H2.out (by decide)
  refine (name_ok T E k g cp (i + 1) d v Q P X B _ h1.out EV.t EV.g (by omega) EV.l H2.out).mono ?_
  rintro e w2 ⟨rfl, r2⟩
  have h2 := hid r2
  clear r2 h1; have h3 := hid (rR_none h2.out)
  clear h2; go_wp2_with fail; obtain ⟨Res, z4⟩ : ∃ r, Hid ((pWant T E bSemi (i + 1 + 1) fun j => pNode (nd 24 (tx T (i + 1)) 0 []) j (Q.map (·.1))) = r) := ⟨_, rfl⟩
  refine (ended_of T E X B k g cp (i + 1 + 1) EV (by omega) 24 0 (tx T (i + 1)) [] none 0 d v Q P _ h3.out (by omega)).mono ?_
  rw [z4.out]
  rcases Res with ⟨c, a⟩ | ⟨y4, j4, M4⟩
  ·
   rintro e w4 ⟨rfl, r4⟩
   have hF : Tg = .error (c, a) := by rw [← hTg.out, if_neg C0.out, if_neg C_bLet.out, if_neg C_bDot.out, if_neg C_bDol.out, if_neg C_bPut.out, if_neg C_bIf.out, if_neg C_bLoop.out, if_neg C_bEach.out, if_neg C_bEmit.out, if_neg C_bHear.out, if_neg C_bSpawn.out, if_neg C_bKill.out, if_pos C1.out, name_yes H2.out, z4.out]
   clear hTg; subst hF
   dsimp only
   exact ⟨rfl, rfl, r4⟩
  rintro e w4 ⟨rfl, v4, Q4, m4, r4⟩
  have h4 := hid r4
  have mm4 := hid m4
  obtain ⟨a4, x4⟩ : ∃ c, Hid (y4.headD 0 = c) := ⟨_, rfl⟩
  rw [x4.out]
  clear r4 m4 h3; go_wp2_with fail; go_ret; have hF : Tg = .ok (y4, j4, M4) := by rw [← hTg.out, if_neg C0.out, if_neg C_bLet.out, if_neg C_bDot.out, if_neg C_bDol.out, if_neg C_bPut.out, if_neg C_bIf.out, if_neg C_bLoop.out, if_neg C_bEach.out, if_neg C_bEmit.out, if_neg C_bHear.out, if_neg C_bSpawn.out, if_neg C_bKill.out, if_pos C1.out, name_yes H2.out, z4.out]
  clear hTg; subst hF
  exact ⟨by rw [x4.out]; rfl, v4, Q4, mm4.out, h4.out⟩
 have C_bDrop := hid c_bDrop
 have f_bDrop : ((tx T (i)).toList == [100, 114, 111, 112]) = false := by rw [← tl_bDrop]; exact str_no c_bDrop
 clear c_bDrop; by_cases c_bDo : tx T i = bDo
 ·
  have hlt : i < T.length := tx_lt c_bDo (by decide)
  have C0 := hid (NWT i bDo (by simp) c_bDo)
  have C1 := hid c_bDo
  have f_bDo : ((tx T (i)).toList == [100, 111]) = true := by rw [← tl_bDo]; exact str_yes c_bDo
  clear c_bDo; go_enter Tryz.func47, Tryz.ntmps47
  go_wp2_with fail; refine (next_any T E k g cp i d v Q P X B _ h0.out EV.t EV.g hi EV.l).mono ?_
  rintro e w1 ⟨⟨x, rfl⟩, r1⟩
  have h1 := hid (r1.later (bl_alloc (Below.refl _ _) (.cells #[.int .i64 (kd T i), .int .i64 (ta T E i), .string (tx T i), .int .i64 (ti T i), .float .f64 x] 38)))
  clear h0 r1; go_wp2_with fail; by_cases q2 : ¬ kd T (i + 1) = 1
  ·
   refine (name_bad T E k g cp (i + 1) d v Q P X B _ h1.out EV.t EV.g (by omega) EV.l q2).mono ?_
   rintro e w2 ⟨rfl, r2⟩
   have hF : Tg = .error (2, ta T E (i + 1)) := by rw [← hTg.out, if_neg C0.out, if_neg C_bLet.out, if_neg C_bDot.out, if_neg C_bDol.out, if_neg C_bPut.out, if_neg C_bIf.out, if_neg C_bLoop.out, if_neg C_bEach.out, if_neg C_bEmit.out, if_neg C_bHear.out, if_neg C_bSpawn.out, if_neg C_bKill.out, if_neg C_bDrop.out, if_pos C1.out, name_no q2]
   clear hTg; subst hF
   dsimp only
   exact ⟨rfl, rfl, r2⟩
  have H2 := hid (Decidable.not_not.1 q2)
  clear q2; have l2 : i + 1 < T.length := kd_lt H2.out (by decide)
  refine (name_ok T E k g cp (i + 1) d v Q P X B _ h1.out EV.t EV.g (by omega) EV.l H2.out).mono ?_
  rintro e w2 ⟨rfl, r2⟩
  have h2 := hid r2
  clear r2 h1; go_wp2_with fail; obtain ⟨Res, z3⟩ : ∃ r, Hid (((PAR T E (.listed 0 d) (i + 1 + 1) (Q.map (·.1))).then fun x j N => pNode (nd 7 (tx T (i + 1)) 0 x) j N) = r) := ⟨_, rfl⟩
  refine ((fun d v Q P w hR hq hd => call_of T E X B k g cp (i + 1 + 1) EV (by omega) (fun j h1 h2 => item_expr h2 (HX.out j (by omega) h2)) (tx T (i + 1)) d v Q P w hR hq hd) d v Q P _ h2.out (by omega) (by omega)).mono ?_
  rw [z3.out]
  rcases Res with ⟨c, a⟩ | ⟨y3, j3, M3⟩
  ·
   rintro e w3 ⟨rfl, r3⟩
   have hF : Tg = .error (c, a) := by rw [← hTg.out, if_neg C0.out, if_neg C_bLet.out, if_neg C_bDot.out, if_neg C_bDol.out, if_neg C_bPut.out, if_neg C_bIf.out, if_neg C_bLoop.out, if_neg C_bEach.out, if_neg C_bEmit.out, if_neg C_bHear.out, if_neg C_bSpawn.out, if_neg C_bKill.out, if_neg C_bDrop.out, if_pos C1.out, name_yes H2.out, z3.out]; rfl
   clear hTg; subst hF
   dsimp only
   exact ⟨rfl, rfl, r3⟩
  rintro e w3 ⟨rfl, v3, Q3, m3, r3⟩
  subst m3
  have b3 := call_good (tx T (i + 1)) (by omega) z3.out
  simp only [List.length_map, Pf.lo] at b3
  have kk3 := b3.2.2
  have k3 : Q3.length ≤ 2 * j3 := by omega
  have j3T := b3.2.1
  have j3L := b3.1
  obtain ⟨a3, x3⟩ : ∃ c, Hid (y3.headD 0 = c) := ⟨_, rfl⟩
  rw [x3.out]
  have h3 := hid r3
  clear r3 h2 b3; have h4 := hid (rR_kids h3.out [a3] (by simp))
  clear h3; go_wp2_with fail; obtain ⟨Res, z5⟩ : ∃ r, Hid ((pWant T E bSemi (j3) fun j => pNode (nd 25 nil 0 [a3]) j (Q3.map (·.1))) = r) := ⟨_, rfl⟩
  refine (ended_of T E X B k g cp (j3) EV (by omega) 25 0 nil [a3] (some ⟨w3.heap.size, 0, none⟩) 1 d v3 Q3 P _ h4.out (by omega)).mono ?_
  rw [z5.out]
  rcases Res with ⟨c, a⟩ | ⟨y5, j5, M5⟩
  ·
   rintro e w5 ⟨rfl, r5⟩
   have hF : Tg = .error (c, a) := by rw [← hTg.out, if_neg C0.out, if_neg C_bLet.out, if_neg C_bDot.out, if_neg C_bDol.out, if_neg C_bPut.out, if_neg C_bIf.out, if_neg C_bLoop.out, if_neg C_bEach.out, if_neg C_bEmit.out, if_neg C_bHear.out, if_neg C_bSpawn.out, if_neg C_bKill.out, if_neg C_bDrop.out, if_pos C1.out, name_yes H2.out, z3.out, then_ok, x3.out, z5.out]
   clear hTg; subst hF
   dsimp only
   exact ⟨rfl, rfl, r5⟩
  rintro e w5 ⟨rfl, v5, Q5, m5, r5⟩
  have h5 := hid r5
  have mm5 := hid m5
  obtain ⟨a5, x5⟩ : ∃ c, Hid (y5.headD 0 = c) := ⟨_, rfl⟩
  rw [x5.out]
  clear r5 m5 h4; go_wp2_with fail; go_ret; have hF : Tg = .ok (y5, j5, M5) := by rw [← hTg.out, if_neg C0.out, if_neg C_bLet.out, if_neg C_bDot.out, if_neg C_bDol.out, if_neg C_bPut.out, if_neg C_bIf.out, if_neg C_bLoop.out, if_neg C_bEach.out, if_neg C_bEmit.out, if_neg C_bHear.out, if_neg C_bSpawn.out, if_neg C_bKill.out, if_neg C_bDrop.out, if_pos C1.out, name_yes H2.out, z3.out, then_ok, x3.out, z5.out]
  clear hTg; subst hF
  exact ⟨by rw [x5.out]; rfl, v5, Q5, mm5.out, h5.out⟩
 have C_bDo := hid c_bDo
 have f_bDo : ((tx T (i)).toList == [100, 111]) = false := by rw [← tl_bDo]; exact str_no c_bDo
 clear c_bDo; by_cases c_bReturn : tx T i = bReturn
 ·
  have hlt : i < T.length := tx_lt c_bReturn (by decide)
  have C0 := hid (NWT i bReturn (by simp) c_bReturn)
  have C1 := hid c_bReturn
  have f_bReturn : ((tx T (i)).toList == [114, 101, 116, 117, 114, 110]) = true := by rw [← tl_bReturn]; exact str_yes c_bReturn
  clear c_bReturn; go_enter Tryz.func47, Tryz.ntmps47
  go_wp2_with fail; refine (next_any T E k g cp i d v Q P X B _ h0.out EV.t EV.g hi EV.l).mono ?_
  rintro e w1 ⟨⟨x, rfl⟩, r1⟩
  have h1 := hid (r1.later (bl_alloc (Below.refl _ _) (.cells #[.int .i64 (kd T i), .int .i64 (ta T E i), .string (tx T i), .int .i64 (ti T i), .float .f64 x] 38)))
  clear h0 r1; go_wp2_with fail; obtain ⟨Res, z2⟩ : ∃ r, Hid ((PAR T E (.expr d) (i + 1) (Q.map (·.1))) = r) := ⟨_, rfl⟩
  have g2 := PAR_good (T := T) (E := E) (p := .expr d) (i := i + 1) (N := Q.map (·.1)) trivial (by omega)
  rw [z2.out] at g2
  have G2 := hid g2
  clear g2; refine (HX.out (i + 1) (by omega) (by omega) d v Q P _ h1.out (by omega) (by omega) (fun h => by omega)).mono ?_
  rw [z2.out]
  rcases Res with ⟨c, a⟩ | ⟨y2, j2, M2⟩
  ·
   rintro e w2 ⟨rfl, r2⟩
   have hF : Tg = .error (c, a) := by rw [← hTg.out, if_neg C0.out, if_neg C_bLet.out, if_neg C_bDot.out, if_neg C_bDol.out, if_neg C_bPut.out, if_neg C_bIf.out, if_neg C_bLoop.out, if_neg C_bEach.out, if_neg C_bEmit.out, if_neg C_bHear.out, if_neg C_bSpawn.out, if_neg C_bKill.out, if_neg C_bDrop.out, if_neg C_bDo.out, if_pos C1.out, z2.out]; rfl
   clear hTg; subst hF
   dsimp only
   exact ⟨rfl, rfl, r2⟩
  rintro e w2 ⟨rfl, v2, Q2, m2, r2⟩
  subst m2
  have b2 := G2.out.okv rfl
  simp only [List.length_map, Pf.lo] at b2
  have kk2 := b2.2.2
  have k2 : Q2.length ≤ 2 * j2 := by omega
  have j2T := b2.2.1
  have j2L := b2.1
  obtain ⟨a2, x2⟩ : ∃ c, Hid (y2.headD 0 = c) := ⟨_, rfl⟩
  rw [x2.out]
  have h2 := hid r2
  clear r2 h1 b2 G2; have h3 := hid (rR_kids h2.out [a2] (by simp))
  clear h2; go_wp2_with fail; obtain ⟨Res, z4⟩ : ∃ r, Hid ((pWant T E bSemi (j2) fun j => pNode (nd 26 nil 0 [a2]) j (Q2.map (·.1))) = r) := ⟨_, rfl⟩
  refine (ended_of T E X B k g cp (j2) EV (by omega) 26 0 nil [a2] (some ⟨w2.heap.size, 0, none⟩) 1 d v2 Q2 P _ h3.out (by omega)).mono ?_
  rw [z4.out]
  rcases Res with ⟨c, a⟩ | ⟨y4, j4, M4⟩
  ·
   rintro e w4 ⟨rfl, r4⟩
   have hF : Tg = .error (c, a) := by rw [← hTg.out, if_neg C0.out, if_neg C_bLet.out, if_neg C_bDot.out, if_neg C_bDol.out, if_neg C_bPut.out, if_neg C_bIf.out, if_neg C_bLoop.out, if_neg C_bEach.out, if_neg C_bEmit.out, if_neg C_bHear.out, if_neg C_bSpawn.out, if_neg C_bKill.out, if_neg C_bDrop.out, if_neg C_bDo.out, if_pos C1.out, z2.out, then_ok, x2.out, z4.out]
   clear hTg; subst hF
   dsimp only
   exact ⟨rfl, rfl, r4⟩
  rintro e w4 ⟨rfl, v4, Q4, m4, r4⟩
  have h4 := hid r4
  have mm4 := hid m4
  obtain ⟨a4, x4⟩ : ∃ c, Hid (y4.headD 0 = c) := ⟨_, rfl⟩
  rw [x4.out]
  clear r4 m4 h3; go_wp2_with fail; go_ret; have hF : Tg = .ok (y4, j4, M4) := by rw [← hTg.out, if_neg C0.out, if_neg C_bLet.out, if_neg C_bDot.out, if_neg C_bDol.out, if_neg C_bPut.out, if_neg C_bIf.out, if_neg C_bLoop.out, if_neg C_bEach.out, if_neg C_bEmit.out, if_neg C_bHear.out, if_neg C_bSpawn.out, if_neg C_bKill.out, if_neg C_bDrop.out, if_neg C_bDo.out, if_pos C1.out, z2.out, then_ok, x2.out, z4.out]
  clear hTg; subst hF
  exact ⟨by rw [x4.out]; rfl, v4, Q4, mm4.out, h4.out⟩
 have C_bReturn := hid c_bReturn
 have f_bReturn : ((tx T (i)).toList == [114, 101, 116, 117, 114, 110]) = false := by rw [← tl_bReturn]; exact str_no c_bReturn
 clear c_bReturn; by_cases c0 : kd T i = 1
 ·
  have hlt : i < T.length := kd_lt c0 (by decide)
  have hne : (kd T i != 1) = false := by rw [c0]; rfl
  have C0 := hid c0
  clear c0; go_enter Tryz.func47, Tryz.ntmps47
  go_wp2_with fail; refine (next_any T E k g cp i d v Q P X B _ h0.out EV.t EV.g hi EV.l).mono ?_
  rintro e w1 ⟨⟨x, rfl⟩, r1⟩
  have h1 := hid (r1.later (bl_alloc (Below.refl _ _) (.cells #[.int .i64 (kd T i), .int .i64 (ta T E i), .string (tx T i), .int .i64 (ti T i), .float .f64 x] 38)))
  clear h0 r1; go_wp2_with fail; obtain ⟨Res, z2⟩ : ∃ r, Hid ((pStore T E d 13 (tx T i) (i + 1) (Q.map (·.1))) = r) := ⟨_, rfl⟩
  refine (storing_of T E X B k g cp (i + 1) EV (by omega) (fun h => HX.out _ (by omega) h) 13 (tx T i) d v Q P _ h1.out (by omega) (by omega)).mono ?_
  rw [z2.out]
  rcases Res with ⟨c, a⟩ | ⟨y2, j2, M2⟩
  ·
   rintro e w2 ⟨rfl, r2⟩
   have hF : Tg = .error (c, a) := by rw [← hTg.out, if_pos C0.out, name_yes C0.out, z2.out]
   clear hTg; subst hF
   dsimp only
   exact ⟨rfl, rfl, r2⟩
  rintro e w2 ⟨rfl, v2, Q2, m2, r2⟩
  have h2 := hid r2
  have mm2 := hid m2
  obtain ⟨a2, x2⟩ : ∃ c, Hid (y2.headD 0 = c) := ⟨_, rfl⟩
  rw [x2.out]
  clear r2 m2 h1; go_wp2_with fail; go_ret; have hF : Tg = .ok (y2, j2, M2) := by rw [← hTg.out, if_pos C0.out, name_yes C0.out, z2.out]
  clear hTg; subst hF
  exact ⟨by rw [x2.out]; rfl, v2, Q2, mm2.out, h2.out⟩
 have hne : (kd T i != 1) = true := by simpa using c0
 have C0 := hid c0
 clear c0; go_enter Tryz.func47, Tryz.ntmps47
 go_wp2_with fail; refine (next_any T E k g cp i d v Q P X B _ h0.out EV.t EV.g hi EV.l).mono ?_
 rintro e w1 ⟨⟨x, rfl⟩, r1⟩
 have h1 := hid (r1.later (bl_alloc (Below.refl _ _) (.cells #[.int .i64 (kd T i), .int .i64 (ta T E i), .string (tx T i), .int .i64 (ti T i), .float .f64 x] 38)))
 clear h0 r1; go_wp2_with fail; have hF : Tg = .error (2, ta T E i) := by rw [← hTg.out, if_neg C0.out, if_neg C_bLet.out, if_neg C_bDot.out, if_neg C_bDol.out, if_neg C_bPut.out, if_neg C_bIf.out, if_neg C_bLoop.out, if_neg C_bEach.out, if_neg C_bEmit.out, if_neg C_bHear.out, if_neg C_bSpawn.out, if_neg C_bKill.out, if_neg C_bDrop.out, if_neg C_bDo.out, if_neg C_bReturn.out]
 clear hTg; subst hF
 exact ⟨rfl, rfl, h1.out.dead⟩
end Go.Proofs.YtkkofminndboaaaGreatDoor
