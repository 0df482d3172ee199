import Derived.Test.YtkkofminndboaaaGreatDoorSb12
namespace Go.Proofs.YtkkofminndboaaaGreatDoor
set_option linter.unusedVariables false
set_option linter.unusedSimpArgs false
section
open Go.RowKit
set_option maxRecDepth 100000
theorem pNode_map (n : Nd) (j : Nat) (Q : List NK) (u : Value) : pNode n j (Q.map (·.1)) = .ok ([(Q.length : Int)], j, (Q ++ [(n, u)]).map (·.1)) := by simp [pNode]
theorem kind_lt {T : List Tk} {i : Nat} (h : ¬ kindOf (tx T i) = 0) : i < T.length := by
 by_cases e : i < T.length
 ·
  exact e
 exact absurd (by rw [tx_none e]; exact kindOf_nil) h
def pPair (T : List Tk) (E : Int) (d i : Nat) (N : List Nd) : PRes := pWant T E bLp i fun j => (PAR T E (.expr d) j N).then fun x j N => pWant T E bComma j fun j => (PAR T E (.expr d) j N).then fun y j N => pWant T E bRp j fun j => pNode (nd 10 nil 0 [x.headD 0, y.headD 0]) j N
set_option maxHeartbeats 8000000 in
theorem pair_of (T : List Tk) (E : Int) (X : World) (B k g cp i : Nat) (EV : Env T E X B g) (hi : i ≤ T.length) (hexpr : ∀ j, i < j → j ≤ T.length → Says T E X B k g cp 40 62 #[.pointer (some ⟨k, 0, none⟩)] .expr j)
  (d : Nat) (v : Value) (Q : List NK) (P : List OR) (w : World) (hR : Rs X B w (rR k g (T.length + 1) cp (i) d v Q P)) (hq : Q.length ≤ 2 * (i)) (hd : d ≤ 40) :
  Calls Tryz.prog 93 #[.pointer (some ⟨k, 0, none⟩)] w (Ok1 T X B k g cp d P (pPair T E d i (Q.map (·.1)))) := by
 have HX := hid hexpr
 clear hexpr; unfold pPair
 have hal := alloc_old
 have haf := alloc_oldf
 have h0 := hid hR
 clear hR; obtain ⟨Tg, hTg⟩ : ∃ r, Hid ((pWant T E bLp i fun j => (PAR T E (.expr d) j (Q.map (·.1))).then fun x j N => pWant T E bComma j fun j => (PAR T E (.expr d) j N).then fun y j N => pWant T E bRp j fun j => pNode (nd 10 nil 0 [x.headD 0, y.headD 0]) j N) = r) := ⟨_, rfl⟩
 rw [hTg.out]
 go_enter Tryz.func93, Tryz.ntmps93
 go_wp2_with fail; by_cases q1 : ¬ tx T (i) = bLp
 ·
  refine (want_bad T E k g cp (i) d v Q P X B ⟨#[40]⟩ _ h0.out EV.t EV.g (by omega) EV.l q1).mono ?_
  rintro e w1 ⟨rfl, r1⟩
  have hF : Tg = .error (2, ta T E (i)) := by rw [← hTg.out, want_no q1]
  clear hTg; subst hF
  dsimp only
  exact ⟨rfl, rfl, r1⟩
 have H1 := hid (Decidable.not_not.1 q1)
 clear q1; have l1 : i < T.length := tx_lt H1.out (by decide)
 refine (want_ok T E k g cp (i) d v Q P X B ⟨#[40]⟩ _ h0.out EV.t EV.g (by omega) EV.l H1.out).mono ?_
 rintro e w1 ⟨rfl, r1⟩
 have h1 := hid r1
 clear r1 h0; go_wp2_with fail; obtain ⟨Res, z2⟩ : ∃ r, Hid ((PAR T E (.expr d) (i + 1) (Q.map (·.1))) = r) := ⟨_, rfl⟩
 have g2 := PAR_good (T := T) (E := E) (p := .expr d) (i := i + 1) (N := Q.map (·.1)) trivial (by omega)
 rw [z2.out] at g2
 have G2 := hid g2
 clear g2; refine (HX.out (i + 1) (by omega) (by omega) d v Q P _ h1.out (by omega) (by omega) (fun h => by omega)).mono ?_
 rw [z2.out]
 rcases Res with ⟨c, a⟩ | ⟨y2, j2, M2⟩
 ·
  rintro e w2 ⟨rfl, r2⟩
  have hF : Tg = .error (c, a) := by rw [← hTg.out, want_yes H1.out, z2.out]; rfl
  clear hTg; subst hF
  dsimp only
  exact ⟨rfl, rfl, r2⟩
 rintro e w2 ⟨rfl, v2, Q2, m2, r2⟩
 subst m2
 have b2 := G2.out.okv rfl
 simp only [List.length_map, Pf.lo] at b2
 have k2 : Q2.length ≤ 2 * j2 := by omega
 have j2T := b2.2.1
 have j2L := b2.1
 obtain ⟨a2, x2⟩ : ∃ c, Hid (y2.headD 0 = c) := ⟨_, rfl⟩
 rw [x2.out]
 have h2 := hid r2
 clear r2 h1 b2 G2; go_wp2_with fail; by_cases q3 : ¬ tx T (j2) = bComma
 ·
  refine (want_bad T E k g cp (j2) d v2 Q2 P X B ⟨#[44]⟩ _ h2.out EV.t EV.g (by omega) EV.l q3).mono ?_
  rintro e w3 ⟨rfl, r3⟩
  have hF : Tg = .error (2, ta T E (j2)) := by rw [← hTg.out, want_yes H1.out, z2.out, then_ok, x2.out, want_no q3]
  clear hTg; subst hF
  dsimp only
  exact ⟨rfl, rfl, r3⟩
 have H3 := hid (Decidable.not_not.1 q3)
 clear q3; have l3 : j2 < T.length := tx_lt H3.out (by decide)
 refine (want_ok T E k g cp (j2) d v2 Q2 P X B ⟨#[44]⟩ _ h2.out EV.t EV.g (by omega) EV.l H3.out).mono ?_
 rintro e w3 ⟨rfl, r3⟩
 have h3 := hid r3
 clear r3 h2; go_wp2_with fail; obtain ⟨Res, z4⟩ : ∃ r, Hid ((PAR T E (.expr d) (j2 + 1) (Q2.map (·.1))) = r) := ⟨_, rfl⟩
 have g4 := PAR_good (T := T) (E := E) (p := .expr d) (i := j2 + 1) (N := Q2.map (·.1)) trivial (by omega)
 rw [z4.out] at g4
 have G4 := hid g4
 clear g4; refine (HX.out (j2 + 1) (by omega) (by omega) d v2 Q2 P _ h3.out (by omega) (by omega) (fun h => by omega)).mono ?_
 rw [z4.out]
 rcases Res with ⟨c, a⟩ | ⟨y4, j4, M4⟩
 ·
  rintro e w4 ⟨rfl, r4⟩
  have hF : Tg = .error (c, a) := by rw [← hTg.out, want_yes H1.out, z2.out, then_ok, x2.out, want_yes H3.out, z4.out]; rfl
  clear hTg; subst hF
  dsimp only
  exact ⟨rfl, rfl, r4⟩
 rintro e w4 ⟨rfl, v4, Q4, m4, r4⟩
 subst m4
 have b4 := G4.out.okv rfl
 simp only [List.length_map, Pf.lo] at b4
 have k4 : Q4.length ≤ 2 * j4 := by omega
 have j4T := b4.2.1
 have j4L := b4.1
 obtain ⟨a4, x4⟩ : ∃ c, Hid (y4.headD 0 = c) := ⟨_, rfl⟩
 rw [x4.out]
 have h4 := hid r4
 clear r4 h3 b4 G4; go_wp2_with fail; by_cases q5 : ¬ tx T (j4) = bRp
 ·
  refine (closed_bad T E k g cp (j4) d v4 Q4 P X B a4 _ EV h4.out (by omega) (by omega) q5).mono ?_
  rintro e w5 ⟨rfl, r5⟩
  have hF : Tg = .error (2, ta T E (j4)) := by rw [← hTg.out, want_yes H1.out, z2.out, then_ok, x2.out, want_yes H3.out, z4.out, then_ok, x4.out, want_no q5]
  clear hTg; subst hF
  dsimp only
  exact ⟨rfl, rfl, r5⟩
 have H5 := hid (Decidable.not_not.1 q5)
 clear q5; have l5 : j4 < T.length := tx_lt H5.out (by decide)
 refine (closed_ok T E k g cp (j4) d v4 Q4 P X B a4 _ EV h4.out (by omega) (by omega) H5.out).mono ?_
 rintro e w5 ⟨rfl, r5⟩
 have h5 := hid r5
 clear r5 h4; have h6 := hid (rR_kids h5.out [a2, a4] (by simp))
 clear h5; go_wp2_with fail; refine (add_any T E k g cp (j4 + 1) d v4 Q4 P X B 10 0 ⟨#[]⟩ [a2, a4] (some ⟨w5.heap.size, 0, none⟩) 2 _ h6.out (by have := EV.l; omega)).mono ?_
 rintro e w7 ⟨rfl, v7, r7⟩
 have h7 := hid r7
 clear r7 h6; go_wp2_with fail; go_ret; have hF : Tg = .ok ([(Q4.length : Int)], j4 + 1, List.map (fun q : NK => q.1) (Q4 ++ [((nd 10 ⟨#[]⟩ 0 [a2, a4], Value.slice (some ⟨w5.heap.size, 0, none⟩) (List.length (α := Int) [a2, a4]) 2) : NK)])) := by rw [← hTg.out, want_yes H1.out, z2.out, then_ok, x2.out, want_yes H3.out, z4.out, then_ok, x4.out, want_yes H5.out]; exact pNode_map _ _ _ _
 clear hTg; subst hF
 exact ⟨rfl, v7, _, rfl, h7.out⟩
end
section
open Go.RowKit
set_option maxRecDepth 100000
theorem wpList_rR1 {X w0 : World} {B k g n cp j d c : Nat} {v : Value} {Q : List NK} {P : List OR} {s : Option Addr} {acc : List Int} {ops : Array Oper} {rest : List Oper} {o : Oper} {a : Act} {Qx : Exit → Act → World → Prop} (h : Rs X B w0 (rR k g n cp j d v Q (rI (.slice s acc.length c) acc :: P))) (hg : o.guard = none) (sx x : Operand) (ho : o.op = .call { callee := .builtin .append, args := #[sx, x], argTypes := #[25, 25] })
  (hs : a.eval sx = .slice s acc.length c) (b : Int) (hx : a.eval x = .slice (some ⟨w0.heap.size, 0, none⟩) 1 1) (hl : acc.length ≤ 1000000) (R : List Int) (hR : acc ++ [b] = R)
  (hK : ∀ s' c' w', Rs X B w' (rR k g n cp j d v Q (rI (.slice s' R.length c') R :: P)) → wpList Tryz.prog ops Qx rest (a.put o.dst (.slice s' R.length c')) w') :
  wpList Tryz.prog ops Qx (o :: rest) a (w0.alloc (.cells #[.int .i64 b] 3)) := by
 subst hR
 obtain ⟨iI, hiI, hzI, hsI, hbI⟩ := info_parts Tryz.infoI8
 have h4 := rR_box h [.int .i64 b] 3
 have h5 : Rs X B (w0.alloc (.cells #[.int .i64 b] 3)) (((rB k 55 [.slice (some ⟨g, 0, none⟩) n cp, .int .i64 j, .int .i64 d, v] :: rN v Q :: rK Q) ++ [rB w0.heap.size 3 [.int .i64 b]]) ++ rI (.slice s acc.length c) acc :: P) := by
  rw [List.append_assoc]
  exact h4
 refine wpList_appI _ P h5 hg sx x 25 8 ho Tryz.underlying25 hiI hzI hsI hbI rfl Nat.zero_lt_one hs (some ⟨w0.heap.size, 0, none⟩) 1 1 [.int .i64 b] hx rfl (Or.inr ⟨_, rfl, news1 (rR_see h4)⟩) (by intro u hu; simp only [List.mem_singleton] at hu; subst hu; rfl) (by show acc.length + 1 ≤ _; unfold maxLen; omega) (by show (acc.length + 1) * 8 ≤ _; omega) (acc.length + 1) rfl (fun v => ⟨3, 1, v, acc.length + 1, acc.map (Value.int .i64) ++ [.int .i64 b]⟩) (fun _ => rfl) ?_
 intro s' c' w' h'
 have e0 : (acc ++ [b]).length = acc.length + 1 := by simp
 have e1 : rI (.slice s' (acc ++ [b]).length c') (acc ++ [b]) = (⟨3, 1, .slice s' (acc.length + 1) c', acc.length + 1, acc.map (Value.int .i64) ++ [.int .i64 b]⟩ : OR) := by
  simp [rI]
 have h7 : Rs X B w' (rR k g n cp j d v Q (rB w0.heap.size 3 [.int .i64 b] :: rI (.slice s' (acc ++ [b]).length c') (acc ++ [b]) :: P)) := by
  unfold rR
  rw [e1]
  rw [List.append_assoc] at h'
  exact h'
 have := hK s' c' w' (rR_less h7)
 rw [e0] at this
 exact this
theorem rI_cells {w : World} {B c : Nat} {s : Option Addr} {L : List Int} (h : (rI (.slice s L.length c) L).on w B) : L.length = 0 ∨ ∃ ad, s = some ad ∧ ∀ (j : Nat) u, (L.map (Value.int .i64))[j]? = some u → w.cell? (ad.add j) = some u := by
 have h0 : w.ownsRow B 3 1 (.slice s L.length c) L.length (L.map (Value.int .i64)) := h
 have h1 := h0
 rcases h0.2 with ⟨h2, h3⟩ | ⟨gg, cap, cur, e, hb, hg, hc, hx, hz, ht⟩
 ·
  exact Or.inl h3
 simp only [Value.slice.injEq, true_and] at e
 obtain ⟨rfl, rfl⟩ := e
 refine Or.inr ⟨_, rfl, fun j u hu => ?_⟩
 have hj : j < L.length := by have := (List.getElem?_eq_some_iff.1 hu).1; simpa using this
 rw [Go.WideShapes.add_plain]
 have := World.ownsRow.cellAt h1 j (by omega)
 rw [hu] at this
 simpa using this
theorem wpList_rRL {X w0 : World} {B k g n cp j d c ct : Nat} {v : Value} {Q : List NK} {P : List OR} {s t : Option Addr} {acc ys : List Int} {ops : Array Oper} {rest : List Oper} {o : Oper} {a : Act} {Qx : Exit → Act → World → Prop} (h : Rs X B w0 (rR k g n cp j d v Q (rI (.slice t ys.length ct) ys :: rI (.slice s acc.length c) acc :: P))) (hg : o.guard = none) (sx x : Operand) (ho : o.op = .call { callee := .builtin .append, args := #[sx, x], argTypes := #[25, 25] })
  (hs : a.eval sx = .slice s acc.length c) (hx : a.eval x = .slice t ys.length ct) (hl : acc.length ≤ 1000000) (hy : ys.length ≤ 1000000) (R : List Int) (hR : acc ++ ys = R)
  (hK : ∀ s' c' w', Rs X B w' (rR k g n cp j d v Q (rI (.slice s' R.length c') R :: P)) → wpList Tryz.prog ops Qx rest (a.put o.dst (.slice s' R.length c')) w') :
  wpList Tryz.prog ops Qx (o :: rest) a w0 := by
 subst hR
 obtain ⟨iI, hiI, hzI, hsI, hbI⟩ := info_parts Tryz.infoI8
 have hon : (rI (.slice t ys.length ct) ys).on w0 B := h.at (rB k 55 [.slice (some ⟨g, 0, none⟩) n cp, .int .i64 j, .int .i64 d, v] :: rN v Q :: rK Q) (rI (.slice s acc.length c) acc :: P)
 have h5 : Rs X B w0 (((rB k 55 [.slice (some ⟨g, 0, none⟩) n cp, .int .i64 j, .int .i64 d, v] :: rN v Q :: rK Q) ++ [rI (.slice t ys.length ct) ys]) ++ rI (.slice s acc.length c) acc :: P) := by
  rw [List.append_assoc]
  exact h
 refine wpList_appI _ P h5 hg sx x 25 8 ho Tryz.underlying25 hiI hzI hsI hbI rfl Nat.zero_lt_one hs t ys.length ct (ys.map (Value.int .i64)) hx (by simp [rI]) (rI_cells hon) (by intro u hu; obtain ⟨x, _, rfl⟩ := List.mem_map.1 hu; rfl) (by show acc.length + ys.length ≤ _; unfold maxLen; omega) (by show (acc.length + ys.length) * 8 ≤ _; omega) (acc.length + ys.length) rfl (fun v => ⟨3, 1, v, acc.length + ys.length, acc.map (Value.int .i64) ++ ys.map (Value.int .i64)⟩) (fun _ => rfl) ?_
 intro s' c' w' h'
 have e0 : (acc ++ ys).length = acc.length + ys.length := by simp
 have e1 : rI (.slice s' (acc ++ ys).length c') (acc ++ ys) = (⟨3, 1, .slice s' (acc.length + ys.length) c', acc.length + ys.length, acc.map (Value.int .i64) ++ ys.map (Value.int .i64)⟩ : OR) := by
  simp [rI]
 have h7 : Rs X B w' (rR k g n cp j d v Q (rI (.slice t ys.length ct) ys :: rI (.slice s' (acc ++ ys).length c') (acc ++ ys) :: P)) := by
  unfold rR
  rw [e1]
  rw [List.append_assoc] at h'
  exact h'
 have := hK s' c' w' (rR_less h7)
 rw [e0] at this
 exact this
theorem items_len {T : List Tk} {E : Int} {kk d : Nat} : ∀ (m i : Nat) (acc : List Int) (N : List Nd) (x : List Int) (j : Nat) (M : List Nd), T.length - i ≤ m → i ≤ T.length → PAR T E (.items kk d acc) i N = .ok (x, j, M) → x.length + i ≤ acc.length + j ∧ j ≤ T.length := by
 intro m
 induction m with
 | zero =>
  intro i acc N x j M hm hi h
  rw [PAR_items hi] at h
  have hg := PAR_good (T := T) (E := E) (p := .item kk d) (i := i) (N := N) trivial hi
  cases hr : PAR T E (.item kk d) i N with
  | error e => rw [hr] at h; cases h
  | ok y =>
   obtain ⟨y, j2, M2⟩ := y
   have := hg.okv hr
   simp only [Pf.lo] at this
   omega
 | succ m ih =>
  intro i acc N x j M hm hi h
  rw [PAR_items hi] at h
  have hg := PAR_good (T := T) (E := E) (p := .item kk d) (i := i) (N := N) trivial hi
  cases hr : PAR T E (.item kk d) i N with
  | error e => rw [hr] at h; cases h
  | ok y =>
   obtain ⟨y, j2, M2⟩ := y
   have hb := hg.okv hr
   simp only [Pf.lo] at hb
   rw [hr, then_ok] at h
   unfold tailI at h
   by_cases hc : tx T j2 = bComma
   ·
    rw [if_pos hc] at h
    have hlt : j2 < T.length := tx_lt hc (by decide)
    have := ih (j2 + 1) (acc ++ [y.headD 0]) M2 x j M (by omega) (by omega) h
    rw [List.length_append, List.length_singleton] at this
    omega
   rw [if_neg hc] at h
   simp only [Except.ok.injEq, Prod.mk.injEq] at h
   obtain ⟨rfl, rfl, rfl⟩ := h
   rw [List.length_append, List.length_singleton]
   omega
theorem listed_len {T : List Tk} {E : Int} {kk d i : Nat} {N : List Nd} {x : List Int} {j : Nat} {M : List Nd} (hi : i ≤ T.length) (h : PAR T E (.listed kk d) i N = .ok (x, j, M)) : x.length ≤ T.length := by
 rw [PAR_listed hi] at h
 by_cases h1 : tx T i = bLp
 ·
  rw [want_yes h1] at h
  have hlt : i < T.length := tx_lt h1 (by decide)
  by_cases h2 : tx T (i + 1) = bRp
  ·
   rw [if_pos h2] at h
   simp only [Except.ok.injEq, Prod.mk.injEq] at h
   obtain ⟨rfl, _, _⟩ := h
   simp
  rw [if_neg h2] at h
  cases hr : PAR T E (.items kk d []) (i + 1) N with
  | error e => rw [hr] at h; cases h
  | ok y =>
   obtain ⟨y, j2, M2⟩ := y
   have hb := items_len (T.length) (i + 1) [] N y j2 M2 (by omega) (by omega) hr
   rw [hr, then_ok] at h
   by_cases h3 : tx T j2 = bRp
   ·
    rw [want_yes h3] at h
    simp only [Except.ok.injEq, Prod.mk.injEq] at h
    obtain ⟨rfl, _, _⟩ := h
    simp at hb
    omega
   rw [want_no h3] at h; cases h
 rw [want_no h1] at h; cases h
def pPick (T : List Tk) (E : Int) (d i : Nat) (N : List Nd) : PRes := pWant T E bLp i fun j => (PAR T E (.expr d) j N).then fun x j N => pWant T E bOf j fun j => (PAR T E (.items 1 d []) j N).then fun y j N => pWant T E bRp j fun j => pNode (nd 11 nil 0 (x.headD 0 :: y)) j N
set_option maxHeartbeats 8000000 in
theorem pick_of (T : List Tk) (E : Int) (X : World) (B k g cp i : Nat) (EV : Env T E X B g) (hi : i ≤ T.length) (hexpr : ∀ j, i < j → j ≤ T.length → Says T E X B k g cp 40 62 #[.pointer (some ⟨k, 0, none⟩)] .expr j)
  (d : Nat) (v : Value) (Q : List NK) (P : List OR) (w : World) (hR : Rs X B w (rR k g (T.length + 1) cp (i) d v Q P)) (hq : Q.length ≤ 2 * (i)) (hd : d ≤ 40) :
  Calls Tryz.prog 94 #[.pointer (some ⟨k, 0, none⟩)] w (Ok1 T X B k g cp d P (pPick T E d i (Q.map (·.1)))) := by
 have HX := hid hexpr
 have hmf : ∀ (fn : Fn) (first cap : Array Value) (w : World), (Instr.makeFunc fn first cap).run Tryz.prog w = .ok (.func fn first cap) w := fun _ _ _ _ => rfl
 clear hexpr; unfold pPick
 have hal := alloc_old
 have haf := alloc_oldf
 have h0 := hid hR
 clear hR; obtain ⟨Tg, hTg⟩ : ∃ r, Hid ((pWant T E bLp i fun j => (PAR T E (.expr d) j (Q.map (·.1))).then fun x j N => pWant T E bOf j fun j => (PAR T E (.items 1 d []) j N).then fun y j N => pWant T E bRp j fun j => pNode (nd 11 nil 0 (x.headD 0 :: y)) j N) = r) := ⟨_, rfl⟩
 rw [hTg.out]
 go_enter Tryz.func94, Tryz.ntmps94
 go_wp2_with fail; by_cases q1 : ¬ tx T (i) = bLp
 ·
  refine (want_bad T E k g cp (i) d v Q P X B ⟨#[40]⟩ _ h0.out EV.t EV.g (by omega) EV.l q1).mono ?_
  rintro e w1 ⟨rfl, r1⟩
  have hF : Tg = .error (2, ta T E (i)) := by rw [← hTg.out, want_no q1]
  clear hTg; subst hF
  dsimp only
  exact ⟨rfl, rfl, r1⟩
 have H1 := hid (Decidable.not_not.1 q1)
 clear q1; have l1 : i < T.length := tx_lt H1.out (by decide)
 refine (want_ok T E k g cp (i) d v Q P X B ⟨#[40]⟩ _ h0.out EV.t EV.g (by omega) EV.l H1.out).mono ?_
 rintro e w1 ⟨rfl, r1⟩
 have h1 := hid r1
 clear r1 h0; go_wp2_with fail; obtain ⟨Res, z2⟩ : ∃ r, Hid ((PAR T E (.expr d) (i + 1) (Q.map (·.1))) = r) := ⟨_, rfl⟩
 have g2 := PAR_good (T := T) (E := E) (p := .expr d) (i := i + 1) (N := Q.map (·.1)) trivial (by omega)
 rw [z2.out] at g2
 have G2 := hid g2
 clear g2; refine (HX.out (i + 1) (by omega) (by omega) d v Q P _ h1.out (by omega) (by omega) (fun h => by omega)).mono ?_
 rw [z2.out]
 rcases Res with ⟨c, a⟩ | ⟨y2, j2, M2⟩
 ·
  rintro e w2 ⟨rfl, r2⟩
  have hF : Tg = .error (c, a) := by rw [← hTg.out, want_yes H1.out, z2.out]; rfl
  clear hTg; subst hF
  dsimp only
  exact ⟨rfl, rfl, r2⟩
 rintro e w2 ⟨rfl, v2, Q2, m2, r2⟩
 subst m2
 have b2 := G2.out.okv rfl
 simp only [List.length_map, Pf.lo] at b2
 have k2 : Q2.length ≤ 2 * j2 := by omega
 have j2T := b2.2.1
 have j2L := b2.1
 obtain ⟨a2, x2⟩ : ∃ c, Hid (y2.headD 0 = c) := ⟨_, rfl⟩
 rw [x2.out]
 have h2 := hid r2
 clear r2 h1 b2 G2; have h3 := hid (rR_kids h2.out [a2] (by simp))
 clear h2; go_wp2_with fail; by_cases q4 : ¬ tx T (j2) = bOf
 ·
  refine (want_bad T E k g cp (j2) d v2 Q2 (rI (.slice (some ⟨w2.heap.size, 0, none⟩) 1 1) [a2] :: P) X B ⟨#[111, 102]⟩ _ h3.out EV.t EV.g (by omega) EV.l q4).mono ?_
  rintro e w4 ⟨rfl, r4⟩
  have hF : Tg = .error (2, ta T E (j2)) := by rw [← hTg.out, want_yes H1.out, z2.out, then_ok, x2.out, want_no q4]
  clear hTg; subst hF
  dsimp only
  exact ⟨rfl, rfl, r4.one⟩
 have H4 := hid (Decidable.not_not.1 q4)
 clear q4; have l4 : j2 < T.length := tx_lt H4.out (by decide)
 refine (want_ok T E k g cp (j2) d v2 Q2 (rI (.slice (some ⟨w2.heap.size, 0, none⟩) 1 1) [a2] :: P) X B ⟨#[111, 102]⟩ _ h3.out EV.t EV.g (by omega) EV.l H4.out).mono ?_
 rintro e w4 ⟨rfl, r4⟩
 have h4 := hid r4
 clear r4 h3; go_wp2_with fail; obtain ⟨Res, z5⟩ : ∃ r, Hid ((PAR T E (.items 1 d []) (j2 + 1) (Q2.map (·.1))) = r) := ⟨_, rfl⟩
 have g5 := PAR_good (T := T) (E := E) (p := .items 1 d []) (i := j2 + 1) (N := Q2.map (·.1)) trivial (by omega)
 rw [z5.out] at g5
 have G5 := hid g5
 clear g5; refine (itemsName_of T E X B k g cp (j2 + 1) EV (by omega) (fun j _ hj => nameNode_says T E X B k g cp j EV hj) d v2 Q2 (rI (.slice (some ⟨w2.heap.size, 0, none⟩) 1 1) [a2] :: P) _ h4.out (by omega) (by omega)).mono ?_
 rw [z5.out]
 rcases Res with ⟨c, a⟩ | ⟨y5, j5, M5⟩
 ·
  rintro e w5 ⟨rfl, r5⟩
  have hF : Tg = .error (c, a) := by rw [← hTg.out, want_yes H1.out, z2.out, then_ok, x2.out, want_yes H4.out, z5.out]; rfl
  clear hTg; subst hF
  dsimp only
  exact ⟨rfl, rfl, r5.one⟩
 rintro e w5 ⟨s5, c5, v5, Q5, rfl, m5, r5⟩
 subst m5
 have b5 := G5.out.okv rfl
 simp only [List.length_map, Pf.lo] at b5
 have k5 : Q5.length ≤ 2 * j5 := by omega
 have j5T := b5.2.1
 have j5L := b5.1
 have h5 := hid r5
 clear r5 h4 b5 G5; have ly := items_len T.length (j2 + 1) [] _ _ _ _ (by omega) (by omega) z5.out
 simp only [List.length_nil] at ly
 have hEl := EV.l
 obtain ⟨R, eR⟩ : ∃ R, Hid ([a2] ++ y5 = R) := ⟨_, rfl⟩
 go_wp2_with (at_builtin; refine wpList_rRL h5.out rfl _ _ rfl rfl rfl (by simp) (by omega) R eR.out ?_; intro s8 c8 w8 r8)
 have h8 := hid r8
 clear r8 h5; go_wp2_with fail; by_cases q11 : ¬ tx T (j5) = bRp
 ·
  refine (want_bad T E k g cp (j5) d v5 Q5 (rI (.slice s8 R.length c8) R :: P) X B ⟨#[41]⟩ _ h8.out EV.t EV.g (by omega) EV.l q11).mono ?_
  rintro e w11 ⟨rfl, r11⟩
  have hF : Tg = .error (2, ta T E (j5)) := by rw [← hTg.out, want_yes H1.out, z2.out, then_ok, x2.out, want_yes H4.out, z5.out, then_ok, want_no q11]
  clear hTg; subst hF
  dsimp only
  exact ⟨rfl, rfl, r11.one⟩
 have H11 := hid (Decidable.not_not.1 q11)
 clear q11; have l11 : j5 < T.length := tx_lt H11.out (by decide)
 refine (want_ok T E k g cp (j5) d v5 Q5 (rI (.slice s8 R.length c8) R :: P) X B ⟨#[41]⟩ _ h8.out EV.t EV.g (by omega) EV.l H11.out).mono ?_
 rintro e w11 ⟨rfl, r11⟩
 have h11 := hid r11
 clear r11 h8; go_wp2_with fail; refine (add_any T E k g cp (j5 + 1) d v5 Q5 P X B 11 0 ⟨#[]⟩ R s8 c8 _ h11.out (by have := EV.l; omega)).mono ?_
 rintro e w12 ⟨rfl, v12, r12⟩
 have h12 := hid r12
 clear r12 h11; go_wp2_with fail; go_ret; have hF : Tg = .ok ([(Q5.length : Int)], j5 + 1, List.map (fun q : NK => q.1) (Q5 ++ [((nd 11 ⟨#[]⟩ 0 R, Value.slice s8 (List.length (α := Int) R) c8) : NK)])) := by rw [← hTg.out, want_yes H1.out, z2.out, then_ok, x2.out, want_yes H4.out, z5.out, then_ok, want_yes H11.out, show a2 :: y5 = R from eR.out]; exact pNode_map _ _ _ _
 clear hTg; subst hF
 exact ⟨rfl, v12, _, rfl, h12.out⟩
end
section
open Go.RowKit
set_option maxRecDepth 100000
theorem PAR_block {T : List Tk} {E : Int} {d i : Nat} {N : List Nd} (hi : i ≤ T.length) : PAR T E (.block d) i N = if d = 40 ∧ i < T.length then .error (3, ta T E i) else pWant T E bLb i fun j => (PAR T E (.stmts (d + 1) []) j N).then fun x j N => pNode (nd 27 nil 0 x) j N := by
 rw [PAR_eq (p := .block d) trivial hi]
 rfl
theorem PAR_stmts {T : List Tk} {E : Int} {d i : Nat} {acc : List Int} {N : List Nd} (hi : i ≤ T.length) : PAR T E (.stmts d acc) i N = if tx T i = bRb then .ok (acc, i + 1, N) else (PAR T E (.stmt d) i N).then fun x j N => PAR T E (.stmts d (acc ++ [x.headD 0])) j N := by
 rw [PAR_eq (p := .stmts d acc) trivial hi]
 rfl
set_option maxHeartbeats 8000000 in
theorem block_of (T : List Tk) (E : Int) (X : World) (B k g cp i : Nat) (EV : Env T E X B g) (hi : i ≤ T.length)
  (hstmt : ∀ j, i < j → j ≤ T.length → Says T E X B k g cp 40 47 #[.pointer (some ⟨k, 0, none⟩)] .stmt j) : Says T E X B k g cp 40 32 #[.pointer (some ⟨k, 0, none⟩)] .block i := by
 intro d v Q P w hR hq hd hd1
 have HS := hid hstmt
 have hal := alloc_old
 have haf := alloc_oldf
 have h0 := hid hR
 clear hstmt hR; rw [PAR_block hi]
 by_cases hb : d = 40 ∧ i < T.length
 ·
  rw [if_pos hb]
  have hk := EV.z i hb.2
  have hd40 := hid hb.1
  clear hb; go_enter Tryz.func32, Tryz.ntmps32
  go_wp2_with fail; refine (here_any T E k g cp i d v _ (h0.out.box [] (rN v Q :: (rK Q ++ P))) (EV.t.rs h0.out EV.g) hi EV.l).mono ?_
  rintro e w1 ⟨⟨x, rfl⟩, b1⟩
  have h1 := hid (h0.out.later b1)
  clear h0 b1; go_wp2_with fail; refine (enter_bad T E k g cp i d v Q P X B (kd T i) (ta T E i) (ti T i) (tx T i) x _ h1.out hd40.out hk).mono ?_
  rintro e w2 ⟨rfl, r2⟩
  dsimp only
  exact ⟨rfl, rfl, r2⟩
 rw [if_neg hb]
 have hk := hid (show ¬ d = 40 ∨ kd T i = 0 by
  by_cases e : d = 40
  ·
   exact Or.inr (kd_none fun h => hb ⟨e, h⟩)
  exact Or.inl e)
 have HB := hid hb
 clear hb; obtain ⟨Tg, hTg⟩ : ∃ r, Hid ((pWant T E bLb i fun j => (PAR T E (.stmts (d + 1) []) j (Q.map (·.1))).then fun x j N => pNode (nd 27 nil 0 x) j N) = r) := ⟨_, rfl⟩
 rw [hTg.out]
 go_enter Tryz.func32, Tryz.ntmps32
 go_wp2_with fail; refine (here_any T E k g cp i d v _ (h0.out.box [] (rN v Q :: (rK Q ++ P))) (EV.t.rs h0.out EV.g) hi EV.l).mono ?_
 rintro e w1 ⟨⟨x, rfl⟩, b1⟩
 have h1 := hid (h0.out.later b1)
 clear h0 b1; go_wp2_with fail; refine (enter_ok T E k g cp i d v Q P X B (kd T i) (ta T E i) (ti T i) (tx T i) x _ h1.out hk.out hd).mono ?_
 rintro e w2 ⟨rfl, r2⟩
 have h2 := hid r2
 clear h1 r2; go_wp2_with fail; by_cases q3 : ¬ tx T i = bLb
 ·
  refine (want_bad T E k g cp i (d + 1) v Q P X B ⟨#[123]⟩ _ h2.out EV.t EV.g hi EV.l q3).mono ?_
  rintro e w3 ⟨rfl, r3⟩
  have hF : Tg = .error (2, ta T E i) := by rw [← hTg.out, want_no q3]
  clear hTg; subst hF
  dsimp only
  exact ⟨rfl, rfl, r3⟩
 have H3 := hid (Decidable.not_not.1 q3)
 clear q3; have hlt : i < T.length := tx_lt H3.out (by decide)
 have hd39 : d ≤ 39 := by
  have := HB.out
  omega
 refine (want_ok T E k g cp i (d + 1) v Q P X B ⟨#[123]⟩ _ h2.out EV.t EV.g hi EV.l H3.out).mono ?_
 rintro e w3 ⟨rfl, r3⟩
 have h3 := hid (rR_none r3)
 have hT2 := hTg.out
 rw [want_yes H3.out] at hT2
 have HT2 := hid hT2
 clear r3 h2 hT2 hTg HB hk; go_wp2_with fail; go_loopw [3] (fun kv wr => ∃ (acc : List Int) (q : Nat) (v2 : Value) (Q2 : List NK) (s : Option Addr) (c : Nat), kv = .slice s acc.length c ∧ i < q ∧ q ≤ T.length ∧ acc.length ≤ q ∧ Q2.length ≤ 2 * q ∧ Hid ((PAR T E (.stmts (d + 1) acc) q (Q2.map (·.1))).then (fun x j N => pNode (nd 27 nil 0 x) j N) = Tg) ∧ Hid (Rs X B wr (rR k g (T.length + 1) cp q (d + 1) v2 Q2 (rI (.slice s acc.length c) acc :: P)))) (fun _ wr => T.length + 1 - idx wr k)
 case atStart => exact ⟨[], i + 1, v, Q, none, 0, rfl, by omega, by omega, by simp, by omega, HT2, h3⟩
 clear h3 HT2; obtain ⟨acc, q, v2, Q2, s, c, rfl, hiq, hqT, hac, hq2, HR, h2⟩ := hrel
 have HIX := hid (idx_rs h2.out)
 have hl := EV.l
 by_cases hs : tx T q = bRb
 ·
  have hqlt : q < T.length := tx_lt hs (by decide)
  have hR2 := HR.out
  rw [PAR_stmts hqT, if_pos hs, then_ok] at hR2
  have HR2 := hid hR2
  have HSS := hid hs
  clear hR2 HR hs; go_wp2_with fail; refine (skip_yes T E k g cp q (d + 1) v2 Q2 _ X B ⟨#[125]⟩ _ h2.out EV.t EV.g hqT EV.l HSS.out).mono ?_
  rintro e w3 ⟨rfl, r3⟩
  have h3 := hid r3
  clear h2 r3; go_wp2_with fail; refine (leave_any T E k g cp (q + 1) d v2 Q2 _ X B _ h3.out hd).mono ?_
  rintro e w4 ⟨rfl, r4⟩
  have h4 := hid r4
  clear h3 r4; go_wp2_with fail; refine (add_any T E k g cp (q + 1) d v2 Q2 P X B 27 0 ⟨#[]⟩ acc s c _ h4.out (by omega)).mono ?_
  rintro e w5 ⟨rfl, v5, r5⟩
  have h5 := hid r5
  clear h4 r5; go_wp2_with fail; go_ret; have hF : Tg = .ok ([(Q2.length : Int)], q + 1, List.map (fun q : NK => q.1) (Q2 ++ [((nd 27 ⟨#[]⟩ 0 acc, Value.slice s acc.length c) : NK)])) := by rw [← HR2.out]; exact pNode_map _ _ _ _
  clear HR2; subst hF
  exact ⟨rfl, v5, _, rfl, h5.out⟩
 have hR2 := HR.out
 rw [PAR_stmts hqT, if_neg hs, then_assoc] at hR2
 have HR2 := hid hR2
 have HSS := hid hs
 clear hR2 HR hs; go_wp2_with fail; refine (skip_no T E k g cp q (d + 1) v2 Q2 _ X B ⟨#[125]⟩ _ h2.out EV.t EV.g hqT EV.l HSS.out).mono ?_
 rintro e w3 ⟨rfl, r3⟩
 have h3 := hid r3
 clear h2 r3; go_wp2_with fail; obtain ⟨Res, z4⟩ : ∃ r, Hid (PAR T E (.stmt (d + 1)) q (Q2.map (·.1)) = r) := ⟨_, rfl⟩
 have g4 := PAR_good (T := T) (E := E) (p := .stmt (d + 1)) (i := q) (N := Q2.map (·.1)) trivial hqT
 rw [z4.out] at g4
 have G4 := hid g4
 clear g4; refine (HS.out q hiq hqT (d + 1) v2 Q2 _ _ h3.out hq2 (by omega) (fun h => by omega)).mono ?_
 rw [z4.out]
 rcases Res with ⟨c4, a4⟩ | ⟨y4, j4, M4⟩
 ·
  rintro e w4 ⟨rfl, r4⟩
  have hF : Tg = .error (c4, a4) := by rw [← HR2.out, z4.out]; rfl
  clear HR2; subst hF
  dsimp +zetaDelta only [Exit.then, Exit.inBlock]
  exact ⟨rfl, rfl, r4.one⟩
 rintro e w4 ⟨rfl, v4, Q4, m4, r4⟩
 subst m4
 have b4 := G4.out.okv rfl
 simp only [List.length_map, Pf.lo] at b4
 have hj1 := b4.1
 have hj2 := b4.2.1
 have hq4 : Q4.length ≤ 2 * j4 := by omega
 obtain ⟨a4, x4⟩ : ∃ c, Hid (y4.headD 0 = c) := ⟨_, rfl⟩
 rw [x4.out]
 have hR3 := HR2.out
 rw [z4.out, then_ok, x4.out] at hR3
 have HR3 := hid hR3
 obtain ⟨R, eR⟩ : ∃ R, Hid (acc ++ [a4] = R) := ⟨_, rfl⟩
 rw [eR.out] at hR3
 have HR3 := hid hR3
 have lR : R.length = acc.length + 1 := by rw [← eR.out]; simp
 have LR := hid lR
 have h4 := hid r4
 clear r4 h3 b4 G4 HR2 hR3 lR; go_wp2_with (at_builtin; refine wpList_rR1 h4.out rfl _ _ rfl rfl a4 rfl (by omega) R eR.out ?_; intro s8 c8 w8 r8)
 have h8 := hid r8
 have hidx := idx_rs r8
 clear r8 h4; go_wp2_with fail; go_roundw
 case rel => exact ⟨R, j4, v4, Q4, s8, c8, rfl, by omega, hj2, by rw [LR.out]; omega, hq4, HR3, h8⟩
 rw [hidx, HIX.out]
 omega
end
end Go.Proofs.YtkkofminndboaaaGreatDoor
