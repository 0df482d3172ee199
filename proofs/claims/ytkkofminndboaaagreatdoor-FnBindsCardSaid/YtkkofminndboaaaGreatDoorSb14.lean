import Derived.Test.YtkkofminndboaaaGreatDoorSb13
namespace Go.Proofs.YtkkofminndboaaaGreatDoor
open Go.RowKit
set_option linter.unusedVariables false
set_option linter.unusedSimpArgs false
set_option maxRecDepth 100000
set_option maxHeartbeats 8000000 in
theorem ended_of (T : List Tk) (E : Int) (X : World) (B k g cp i : Nat) (EV : Env T E X B g) (hi : i ≤ T.length) (kind num : Int) (text : ByteArray) (kids : List Int) (sk : Option Addr) (ck : Nat)
  (d : Nat) (v : Value) (Q : List NK) (P : List OR) (w : World) (hR : Rs X B w (rR k g (T.length + 1) cp i d v Q (rI (.slice sk kids.length ck) kids :: P))) (hq : Q.length ≤ 2 * i) :
  Calls Tryz.prog 64 #[.pointer (some ⟨k, 0, none⟩), .agg #[.int .i64 kind, .string text, .int .i64 num, .slice sk kids.length ck]] w (Ok1 T X B k g cp d P (pWant T E bSemi i fun j => pNode (nd kind text num kids) j (Q.map (·.1)))) := by
 replace hR := rR_box hR [.int .i64 kind, .string text, .int .i64 num, .slice sk kids.length ck] 42
 have hal := alloc_old
 have haf := alloc_oldf
 have h0 := hid hR
 clear hR; obtain ⟨Tg, hTg⟩ : ∃ r, Hid ((pWant T E bSemi i fun j => pNode (nd kind text num kids) j (Q.map (·.1))) = r) := ⟨_, rfl⟩
 rw [hTg.out]
 go_enter Tryz.func64, Tryz.ntmps64
 go_wp2_with fail; by_cases q1 : ¬ tx T (i) = bSemi
 ·
  refine (want_bad T E k g cp (i) d v Q (rB w.heap.size 42 [.int .i64 kind, .string text, .int .i64 num, .slice sk kids.length ck] :: (rI (.slice sk kids.length ck) kids :: P)) X B ⟨#[59]⟩ _ h0.out EV.t EV.g (by omega) EV.l q1).mono ?_
  rintro e w1 ⟨rfl, r1⟩
  have hF : Tg = .error (2, ta T E (i)) := by rw [← hTg.out, want_no q1]
  clear hTg; subst hF
  dsimp only
  exact ⟨rfl, rfl, r1.one.one⟩
 have H1 := hid (Decidable.not_not.1 q1)
 clear q1; have l1 : i < T.length := tx_lt H1.out (by decide)
 refine (want_ok T E k g cp (i) d v Q (rB w.heap.size 42 [.int .i64 kind, .string text, .int .i64 num, .slice sk kids.length ck] :: (rI (.slice sk kids.length ck) kids :: P)) X B ⟨#[59]⟩ _ h0.out EV.t EV.g (by omega) EV.l H1.out).mono ?_
 rintro e w1 ⟨rfl, r1⟩
 have h1 := hid r1
 clear r1 h0; obtain ⟨y0, y1, y2, y3, y4⟩ := (rR_see h1.out).four'
 have hN := hid (rR_less h1.out)
 clear h1; go_wp2_with fail; refine (add_any T E k g cp (i + 1) d v Q P X B kind num text kids sk ck _ hN.out (by have := EV.l; omega)).mono ?_
 rintro e w2 ⟨rfl, v2, r2⟩
 have h2 := hid r2
 clear r2 hN; clear y0 y1 y2 y3 y4; go_wp2_with fail; go_ret; have hF : Tg = .ok ([(Q.length : Int)], i + 1, List.map (fun q : NK => q.1) (Q ++ [((nd kind text num kids, Value.slice sk (List.length (α := Int) kids) ck) : NK)])) := by rw [← hTg.out, want_yes H1.out]; exact pNode_map _ _ _ _
 clear hTg; subst hF
 exact ⟨rfl, v2, _, rfl, h2.out⟩
def pStore (T : List Tk) (E : Int) (d : Nat) (kind : Int) (s : ByteArray) (i : Nat) (N : List Nd) : PRes := (pBehind T E d i N).then fun x j N => pWant T E bSemi j fun j => pNode (nd kind s 0 x) j N
set_option maxHeartbeats 8000000 in
theorem storing_of (T : List Tk) (E : Int) (X : World) (B k g cp i : Nat) (EV : Env T E X B g) (hi : i ≤ T.length) (hexpr : i < T.length → Says T E X B k g cp 40 62 #[.pointer (some ⟨k, 0, none⟩)] .expr (i + 1)) (kind : Int) (s : ByteArray)
  (d : Nat) (v : Value) (Q : List NK) (P : List OR) (w : World) (hR : Rs X B w (rR k g (T.length + 1) cp (i) d v Q P)) (hq : Q.length ≤ 2 * (i)) (hd : d ≤ 40) :
  Calls Tryz.prog 60 #[.pointer (some ⟨k, 0, none⟩), .int .i64 kind, .string s] w (Ok1 T X B k g cp d P (pStore T E d kind s i (Q.map (·.1)))) := by
 have HX := hid hexpr
 clear hexpr; unfold pStore
 have hal := alloc_old
 have haf := alloc_oldf
 have h0 := hid hR
 clear hR; obtain ⟨Tg, hTg⟩ : ∃ r, Hid (((pBehind T E d i (Q.map (·.1))).then fun x j N => pWant T E bSemi j fun j => pNode (nd kind s 0 x) j N) = r) := ⟨_, rfl⟩
 rw [hTg.out]
 go_enter Tryz.func60, Tryz.ntmps60
 go_wp2_with fail; obtain ⟨Res, z1⟩ : ∃ r, Hid ((pBehind T E d i (Q.map (·.1))) = r) := ⟨_, rfl⟩
 refine (behindName_of T E X B k g cp i EV hi HX.out d v Q P _ h0.out (by omega) (by omega)).mono ?_
 rw [z1.out]
 rcases Res with ⟨c, a⟩ | ⟨y1, j1, M1⟩
 ·
  rintro e w1 ⟨rfl, r1⟩
  have hF : Tg = .error (c, a) := by rw [← hTg.out, z1.out]; rfl
  clear hTg; subst hF
  dsimp only
  exact ⟨rfl, rfl, r1⟩
 rintro e w1 ⟨s1, c1, v1, Q1, rfl, m1, r1⟩
 subst m1
 have b1 := behind_good hi z1.out
 simp only [List.length_map, Pf.lo] at b1
 have k1 : Q1.length ≤ 2 * j1 := by omega
 have j1T := b1.2.1
 have j1L := b1.1
 have h1 := hid r1
 clear r1 h0 b1; go_wp2_with fail; obtain ⟨Res, z2⟩ : ∃ r, Hid ((pWant T E bSemi (j1) fun j => pNode (nd kind s 0 y1) j (Q1.map (·.1))) = r) := ⟨_, rfl⟩
 refine (ended_of T E X B k g cp (j1) EV (by omega) kind 0 s y1 s1 c1 d v1 Q1 P _ h1.out (by omega)).mono ?_
 rw [z2.out]
 rcases Res with ⟨c, a⟩ | ⟨y2, j2, M2⟩
 ·
  rintro e w2 ⟨rfl, r2⟩
  have hF : Tg = .error (c, a) := by rw [← hTg.out, z1.out, then_ok, z2.out]
  clear hTg; subst hF
  dsimp only
  exact ⟨rfl, rfl, r2⟩
 rintro e w2 ⟨rfl, v2, Q2, m2, r2⟩
 have h2 := hid r2
 have mm2 := hid m2
 obtain ⟨a2, x2⟩ : ∃ c, Hid (y2.headD 0 = c) := ⟨_, rfl⟩
 rw [x2.out]
 clear r2 m2 h1; go_wp2_with fail; go_ret; have hF : Tg = .ok (y2, j2, M2) := by rw [← hTg.out, z1.out, then_ok, z2.out]
 clear hTg; subst hF
 exact ⟨by rw [x2.out]; rfl, v2, Q2, mm2.out, h2.out⟩
def pIf (T : List Tk) (E : Int) (d i : Nat) (N : List Nd) : PRes := (PAR T E (.expr d) i N).then fun x j N => (PAR T E (.block d) j N).then fun y j N => if tx T j = bElse then (PAR T E (.block d) (j + 1) N).then fun z j N => pNode (nd 16 nil 0 [x.headD 0, y.headD 0, z.headD 0]) j N else pNode (nd 16 nil 0 [x.headD 0, y.headD 0]) j N
set_option maxHeartbeats 8000000 in
theorem choice_of (T : List Tk) (E : Int) (X : World) (B k g cp i : Nat) (EV : Env T E X B g) (hi : i ≤ T.length) (hexpr : ∀ j, i ≤ j → j ≤ T.length → Says T E X B k g cp 40 62 #[.pointer (some ⟨k, 0, none⟩)] .expr j) (hblock : ∀ j, i ≤ j → j ≤ T.length → Says T E X B k g cp 40 32 #[.pointer (some ⟨k, 0, none⟩)] .block j)
  (d : Nat) (v : Value) (Q : List NK) (P : List OR) (w : World) (hR : Rs X B w (rR k g (T.length + 1) cp (i) d v Q P)) (hq : Q.length ≤ 2 * (i)) (hd : d ≤ 40) :
  Calls Tryz.prog 61 #[.pointer (some ⟨k, 0, none⟩)] w (Ok1 T X B k g cp d P (pIf T E d i (Q.map (·.1)))) := by
 have HX := hid hexpr
 have HB := hid hblock
 clear hexpr hblock; unfold pIf
 have hal := alloc_old
 have haf := alloc_oldf
 have h0 := hid hR
 clear hR; obtain ⟨Tg, hTg⟩ : ∃ r, Hid (((PAR T E (.expr d) i (Q.map (·.1))).then fun x j N => (PAR T E (.block d) j N).then fun y j N => if tx T j = bElse then (PAR T E (.block d) (j + 1) N).then fun z j N => pNode (nd 16 nil 0 [x.headD 0, y.headD 0, z.headD 0]) j N else pNode (nd 16 nil 0 [x.headD 0, y.headD 0]) j N) = r) := ⟨_, rfl⟩
 rw [hTg.out]
 go_enter Tryz.func61, Tryz.ntmps61
 go_wp2_with fail; obtain ⟨Res, z1⟩ : ∃ r, Hid ((PAR T E (.expr d) (i) (Q.map (·.1))) = r) := ⟨_, rfl⟩
 have g1 := PAR_good (T := T) (E := E) (p := .expr d) (i := i) (N := Q.map (·.1)) trivial (by omega)
 rw [z1.out] at g1
 have G1 := hid g1
 clear g1; refine (HX.out i (by omega) (by omega) d v Q P _ h0.out (by omega) (by omega) (fun h => by omega)).mono ?_
 rw [z1.out]
 rcases Res with ⟨c, a⟩ | ⟨y1, j1, M1⟩
 ·
  rintro e w1 ⟨rfl, r1⟩
  have hF : Tg = .error (c, a) := by rw [← hTg.out, z1.out]; rfl
  clear hTg; subst hF
  dsimp only
  exact ⟨rfl, rfl, r1⟩
 rintro e w1 ⟨rfl, v1, Q1, m1, r1⟩
 subst m1
 have b1 := G1.out.okv rfl
 simp only [List.length_map, Pf.lo] at b1
 have k1 : Q1.length ≤ 2 * j1 := by omega
 have j1T := b1.2.1
 have j1L := b1.1
 obtain ⟨a1, x1⟩ : ∃ c, Hid (y1.headD 0 = c) := ⟨_, rfl⟩
 rw [x1.out]
 have h1 := hid r1
 clear r1 h0 b1 G1; go_wp2_with fail; obtain ⟨Res, z2⟩ : ∃ r, Hid ((PAR T E (.block d) (j1) (Q1.map (·.1))) = r) := ⟨_, rfl⟩
 have g2 := PAR_good (T := T) (E := E) (p := .block d) (i := j1) (N := Q1.map (·.1)) trivial (by omega)
 rw [z2.out] at g2
 have G2 := hid g2
 clear g2; refine (HB.out (j1) (by omega) (by omega) d v1 Q1 P _ h1.out (by omega) (by omega) (fun h => by omega)).mono ?_
 rw [z2.out]
 rcases Res with ⟨c, a⟩ | ⟨y2, j2, M2⟩
 ·
  rintro e w2 ⟨rfl, r2⟩
  have hF : Tg = .error (c, a) := by rw [← hTg.out, z1.out, then_ok, x1.out, z2.out]; rfl
  clear hTg; subst hF
  dsimp only
  exact ⟨rfl, rfl, r2⟩
 rintro e w2 ⟨rfl, v2, Q2, m2, r2⟩
 subst m2
 have b2 := G2.out.okv rfl
 simp only [List.length_map, Pf.lo] at b2
 have k2 : Q2.length ≤ 2 * j2 := by omega
 have j2T := b2.2.1
 have j2L := b2.1
 obtain ⟨a2, x2⟩ : ∃ c, Hid (y2.headD 0 = c) := ⟨_, rfl⟩
 rw [x2.out]
 have h2 := hid r2
 clear r2 h1 b2 G2; have h3 := hid (rR_kids h2.out [a1, a2] (by simp))
 clear h2; go_wp2_with fail; by_cases q : tx T (j2) = bElse
 ·
  have HK := hid q
  have lk : j2 < T.length := tx_lt q (by decide)
  clear q; refine (skip_yes T E k g cp (j2) d v2 Q2 (rI (.slice (some ⟨w2.heap.size, 0, none⟩) 2 2) [a1, a2] :: P) X B ⟨#[101, 108, 115, 101]⟩ _ h3.out EV.t EV.g (by omega) EV.l HK.out).mono ?_
  rintro e w4 ⟨rfl, r4⟩
  have h4 := hid r4
  clear r4 h3; go_wp2_with fail; obtain ⟨Res, z5⟩ : ∃ r, Hid ((PAR T E (.block d) (j2 + 1) (Q2.map (·.1))) = r) := ⟨_, rfl⟩
  have g5 := PAR_good (T := T) (E := E) (p := .block d) (i := j2 + 1) (N := Q2.map (·.1)) trivial (by omega)
  rw [z5.out] at g5
  have G5 := hid g5
  clear g5; refine (HB.out (j2 + 1) (by omega) (by omega) d v2 Q2 (rI (.slice (some ⟨w2.heap.size, 0, none⟩) 2 2) [a1, a2] :: P) _ h4.out (by omega) (by omega) (fun h => by omega)).mono ?_
  rw [z5.out]
  rcases Res with ⟨c, a⟩ | ⟨y5, j5, M5⟩
  ·
   rintro e w5 ⟨rfl, r5⟩
   have hF : Tg = .error (c, a) := by rw [← hTg.out, z1.out, then_ok, x1.out, z2.out, then_ok, x2.out, if_pos HK.out, z5.out]; rfl
   clear hTg; subst hF
   dsimp only
   exact ⟨rfl, rfl, r5.one⟩
  rintro e w5 ⟨rfl, v5, Q5, m5, r5⟩
  subst m5
  have b5 := G5.out.okv rfl
  simp only [List.length_map, Pf.lo] at b5
  have k5 : Q5.length ≤ 2 * j5 := by omega
  have j5T := b5.2.1
  have j5L := b5.1
  obtain ⟨a5, x5⟩ : ∃ c, Hid (y5.headD 0 = c) := ⟨_, rfl⟩
  rw [x5.out]
  have h5 := hid r5
  clear r5 h4 b5 G5; obtain ⟨R8, e8⟩ : ∃ R, Hid ([a1, a2] ++ [a5] = R) := ⟨_, rfl⟩
  go_wp2_with (at_builtin; refine wpList_rR1 h5.out rfl _ _ rfl rfl a5 rfl (by simp) R8 e8.out ?_; intro s8 c8 u8 r8)
  have h8 := hid r8
  clear r8 h5; go_wp2_with fail; refine (add_any T E k g cp (j5) d v5 Q5 P X B 16 0 ⟨#[]⟩ R8 s8 c8 _ h8.out (by have := EV.l; omega)).mono ?_
  rintro e w6 ⟨rfl, v6, r6⟩
  have h6 := hid r6
  clear r6 h8; go_wp2_with fail; go_ret; have hF : Tg = .ok ([(Q5.length : Int)], j5, List.map (fun q : NK => q.1) (Q5 ++ [((nd 16 ⟨#[]⟩ 0 R8, Value.slice s8 (List.length (α := Int) R8) c8) : NK)])) := by rw [← hTg.out, z1.out, then_ok, x1.out, z2.out, then_ok, x2.out, if_pos HK.out, z5.out, then_ok, x5.out, show [a1, a2, a5] = R8 from e8.out]; exact pNode_map _ _ _ _
  clear hTg; subst hF
  exact ⟨rfl, v6, _, rfl, h6.out⟩
 have HK := hid q
 clear q; refine (skip_no T E k g cp (j2) d v2 Q2 (rI (.slice (some ⟨w2.heap.size, 0, none⟩) 2 2) [a1, a2] :: P) X B ⟨#[101, 108, 115, 101]⟩ _ h3.out EV.t EV.g (by omega) EV.l HK.out).mono ?_
 rintro e w4 ⟨rfl, r4⟩
 have h4 := hid r4
 clear r4 h3; go_wp2_with fail; refine (add_any T E k g cp (j2) d v2 Q2 P X B 16 0 ⟨#[]⟩ [a1, a2] (some ⟨w2.heap.size, 0, none⟩) 2 _ h4.out (by have := EV.l; omega)).mono ?_
 rintro e w5 ⟨rfl, v5, r5⟩
 have h5 := hid r5
 clear r5 h4; go_wp2_with fail; go_ret; have hF : Tg = .ok ([(Q2.length : Int)], j2, List.map (fun q : NK => q.1) (Q2 ++ [((nd 16 ⟨#[]⟩ 0 [a1, a2], Value.slice (some ⟨w2.heap.size, 0, none⟩) (List.length (α := Int) [a1, a2]) 2) : NK)])) := by rw [← hTg.out, z1.out, then_ok, x1.out, z2.out, then_ok, x2.out, if_neg HK.out]; exact pNode_map _ _ _ _
 clear hTg; subst hF
 exact ⟨rfl, v5, _, rfl, h5.out⟩
end Go.Proofs.YtkkofminndboaaaGreatDoor
