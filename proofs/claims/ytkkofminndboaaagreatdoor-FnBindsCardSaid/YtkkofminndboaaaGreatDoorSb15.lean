import Derived.Test.YtkkofminndboaaaGreatDoorSb14
namespace Go.Proofs.YtkkofminndboaaaGreatDoor
open Go.RowKit
set_option linter.unusedVariables false
set_option linter.unusedSimpArgs false
set_option maxRecDepth 100000
def pEach (T : List Tk) (E : Int) (d i : Nat) (N : List Nd) : PRes := pWant T E bWith i fun j => (PAR T E (.items 1 d []) j N).then fun x j N => (pNode (nd 29 nil 0 x) j N).then fun a j N => (if tx T j = bWithout then PAR T E (.items 1 d []) (j + 1) N else .ok ([], j, N)).then fun y j N => (pNode (nd 30 nil 0 y) j N).then fun b j N => (PAR T E (.block d) j N).then fun c j N => pNode (nd 18 nil 0 [a.headD 0, b.headD 0, c.headD 0]) j N
set_option maxHeartbeats 8000000 in
theorem each_of (T : List Tk) (E : Int) (X : World) (B k g cp i : Nat) (EV : Env T E X B g) (hi : i ≤ T.length) (hblock : ∀ j, i ≤ j → j ≤ T.length → Says T E X B k g cp 40 32 #[.pointer (some ⟨k, 0, none⟩)] .block j)
  (d : Nat) (v : Value) (Q : List NK) (P : List OR) (w : World) (hR : Rs X B w (rR k g (T.length + 1) cp (i) d v Q P)) (hq : Q.length ≤ 2 * (i)) (hd : d ≤ 40) :
  Calls Tryz.prog 63 #[.pointer (some ⟨k, 0, none⟩)] w (Ok1 T X B k g cp d P (pEach T E d i (Q.map (·.1)))) := by
 have HB := hid hblock
 have hmf : ∀ (fn : Fn) (first cap : Array Value) (w : World), (Instr.makeFunc fn first cap).run Tryz.prog w = .ok (.func fn first cap) w := fun _ _ _ _ => rfl
 clear hblock; unfold pEach
 have hal := alloc_old
 have haf := alloc_oldf
 have h0 := hid hR
 clear hR; obtain ⟨Tg, hTg⟩ : ∃ r, Hid ((pWant T E bWith i fun j => (PAR T E (.items 1 d []) j (Q.map (·.1))).then fun x j N => (pNode (nd 29 nil 0 x) j N).then fun a j N => (if tx T j = bWithout then PAR T E (.items 1 d []) (j + 1) N else .ok ([], j, N)).then fun y j N => (pNode (nd 30 nil 0 y) j N).then fun b j N => (PAR T E (.block d) j N).then fun c j N => pNode (nd 18 nil 0 [a.headD 0, b.headD 0, c.headD 0]) j N) = r) := ⟨_, rfl⟩
 rw [hTg.out]
 go_enter Tryz.func63, Tryz.ntmps63
 go_wp2_with fail; by_cases q1 : ¬ tx T (i) = bWith
 ·
  refine (want_bad T E k g cp (i) d v Q P X B ⟨#[119, 105, 116, 104]⟩ _ h0.out EV.t EV.g (by omega) EV.l q1).mono ?_
  rintro e w1 ⟨rfl, r1⟩
  have hF : Tg = .error (2, ta T E (i)) := by rw [← hTg.out, want_no q1]
  clear hTg; subst hF
  dsimp only
  exact ⟨rfl, rfl, r1⟩
 have H1 := hid (Decidable.not_not.1 q1)
 clear q1; have l1 : i < T.length := tx_lt H1.out (by decide)
 refine (want_ok T E k g cp (i) d v Q P X B ⟨#[119, 105, 116, 104]⟩ _ h0.out EV.t EV.g (by omega) EV.l H1.out).mono ?_
 rintro e w1 ⟨rfl, r1⟩
 have h1 := hid r1
 clear r1 h0; go_wp2_with fail; obtain ⟨Res, z2⟩ : ∃ r, Hid ((PAR T E (.items 1 d []) (i + 1) (Q.map (·.1))) = r) := ⟨_, rfl⟩
 have g2 := PAR_good (T := T) (E := E) (p := .items 1 d []) (i := i + 1) (N := Q.map (·.1)) trivial (by omega)
 rw [z2.out] at g2
 have G2 := hid g2
 clear g2; refine (itemsName_of T E X B k g cp (i + 1) EV (by omega) (fun j _ hj => nameNode_says T E X B k g cp j EV hj) d v Q P _ h1.out (by omega) (by omega)).mono ?_
 rw [z2.out]
 rcases Res with ⟨c, a⟩ | ⟨y2, j2, M2⟩
 ·
  rintro e w2 ⟨rfl, r2⟩
  have hF : Tg = .error (c, a) := by rw [← hTg.out, want_yes H1.out, z2.out]; rfl
  clear hTg; subst hF
  dsimp only
  exact ⟨rfl, rfl, r2⟩
 rintro e w2 ⟨s2, c2, v2, Q2, rfl, m2, r2⟩
 subst m2
 have b2 := G2.out.okv rfl
 simp only [List.length_map, Pf.lo] at b2
 have kk2 := b2.2.2
 have k2 : Q2.length ≤ 2 * j2 := by omega
 have j2T := b2.2.1
 have j2L := b2.1
 have h2 := hid r2
 clear r2 h1 b2 G2; go_wp2_with fail; refine (add_any T E k g cp (j2) d v2 Q2 P X B 29 0 ⟨#[]⟩ y2 s2 c2 _ h2.out (by have := EV.l; omega)).mono ?_
 rintro e w3 ⟨rfl, v3, r3⟩
 have h3 := hid r3
 clear r3 h2; obtain ⟨Q4, m4⟩ : ∃ q, Hid ((Q2 ++ [((nd 29 ⟨#[]⟩ 0 y2, Value.slice s2 (List.length (α := Int) y2) c2) : NK)]) = q) := ⟨_, rfl⟩
 have p4 : Hid (pNode (nd 29 nil 0 y2) (j2) (Q2.map (·.1)) = .ok ([(Q2.length : Int)], j2, Q4.map (·.1))) := by rw [← m4.out]; exact pNode_map _ _ _ _
 rw [m4.out] at h3
 have kk4 : Q4.length ≤ Q2.length + 1 := by rw [← m4.out, List.length_append, List.length_singleton]; omega
 have k4 : Q4.length ≤ 2 * (j2) := by omega
 go_wp2_with fail; by_cases q : tx T (j2) = bWithout
 ·
  have HK := hid q
  have lk : j2 < T.length := tx_lt q (by decide)
  clear q; refine (skip_yes T E k g cp (j2) d v3 Q4 P X B ⟨#[119, 105, 116, 104, 111, 117, 116]⟩ _ h3.out EV.t EV.g (by omega) EV.l HK.out).mono ?_
  rintro e w5 ⟨rfl, r5⟩
  have h5 := hid r5
  clear r5 h3; go_wp2_with fail; obtain ⟨Res, z6⟩ : ∃ r, Hid ((PAR T E (.items 1 d []) (j2 + 1) (Q4.map (·.1))) = r) := ⟨_, rfl⟩
  have g6 := PAR_good (T := T) (E := E) (p := .items 1 d []) (i := j2 + 1) (N := Q4.map (·.1)) trivial (by omega)
  rw [z6.out] at g6
  have G6 := hid g6
  clear g6; refine (itemsName_of T E X B k g cp (j2 + 1) EV (by omega) (fun j _ hj => nameNode_says T E X B k g cp j EV hj) d v3 Q4 P _ h5.out (by omega) (by omega)).mono ?_
  rw [z6.out]
  rcases Res with ⟨c, a⟩ | ⟨y6, j6, M6⟩
  ·
   rintro e w6 ⟨rfl, r6⟩
   have hF : Tg = .error (c, a) := by rw [← hTg.out, want_yes H1.out, z2.out, then_ok, p4.out, then_ok, if_pos HK.out, z6.out]; rfl
   clear hTg; subst hF
   dsimp only
   exact ⟨rfl, rfl, r6⟩
  rintro e w6 ⟨s6, c6, v6, Q6, rfl, m6, r6⟩
  subst m6
  have b6 := G6.out.okv rfl
  simp only [List.length_map, Pf.lo] at b6
  have kk6 := b6.2.2
  have k6 : Q6.length ≤ 2 * j6 := by omega
  have j6T := b6.2.1
  have j6L := b6.1
  have h6 := hid r6
  clear r6 h5 b6 G6; go_wp2_with fail; refine (add_any T E k g cp (j6) d v6 Q6 P X B 30 0 ⟨#[]⟩ y6 s6 c6 _ h6.out (by have := EV.l; omega)).mono ?_
  rintro e w7 ⟨rfl, v7, r7⟩
  have h7 := hid r7
  clear r7 h6; obtain ⟨Q8, m8⟩ : ∃ q, Hid ((Q6 ++ [((nd 30 ⟨#[]⟩ 0 y6, Value.slice s6 (List.length (α := Int) y6) c6) : NK)]) = q) := ⟨_, rfl⟩
  have p8 : Hid (pNode (nd 30 nil 0 y6) (j6) (Q6.map (·.1)) = .ok ([(Q6.length : Int)], j6, Q8.map (·.1))) := by rw [← m8.out]; exact pNode_map _ _ _ _
  rw [m8.out] at h7
  have kk8 : Q8.length ≤ Q6.length + 1 := by rw [← m8.out, List.length_append, List.length_singleton]; omega
  have k8 : Q8.length ≤ 2 * (j6) := by omega
  go_wp2_with fail; obtain ⟨Res, z9⟩ : ∃ r, Hid ((PAR T E (.block d) (j6) (Q8.map (·.1))) = r) := ⟨_, rfl⟩
  have g9 := PAR_good (T := T) (E := E) (p := .block d) (i := j6) (N := Q8.map (·.1)) trivial (by omega)
  rw [z9.out] at g9
  have G9 := hid g9
  clear g9; refine (HB.out (j6) (by omega) (by omega) d v7 Q8 P _ h7.out (by omega) (by omega) (fun h => by omega)).mono ?_
  rw [z9.out]
  rcases Res with ⟨c, a⟩ | ⟨y9, j9, M9⟩
  ·
   rintro e w9 ⟨rfl, r9⟩
   have hF : Tg = .error (c, a) := by rw [← hTg.out, want_yes H1.out, z2.out, then_ok, p4.out, then_ok, if_pos HK.out, z6.out, then_ok, p8.out, then_ok, z9.out]; rfl
   clear hTg; subst hF
   dsimp only
   exact ⟨rfl, rfl, r9⟩
  rintro e w9 ⟨rfl, v9, Q9, m9, r9⟩
  subst m9
  have b9 := G9.out.okv rfl
  simp only [List.length_map, Pf.lo] at b9
  have kk9 := b9.2.2
  have k9 : Q9.length ≤ 2 * j9 := by omega
  have j9T := b9.2.1
  have j9L := b9.1
  obtain ⟨a9, x9⟩ : ∃ c, Hid (y9.headD 0 = c) := ⟨_, rfl⟩
  rw [x9.out]
  have h9 := hid r9
  clear r9 h7 b9 G9; have h10 := hid (rR_kids h9.out [(Q2.length : Int), (Q6.length : Int), a9] (by simp))
  clear h9; go_wp2_with fail; refine (add_any T E k g cp (j9) d v9 Q9 P X B 18 0 ⟨#[]⟩ [(Q2.length : Int), (Q6.length : Int), a9] (some ⟨w9.heap.size, 0, none⟩) 3 _ h10.out (by have := EV.l; omega)).mono ?_
  rintro e w11 ⟨rfl, v11, r11⟩
  have h11 := hid r11
  clear r11 h10; go_wp2_with fail; go_ret; have hF : Tg = .ok ([(Q9.length : Int)], j9, List.map (fun q : NK => q.1) (Q9 ++ [((nd 18 ⟨#[]⟩ 0 [(Q2.length : Int), (Q6.length : Int), a9], Value.slice (some ⟨w9.heap.size, 0, none⟩) (List.length (α := Int) [(Q2.length : Int), (Q6.length : Int), a9]) 3) : NK)])) := by rw [← hTg.out, want_yes H1.out, z2.out, then_ok, p4.out, then_ok, if_pos HK.out, z6.out, then_ok, p8.out, then_ok, z9.out, then_ok, x9.out]; exact pNode_map _ _ _ _
  clear hTg; subst hF
  exact ⟨rfl, v11, _, rfl, h11.out⟩
 have HK := hid q
 clear q; refine (skip_no T E k g cp (j2) d v3 Q4 P X B ⟨#[119, 105, 116, 104, 111, 117, 116]⟩ _ h3.out EV.t EV.g (by omega) EV.l HK.out).mono ?_
 rintro e w5 ⟨rfl, r5⟩
 have h5 := hid r5
 clear r5 h3; have h6 := hid (rR_none h5.out)
 clear h5; go_wp2_with fail; refine (add_any T E k g cp (j2) d v3 Q4 P X B 30 0 ⟨#[]⟩ [] none 0 _ h6.out (by have := EV.l; omega)).mono ?_
 rintro e w7 ⟨rfl, v7, r7⟩
 have h7 := hid r7
 clear r7 h6; obtain ⟨Q8, m8⟩ : ∃ q, Hid ((Q4 ++ [((nd 30 ⟨#[]⟩ 0 [], Value.slice none (List.length (α := Int) []) 0) : NK)]) = q) := ⟨_, rfl⟩
 have p8 : Hid (pNode (nd 30 nil 0 []) (j2) (Q4.map (·.1)) = .ok ([(Q4.length : Int)], j2, Q8.map (·.1))) := by rw [← m8.out]; exact pNode_map _ _ _ _
 rw [m8.out] at h7
 have kk8 : Q8.length ≤ Q4.length + 1 := by rw [← m8.out, List.length_append, List.length_singleton]; omega
 have k8 : Q8.length ≤ 2 * (j2) := by omega
 go_wp2_with fail; obtain ⟨Res, z9⟩ : ∃ r, Hid ((PAR T E (.block d) (j2) (Q8.map (·.1))) = r) := ⟨_, rfl⟩
 have g9 := PAR_good (T := T) (E := E) (p := .block d) (i := j2) (N := Q8.map (·.1)) trivial (by omega)
 rw [z9.out] at g9
 have G9 := hid g9
 clear g9; refine (HB.out (j2) (by omega) (by omega) d v7 Q8 P _ h7.out (by omega) (by omega) (fun h => by omega)).mono ?_
 rw [z9.out]
 rcases Res with ⟨c, a⟩ | ⟨y9, j9, M9⟩
 ·
  rintro e w9 ⟨rfl, r9⟩
  have hF : Tg = .error (c, a) := by rw [← hTg.out, want_yes H1.out, z2.out, then_ok, p4.out, then_ok, if_neg HK.out, then_ok, p8.out, then_ok, z9.out]; rfl
  clear hTg; subst hF
  dsimp only
  exact ⟨rfl, rfl, r9⟩
 rintro e w9 ⟨rfl, v9, Q9, m9, r9⟩
 subst m9
 have b9 := G9.out.okv rfl
 simp only [List.length_map, Pf.lo] at b9
 have kk9 := b9.2.2
 have k9 : Q9.length ≤ 2 * j9 := by omega
 have j9T := b9.2.1
 have j9L := b9.1
 obtain ⟨a9, x9⟩ : ∃ c, Hid (y9.headD 0 = c) := ⟨_, rfl⟩
 rw [x9.out]
 have h9 := hid r9
 clear r9 h7 b9 G9; have h10 := hid (rR_kids h9.out [(Q2.length : Int), (Q4.length : Int), a9] (by simp))
 clear h9; go_wp2_with fail; refine (add_any T E k g cp (j9) d v9 Q9 P X B 18 0 ⟨#[]⟩ [(Q2.length : Int), (Q4.length : Int), a9] (some ⟨w9.heap.size, 0, none⟩) 3 _ h10.out (by have := EV.l; omega)).mono ?_
 rintro e w11 ⟨rfl, v11, r11⟩
 have h11 := hid r11
 clear r11 h10; go_wp2_with fail; go_ret; have hF : Tg = .ok ([(Q9.length : Int)], j9, List.map (fun q : NK => q.1) (Q9 ++ [((nd 18 ⟨#[]⟩ 0 [(Q2.length : Int), (Q4.length : Int), a9], Value.slice (some ⟨w9.heap.size, 0, none⟩) (List.length (α := Int) [(Q2.length : Int), (Q4.length : Int), a9]) 3) : NK)])) := by rw [← hTg.out, want_yes H1.out, z2.out, then_ok, p4.out, then_ok, if_neg HK.out, then_ok, p8.out, then_ok, z9.out, then_ok, x9.out]; exact pNode_map _ _ _ _
 clear hTg; subst hF
 exact ⟨rfl, v11, _, rfl, h11.out⟩
def pHear (T : List Tk) (E : Int) (d i : Nat) (N : List Nd) : PRes := pName T E i fun s j => pWant T E bAs j fun j => (PAR T E (.item 1 d) j N).then fun x j N => (PAR T E (.block d) j N).then fun y j N => pNode (nd 20 s 0 [x.headD 0, y.headD 0]) j N
set_option maxHeartbeats 8000000 in
theorem hear_of (T : List Tk) (E : Int) (X : World) (B k g cp i : Nat) (EV : Env T E X B g) (hi : i ≤ T.length) (hblock : ∀ j, i ≤ j → j ≤ T.length → Says T E X B k g cp 40 32 #[.pointer (some ⟨k, 0, none⟩)] .block j)
  (d : Nat) (v : Value) (Q : List NK) (P : List OR) (w : World) (hR : Rs X B w (rR k g (T.length + 1) cp (i) d v Q P)) (hq : Q.length ≤ 2 * (i)) (hd : d ≤ 40) :
  Calls Tryz.prog 65 #[.pointer (some ⟨k, 0, none⟩)] w (Ok1 T X B k g cp d P (pHear T E d i (Q.map (·.1)))) := by
 have HB := hid hblock
 clear hblock; unfold pHear
 have hal := alloc_old
 have haf := alloc_oldf
 have h0 := hid hR
 clear hR; obtain ⟨Tg, hTg⟩ : ∃ r, Hid ((pName T E i fun s j => pWant T E bAs j fun j => (PAR T E (.item 1 d) j (Q.map (·.1))).then fun x j N => (PAR T E (.block d) j N).then fun y j N => pNode (nd 20 s 0 [x.headD 0, y.headD 0]) j N) = r) := ⟨_, rfl⟩
 rw [hTg.out]
 go_enter Tryz.func65, Tryz.ntmps65
 go_wp2_with fail; by_cases q1 : ¬ kd T (i) = 1
 ·
  refine (name_bad T E k g cp (i) d v Q P X B _ h0.out EV.t EV.g (by omega) EV.l q1).mono ?_
  rintro e w1 ⟨rfl, r1⟩
  have hF : Tg = .error (2, ta T E (i)) := by rw [← hTg.out, name_no q1]
  clear hTg; subst hF
  dsimp only
  exact ⟨rfl, rfl, r1⟩
 have H1 := hid (Decidable.not_not.1 q1)
 clear q1; have l1 : i < T.length := kd_lt H1.out (by decide)
 refine (name_ok T E k g cp (i) d v Q P X B _ h0.out EV.t EV.g (by omega) EV.l H1.out).mono ?_
 rintro e w1 ⟨rfl, r1⟩
 have h1 := hid r1
 clear r1 h0; go_wp2_with fail; by_cases q2 : ¬ tx T (i + 1) = bAs
 ·
  refine (want_bad T E k g cp (i + 1) d v Q P X B ⟨#[97, 115]⟩ _ h1.out EV.t EV.g (by omega) EV.l q2).mono ?_
  rintro e w2 ⟨rfl, r2⟩
  have hF : Tg = .error (2, ta T E (i + 1)) := by rw [← hTg.out, name_yes H1.out, want_no q2]
  clear hTg; subst hF
  dsimp only
  exact ⟨rfl, rfl, r2⟩
 have H2 := hid (Decidable.not_not.1 q2)
 clear q2; have l2 : i + 1 < T.length := tx_lt H2.out (by decide)
 refine (want_ok T E k g cp (i + 1) d v Q P X B ⟨#[97, 115]⟩ _ h1.out EV.t EV.g (by omega) EV.l H2.out).mono ?_
 rintro e w2 ⟨rfl, r2⟩
 have h2 := hid r2
 clear r2 h1; go_wp2_with fail; obtain ⟨Res, z3⟩ : ∃ r, Hid ((PAR T E (.item 1 d) (i + 1 + 1) (Q.map (·.1))) = r) := ⟨_, rfl⟩
 have g3 := PAR_good (T := T) (E := E) (p := .item 1 d) (i := i + 1 + 1) (N := Q.map (·.1)) trivial (by omega)
 rw [z3.out] at g3
 have G3 := hid g3
 clear g3; refine (nameNode_says T E X B k g cp (i + 1 + 1) EV (by omega) d v Q P _ h2.out (by omega) (by omega) (fun h => by omega)).mono ?_
 rw [z3.out]
 rcases Res with ⟨c, a⟩ | ⟨y3, j3, M3⟩
 ·
  rintro e w3 ⟨rfl, r3⟩
  have hF : Tg = .error (c, a) := by rw [← hTg.out, name_yes H1.out, want_yes H2.out, z3.out]; rfl
  clear hTg; subst hF
  dsimp only
  exact ⟨rfl, rfl, r3⟩
 rintro e w3 ⟨rfl, v3, Q3, m3, r3⟩
 subst m3
 have b3 := G3.out.okv rfl
 simp only [List.length_map, Pf.lo] at b3
 have kk3 := b3.2.2
 have k3 : Q3.length ≤ 2 * j3 := by omega
 have j3T := b3.2.1
 have j3L := b3.1
 obtain ⟨a3, x3⟩ : ∃ c, Hid (y3.headD 0 = c) := ⟨_, rfl⟩
 rw [x3.out]
 have h3 := hid r3
 clear r3 h2 b3 G3; go_wp2_with fail; obtain ⟨Res, z4⟩ : ∃ r, Hid ((PAR T E (.block d) (j3) (Q3.map (·.1))) = r) := ⟨_, rfl⟩
 have g4 := PAR_good (T := T) (E := E) (p := .block d) (i := j3) (N := Q3.map (·.1)) trivial (by omega)
 rw [z4.out] at g4
 have G4 := hid g4
 clear g4; refine (HB.out (j3) (by omega) (by omega) d v3 Q3 P _ h3.out (by omega) (by omega) (fun h => by omega)).mono ?_
 rw [z4.out]
 rcases Res with ⟨c, a⟩ | ⟨y4, j4, M4⟩
 ·
  rintro e w4 ⟨rfl, r4⟩
  have hF : Tg = .error (c, a) := by rw [← hTg.out, name_yes H1.out, want_yes H2.out, z3.out, then_ok, x3.out, z4.out]; rfl
  clear hTg; subst hF
  dsimp only
  exact ⟨rfl, rfl, r4⟩
 rintro e w4 ⟨rfl, v4, Q4, m4, r4⟩
 subst m4
 have b4 := G4.out.okv rfl
 simp only [List.length_map, Pf.lo] at b4
 have kk4 := b4.2.2
 have k4 : Q4.length ≤ 2 * j4 := by omega
 have j4T := b4.2.1
 have j4L := b4.1
 obtain ⟨a4, x4⟩ : ∃ c, Hid (y4.headD 0 = c) := ⟨_, rfl⟩
 rw [x4.out]
 have h4 := hid r4
 clear r4 h3 b4 G4; have h5 := hid (rR_kids h4.out [a3, a4] (by simp))
 clear h4; go_wp2_with fail; refine (add_any T E k g cp (j4) d v4 Q4 P X B 20 0 (tx T (i)) [a3, a4] (some ⟨w4.heap.size, 0, none⟩) 2 _ h5.out (by have := EV.l; omega)).mono ?_
 rintro e w6 ⟨rfl, v6, r6⟩
 have h6 := hid r6
 clear r6 h5; go_wp2_with fail; go_ret; have hF : Tg = .ok ([(Q4.length : Int)], j4, List.map (fun q : NK => q.1) (Q4 ++ [((nd 20 (tx T (i)) 0 [a3, a4], Value.slice (some ⟨w4.heap.size, 0, none⟩) (List.length (α := Int) [a3, a4]) 2) : NK)])) := by rw [← hTg.out, name_yes H1.out, want_yes H2.out, z3.out, then_ok, x3.out, z4.out, then_ok, x4.out]; exact pNode_map _ _ _ _
 clear hTg; subst hF
 exact ⟨rfl, v6, _, rfl, h6.out⟩
def pFn (T : List Tk) (E : Int) (d i : Nat) (N : List Nd) : PRes := pName T E i fun s j => (PAR T E (.listed 3 d) j N).then fun x j N => pKind T E j fun q j => (PAR T E (.block d) j N).then fun y j N => pNode (nd 33 s q (x ++ [y.headD 0])) j N
set_option maxHeartbeats 8000000 in
theorem fn_of (T : List Tk) (E : Int) (X : World) (B k g cp i : Nat) (EV : Env T E X B g) (hi : i ≤ T.length) (hblock : ∀ j, i ≤ j → j ≤ T.length → Says T E X B k g cp 40 32 #[.pointer (some ⟨k, 0, none⟩)] .block j)
  (d : Nat) (v : Value) (Q : List NK) (P : List OR) (w : World) (hR : Rs X B w (rR k g (T.length + 1) cp (i) d v Q P)) (hq : Q.length ≤ 2 * (i)) (hd : d ≤ 40) :
  Calls Tryz.prog 29 #[.pointer (some ⟨k, 0, none⟩)] w (Ok1 T X B k g cp d P (pFn T E d i (Q.map (·.1)))) := by
 have HB := hid hblock
 have hmf : ∀ (fn : Fn) (first cap : Array Value) (w : World), (Instr.makeFunc fn first cap).run Tryz.prog w = .ok (.func fn first cap) w := fun _ _ _ _ => rfl
 clear hblock; unfold pFn
 have hal := alloc_old
 have haf := alloc_oldf
 have h0 := hid hR
 clear hR; obtain ⟨Tg, hTg⟩ : ∃ r, Hid ((pName T E i fun s j => (PAR T E (.listed 3 d) j (Q.map (·.1))).then fun x j N => pKind T E j fun q j => (PAR T E (.block d) j N).then fun y j N => pNode (nd 33 s q (x ++ [y.headD 0])) j N) = r) := ⟨_, rfl⟩
 rw [hTg.out]
 go_enter Tryz.func29, Tryz.ntmps29
 go_wp2_with fail; by_cases q1 : ¬ kd T (i) = 1
 ·
  refine (name_bad T E k g cp (i) d v Q P X B _ h0.out EV.t EV.g (by omega) EV.l q1).mono ?_
  rintro e w1 ⟨rfl, r1⟩
  have hF : Tg = .error (2, ta T E (i)) := by rw [← hTg.out, name_no q1]
  clear hTg; subst hF
  dsimp only
  exact ⟨rfl, rfl, r1⟩
 have H1 := hid (Decidable.not_not.1 q1)
 clear q1; have l1 : i < T.length := kd_lt H1.out (by decide)
 refine (name_ok T E k g cp (i) d v Q P X B _ h0.out EV.t EV.g (by omega) EV.l H1.out).mono ?_
 rintro e w1 ⟨rfl, r1⟩
 have h1 := hid r1
 clear r1 h0; go_wp2_with fail; obtain ⟨Res, z2⟩ : ∃ r, Hid ((PAR T E (.listed 3 d) (i + 1) (Q.map (·.1))) = r) := ⟨_, rfl⟩
 have g2 := PAR_good (T := T) (E := E) (p := .listed 3 d) (i := i + 1) (N := Q.map (·.1)) trivial (by omega)
 rw [z2.out] at g2
 have G2 := hid g2
 clear g2; refine (listedParam_of T E X B k g cp (i + 1) EV (by omega) (fun j _ hj => param_says T E X B k g cp j EV hj) d v Q P _ h1.out (by omega) (by omega)).mono ?_
 rw [z2.out]
 rcases Res with ⟨c, a⟩ | ⟨y2, j2, M2⟩
 ·
  rintro e w2 ⟨rfl, r2⟩
  have hF : Tg = .error (c, a) := by rw [← hTg.out, name_yes H1.out, z2.out]; rfl
  clear hTg; subst hF
  dsimp only
  exact ⟨rfl, rfl, r2⟩
 rintro e w2 ⟨s2, c2, v2, Q2, rfl, m2, r2⟩
 subst m2
 have b2 := G2.out.okv rfl
 simp only [List.length_map, Pf.lo] at b2
 have kk2 := b2.2.2
 have k2 : Q2.length ≤ 2 * j2 := by omega
 have j2T := b2.2.1
 have j2L := b2.1
 have h2 := hid r2
 clear r2 h1 b2 G2; have ly := listed_len (show i + 1 ≤ T.length by omega) z2.out
 go_wp2_with fail; by_cases q3 : kindOf (tx T (j2)) = 0
 ·
  refine (kind_bad T E k g cp (j2) d v2 Q2 (rI (.slice s2 y2.length c2) y2 :: P) X B _ EV h2.out (by omega) (by omega) q3).mono ?_
  rintro e w3 ⟨rfl, r3⟩
  have hF : Tg = .error (2, ta T E (j2)) := by rw [← hTg.out, name_yes H1.out, z2.out, then_ok, kind_no q3]
  clear hTg; subst hF
  dsimp only
  exact ⟨rfl, rfl, r3.one⟩
 have H3 := hid q3
 clear q3; have l3 : j2 < T.length := kind_lt H3.out
 refine (kind_ok T E k g cp (j2) d v2 Q2 (rI (.slice s2 y2.length c2) y2 :: P) X B _ EV h2.out (by omega) (by omega) H3.out).mono ?_
 rintro e w3 ⟨rfl, r3⟩
 have h3 := hid r3
 clear r3 h2; obtain ⟨qk, eqk⟩ : ∃ q, Hid (kindOf (tx T (j2)) = q) := ⟨_, rfl⟩
 rw [eqk.out]
 go_wp2_with fail; obtain ⟨Res, z4⟩ : ∃ r, Hid ((PAR T E (.block d) (j2 + 1) (Q2.map (·.1))) = r) := ⟨_, rfl⟩
 have g4 := PAR_good (T := T) (E := E) (p := .block d) (i := j2 + 1) (N := Q2.map (·.1)) trivial (by omega)
 rw [z4.out] at g4
 have G4 := hid g4
 clear g4; refine (HB.out (j2 + 1) (by omega) (by omega) d v2 Q2 (rI (.slice s2 y2.length c2) y2 :: P) _ h3.out (by omega) (by omega) (fun h => by omega)).mono ?_
 rw [z4.out]
 rcases Res with ⟨c, a⟩ | ⟨y4, j4, M4⟩
 ·
  rintro e w4 ⟨rfl, r4⟩
  have hF : Tg = .error (c, a) := by rw [← hTg.out, name_yes H1.out, z2.out, then_ok, kind_yes H3.out, eqk.out, z4.out]; rfl
  clear hTg; subst hF
  dsimp only
  exact ⟨rfl, rfl, r4.one⟩
 rintro e w4 ⟨rfl, v4, Q4, m4, r4⟩
 subst m4
 have b4 := G4.out.okv rfl
 simp only [List.length_map, Pf.lo] at b4
 have kk4 := b4.2.2
 have k4 : Q4.length ≤ 2 * j4 := by omega
 have j4T := b4.2.1
 have j4L := b4.1
 obtain ⟨a4, x4⟩ : ∃ c, Hid (y4.headD 0 = c) := ⟨_, rfl⟩
 rw [x4.out]
 have h4 := hid r4
 clear r4 h3 b4 G4; obtain ⟨R9, e9⟩ : ∃ R, Hid (y2 ++ [a4] = R) := ⟨_, rfl⟩
 go_wp2_with (at_builtin; refine wpList_rR1 h4.out rfl _ _ rfl rfl a4 rfl (by have := EV.l; omega) R9 e9.out ?_; intro s9 c9 u9 r9)
 have h9 := hid r9
 clear r9 h4; go_wp2_with fail; refine (add_any T E k g cp (j4) d v4 Q4 P X B 33 qk (tx T (i)) R9 s9 c9 _ h9.out (by have := EV.l; omega)).mono ?_
 rintro e w5 ⟨rfl, v5, r5⟩
 have h5 := hid r5
 clear r5 h9; go_wp2_with fail; go_ret; have hF : Tg = .ok ([(Q4.length : Int)], j4, List.map (fun q : NK => q.1) (Q4 ++ [((nd 33 (tx T (i)) qk R9, Value.slice s9 (List.length (α := Int) R9) c9) : NK)])) := by rw [← hTg.out, name_yes H1.out, z2.out, then_ok, kind_yes H3.out, eqk.out, z4.out, then_ok, x4.out, e9.out]; exact pNode_map _ _ _ _
 clear hTg; subst hF
 exact ⟨rfl, v5, _, rfl, h5.out⟩
end Go.Proofs.YtkkofminndboaaaGreatDoor
