import Derived.Test.YtkkofminndboaaaGreatDoorSb15
namespace Go.Proofs.YtkkofminndboaaaGreatDoor
open Go.RowKit
set_option linter.unusedVariables false
set_option linter.unusedSimpArgs false
set_option maxRecDepth 100000
theorem tl_bLet : bLet.toList = [108, 101, 116] := by simp [bLet, ByteArray.toList, ByteArray.toList.loop, ByteArray.size, ByteArray.get!]
theorem tl_bDot : bDot.toList = [46] := by simp [bDot, ByteArray.toList, ByteArray.toList.loop, ByteArray.size, ByteArray.get!]
theorem tl_bDol : bDol.toList = [36] := by simp [bDol, ByteArray.toList, ByteArray.toList.loop, ByteArray.size, ByteArray.get!]
theorem tl_bPut : bPut.toList = [112, 117, 116] := by simp [bPut, ByteArray.toList, ByteArray.toList.loop, ByteArray.size, ByteArray.get!]
theorem tl_bIf : bIf.toList = [105, 102] := by simp [bIf, ByteArray.toList, ByteArray.toList.loop, ByteArray.size, ByteArray.get!]
theorem tl_bLoop : bLoop.toList = [108, 111, 111, 112] := by simp [bLoop, ByteArray.toList, ByteArray.toList.loop, ByteArray.size, ByteArray.get!]
theorem tl_bEach : bEach.toList = [101, 97, 99, 104] := by simp [bEach, ByteArray.toList, ByteArray.toList.loop, ByteArray.size, ByteArray.get!]
theorem tl_bEmit : bEmit.toList = [101, 109, 105, 116] := by simp [bEmit, ByteArray.toList, ByteArray.toList.loop, ByteArray.size, ByteArray.get!]
theorem tl_bHear : bHear.toList = [104, 101, 97, 114] := by simp [bHear, ByteArray.toList, ByteArray.toList.loop, ByteArray.size, ByteArray.get!]
theorem tl_bSpawn : bSpawn.toList = [115, 112, 97, 119, 110] := by simp [bSpawn, ByteArray.toList, ByteArray.toList.loop, ByteArray.size, ByteArray.get!]
theorem tl_bKill : bKill.toList = [107, 105, 108, 108] := by simp [bKill, ByteArray.toList, ByteArray.toList.loop, ByteArray.size, ByteArray.get!]
theorem tl_bDrop : bDrop.toList = [100, 114, 111, 112] := by simp [bDrop, ByteArray.toList, ByteArray.toList.loop, ByteArray.size, ByteArray.get!]
theorem tl_bDo : bDo.toList = [100, 111] := by simp [bDo, ByteArray.toList, ByteArray.toList.loop, ByteArray.size, ByteArray.get!]
theorem tl_bReturn : bReturn.toList = [114, 101, 116, 117, 114, 110] := by simp [bReturn, ByteArray.toList, ByteArray.toList.loop, ByteArray.size, ByteArray.get!]
theorem tl_bFn : bFn.toList = [102, 110] := by simp [bFn, ByteArray.toList, ByteArray.toList.loop, ByteArray.size, ByteArray.get!]
theorem tl_bSystem : bSystem.toList = [115, 121, 115, 116, 101, 109] := by simp [bSystem, ByteArray.toList, ByteArray.toList.loop, ByteArray.size, ByteArray.get!]
theorem tl_bYes : bYes.toList = [121, 101, 115] := by simp [bYes, ByteArray.toList, ByteArray.toList.loop, ByteArray.size, ByteArray.get!]
theorem tl_bNo : bNo.toList = [110, 111] := by simp [bNo, ByteArray.toList, ByteArray.toList.loop, ByteArray.size, ByteArray.get!]
theorem tl_bLp : bLp.toList = [40] := by simp [bLp, ByteArray.toList, ByteArray.toList.loop, ByteArray.size, ByteArray.get!]
theorem tl_bMinus : bMinus.toList = [45] := by simp [bMinus, ByteArray.toList, ByteArray.toList.loop, ByteArray.size, ByteArray.get!]
theorem tl_bNot : bNot.toList = [110, 111, 116] := by simp [bNot, ByteArray.toList, ByteArray.toList.loop, ByteArray.size, ByteArray.get!]
theorem tl_bRe : bRe.toList = [114, 101] := by simp [bRe, ByteArray.toList, ByteArray.toList.loop, ByteArray.size, ByteArray.get!]
theorem tl_bIm : bIm.toList = [105, 109] := by simp [bIm, ByteArray.toList, ByteArray.toList.loop, ByteArray.size, ByteArray.get!]
theorem tl_bReal : bReal.toList = [114, 101, 97, 108] := by simp [bReal, ByteArray.toList, ByteArray.toList.loop, ByteArray.size, ByteArray.get!]
theorem tl_bSize : bSize.toList = [115, 105, 122, 101] := by simp [bSize, ByteArray.toList, ByteArray.toList.loop, ByteArray.size, ByteArray.get!]
theorem tl_bPair : bPair.toList = [112, 97, 105, 114] := by simp [bPair, ByteArray.toList, ByteArray.toList.loop, ByteArray.size, ByteArray.get!]
theorem tl_bPick : bPick.toList = [112, 105, 99, 107] := by simp [bPick, ByteArray.toList, ByteArray.toList.loop, ByteArray.size, ByteArray.get!]
theorem PAR_top {T : List Tk} {E : Int} {i : Nat} {N : List Nd} (hi : i ≤ T.length) : PAR T E .top i N = if tx T i = bFn then pFn T E 0 (i + 1) N else if tx T i = bSystem then pName T E (i + 1) fun s j => (PAR T E (.block 0) j N).then fun y j N => pNode (nd 34 s 0 [y.headD 0]) j N else .error (2, ta T E i) := by
 rw [PAR_eq (p := .top) trivial hi]
 rfl
set_option maxHeartbeats 8000000 in
theorem top_of (T : List Tk) (E : Int) (X : World) (B k g cp i : Nat) (EV : Env T E X B g) (hi : i ≤ T.length) (hblock : ∀ j, i < j → j ≤ T.length → Says T E X B k g cp 40 32 #[.pointer (some ⟨k, 0, none⟩)] .block j)
  (v : Value) (Q : List NK) (P : List OR) (w : World) (hR : Rs X B w (rR k g (T.length + 1) cp i 0 v Q P)) (hq : Q.length ≤ 2 * i) :
  Calls Tryz.prog 17 #[.pointer (some ⟨k, 0, none⟩)] w (Ok1 T X B k g cp 0 P (PAR T E .top i (Q.map (·.1)))) := by
 have HB := hid hblock
 clear hblock; rw [PAR_top hi]
 have hal := alloc_old
 have haf := alloc_oldf
 have h0 := hid hR
 clear hR; by_cases c1 : tx T i = bFn
 ·
  have hlt : i < T.length := tx_lt c1 (by decide)
  obtain ⟨Tg, hTg⟩ : ∃ r, Hid ((if tx T i = bFn then pFn T E 0 (i + 1) (Q.map (·.1)) else if tx T i = bSystem then pName T E (i + 1) fun s j => (PAR T E (.block 0) j (Q.map (·.1))).then fun y j N => pNode (nd 34 s 0 [y.headD 0]) j N else .error (2, ta T E i)) = r) := ⟨_, rfl⟩
  rw [hTg.out]
  have C1 := hid c1
  have f_bFn : ((tx T (i)).toList == [102, 110]) = true := by rw [← tl_bFn]; exact str_yes c1
  clear c1; go_enter Tryz.func17, Tryz.ntmps17
  go_wp2_with fail; refine (next_any T E k g cp i 0 v Q P X B _ h0.out EV.t EV.g hi EV.l).mono ?_
  rintro e w1 ⟨⟨x, rfl⟩, r1⟩
  have h1 := hid (r1.later (bl_alloc (Below.refl _ _) (.cells #[.int .i64 (kd T i), .int .i64 (ta T E i), .string (tx T i), .int .i64 (ti T i), .float .f64 x] 38)))
  clear h0 r1; go_wp2_with fail; obtain ⟨Res, z2⟩ : ∃ r, Hid ((pFn T E 0 (i + 1) (Q.map (·.1))) = r) := ⟨_, rfl⟩
  refine (fn_of T E X B k g cp (i + 1) EV (by omega) (fun j h1 h2 => HB.out j (by omega) h2) 0 v Q P _ h1.out (by omega) (by omega)).mono ?_
  rw [z2.out]
  rcases Res with ⟨c, a⟩ | ⟨y2, j2, M2⟩
  ·
   rintro e w2 ⟨rfl, r2⟩
   have hF : Tg = .error (c, a) := by rw [← hTg.out, if_pos C1.out, z2.out]
   clear hTg; subst hF
   dsimp only
   exact ⟨rfl, rfl, r2⟩
  rintro e w2 ⟨rfl, v2, Q2, m2, r2⟩
  have h2 := hid r2
  have mm2 := hid m2
  obtain ⟨a2, x2⟩ : ∃ c, Hid (y2.headD 0 = c) := ⟨_, rfl⟩
  rw [x2.out]
  clear r2 m2 h1; go_wp2_with fail; go_ret; have hF : Tg = .ok (y2, j2, M2) := by rw [← hTg.out, if_pos C1.out, z2.out]
  clear hTg; subst hF
  exact ⟨by rw [x2.out]; rfl, v2, Q2, mm2.out, h2.out⟩
 obtain ⟨Tg, hTg⟩ : ∃ r, Hid ((if tx T i = bFn then pFn T E 0 (i + 1) (Q.map (·.1)) else if tx T i = bSystem then pName T E (i + 1) fun s j => (PAR T E (.block 0) j (Q.map (·.1))).then fun y j N => pNode (nd 34 s 0 [y.headD 0]) j N else .error (2, ta T E i)) = r) := ⟨_, rfl⟩
 rw [hTg.out]
 have C1 := hid c1
 have f_bFn : ((tx T (i)).toList == [102, 110]) = false := by rw [← tl_bFn]; exact str_no c1
 clear c1; by_cases c2 : tx T i = bSystem
 ·
  have hlt : i < T.length := tx_lt c2 (by decide)
  have C2 := hid c2
  have f_bSystem : ((tx T (i)).toList == [115, 121, 115, 116, 101, 109]) = true := by rw [← tl_bSystem]; exact str_yes c2
  clear c2; go_enter Tryz.func17, Tryz.ntmps17
  go_wp2_with fail; refine (next_any T E k g cp i 0 v Q P X B _ h0.out EV.t EV.g hi EV.l).mono ?_
  rintro e w1 ⟨⟨x, rfl⟩, r1⟩
  have h1 := hid (r1.later (bl_alloc (Below.refl _ _) (.cells #[.int .i64 (kd T i), .int .i64 (ta T E i), .string (tx T i), .int .i64 (ti T i), .float .f64 x] 38)))
  clear h0 r1; go_wp2_with fail; by_cases q2 : ¬ kd T (i + 1) = 1
  ·
   refine (name_bad T E k g cp (i + 1) 0 v Q P X B _ h1.out EV.t EV.g (by omega) EV.l q2).mono ?_
   rintro e w2 ⟨rfl, r2⟩
   have hF : Tg = .error (2, ta T E (i + 1)) := by rw [← hTg.out, if_neg C1.out, if_pos C2.out, name_no q2]
   clear hTg; subst hF
   dsimp only
   exact ⟨rfl, rfl, r2⟩
  have H2 := hid (Decidable.not_not.1 q2)
  clear q2; have l2 : i + 1 < T.length := kd_lt H2.out (by decide)
  refine (name_ok T E k g cp (i + 1) 0 v Q P X B _ h1.out EV.t EV.g (by omega) EV.l H2.out).mono ?_
  rintro e w2 ⟨rfl, r2⟩
  have h2 := hid r2
  clear r2 h1; go_wp2_with fail; obtain ⟨Res, z3⟩ : ∃ r, Hid ((PAR T E (.block 0) (i + 1 + 1) (Q.map (·.1))) = r) := ⟨_, rfl⟩
  have g3 := PAR_good (T := T) (E := E) (p := .block 0) (i := i + 1 + 1) (N := Q.map (·.1)) trivial (by omega)
  rw [z3.out] at g3
  have G3 := hid g3
  clear g3; refine (HB.out (i + 1 + 1) (by omega) (by omega) 0 v Q P _ h2.out (by omega) (by omega) (fun h => by omega)).mono ?_
  rw [z3.out]
  rcases Res with ⟨c, a⟩ | ⟨y3, j3, M3⟩
  ·
   rintro e w3 ⟨rfl, r3⟩
   have hF : Tg = .error (c, a) := by rw [← hTg.out, if_neg C1.out, if_pos C2.out, name_yes H2.out, z3.out]; rfl
   clear hTg; subst hF
   dsimp only
   exact ⟨rfl, rfl, r3⟩
  rintro e w3 ⟨rfl, v3, Q3, m3, r3⟩
  subst m3
  have b3 := G3.out.okv rfl
  simp only [List.length_map, Pf.lo] at b3
  have kk3 := b3.2.2
  have k3 : Q3.length ≤ 2 * j3 := by omega
  have j3T := b3.2.1
  have j3L := b3.1
  obtain ⟨a3, x3⟩ : ∃ c, Hid (y3.headD 0 = c) := ⟨_, rfl⟩
  rw [x3.out]
  have h3 := hid r3
  clear r3 h2 b3 G3; have h4 := hid (rR_kids h3.out [a3] (by simp))
  clear h3; go_wp2_with fail; refine (add_any T E k g cp (j3) 0 v3 Q3 P X B 34 0 (tx T (i + 1)) [a3] (some ⟨w3.heap.size, 0, none⟩) 1 _ h4.out (by have := EV.l; omega)).mono ?_
  rintro e w5 ⟨rfl, v5, r5⟩
  have h5 := hid r5
  clear r5 h4; go_wp2_with fail; go_ret; have hF : Tg = .ok ([(Q3.length : Int)], j3, List.map (fun q : NK => q.1) (Q3 ++ [((nd 34 (tx T (i + 1)) 0 [a3], Value.slice (some ⟨w3.heap.size, 0, none⟩) (List.length (α := Int) [a3]) 1) : NK)])) := by rw [← hTg.out, if_neg C1.out, if_pos C2.out, name_yes H2.out, z3.out, then_ok, x3.out]; exact pNode_map _ _ _ _
  clear hTg; subst hF
  exact ⟨rfl, v5, _, rfl, h5.out⟩
 have C2 := hid c2
 have f_bSystem : ((tx T (i)).toList == [115, 121, 115, 116, 101, 109]) = false := by rw [← tl_bSystem]; exact str_no c2
 clear c2; go_enter Tryz.func17, Tryz.ntmps17
 go_wp2_with fail; refine (next_any T E k g cp i 0 v Q P X B _ h0.out EV.t EV.g hi EV.l).mono ?_
 rintro e w1 ⟨⟨x, rfl⟩, r1⟩
 have h1 := hid (r1.later (bl_alloc (Below.refl _ _) (.cells #[.int .i64 (kd T i), .int .i64 (ta T E i), .string (tx T i), .int .i64 (ti T i), .float .f64 x] 38)))
 clear h0 r1; go_wp2_with fail; have hF : Tg = .error (2, ta T E i) := by rw [← hTg.out, if_neg C1.out, if_neg C2.out]
 clear hTg; subst hF
 exact ⟨rfl, rfl, h1.out.dead⟩
end Go.Proofs.YtkkofminndboaaaGreatDoor
