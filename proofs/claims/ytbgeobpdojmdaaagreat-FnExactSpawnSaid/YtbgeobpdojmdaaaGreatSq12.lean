import Derived.Test.YtbgeobpdojmdaaaGreatSq11
namespace Go.Proofs.YtbgeobpdojmdaaaGreat
set_option linter.unusedVariables false
set_option linter.unusedSimpArgs false
section
open Go.RowKit Go.Maps Go.WideMaps
def offT (A B C : List (ByteArray × Int)) (t : Nat) : Nat := if t ≤ 1 then 0 else if t = 2 then A.length else if t = 3 then A.length + B.length else A.length + B.length + C.length
def plAt (A B C : List (ByteArray × Int)) (i : Nat) : Pl :=
 ⟨(dAt (A ++ B ++ C) i).1, (dAt (A ++ B ++ C) i).2, if i < A.length then 1 else if i < A.length + B.length then 2 else 3, if i < A.length then (i : Int) else if i < A.length + B.length then (i : Int) - A.length else (i : Int) - (A.length + B.length)⟩
def plTo (A B C : List (ByteArray × Int)) (i : Nat) : List Pl := (List.range i).map (plAt A B C)
theorem plTo_succ (A B C : List (ByteArray × Int)) (i : Nat) : plTo A B C (i + 1) = plTo A B C i ++ [plAt A B C i] := by simp [plTo, List.range_succ]
theorem pickT {t : Nat} (h1 : 1 ≤ t) (h2 : t ≤ 3) : t = 1 ∨ t = 2 ∨ t = 3 := by omega
theorem dAt_left {L M : List (ByteArray × Int)} {k : Nat} (h : k < L.length) : dAt (L ++ M) k = dAt L k := by
 unfold dAt; rw [List.getElem?_append_left h]
theorem dAt_right {L M : List (ByteArray × Int)} (k : Nat) : dAt (L ++ M) (L.length + k) = dAt M k := by
 unfold dAt; rw [List.getElem?_append_right (by omega)]; congr 2; congr 1; omega
theorem off_next (A B C : List (ByteArray × Int)) {t : Nat} (h1 : 1 ≤ t) (h2 : t ≤ 3) : offT A B C (t + 1) = offT A B C t + (pickL A B C (t : Int)).length := by
 rcases pickT h1 h2 with rfl | rfl | rfl <;> simp [offT, pickL]
theorem off_lt (A B C : List (ByteArray × Int)) {t k : Nat} (h1 : 1 ≤ t) (h2 : t ≤ 3) (hk : k < (pickL A B C (t : Int)).length) : offT A B C t + k < (A ++ B ++ C).length := by
 rcases pickT h1 h2 with rfl | rfl | rfl <;> simp [offT, pickL] at hk ⊢ <;> omega
theorem dAt_off (A B C : List (ByteArray × Int)) {t k : Nat} (h1 : 1 ≤ t) (h2 : t ≤ 3) (hk : k < (pickL A B C (t : Int)).length) : dAt (A ++ B ++ C) (offT A B C t + k) = dAt (pickL A B C (t : Int)) k := by
 rcases pickT h1 h2 with rfl | rfl | rfl <;> simp [offT, pickL] at hk ⊢
 ·
  exact dAt_left hk
 ·
  rw [← List.append_assoc, dAt_left (by simp; omega), dAt_right]
 rw [← List.append_assoc, show A.length + B.length + k = (A ++ B).length + k by simp, dAt_right]
theorem plAt_off (A B C : List (ByteArray × Int)) {t k : Nat} (h1 : 1 ≤ t) (h2 : t ≤ 3) (hk : k < (pickL A B C (t : Int)).length) : plAt A B C (offT A B C t + k) = ⟨(dAt (pickL A B C (t : Int)) k).1, (dAt (pickL A B C (t : Int)) k).2, t, k⟩ := by
 have e := dAt_off A B C h1 h2 hk
 unfold plAt
 rw [e]
 rcases pickT h1 h2 with rfl | rfl | rfl <;> simp [offT, pickL] at hk ⊢ <;> (try omega)
theorem twice_iff (A B C : List (ByteArray × Int)) (i : Nat) (s : ByteArray) : (plTo A B C i).any (fun p => decide (p.n = s)) = true ↔ ∃ j, j < i ∧ (dAt (A ++ B ++ C) j).1 = s := by
 simp [plTo, plAt]
theorem Decls.kept {w w' : World} {b o m : Nat} {L : List (ByteArray × Int)} (h : Decls w (some ⟨b, o, none⟩) L) (hg : w.grownBy w' (some m)) (hm : ¬ b = m) : Decls w' (some ⟨b, o, none⟩) L := by
 rcases h with h0 | ⟨b', o', e, h1, h2⟩
 ·
  exact Or.inl h0
 simp only [Option.some.injEq, Addr.mk.injEq, and_true] at e
 obtain ⟨rfl, rfl⟩ := e
 refine Or.inr ⟨b, o, rfl, Nat.lt_of_lt_of_le h1 hg.size, fun j hj => ?_⟩
 exact ⟨hg.cell (h2 j hj).1 (by simp; exact hm), hg.cell (h2 j hj).2 (by simp; exact hm)⟩
def Pl.zero : Pl := ⟨ByteArray.empty, 0, 0, 0⟩
theorem at_shape : ∀ (l : List Pl) (D : DataW Value) (k : ByteArray), IsMap D → (∃ q : Pl, D.atKey (wkey k) (.held Pl.zero.val) = .held q.val) → ∃ q : Pl, (plMap l D).atKey (wkey k) (.held Pl.zero.val) = .held q.val
 | [], D, k, h, hq => hq
 | p :: r, D, k, h, hq => by
  rw [plMap]
  refine at_shape r _ k (h.put _ _) ?_
  by_cases e : k = p.n
  ·
   exact ⟨p, by rw [e]; exact atKey_put_same h (by trivial) _ _⟩
  obtain ⟨q, hq⟩ := hq
  exact ⟨q, by rw [atKey_put_other (fun e' => e (wkey_inj e'))]; exact hq⟩
theorem pl_look' {w : World} {b n : Nat} {l : List Pl} (h : w.ownsMap Tryz.prog 9 anyElem b n (plMap l (.map []))) (s : ByteArray) (hs : s.size ≤ maxLen) :
  ∃ q : Pl, (Instr.lookup 178 (.map (some b)) (.string s) true).run Tryz.prog w = .ok (.tuple #[.agg #[.string q.n, .int .i64 q.k, .int .i64 q.s, .int .i64 q.a], .bool (l.any (fun p => decide (p.n = s)))]) w ∧ .held q.val = (plMap l (.map [])).atKey (wkey s) (.held Pl.zero.val) := by
 obtain ⟨v, hrun, hv⟩ := pl_look h s hs
 obtain ⟨q, hq⟩ := at_shape l (.map []) s isMap_empty ⟨Pl.zero, rfl⟩
 have e : v = q.val := by
  have : DataW.held v = DataW.held q.val := hv.trans hq
  injection this
 subst e
 exact ⟨q, hrun, hq.symm⟩
set_option maxRecDepth 100000 in
set_option maxHeartbeats 8000000 in
theorem declsByName_any (s1 s2 s3 : Option Addr) (c1 c2 c3 : Nat) (A B C : List (ByteArray × Int)) (w : World) (hA : Decls w s1 A) (hB : Decls w s2 B) (hC : Decls w s3 C) (nm : ∀ i, i < (A ++ B ++ C).length → (dAt (A ++ B ++ C) i).1.size ≤ maxLen) (l1 : A.length ≤ 1048576) (l2 : B.length ≤ 1048576) (l3 : C.length ≤ 1048576) :
  Calls Tryz.prog 119 #[.agg #[.slice s1 A.length c1, .slice s2 B.length c2, .slice s3 C.length c3]] w fun e w' =>
   (okR A B C = false → e = .returned (.tuple #[.map none, .bool false])) ∧ (okR A B C = true → ∃ b n, e = .returned (.tuple #[.map (some b), .bool true]) ∧ w'.ownsMap Tryz.prog 9 anyElem b n (plMap (plTo A B C (A ++ B ++ C).length) (.map []))) ∧ Below w.heap.size w w' := by
 have hal := alloc_old
 have haf := alloc_oldf
 have hmm := @run_makeMap Tryz.prog
 have k0 := Blk.new w #[.slice s1 A.length c1, .slice s2 B.length c2, .slice s3 C.length c3] 47
 go_enter Tryz.func119, Tryz.ntmps119
 go_wp2_with fail; refine (wordSet_any _).mono ?_
 rintro e w1 ⟨rfl, hw1, hb1⟩
 have K1 := k0.later hb1
 have L1 : Below w.heap.size w w1 := blq
 obtain ⟨bw, hbw⟩ : ∃ b, (w.alloc (.cells #[.slice s1 A.length c1, .slice s2 B.length c2, .slice s3 C.length c3] 47)).heap.size = b := ⟨_, rfl⟩
 rw [hbw] at hw1 ⊢
 have hbw' : w.heap.size + 1 = bw := by rw [← hbw]; simp
 clear hbw hb1 k0; have K2 := K1.alloc (.map #[] 0)
 have W2 := hw1.alloc (.map #[] 0)
 have L2 := bl_alloc L1 (.map #[] 0)
 have M2 := World.ownsMap_made w1 Tryz.prog 9 anyElem
 have hbn : w.heap.size ≤ w1.heap.size := L1.size
 have hbn2 : bw < w1.heap.size := hw1.lt
 go_wp2_with fail; obtain ⟨bn, hbn0⟩ : ∃ b, b = w1.heap.size := ⟨_, rfl⟩
 rw [← hbn0] at M2 hbn hbn2 ⊢
 generalize hX : w1.alloc (.map #[] 0) = X at K2 W2 L2 M2 ⊢
 clear hX hw1 L1 K1 hbn0; have hL4 : Hid (offT A B C 4 = (A ++ B ++ C).length) := by simp [Hid, offT]; omega
 go_loopw [6] (fun sv wr => ∃ t : Nat, 1 ≤ t ∧ t ≤ 4 ∧ sv = .int .i64 t ∧ Hid (∀ u : Nat, 1 ≤ u → u < t → (pickL A B C (u : Int)).length ≤ 12) ∧ Hid (∀ i, i < offT A B C t → goodAt (A ++ B ++ C) i) ∧ Blk wr w.heap.size #[.slice s1 A.length c1, .slice s2 B.length c2, .slice s3 C.length c3] 47 ∧ wr.ownsMap Tryz.prog 9 (unitElem (H := Unit)) bw 32 (wordMap words (.map [])) ∧ wr.ownsMap Tryz.prog 9 anyElem bn (offT A B C t) (plMap (plTo A B C (offT A B C t)) (.map [])) ∧ Below w.heap.size w wr) (fun sv _ => 4 - (intOf sv).toNat)
 case atStart => exact ⟨1, by omega, by omega, rfl, fun u h1 h2 => absurd h1 (by omega), fun i hi => absurd hi (by simp [offT]), K2, W2, M2, L2⟩
 clear K2 W2 L2 M2; obtain ⟨t, t1, t4, rfl, hlens, hall, K, Wd, Nm, Lb⟩ := hrel
 have hO48 : offT A B C t ≤ 3145728 := by unfold offT; split; omega; split; omega; split <;> omega
 by_cases t3 : t ≤ 3
 ·
  have hltI : (t : Int) ≤ 3 := by omega
  obtain ⟨x0, x1, x2, x3⟩ := K.three
  go_wp2_with fail; refine (declsOf_any s1 s2 s3 c1 c2 c3 A B C t _ (hA.later Lb) (hB.later Lb) (hC.later Lb)).mono ?_
  rintro e w2 ⟨⟨s, c, rfl, hd⟩, hb2⟩
  have hd := hd.later hb2
  have K := K.later hb2
  have Wd := Wd.kept (grown_of_below hb2) (by simp)
  have Nm := Nm.kept (grown_of_below hb2) (by simp)
  have Lb := bl_trans Lb hb2
  clear x0 x1 x2 x3 hb2; obtain ⟨P, hP⟩ : ∃ P, Hid (pickL A B C (t : Int) = P) := ⟨_, rfl⟩
  have hoff : Hid (∀ k, k < P.length → offT A B C t + k < (A ++ B ++ C).length ∧ dAt (A ++ B ++ C) (offT A B C t + k) = dAt P k ∧ plAt A B C (offT A B C t + k) = ⟨(dAt P k).1, (dAt P k).2, t, k⟩) := by
   intro k hk
   rw [← hP.out] at hk ⊢
   exact ⟨off_lt A B C t1 t3 hk, dAt_off A B C t1 t3 hk, plAt_off A B C t1 t3 hk⟩
  have hnext : Hid (offT A B C (t + 1) = offT A B C t + P.length) := by rw [← hP.out]; exact off_next A B C t1 t3
  rw [hP.out] at hd ⊢
  by_cases hl12 : P.length ≤ 12
  ·
   have u1 : decide ((12 : Int) < (P.length : Int)) = false := by simp; omega
   go_wp2_with fail; clear u1; obtain ⟨O, hO⟩ : ∃ O, Hid (offT A B C t = O) := ⟨_, rfl⟩
   rw [hO.out] at Nm hall hoff hnext hO48
   go_loopw [29] (fun i wy => ∃ k : Nat, k ≤ P.length ∧ i = .int .i64 k ∧ Hid (∀ i, i < O + k → goodAt (A ++ B ++ C) i) ∧ Blk wy w.heap.size #[.slice s1 A.length c1, .slice s2 B.length c2, .slice s3 C.length c3] 47 ∧ wy.ownsMap Tryz.prog 9 (unitElem (H := Unit)) bw 32 (wordMap words (.map [])) ∧ wy.ownsMap Tryz.prog 9 anyElem bn (O + k) (plMap (plTo A B C (O + k)) (.map [])) ∧ Decls wy s P ∧ Below w.heap.size w wy) (fun i _ => P.length - (intOf i).toNat)
   case atStart => exact ⟨0, Nat.zero_le _, rfl, hall, K, Wd, Nm, hd, Lb⟩
   clear hall K Wd Nm hd Lb; obtain ⟨k, hk, rfl, hall, K, Wd, Nm, hd, Lb⟩ := hrel
   by_cases hlt : k < P.length
   ·
    obtain ⟨b, o, rfl, hp, e1, e2⟩ := hd.get hlt
    obtain ⟨f1, f2, f3⟩ := hoff.out k hlt
    have hsz := nm _ f1
    rw [f2] at hsz
    obtain ⟨p, hp0⟩ : ∃ p, Hid (dAt P k = p) := ⟨_, rfl⟩
    rw [hp0.out] at e1 e2 hsz
    obtain ⟨p1, p2⟩ := p
    have F3 : Hid (plAt A B C (O + k) = ⟨p1, p2, t, k⟩) := by rw [hp0.out] at f3; exact f3
    have F2 : Hid (dAt (A ++ B ++ C) (O + k) = (p1, p2)) := by rw [hp0.out] at f2; exact f2
    have F1 : Hid (O + k < (A ++ B ++ C).length) := f1
    clear f1 f2 f3; have hbad : Hid (¬ goodAt (A ++ B ++ C) (O + k) → okR A B C = false) := by
     intro h
     have h9 : okL (A ++ B ++ C) = false := decide_eq_false (fun h' => h (h' _ F1.out))
     unfold okR
     rw [h9, Bool.and_false]
    have hlk := word_look ((Wd.alloc (.cells #[.string p1, .int .i64 p2] 113)).alloc (.cells #[.string p1, .int .i64 p2, .int .i64 (t : Int), .int .i64 (k : Int)] 205)) p1 hsz
    obtain ⟨q, hln, -⟩ := pl_look' (((Nm.alloc (.cells #[.string p1, .int .i64 p2] 113)).alloc (.cells #[.string p1, .int .i64 p2, .int .i64 (t : Int), .int .i64 (k : Int)] 205)).alloc (.cells #[] 206)) p1 hsz
    obtain ⟨qn, qk, qs, qa⟩ := q
    obtain ⟨tw, htw⟩ : ∃ b, Hid ((plTo A B C (O + k)).any (fun p => decide (p.n = p1)) = b) := ⟨_, rfl⟩
    rw [htw.out] at hln
    have hlk : (Instr.lookup 199 (.map (some bw)) (.string p1) true).run Tryz.prog _ = _ := hlk
    cases hw : isW p1
    ·
     rw [hw] at hlk
     cases htw0 : tw
     ·
      rw [htw0] at hln
      cases hlet : lettersB p1
      ·
       have E : Hid (okR A B C = false) := hbad.out (fun g => by
        have := g.1
        rw [F2.out] at this
        simp [nameB, hlet] at this)
       go_wp2_with (first | (go_at_call 139; refine (lettersOk_any _ _).mono ?_; rintro e w' ⟨rfl, hb0, -⟩; rw [hlet]) | (go_at_call 140; refine (isKind_any _ _).mono ?_; rintro e w' ⟨rfl, rfl⟩; rw [hkd]))
       refine bodyPost_ret (v := .tuple #[.map none, .bool false]) (by simp [results, Tryz.results119, go_sem]) rfl ⟨fun _ => rfl, (fun h => by rw [E.out] at h; cases h), ?_⟩
       exact blq
      cases hkd : (decide (1 ≤ p2) && decide (p2 ≤ 4))
      ·
       have E : Hid (okR A B C = false) := hbad.out (fun g => by
        obtain ⟨_, a, b, _⟩ := g
        rw [F2.out] at a b
        simp at hkd
        exact absurd (hkd a) (by omega))
       go_wp2_with (first | (go_at_call 139; refine (lettersOk_any _ _).mono ?_; rintro e w' ⟨rfl, -, hpos⟩; obtain ⟨pos, rfl⟩ := hpos hlet; rw [hlet]) | (go_at_call 140; refine (isKind_any _ _).mono ?_; rintro e w' ⟨rfl, rfl⟩; rw [hkd]))
       refine bodyPost_ret (v := .tuple #[.map none, .bool false]) (by simp [results, Tryz.results119, go_sem]) rfl ⟨fun _ => rfl, (fun h => by rw [E.out] at h; cases h), ?_⟩
       exact blq
      have hgood : Hid (∀ i, i < O + k + 1 → goodAt (A ++ B ++ C) i) := by
       intro i hi
       by_cases h : i = O + k
       ·
        subst h
        unfold goodAt
        rw [F2.out]
        simp at hkd
        refine ⟨by simp [nameB, hlet, hw], hkd.1, hkd.2, fun j hj e => ?_⟩
        have : (plTo A B C (O + k)).any (fun p => decide (p.n = p1)) = true := (twice_iff A B C _ _).2 ⟨j, hj, e⟩
        rw [htw.out, htw0] at this
        cases this
       exact hall.out i (by omega)
      go_wp2_with (first | (go_at_call 139; refine (lettersOk_any _ _).mono ?_; rintro e w' ⟨rfl, -, hpos⟩; obtain ⟨pos, rfl⟩ := hpos hlet; rw [hlet]) | (go_at_call 140; refine (isKind_any _ _).mono ?_; rintro e w' ⟨rfl, rfl⟩; rw [hkd]))
      have hbb : ¬ b = bn := by
       intro e
       obtain ⟨es, clock, hb, _⟩ := Nm
       subst e
       simp [World.cell?, hb] at e1
      have N4 := ((((Nm.alloc (.cells #[.string p1, .int .i64 p2] 113)).alloc (.cells #[.string p1, .int .i64 p2, .int .i64 (t : Int), .int .i64 (k : Int)] 205)).alloc (.cells #[] 206)).alloc (.cells #[.string qn, .int .i64 qk, .int .i64 qs, .int .i64 qa] 205)).alloc (.stringIter p1 pos)
      have W4 := ((((Wd.alloc (.cells #[.string p1, .int .i64 p2] 113)).alloc (.cells #[.string p1, .int .i64 p2, .int .i64 (t : Int), .int .i64 (k : Int)] 205)).alloc (.cells #[] 206)).alloc (.cells #[.string qn, .int .i64 qk, .int .i64 qs, .int .i64 qa] 205)).alloc (.stringIter p1 pos)
      have K4 := ((((K.alloc (.cells #[.string p1, .int .i64 p2] 113)).alloc (.cells #[.string p1, .int .i64 p2, .int .i64 (t : Int), .int .i64 (k : Int)] 205)).alloc (.cells #[] 206)).alloc (.cells #[.string qn, .int .i64 qk, .int .i64 qs, .int .i64 qa] 205)).alloc (.stringIter p1 pos)
      have L4 := bl_alloc (bl_alloc (bl_alloc (bl_alloc (bl_alloc Lb (.cells #[.string p1, .int .i64 p2] 113)) (.cells #[.string p1, .int .i64 p2, .int .i64 (t : Int), .int .i64 (k : Int)] 205)) (.cells #[] 206)) (.cells #[.string qn, .int .i64 qk, .int .i64 qs, .int .i64 qa] 205)) (.stringIter p1 pos)
      have D4 := hd.later (bl_alloc (bl_alloc (bl_alloc (bl_alloc (bl_alloc (Below.refl _ wr) (.cells #[.string p1, .int .i64 p2] 113)) (.cells #[.string p1, .int .i64 p2, .int .i64 (t : Int), .int .i64 (k : Int)] 205)) (.cells #[] 206)) (.cells #[.string qn, .int .i64 qk, .int .i64 qs, .int .i64 qa] 205)) (.stringIter p1 pos))
      have hput : Hid ((plMap (plTo A B C (O + k)) (.map [])).put (wkey p1) (.held (.agg #[.string p1, .int .i64 p2, .int .i64 (t : Int), .int .i64 (k : Int)])) = plMap (plTo A B C (O + k + 1)) (.map [])) := by
       show _ = _
       rw [plTo_succ, plMap_snoc, F3.out]; rfl
      refine upon_insert 178 9 205 skeyed Tryz.underlying178 anyElem bn (O + k) _ N4 (by unfold maxLen; omega) _ _ (wkey p1) (keyOf_string_mk Tryz.underlying9 hsz) (.held (.agg #[.string p1, .int .i64 p2, .int .i64 (t : Int), .int .i64 (k : Int)])) [] rfl ?_
      intro w9 N9 hg9
      rw [hput.out] at N9
      have W9 := W4.kept hg9 (by simp; omega)
      have K9 := K4.kept hg9 (by omega)
      have D9 := D4.kept hg9 hbb
      have L9 := L4.grown hg9 L4.size (fun j hj => by simp at hj; omega)
      clear N4 W4 K4 D4 L4 hln hlk Nm Wd K hd Lb hg9 hput; go_wp2_with fail; go_roundw
      case rel => exact ⟨k + 1, by omega, by go_num, hgood, K9, W9, N9, D9, L9⟩
      case measure => simp [intOf]; omega
     rw [htw0] at hln
     have E : Hid (okR A B C = false) := hbad.out (fun g => by
      obtain ⟨_, _, _, g4⟩ := g
      obtain ⟨j, hj, e⟩ := (twice_iff A B C (O + k) p1).1 (by rw [htw.out, htw0])
      exact g4 j hj (by rw [F2.out]; exact e))
     go_wp2_with fail; refine bodyPost_ret (v := .tuple #[.map none, .bool false]) (by simp [results, Tryz.results119, go_sem]) rfl ⟨fun _ => rfl, (fun h => by rw [E.out] at h; cases h), ?_⟩
     exact blq
    rw [hw] at hlk
    have E : Hid (okR A B C = false) := hbad.out (fun g => by
     have := g.1
     rw [F2.out] at this
     simp [nameB, hw] at this)
    go_wp2_with fail; refine bodyPost_ret (v := .tuple #[.map none, .bool false]) (by simp [results, Tryz.results119, go_sem]) rfl ⟨fun _ => rfl, (fun h => by rw [E.out] at h; cases h), ?_⟩
    exact blq
   have hk' : k = P.length := by omega
   subst hk'
   have hlens' : Hid (∀ u : Nat, 1 ≤ u → u < t + 1 → (pickL A B C (u : Int)).length ≤ 12) := by
    intro u h1 h2
    by_cases h : u = t
    ·
     subst h; rw [hP.out]; exact hl12
    exact hlens.out u h1 (by omega)
   rw [← hnext.out] at hall Nm
   go_wp2_with fail; go_roundw
   case rel => exact ⟨t + 1, by omega, by omega, by go_num, hlens', hall, K, Wd, Nm, Lb⟩
   case measure => simp [intOf]; omega
  have u1 : decide ((12 : Int) < (P.length : Int)) = true := by simp; omega
  have E : Hid (okR A B C = false) := by
   have : ¬ (pickL A B C (t : Int)).length ≤ 12 := by rw [hP.out]; exact hl12
   apply okR_len
   rcases pickT t1 t3 with rfl | rfl | rfl <;> simp [pickL] at this <;> omega
  go_wp2_with fail; exact bodyPost_ret (v := .tuple #[.map none, .bool false]) (by simp [results, Tryz.results119, go_sem]) rfl ⟨fun _ => rfl, (fun h => by rw [E.out] at h; cases h), Lb⟩
 have ht : t = 4 := by omega
 subst ht
 have E : Hid (okR A B C = true) := by
  have h1 := hlens.out 1 (by omega) (by omega)
  have h2 := hlens.out 2 (by omega) (by omega)
  have h3 := hlens.out 3 (by omega) (by omega)
  have h4 : okL (A ++ B ++ C) = true := by
   unfold okL
   simp only [decide_eq_true_eq]
   intro i hi
   exact hall.out i (by rw [hL4.out]; exact hi)
  simp [pickL] at h1 h2 h3
  simp [Hid, okR, h1, h2, h3]
  simpa using h4
 have Nm' := Nm
 rw [hL4.out] at Nm'
 go_wp2_with fail; exact bodyPost_ret (v := .tuple #[.map (some bn), .bool true]) (by simp [results, Tryz.results119, go_sem]) rfl ⟨(fun h => by rw [E.out] at h; cases h), fun _ => ⟨_, _, rfl, Nm'⟩, Lb⟩
end
section
open Go.RowKit Go.Maps Go.WideMaps
theorem okR_good {A B C : List (ByteArray × Int)} (h : okR A B C = true) : (A.length ≤ 12 ∧ B.length ≤ 12 ∧ C.length ≤ 12) ∧ ∀ i, i < (A ++ B ++ C).length → goodAt (A ++ B ++ C) i := by
 simp only [okR, okL, Bool.and_eq_true, decide_eq_true_eq] at h
 exact ⟨⟨h.1.1.1, h.1.1.2, h.1.2⟩, h.2⟩
theorem one_of {A B C : List (ByteArray × Int)} (h : okR A B C = true) {i j : Nat} (hi : i < (A ++ B ++ C).length) (hj : j < (A ++ B ++ C).length) (e : (dAt (A ++ B ++ C) i).1 = (dAt (A ++ B ++ C) j).1) : i = j := by
 have g := (okR_good h).2
 rcases Nat.lt_trichotomy i j with h' | h' | h'
 ·
  exact absurd e ((g j hj).2.2.2 i h')
 ·
  exact h'
 exact absurd e.symm ((g i hi).2.2.2 j h')
def FindIs (A B C : List (ByteArray × Int)) (sort : Int) (s : ByteArray) (r : Int) : Prop :=
 (okR A B C = false → r = -1) ∧ (okR A B C = true → (∃ k : Nat, k < (pickL A B C sort).length ∧ (dAt (pickL A B C sort) k).1 = s ∧ r = k) ∨ ((∀ k, k < (pickL A B C sort).length → ¬ (dAt (pickL A B C sort) k).1 = s) ∧ r = -1))
theorem pick_nat {A B C : List (ByteArray × Int)} {sort : Int} {k : Nat} (h : k < (pickL A B C sort).length) : ∃ t : Nat, 1 ≤ t ∧ t ≤ 3 ∧ sort = t := by
 by_cases h1 : sort = 1
 ·
  exact ⟨1, by omega, by omega, h1⟩
 by_cases h2 : sort = 2
 ·
  exact ⟨2, by omega, by omega, h2⟩
 by_cases h3 : sort = 3
 ·
  exact ⟨3, by omega, by omega, h3⟩
 simp [pickL, h1, h2, h3] at h
theorem FindIs.one {A B C : List (ByteArray × Int)} {sort : Int} {s : ByteArray} {r q : Int} (h : FindIs A B C sort s r) (g : FindIs A B C sort s q) : r = q := by
 cases hk : okR A B C
 ·
  rw [h.1 hk, g.1 hk]
 rcases h.2 hk with ⟨k, k1, k2, rfl⟩ | ⟨h1, rfl⟩
 ·
  rcases g.2 hk with ⟨m, m1, m2, rfl⟩ | ⟨g1, rfl⟩
  ·
   obtain ⟨t, t1, t2, rfl⟩ := pick_nat k1
   have := one_of hk (off_lt A B C t1 t2 k1) (off_lt A B C t1 t2 m1) (by rw [dAt_off A B C t1 t2 k1, dAt_off A B C t1 t2 m1, k2, m2])
   have : k = m := by omega
   rw [this]
  exact absurd k2 (g1 k k1)
 rcases g.2 hk with ⟨m, m1, m2, rfl⟩ | ⟨g1, rfl⟩
 ·
  exact absurd m2 (h1 m m1)
 rfl
set_option maxHeartbeats 2000000 in
theorem implRegOk_any (s1 s2 s3 : Option Addr) (c1 c2 c3 : Nat) (A B C : List (ByteArray × Int)) (w : World) (hA : Decls w s1 A) (hB : Decls w s2 B) (hC : Decls w s3 C) (nm : ∀ i, i < (A ++ B ++ C).length → (dAt (A ++ B ++ C) i).1.size ≤ maxLen) (l1 : A.length ≤ 1048576) (l2 : B.length ≤ 1048576) (l3 : C.length ≤ 1048576) :
  Calls Tryz.prog 96 #[.agg #[.slice s1 A.length c1, .slice s2 B.length c2, .slice s3 C.length c3]] w fun e w' => e = .returned (.bool (okR A B C)) ∧ Below w.heap.size w w' := by
 have hal := alloc_old
 have haf := alloc_oldf
 obtain ⟨x0, x1, x2, x3⟩ := (Blk.new w #[.slice s1 A.length c1, .slice s2 B.length c2, .slice s3 C.length c3] 47).three
 cases hk : okR A B C
 ·
  go_enter Tryz.func96, Tryz.ntmps96
  go_wp2_with fail; refine (declsByName_any s1 s2 s3 c1 c2 c3 A B C _ (hA.later blq) (hB.later blq) (hC.later blq) nm l1 l2 l3).mono ?_
  rintro e w1 ⟨h1, _, hb⟩
  obtain rfl := h1 hk
  go_wp2_with fail; go_ret; exact ⟨rfl, by (repeat (first | with_reducible exact Below.refl _ _ | with_reducible refine bl_alloc ?_ _ | with_reducible refine bl_drewN ?_ _ | with_reducible refine bl_drew ?_ | with_reducible refine bl_setCell ?_ (by first | exact Nat.le_refl _ | (dsimp only; omega) | (simp <;> omega)) _ | with_reducible refine bl_trans ?_ (by with_reducible assumption)))⟩
 go_enter Tryz.func96, Tryz.ntmps96
 go_wp2_with fail; refine (declsByName_any s1 s2 s3 c1 c2 c3 A B C _ (hA.later blq) (hB.later blq) (hC.later blq) nm l1 l2 l3).mono ?_
 rintro e w1 ⟨_, h1, hb⟩
 obtain ⟨b, n, rfl, _⟩ := h1 hk
 go_wp2_with fail; go_ret; exact ⟨rfl, by (repeat (first | with_reducible exact Below.refl _ _ | with_reducible refine bl_alloc ?_ _ | with_reducible refine bl_drewN ?_ _ | with_reducible refine bl_drew ?_ | with_reducible refine bl_setCell ?_ (by first | exact Nat.le_refl _ | (dsimp only; omega) | (simp <;> omega)) _ | with_reducible refine bl_trans ?_ (by with_reducible assumption)))⟩
end
section
open Go.RowKit Go.Maps Go.WideMaps
def Dc (w : World) (s : Option Addr) (L : List (ByteArray × Int)) : Prop := Decls w s L ∧ Nms L ∧ L.length ≤ maxLen
theorem nms3 {A B C : List (ByteArray × Int)} (a : Nms A) (b : Nms B) (c : Nms C) : ∀ i, i < (A ++ B ++ C).length → (dAt (A ++ B ++ C) i).1.size ≤ maxLen := by
 intro i hi
 have := dAt_mem hi
 rw [List.mem_append, List.mem_append] at this
 rcases this with (h | h) | h
 ·
  exact a _ h
 ·
  exact b _ h
 exact c _ h
end
end Go.Proofs.YtbgeobpdojmdaaaGreat
