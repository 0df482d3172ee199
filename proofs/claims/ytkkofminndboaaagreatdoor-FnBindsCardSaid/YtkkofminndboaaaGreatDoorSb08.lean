import Derived.Test.YtkkofminndboaaaGreatDoorSb07
namespace Go.Proofs.YtkkofminndboaaaGreatDoor
set_option linter.unusedVariables false
set_option linter.unusedSimpArgs false
section
open Go.RowKit
set_option maxRecDepth 100000
def srch (s : ByteArray) : List ByteArray → Int → Int
 | [], _ => 0
 | t :: L, q => if t = s then q else srch s L (q + 1)
def ktx : List ByteArray := [nil, bInt, bReal, bPair, bBool]
def otx : List ByteArray := [nil, bPlus, bMinus, bStar, bSlash, bPerc, bLess, bSame, bAnd, bOr]
def utx : List ByteArray := [nil, bMinus, bNot, bRe, bIm, bReal, bSize]
theorem kind_srch (s : ByteArray) : kindOf s = srch s (ktx.drop 1) 1 := by
 simp only [kindOf, ktx, List.drop, srch, eq_comm (a := s)]
 rfl
theorem op_srch (s : ByteArray) : opOf s = srch s (otx.drop 1) 1 := by
 simp only [opOf, otx, List.drop, srch, eq_comm (a := s)]
 rfl
theorem turn_srch (s : ByteArray) : turnOf s = srch s (utx.drop 1) 1 := by
 simp only [turnOf, utx, List.drop, srch, eq_comm (a := s)]
 rfl
def TxT (w : World) (b : Nat) (L : List ByteArray) : Prop := ∀ j t, L[j]? = some t → w.cell? ⟨b, j, none⟩ = some (.string t)
theorem TxT.later {w w' : World} {b : Nat} {L : List ByteArray} (h : TxT w b L) (hb : Below w.heap.size w w') : TxT w' b L := fun j t hj => (hb.cell (p := ⟨b, j, none⟩) (World.block_lt_of_cell? _ _ (h j t hj))).trans (h j t hj)
theorem TxT.rs {X W : World} {B b : Nat} {R : List OR} {L : List ByteArray} (h : TxT X b L) (hR : Rs X B W R) (hb : b < B) : TxT W b L := by
 intro j t hj
 rw [World.cell?_of_block (w := X) (hR.l.block b hb)]
 exact h j t hj
structure Laid (w : World) : Prop where
 k : TxT w 1 ktx
 o : TxT w 4 otx
 u : TxT w 5 utx
theorem Laid.later {w w' : World} (h : Laid w) (hb : Below w.heap.size w w') : Laid w' := ⟨h.k.later hb, h.o.later hb, h.u.later hb⟩
theorem Laid.rs {X W : World} {B : Nat} {R : List OR} (h : Laid X) (hR : Rs X B W R) (hb : 9 ≤ B) : Laid W := ⟨h.k.rs hR (by omega), h.o.rs hR (by omega), h.u.rs hR (by omega)⟩
set_option maxHeartbeats 2000000 in
theorem kindNamed_any (s : ByteArray) (w : World) (hL : Laid w) :
  Calls Tryz.prog 59 #[.string s] w fun e w' => e = .returned (.int .i64 (kindOf s)) ∧ w' = w := by
 have HL := hid hL.k
 clear hL; rw [kind_srch]
 obtain ⟨res, hres⟩ : ∃ r, Hid (srch s (ktx.drop 1) 1 = r) := ⟨_, rfl⟩
 rw [hres.out]
 go_enter Tryz.func59, Tryz.ntmps59
 go_wp2_with fail; go_loop [3] (fun i => ∃ q : Nat, 1 ≤ q ∧ q ≤ 5 ∧ i = .int .i64 q ∧ Hid (srch s (ktx.drop q) q = res)) (fun i => 5 - (intOf i).toNat)
 case atStart => exact ⟨1, Nat.le_refl _, by omega, rfl, hres⟩
 obtain ⟨q, h1, h2, rfl, hq⟩ := hrel
 by_cases hlt : q ≤ 4
 ·
  have d1 : decide ((q : Int) ≤ 4) = true := by simp; omega
  have hlt' : (q : Int) < 5 := by omega
  obtain ⟨t, ht⟩ : ∃ t, ktx[q]? = some t := ⟨_, List.getElem?_eq_getElem (show q < ktx.length by show q < 5; omega)⟩
  have c0 := HL.out q t ht
  have hd : ktx.drop q = t :: ktx.drop (q + 1) := by
   obtain ⟨hq1, hq2⟩ := List.getElem?_eq_some_iff.1 ht
   rw [← hq2]
   exact List.drop_eq_getElem_cons hq1
  have hs := hq.out
  rw [hd] at hs
  by_cases he : t = s
  ·
   have hr : res = (q : Int) := by rw [← hs]; simp [srch, he]
   have hne := str_yes he
   clear he hs hd ht; go_wp2_with fail; go_ret; exact ⟨by first | rfl | (rw [hr]; rfl), rfl⟩
  have hr : Hid (srch s (ktx.drop (q + 1)) ((q + 1 : Nat) : Int) = res) := by show _ = _; rw [← hs]; simp [srch, he]
  have hne := str_no he
  clear he hs hd ht; go_wp2_with fail; go_round
  case rel => exact ⟨q + 1, by omega, by omega, by go_num, hr⟩
  case measure => simp [intOf]; omega
 have hq5 : q = 5 := by omega
 subst hq5
 have hr : res = 0 := by rw [← hq.out]; rfl
 go_wp2_with fail; go_ret; exact ⟨by first | rfl | (rw [hr]; rfl), rfl⟩
set_option maxHeartbeats 2000000 in
theorem opNamed_any (s : ByteArray) (w : World) (hL : Laid w) :
  Calls Tryz.prog 85 #[.string s] w fun e w' => e = .returned (.int .i64 (opOf s)) ∧ w' = w := by
 have HL := hid hL.o
 clear hL; rw [op_srch]
 obtain ⟨res, hres⟩ : ∃ r, Hid (srch s (otx.drop 1) 1 = r) := ⟨_, rfl⟩
 rw [hres.out]
 go_enter Tryz.func85, Tryz.ntmps85
 go_wp2_with fail; go_loop [3] (fun i => ∃ q : Nat, 1 ≤ q ∧ q ≤ 10 ∧ i = .int .i64 q ∧ Hid (srch s (otx.drop q) q = res)) (fun i => 10 - (intOf i).toNat)
 case atStart => exact ⟨1, Nat.le_refl _, by omega, rfl, hres⟩
 obtain ⟨q, h1, h2, rfl, hq⟩ := hrel
 by_cases hlt : q ≤ 9
 ·
  have d1 : decide ((q : Int) ≤ 9) = true := by simp; omega
  have hlt' : (q : Int) < 10 := by omega
  obtain ⟨t, ht⟩ : ∃ t, otx[q]? = some t := ⟨_, List.getElem?_eq_getElem (show q < otx.length by show q < 10; omega)⟩
  have c0 := HL.out q t ht
  have hd : otx.drop q = t :: otx.drop (q + 1) := by
   obtain ⟨hq1, hq2⟩ := List.getElem?_eq_some_iff.1 ht
   rw [← hq2]
   exact List.drop_eq_getElem_cons hq1
  have hs := hq.out
  rw [hd] at hs
  by_cases he : t = s
  ·
   have hr : res = (q : Int) := by rw [← hs]; simp [srch, he]
   have hne := str_yes he
   clear he hs hd ht; go_wp2_with fail; go_ret; exact ⟨by first | rfl | (rw [hr]; rfl), rfl⟩
  have hr : Hid (srch s (otx.drop (q + 1)) ((q + 1 : Nat) : Int) = res) := by show _ = _; rw [← hs]; simp [srch, he]
  have hne := str_no he
  clear he hs hd ht; go_wp2_with fail; go_round
  case rel => exact ⟨q + 1, by omega, by omega, by go_num, hr⟩
  case measure => simp [intOf]; omega
 have hq5 : q = 10 := by omega
 subst hq5
 have hr : res = 0 := by rw [← hq.out]; rfl
 go_wp2_with fail; go_ret; exact ⟨by first | rfl | (rw [hr]; rfl), rfl⟩
set_option maxHeartbeats 2000000 in
theorem turnNamed_any (s : ByteArray) (w : World) (hL : Laid w) :
  Calls Tryz.prog 92 #[.string s] w fun e w' => e = .returned (.int .i64 (turnOf s)) ∧ w' = w := by
 have HL := hid hL.u
 clear hL; rw [turn_srch]
 obtain ⟨res, hres⟩ : ∃ r, Hid (srch s (utx.drop 1) 1 = r) := ⟨_, rfl⟩
 rw [hres.out]
 go_enter Tryz.func92, Tryz.ntmps92
 go_wp2_with fail; go_loop [3] (fun i => ∃ q : Nat, 1 ≤ q ∧ q ≤ 7 ∧ i = .int .i64 q ∧ Hid (srch s (utx.drop q) q = res)) (fun i => 7 - (intOf i).toNat)
 case atStart => exact ⟨1, Nat.le_refl _, by omega, rfl, hres⟩
 obtain ⟨q, h1, h2, rfl, hq⟩ := hrel
 by_cases hlt : q ≤ 6
 ·
  have d1 : decide ((q : Int) ≤ 6) = true := by simp; omega
  have hlt' : (q : Int) < 7 := by omega
  obtain ⟨t, ht⟩ : ∃ t, utx[q]? = some t := ⟨_, List.getElem?_eq_getElem (show q < utx.length by show q < 7; omega)⟩
  have c0 := HL.out q t ht
  have hd : utx.drop q = t :: utx.drop (q + 1) := by
   obtain ⟨hq1, hq2⟩ := List.getElem?_eq_some_iff.1 ht
   rw [← hq2]
   exact List.drop_eq_getElem_cons hq1
  have hs := hq.out
  rw [hd] at hs
  by_cases he : t = s
  ·
   have hr : res = (q : Int) := by rw [← hs]; simp [srch, he]
   have hne := str_yes he
   clear he hs hd ht; go_wp2_with fail; go_ret; exact ⟨by first | rfl | (rw [hr]; rfl), rfl⟩
  have hr : Hid (srch s (utx.drop (q + 1)) ((q + 1 : Nat) : Int) = res) := by show _ = _; rw [← hs]; simp [srch, he]
  have hne := str_no he
  clear he hs hd ht; go_wp2_with fail; go_round
  case rel => exact ⟨q + 1, by omega, by omega, by go_num, hr⟩
  case measure => simp [intOf]; omega
 have hq5 : q = 7 := by omega
 subst hq5
 have hr : res = 0 := by rw [← hq.out]; rfl
 go_wp2_with fail; go_ret; exact ⟨by first | rfl | (rw [hr]; rfl), rfl⟩
set_option maxHeartbeats 2000000 in
theorem levelOf_any (op : Int) (w : World) :
  Calls Tryz.prog 84 #[.int .i64 op] w fun e w' => e = .returned (.int .i64 (levOf op : Int)) ∧ w' = w := by
 have L : levOf op = if op = 3 ∨ op = 4 ∨ op = 5 then 5 else if op = 1 ∨ op = 2 then 4 else if op = 6 ∨ op = 7 then 3 else if op = 8 then 2 else if op = 9 then 1 else 0 := rfl
 by_cases h3 : op = 3
 ·
  subst h3; go_enter Tryz.func84, Tryz.ntmps84; go_wp2_with fail; go_ret; exact ⟨rfl, rfl⟩
 by_cases h4 : op = 4
 ·
  subst h4; go_enter Tryz.func84, Tryz.ntmps84; go_wp2_with fail; go_ret; exact ⟨rfl, rfl⟩
 by_cases h5 : op = 5
 ·
  subst h5; go_enter Tryz.func84, Tryz.ntmps84; go_wp2_with fail; go_ret; exact ⟨rfl, rfl⟩
 by_cases h1 : op = 1
 ·
  subst h1; go_enter Tryz.func84, Tryz.ntmps84; go_wp2_with fail; go_ret; exact ⟨rfl, rfl⟩
 by_cases h2 : op = 2
 ·
  subst h2; go_enter Tryz.func84, Tryz.ntmps84; go_wp2_with fail; go_ret; exact ⟨rfl, rfl⟩
 by_cases h6 : op = 6
 ·
  subst h6; go_enter Tryz.func84, Tryz.ntmps84; go_wp2_with fail; go_ret; exact ⟨rfl, rfl⟩
 by_cases h7 : op = 7
 ·
  subst h7; go_enter Tryz.func84, Tryz.ntmps84; go_wp2_with fail; go_ret; exact ⟨rfl, rfl⟩
 by_cases h8 : op = 8
 ·
  subst h8; go_enter Tryz.func84, Tryz.ntmps84; go_wp2_with fail; go_ret; exact ⟨rfl, rfl⟩
 by_cases h9 : op = 9
 ·
  subst h9; go_enter Tryz.func84, Tryz.ntmps84; go_wp2_with fail; go_ret; exact ⟨rfl, rfl⟩
 have e1 : (op == 1) = false := by simpa using h1
 have e2 : (op == 2) = false := by simpa using h2
 have e3 : (op == 3) = false := by simpa using h3
 have e4 : (op == 4) = false := by simpa using h4
 have e5 : (op == 5) = false := by simpa using h5
 have e6 : (op == 6) = false := by simpa using h6
 have e7 : (op == 7) = false := by simpa using h7
 have e8 : (op == 8) = false := by simpa using h8
 have e9 : (op == 9) = false := by simpa using h9
 have hz : levOf op = 0 := by rw [L]; simp [h1, h2, h3, h4, h5, h6, h7, h8, h9]
 rw [hz]
 clear hz L h1 h2 h3 h4 h5 h6 h7 h8 h9; go_enter Tryz.func84, Tryz.ntmps84
 go_wp2_with fail; go_ret; exact ⟨rfl, rfl⟩
end
section
open Go.RowKit
def Mo (r' r : PRes) : Prop := (∀ a, ¬ r = .error (99, a)) → r' = r
theorem mo_rfl {r : PRes} : Mo r r := fun _ => rfl
theorem mo_if {c : Prop} [Decidable c] {a a' b b' : PRes} (ha : Mo a' a) (hb : Mo b' b) : Mo (if c then a' else b') (if c then a else b) := by
 unfold Mo
 split
 ·
  exact ha
 exact hb
theorem mo_then {r r' : PRes} {k k' : List Int → Nat → List Nd → PRes} (h : Mo r' r) (hk : ∀ x j N, Mo (k' x j N) (k x j N)) : Mo (r'.then k') (r.then k) := by
 intro hn
 cases r with
 | error e =>
  have : r' = .error e := h (fun a ha => by
   apply hn a
   show PRes.then (.error e) k = _
   unfold PRes.then
   exact ha)
  rw [this]; rfl
 | ok y =>
  obtain ⟨x, j, N⟩ := y
  have : r' = .ok (x, j, N) := h (fun a ha => by cases ha)
  rw [this]
  exact hk x j N hn
theorem mo_want {T : List Tk} {E : Int} {s : ByteArray} {i : Nat} {k k' : Nat → PRes} (h : ∀ j, Mo (k' j) (k j)) : Mo (pWant T E s i k') (pWant T E s i k) := mo_if (h _) mo_rfl
theorem mo_name {T : List Tk} {E : Int} {i : Nat} {k k' : ByteArray → Nat → PRes} (h : ∀ s j, Mo (k' s j) (k s j)) : Mo (pName T E i k') (pName T E i k) := mo_if (h _ _) mo_rfl
theorem mo_kind {T : List Tk} {E : Int} {i : Nat} {k k' : Int → Nat → PRes} (h : ∀ q j, Mo (k' q j) (k q j)) : Mo (pKind T E i k') (pKind T E i k) := mo_if mo_rfl (h _ _)
def stp1 (T : List Tk) (E : Int) (F : Pf → Nat → List Nd → PRes) : Pf → Nat → List Nd → PRes
 | .expr d, i, N => if d = 40 ∧ i < T.length then .error (3, ta T E i) else F (.lvl (d + 1) 1) i N
 | .lvl d l, i, N => if 6 ≤ l then F (.prim d) i N else (F (.lvl d (l + 1)) i N).then fun x i N => F (.loop d l (x.headD 0)) i N
 | .loop d l a, i, N =>
  if levOf (opOf (tx T i)) = l then
   (F (.lvl d (l + 1)) (i + 1) N).then fun x i2 N =>
    if l = 3 then pNode (nd 8 nil (opOf (tx T i)) [a, x.headD 0]) i2 N
    else (pNode (nd 8 nil (opOf (tx T i)) [a, x.headD 0]) i2 N).then fun y i3 N => F (.loop d l (y.headD 0)) i3 N
  else .ok ([a], i, N)
 | .prim d, i, N =>
  if kd T i = 3 then pNode (nd 1 nil (ti T i) []) (i + 1) N
  else if kd T i = 4 then pNode (nd 2 (tx T i) 0 []) (i + 1) N
  else if kd T i = 1 then
   (if tx T (i + 1) = bLp then (F (.listed 0 d) (i + 1) N).then fun x j N => pNode (nd 7 (tx T i) 0 x) j N
   else pNode (nd 4 (tx T i) 0 []) (i + 1) N)
  else if tx T i = bYes then pNode (nd 3 nil 1 []) (i + 1) N
  else if tx T i = bNo then pNode (nd 3 nil 0 []) (i + 1) N
  else if tx T i = bDot then pName T E (i + 1) fun s j => pNode (nd 5 s 0 []) j N
  else if tx T i = bDol then pName T E (i + 1) fun s j => pNode (nd 6 s 0 []) j N
  else if tx T i = bLp then (F (.expr d) (i + 1) N).then fun x j N => pWant T E bRp j fun j => .ok (x, j, N)
  else if tx T i = bMinus ∨ tx T i = bNot then
   (if d = 40 then .error (3, ta T E i) else (F (.prim (d + 1)) (i + 1) N).then fun x j N => pNode (nd 9 nil (turnOf (tx T i)) [x.headD 0]) j N)
  else if tx T i = bRe ∨ tx T i = bIm ∨ tx T i = bReal ∨ tx T i = bSize then
   pWant T E bLp (i + 1) fun j => (F (.expr d) j N).then fun x j N => pWant T E bRp j fun j => pNode (nd 9 nil (turnOf (tx T i)) [x.headD 0]) j N
  else if tx T i = bPair then
   pWant T E bLp (i + 1) fun j => (F (.expr d) j N).then fun x j N => pWant T E bComma j fun j => (F (.expr d) j N).then fun y j N => pWant T E bRp j fun j => pNode (nd 10 nil 0 [x.headD 0, y.headD 0]) j N
  else if tx T i = bPick then
   pWant T E bLp (i + 1) fun j => (F (.expr d) j N).then fun x j N => pWant T E bOf j fun j => (F (.items 1 d []) j N).then fun y j N => pWant T E bRp j fun j => pNode (nd 11 nil 0 (x.headD 0 :: y)) j N
  else .error (2, ta T E i)
 | .listed k d, i, N => pWant T E bLp i fun j => if tx T j = bRp then .ok ([], j + 1, N) else (F (.items k d []) j N).then fun x j N => pWant T E bRp j fun j => .ok (x, j, N)
 | .items k d acc, i, N => (F (.item k d) i N).then fun x j N => if tx T j = bComma then F (.items k d (acc ++ [x.headD 0])) (j + 1) N else .ok (acc ++ [x.headD 0], j, N)
 | .item k d, i, N =>
  if k = 0 then F (.expr d) i N
  else if k = 1 then pName T E i fun s j => pNode (nd 31 s 0 []) j N
  else if k = 2 then pName T E i fun s j => pWant T E bEq j fun j => (F (.expr d) j N).then fun x j N => pNode (nd 28 s 0 [x.headD 0]) j N
  else pName T E i fun s j => pKind T E j fun q j => pNode (nd 32 s q []) j N
 | .block d, i, N => if d = 40 ∧ i < T.length then .error (3, ta T E i) else pWant T E bLb i fun j => (F (.stmts (d + 1) []) j N).then fun x j N => pNode (nd 27 nil 0 x) j N
 | .stmts d acc, i, N => if tx T i = bRb then .ok (acc, i + 1, N) else (F (.stmt d) i N).then fun x j N => F (.stmts d (acc ++ [x.headD 0])) j N
 | .stmt d, i, N =>
  let put := fun (kind : Int) (i : Nat) => pName T E i fun s j => pWant T E bEq j fun j => (F (.expr d) j N).then fun x j N => pWant T E bSemi j fun j => pNode (nd kind s 0 [x.headD 0]) j N
  if kd T i = 1 then put 13 i
  else if tx T i = bLet then put 12 (i + 1)
  else if tx T i = bDot then put 14 (i + 1)
  else if tx T i = bDol then put 15 (i + 1)
  else if tx T i = bPut then put 23 (i + 1)
  else if tx T i = bIf then (F (.expr d) (i + 1) N).then fun x j N => (F (.block d) j N).then fun y j N =>
   (if tx T j = bElse then (F (.block d) (j + 1) N).then fun z j N => pNode (nd 16 nil 0 [x.headD 0, y.headD 0, z.headD 0]) j N else pNode (nd 16 nil 0 [x.headD 0, y.headD 0]) j N)
  else if tx T i = bLoop then (F (.expr d) (i + 1) N).then fun x j N => (F (.block d) j N).then fun y j N => pNode (nd 17 nil 0 [x.headD 0, y.headD 0]) j N
  else if tx T i = bEach then pWant T E bWith (i + 1) fun j => (F (.items 1 d []) j N).then fun x j N => (pNode (nd 29 nil 0 x) j N).then fun a j N =>
   (if tx T j = bWithout then F (.items 1 d []) (j + 1) N else .ok ([], j, N)).then fun y j N => (pNode (nd 30 nil 0 y) j N).then fun b j N => (F (.block d) j N).then fun c j N => pNode (nd 18 nil 0 [a.headD 0, b.headD 0, c.headD 0]) j N
  else if tx T i = bEmit then pName T E (i + 1) fun s j => (F (.expr d) j N).then fun x j N => pWant T E bSemi j fun j => pNode (nd 19 s 0 [x.headD 0]) j N
  else if tx T i = bHear then pName T E (i + 1) fun s j => pWant T E bAs j fun j => pName T E j fun v j => (pNode (nd 31 v 0 []) j N).then fun x j N => (F (.block d) j N).then fun y j N => pNode (nd 20 s 0 [x.headD 0, y.headD 0]) j N
  else if tx T i = bSpawn then (F (.listed 2 d) (i + 1) N).then fun x j N => pWant T E bSemi j fun j => pNode (nd 21 nil 0 x) j N
  else if tx T i = bKill then pWant T E bSemi (i + 1) fun j => pNode (nd 22 nil 0 []) j N
  else if tx T i = bDrop then pName T E (i + 1) fun s j => pWant T E bSemi j fun j => pNode (nd 24 s 0 []) j N
  else if tx T i = bDo then pName T E (i + 1) fun s j => (F (.listed 0 d) j N).then fun x j N => (pNode (nd 7 s 0 x) j N).then fun y j N => pWant T E bSemi j fun j => pNode (nd 25 nil 0 [y.headD 0]) j N
  else if tx T i = bReturn then (F (.expr d) (i + 1) N).then fun x j N => pWant T E bSemi j fun j => pNode (nd 26 nil 0 [x.headD 0]) j N
  else .error (2, ta T E i)
 | .top, i, N =>
  if tx T i = bFn then pName T E (i + 1) fun s j => (F (.listed 3 0) j N).then fun x j N => pKind T E j fun q j => (F (.block 0) j N).then fun y j N => pNode (nd 33 s q (x ++ [y.headD 0])) j N
  else if tx T i = bSystem then pName T E (i + 1) fun s j => (F (.block 0) j N).then fun y j N => pNode (nd 34 s 0 [y.headD 0]) j N
  else .error (2, ta T E i)
 | .tops acc, i, N => if T.length ≤ i then .ok (acc, i, N) else (F .top i N).then fun x j N => F (.tops (acc ++ [x.headD 0])) j N
theorem par_step (T : List Tk) (E : Int) (f : Nat) (p : Pf) (i : Nat) (N : List Nd) : par T E (f + 1) p i N = stp1 T E (par T E f) p i N := by
 cases p <;> rfl
theorem stp_mo {T : List Tk} {E : Int} {F G : Pf → Nat → List Nd → PRes} (h : ∀ p i N, Mo (F p i N) (G p i N)) (p : Pf) (i : Nat) (N : List Nd) : Mo (stp1 T E F p i N) (stp1 T E G p i N) := by
 cases p <;> unfold stp1 <;> (try dsimp only) <;> repeat' (first
  | with_reducible exact mo_rfl
  | exact h _ _ _
  | with_reducible refine mo_want (fun _ => ?_)
  | with_reducible refine mo_name (fun _ _ => ?_)
  | with_reducible refine mo_kind (fun _ _ => ?_)
  | with_reducible refine mo_then ?_ (fun _ _ _ => ?_)
  | with_reducible refine mo_if ?_ ?_)
theorem par_more (T : List Tk) (E : Int) : ∀ (f : Nat) (p : Pf) (i : Nat) (N : List Nd), Mo (par T E (f + 1) p i N) (par T E f p i N)
 | 0, p, i, N => fun h => absurd rfl (h 0)
 | f + 1, p, i, N => by
  rw [par_step T E (f + 1), par_step T E f]
  exact stp_mo (par_more T E f) p i N
def PAR (T : List Tk) (E : Int) (p : Pf) (i : Nat) (N : List Nd) : PRes := par T E (12 * T.length + 20) p i N
theorem PAR_good {T : List Tk} {E : Int} {p : Pf} {i : Nat} {N : List Nd} (hw : p.wf) (hi : i ≤ T.length) : Gd2 T (p.lo i) i N.length (PAR T E p i N) := by
 refine par_good T E _ p i N hw hi ?_
 have h1 : p.rank ≤ 20 := by cases p <;> simp [Pf.rank] <;> omega
 unfold Pf.need
 omega
theorem PAR_eq {T : List Tk} {E : Int} {p : Pf} {i : Nat} {N : List Nd} (hw : p.wf) (hi : i ≤ T.length) : PAR T E p i N = stp1 T E (PAR T E) p i N := by
 have h1 : par T E (12 * T.length + 20 + 1) p i N = PAR T E p i N := by
  refine par_more T E _ p i N fun a ha => ?_
  have := PAR_good (T := T) (E := E) (N := N) hw hi
  unfold PAR at this
  rw [ha] at this
  exact this rfl
 rw [← h1, par_step]
 rfl
end
section
open Go.RowKit
set_option maxRecDepth 100000
structure Env (T : List Tk) (E : Int) (X : World) (B g : Nat) : Prop where
 t : Tks X g (wEnd T E)
 g : g < B
 l : T.length ≤ 4000
 b : 9 ≤ B
 y : Laid X
 z : ∀ i, i < T.length → ¬ kd T i = 0
def Ok1 (T : List Tk) (X : World) (B k g cp d : Nat) (P : List OR) (r : PRes) (e : Ending) (w' : World) : Prop :=
 match r with
 | .ok (x, j, M) => e = .returned (.int .i64 (x.headD 0)) ∧ ∃ v Q, Q.map (·.1) = M ∧ Rs X B w' (rR k g (T.length + 1) cp j d v Q P)
 | .error (c, a) => e = .panicked [{ v := .iface 51 (.agg #[.int .i64 c, .int .i64 a]), recovered := false }] ∧ Dead X B w' P
theorem Rs.none {X W : World} {B : Nat} (P S : List OR) (h : Rs X B W (P ++ S)) : Rs X B W (P ++ rI (.slice none 0 0) [] :: S) :=
 h.ins P S (Below.refl _ _) (World.ownsRow_nil _ _ _ _)
theorem rR_none {X w : World} {B k g n cp i d : Nat} {v : Value} {Q : List NK} {P : List OR} (h : Rs X B w (rR k g n cp i d v Q P)) : Rs X B w (rR k g n cp i d v Q (rI (.slice none 0 0) [] :: P)) :=
 h.none (rB k 55 [.slice (some ⟨g, 0, none⟩) n cp, .int .i64 i, .int .i64 d, v] :: rN v Q :: rK Q) P
set_option maxHeartbeats 4000000 in
theorem kind_ok (T : List Tk) (E : Int) (k g cp i d : Nat) (v : Value) (Q : List NK) (P : List OR) (X : World) (B : Nat) (w : World) (EV : Env T E X B g) (hR : Rs X B w (rR k g (T.length + 1) cp i d v Q P)) (hi : i ≤ T.length) (hq : Q.length ≤ 2 * i) (hs : ¬ kindOf (tx T i) = 0) :
  Calls Tryz.prog 43 #[.pointer (some ⟨k, 0, none⟩)] w fun e w' => e = .returned (.int .i64 (kindOf (tx T i))) ∧ Rs X B w' (rR k g (T.length + 1) cp (i + 1) d v Q P) := by
 have hal := alloc_old
 have haf := alloc_oldf
 have h0 := hid hR
 clear hR; obtain ⟨q, hq'⟩ : ∃ q, Hid (kindOf (tx T i) = q) := ⟨_, rfl⟩
 rw [hq'.out] at hs ⊢
 have hne : (q == 0) = false := by simpa using hs
 clear hs; go_enter Tryz.func43, Tryz.ntmps43
 go_wp2_with fail; refine (next_any T E k g cp i d v Q P X B _ h0.out EV.t EV.g hi EV.l).mono ?_
 rintro e w1 ⟨⟨x, rfl⟩, r1⟩
 have h1 := hid (r1.later (bl_alloc (Below.refl _ _) (.cells #[.int .i64 (kd T i), .int .i64 (ta T E i), .string (tx T i), .int .i64 (ti T i), .float .f64 x] 38)))
 clear h0 r1; go_wp2_with fail; refine (kindNamed_any (tx T i) _ (EV.y.rs h1.out EV.b)).mono ?_
 rintro e w2 ⟨rfl, hw⟩
 subst hw
 rw [hq'.out]
 go_wp2_with fail; go_ret; exact ⟨rfl, h1.out⟩
set_option maxHeartbeats 4000000 in
theorem kind_bad (T : List Tk) (E : Int) (k g cp i d : Nat) (v : Value) (Q : List NK) (P : List OR) (X : World) (B : Nat) (w : World) (EV : Env T E X B g) (hR : Rs X B w (rR k g (T.length + 1) cp i d v Q P)) (hi : i ≤ T.length) (hq : Q.length ≤ 2 * i) (hs : kindOf (tx T i) = 0) :
  Calls Tryz.prog 43 #[.pointer (some ⟨k, 0, none⟩)] w fun e w' => e = .panicked [{ v := .iface 51 (.agg #[.int .i64 2, .int .i64 (ta T E i)]), recovered := false }] ∧ Dead X B w' P := by
 have hal := alloc_old
 have haf := alloc_oldf
 have h0 := hid hR
 clear hR; have HS := hid hs
 clear hs; go_enter Tryz.func43, Tryz.ntmps43
 go_wp2_with fail; refine (next_any T E k g cp i d v Q P X B _ h0.out EV.t EV.g hi EV.l).mono ?_
 rintro e w1 ⟨⟨x, rfl⟩, r1⟩
 have h1 := hid (r1.later (bl_alloc (Below.refl _ _) (.cells #[.int .i64 (kd T i), .int .i64 (ta T E i), .string (tx T i), .int .i64 (ti T i), .float .f64 x] 38)))
 clear h0 r1; go_wp2_with fail; refine (kindNamed_any (tx T i) _ (EV.y.rs h1.out EV.b)).mono ?_
 rintro e w2 ⟨rfl, hw⟩
 subst hw
 rw [HS.out]
 go_wp2_with fail; exact ⟨rfl, rfl, h1.out.dead⟩
set_option maxHeartbeats 4000000 in
theorem nameNode_any (T : List Tk) (E : Int) (k g cp i d : Nat) (v : Value) (Q : List NK) (P : List OR) (X : World) (B : Nat) (w : World) (EV : Env T E X B g) (hR : Rs X B w (rR k g (T.length + 1) cp i d v Q P)) (hi : i ≤ T.length) (hq : Q.length ≤ 2 * i) :
  Calls Tryz.prog 75 #[.pointer (some ⟨k, 0, none⟩)] w (Ok1 T X B k g cp d P (PAR T E (.item 1 d) i (Q.map (·.1)))) := by
 rw [PAR_eq (p := .item 1 d) trivial hi]
 show Calls _ _ _ _ (Ok1 T X B k g cp d P (pName T E i fun s j => pNode (nd 31 s 0 []) j (Q.map (·.1))))
 have hal := alloc_old
 have haf := alloc_oldf
 have h0 := hid hR
 clear hR; by_cases hs : kd T i = 1
 ·
  have hlt := kd_lt hs (by decide)
  have hl := EV.l
  have hp : Hid (pName T E i (fun s j => pNode (nd 31 s 0 []) j (Q.map (·.1))) = .ok ([(Q.length : Int)], i + 1, Q.map (·.1) ++ [nd 31 (tx T i) 0 []])) := by
   show _ = _
   unfold pName pNode
   rw [if_pos hs, List.length_map]
  rw [hp.out]
  go_enter Tryz.func75, Tryz.ntmps75
  go_wp2_with fail; refine (name_ok T E k g cp i d v Q P X B _ h0.out EV.t EV.g hi EV.l hs).mono ?_
  rintro e w1 ⟨rfl, r1⟩
  have h1 := hid (rR_none r1)
  clear h0 r1 hs; go_wp2_with fail; refine (add_any T E k g cp (i + 1) d v Q P X B 31 0 (tx T i) [] none 0 _ h1.out (by omega)).mono ?_
  rintro e w2 ⟨rfl, v2, r2⟩
  go_wp2_with fail; go_ret; exact ⟨rfl, v2, Q ++ [(nd 31 (tx T i) 0 [], .slice none 0 0)], by simp, r2⟩
 have hp : Hid (pName T E i (fun s j => pNode (nd 31 s 0 []) j (Q.map (·.1))) = .error (2, ta T E i)) := by
  show _ = _
  unfold pName
  rw [if_neg hs]
 rw [hp.out]
 go_enter Tryz.func75, Tryz.ntmps75
 go_wp2_with fail; refine (name_bad T E k g cp i d v Q P X B _ h0.out EV.t EV.g hi EV.l hs).mono ?_
 rintro e w1 ⟨rfl, r1⟩
 go_wp2_with fail; exact ⟨rfl, rfl, r1⟩
end
end Go.Proofs.YtkkofminndboaaaGreatDoor
