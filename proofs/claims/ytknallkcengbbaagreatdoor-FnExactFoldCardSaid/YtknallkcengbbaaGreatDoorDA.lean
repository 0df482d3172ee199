import Derived.Test.YtknallkcengbbaaGreatDoorOi
import Derived.Lib.ItoaNum
import Derived.Lib.ItoaLen
import Derived.Test.YtknallkcengbbaaGreatDoorWX1
import Derived.Test.YtknallkcengbbaaGreatDoorQe
import Derived.Test.YtknallkcengbbaaGreatDoorJX
import Derived.Laws.BytesString
import Derived.Laws.BytesArg
import Derived.Deep.RegionHeld3
import Derived.Lib.SmallJoins
import Derived.Maps.AppendAt
import Derived.Deep.AppendLies
import Derived.Great.BuildSlice
import Derived.Shelf.Strconv.Clone
import Derived.Laws.CopyOwn
import Derived.Test.YtknallkcengbbaaGreatDoorOm
namespace Go.Proofs.YtknallkcengbbaaGreatDoor
open Go.RowKit
set_option linter.unusedVariables false
set_option linter.unusedSimpArgs false

/-! Printing, in logic: the tokens of a node. -/
def bLp : ByteArray := ⟨#[40]⟩
def bRp : ByteArray := ⟨#[41]⟩
def bComma : ByteArray := ⟨#[44]⟩
def bSemi : ByteArray := ⟨#[59]⟩
def bEq : ByteArray := ⟨#[61]⟩
def bLb : ByteArray := ⟨#[123]⟩
def bRb : ByteArray := ⟨#[125]⟩
def bDot : ByteArray := ⟨#[46]⟩
def bDol : ByteArray := ⟨#[36]⟩
def bMinus : ByteArray := ⟨#[45]⟩
def bPlus : ByteArray := ⟨#[43]⟩
def bStar : ByteArray := ⟨#[42]⟩
def bSlash : ByteArray := ⟨#[47]⟩
def bPerc : ByteArray := ⟨#[37]⟩
def bLess : ByteArray := ⟨#[60]⟩
def bSame : ByteArray := ⟨#[61, 61]⟩
def bAnd : ByteArray := ⟨#[97, 110, 100]⟩
def bOr : ByteArray := ⟨#[111, 114]⟩
def bNot : ByteArray := ⟨#[110, 111, 116]⟩
def bYes : ByteArray := ⟨#[121, 101, 115]⟩
def bNo : ByteArray := ⟨#[110, 111]⟩
def bRe : ByteArray := ⟨#[114, 101]⟩
def bIm : ByteArray := ⟨#[105, 109]⟩
def bReal : ByteArray := ⟨#[114, 101, 97, 108]⟩
def bSize : ByteArray := ⟨#[115, 105, 122, 101]⟩
def bPair : ByteArray := ⟨#[112, 97, 105, 114]⟩
def bPick : ByteArray := ⟨#[112, 105, 99, 107]⟩
def bOf : ByteArray := ⟨#[111, 102]⟩
def bLet : ByteArray := ⟨#[108, 101, 116]⟩
def bPut : ByteArray := ⟨#[112, 117, 116]⟩
def bIf : ByteArray := ⟨#[105, 102]⟩
def bElse : ByteArray := ⟨#[101, 108, 115, 101]⟩
def bLoop : ByteArray := ⟨#[108, 111, 111, 112]⟩
def bEach : ByteArray := ⟨#[101, 97, 99, 104]⟩
def bWith : ByteArray := ⟨#[119, 105, 116, 104]⟩
def bWithout : ByteArray := ⟨#[119, 105, 116, 104, 111, 117, 116]⟩
def bEmit : ByteArray := ⟨#[101, 109, 105, 116]⟩
def bHear : ByteArray := ⟨#[104, 101, 97, 114]⟩
def bAs : ByteArray := ⟨#[97, 115]⟩
def bSpawn : ByteArray := ⟨#[115, 112, 97, 119, 110]⟩
def bKill : ByteArray := ⟨#[107, 105, 108, 108]⟩
def bDrop : ByteArray := ⟨#[100, 114, 111, 112]⟩
def bDo : ByteArray := ⟨#[100, 111]⟩
def bReturn : ByteArray := ⟨#[114, 101, 116, 117, 114, 110]⟩
def bFn : ByteArray := ⟨#[102, 110]⟩
def bSystem : ByteArray := ⟨#[115, 121, 115, 116, 101, 109]⟩
def bInt : ByteArray := ⟨#[105, 110, 116]⟩
def bBool : ByteArray := ⟨#[98, 111, 111, 108]⟩
/-- a node by its number. -/
def nT (T : Tre) (i : Int) : Nd := (T.nodes[i.toNat]?).getD ⟨0, ByteArray.empty, 0, []⟩
def kdT (n : Nd) (j : Nat) : Int := (n.kids[j]?).getD 0
theorem nT_at {T : Tre} {m : Nat} {n : Nd} (h : T.nodes[m]? = some n) : nT T (m : Int) = n := by simp [nT, h]
/-- lists of tokens with commas between. -/
def cm : List (List ByteArray) → List ByteArray
  | [] => []
  | x :: xs => x ++ (xs.map fun y => bComma :: y).flatten
theorem cm_snoc (L : List (List ByteArray)) (x : List ByteArray) : cm (L ++ [x]) = if L.length = 0 then x else cm L ++ bComma :: x := by
  cases L with
  | nil => simp [cm]
  | cons y ys => simp [cm]
def opT (q : Int) : ByteArray := if q = 1 then bPlus else if q = 2 then bMinus else if q = 3 then bStar else if q = 4 then bSlash else if q = 5 then bPerc else if q = 6 then bLess else if q = 7 then bSame else if q = 8 then bAnd else bOr
def tuT (q : Int) : ByteArray := if q = 1 then bMinus else if q = 2 then bNot else if q = 3 then bRe else if q = 4 then bIm else if q = 5 then bReal else bSize
def kiT (q : Int) : ByteArray := if q = 1 then bInt else if q = 2 then bReal else if q = 3 then bPair else bBool
/-- the tokens of a node, given those of its kids. -/
def tkN (g : Int → List ByteArray) (n : Nd) : List ByteArray :=
  if n.kind = 1 then [⟨(Lib.itoa n.num).toArray⟩]
  else if n.kind = 3 then [if n.num = 1 then bYes else bNo]
  else if n.kind = 5 then [bDot, n.text]
  else if n.kind = 6 then [bDol, n.text]
  else if n.kind = 7 then [n.text, bLp] ++ cm (n.kids.map g) ++ [bRp]
  else if n.kind = 8 then [bLp] ++ g (kdT n 0) ++ [opT n.num] ++ g (kdT n 1) ++ [bRp]
  else if n.kind = 9 then (if n.num ≤ 2 then [bLp, tuT n.num] else [tuT n.num, bLp]) ++ g (kdT n 0) ++ [bRp]
  else if n.kind = 10 then [bPair, bLp] ++ cm (n.kids.map g) ++ [bRp]
  else if n.kind = 11 then [bPick, bLp] ++ g (kdT n 0) ++ [bOf] ++ cm (n.kids.tail.map g) ++ [bRp]
  else if n.kind = 12 then [bLet, n.text, bEq] ++ g (kdT n 0) ++ [bSemi]
  else if n.kind = 13 then [n.text, bEq] ++ g (kdT n 0) ++ [bSemi]
  else if n.kind = 14 then [bDot, n.text, bEq] ++ g (kdT n 0) ++ [bSemi]
  else if n.kind = 15 then [bDol, n.text, bEq] ++ g (kdT n 0) ++ [bSemi]
  else if n.kind = 16 then [bIf] ++ g (kdT n 0) ++ g (kdT n 1) ++ (if n.kids.length = 3 then [bElse] ++ g (kdT n 2) else [])
  else if n.kind = 17 then [bLoop] ++ g (kdT n 0) ++ g (kdT n 1)
  else if n.kind = 18 then [bEach] ++ g (kdT n 0) ++ g (kdT n 1) ++ g (kdT n 2)
  else if n.kind = 19 then [bEmit, n.text] ++ g (kdT n 0) ++ [bSemi]
  else if n.kind = 20 then [bHear, n.text, bAs] ++ g (kdT n 0) ++ g (kdT n 1)
  else if n.kind = 21 then [bSpawn, bLp] ++ cm (n.kids.map g) ++ [bRp, bSemi]
  else if n.kind = 22 then [bKill, bSemi]
  else if n.kind = 23 then [bPut, n.text, bEq] ++ g (kdT n 0) ++ [bSemi]
  else if n.kind = 24 then [bDrop, n.text, bSemi]
  else if n.kind = 25 then [bDo] ++ g (kdT n 0) ++ [bSemi]
  else if n.kind = 26 then [bReturn] ++ g (kdT n 0) ++ [bSemi]
  else if n.kind = 27 then [bLb] ++ (n.kids.map g).flatten ++ [bRb]
  else if n.kind = 28 then [n.text, bEq] ++ g (kdT n 0)
  else if n.kind = 29 then [bWith] ++ cm (n.kids.map g)
  else if n.kind = 30 then (if n.kids.length = 0 then [] else [bWithout] ++ cm (n.kids.map g))
  else if n.kind = 32 then [n.text, kiT n.num]
  else if n.kind = 33 then [bFn, n.text, bLp] ++ cm (n.kids.dropLast.map g) ++ [bRp, kiT n.num] ++ g (kdT n (n.kids.length - 1))
  else if n.kind = 34 then [bSystem, n.text] ++ g (kdT n 0)
  else [n.text]
def tk (T : Tre) : Nat → Int → List ByteArray
  | 0, _ => []
  | f + 1, i => tkN (tk T f) (nT T i)
/-- the tokens of a node. -/
def tkA (T : Tre) (i : Int) : List ByteArray := tk T (i.toNat + 1) i
theorem FitL.mem {K : Nat → List Int} {ok : Nat → Prop} {ks : List Int} {a e : Nat} (h : FitL K ok ks a e) : ∀ x ∈ ks, ∃ (k b : Nat), x = k ∧ ok k ∧ FitL K ok (K k) b k ∧ a ≤ b ∧ k < e := by
  induction h with
  | nil nx => intro x hx; simp at hx
  | cons nx k ks e h1 h2 h3 h4 _ ih =>
    intro x hx
    have hle := h4.le
    rcases List.mem_cons.1 hx with rfl | hx
    · exact ⟨k, nx, rfl, h2, h3, Nat.le_refl _, by omega⟩
    · obtain ⟨k', b, e1, e2, e3, e4, e5⟩ := ih x hx
      exact ⟨k', b, e1, e2, e3, by have := h3.le; omega, e5⟩
/-- a node in its place, with all below it. -/
structure VN (T : Tre) (i : Nat) (n : Nd) : Prop where
  at_ : T.nodes[i]? = some n
  ok : okN T i
  fit : ∃ nx, FitL (kidsOf T) (okN T) n.kids nx i
theorem VN.kid {T : Tre} {i : Nat} {n : Nd} (h : VN T i n) {x : Int} (hx : x ∈ n.kids) : ∃ (k : Nat) (m : Nd), x = k ∧ k < i ∧ VN T k m := by
  obtain ⟨nx, hf⟩ := h.fit
  obtain ⟨k, b, rfl, hok, hfk, _, hlt⟩ := hf.mem x hx
  have hok2 := hok
  obtain ⟨m, hm, _⟩ := hok2
  exact ⟨k, m, rfl, hlt, hm, hok, b, by rw [kidsOf_some hm] at hfk; exact hfk⟩
theorem VN.cls {T : Tre} {i : Nat} {n : Nd} (h : VN T i n) {j : Nat} {x c : Int} (hx : n.kids[j]? = some x) (hc : (shp n.kind n.kids.length)[j]? = some c) : clsOk c (nT T x).kind := by
  obtain ⟨n2, e1, _, e3, e4⟩ := h.ok
  rw [h.at_] at e1
  cases e1
  obtain ⟨k, n', rfl, b, d⟩ := e4 j x c hx hc
  rw [nT_at b]; exact d
theorem VN.len {T : Tre} {i : Nat} {n : Nd} (h : VN T i n) : (shp n.kind n.kids.length).length = n.kids.length := by
  obtain ⟨n2, e1, _, e3, _⟩ := h.ok
  rw [h.at_] at e1
  cases e1
  exact e3
theorem VN.has {T : Tre} {i : Nat} {n : Nd} (h : VN T i n) : hasB n.kind n.text n.num = true := by
  obtain ⟨n2, e1, e2, _, _⟩ := h.ok
  rw [h.at_] at e1
  cases e1
  exact e2
/-- the j-th kid, with its class. -/
theorem VN.kidAt {T : Tre} {i : Nat} {n : Nd} (h : VN T i n) {j : Nat} {c : Int} (hc : (shp n.kind n.kids.length)[j]? = some c) : ∃ (k : Nat) (m : Nd), n.kids[j]? = some (k : Int) ∧ kdT n j = (k : Int) ∧ k < i ∧ VN T k m ∧ clsOk c m.kind := by
  have hj : j < n.kids.length := by rw [← h.len]; exact (List.getElem?_eq_some_iff.1 hc).1
  obtain ⟨x, hx⟩ : ∃ x, n.kids[j]? = some x := ⟨n.kids[j], by simp [hj]⟩
  obtain ⟨k, m, rfl, hlt, hv⟩ := h.kid (List.mem_of_getElem? hx)
  have h3 := h.cls hx hc
  rw [nT_at hv.at_] at h3
  exact ⟨k, m, hx, by simp [kdT, hx], hlt, hv, h3⟩
/-- a kid's number, or 0 where there is none (then nothing asks for it). -/
theorem kdT_mem {n : Nd} {j : Nat} (hj : j < n.kids.length) : kdT n j ∈ n.kids := by
  unfold kdT
  rw [List.getElem?_eq_getElem hj]
  exact List.getElem_mem hj
theorem tkN_same {g h : Int → List ByteArray} {n : Nd} (hl : (shp n.kind n.kids.length).length = n.kids.length) (e : ∀ x ∈ n.kids, g x = h x) : tkN g n = tkN h n := by
  have e1 : n.kids.map g = n.kids.map h := List.map_congr_left e
  have e2 : n.kids.tail.map g = n.kids.tail.map h := List.map_congr_left fun x hx => e x (List.mem_of_mem_tail hx)
  have e3 : n.kids.dropLast.map g = n.kids.dropLast.map h := List.map_congr_left fun x hx => e x (List.dropLast_subset _ hx)
  have k : ∀ j, j < n.kids.length → g (kdT n j) = h (kdT n j) := fun j hj => e _ (kdT_mem hj)
  obtain ⟨kd, hk⟩ : ∃ k, n.kind = k := ⟨_, rfl⟩
  rw [hk] at hl
  unfold tkN
  rw [e1, e2, e3, hk]
  by_cases h18 : kd = 18
  · subst h18
    simp [shp] at hl
    rw [k 0 (by omega), k 1 (by omega), k 2 (by omega)]
    simp only [Int.reduceEq, if_false, if_true]
  by_cases h33 : kd = 33
  · subst h33
    simp [shp] at hl
    rw [k (n.kids.length - 1) (by omega)]
    simp only [Int.reduceEq, if_false, if_true]
  by_cases h16 : kd = 16
  · subst h16
    by_cases h3 : n.kids.length = 3
    · rw [k 0 (by omega), k 1 (by omega), k 2 (by omega)]
      simp only [Int.reduceEq, if_false, if_true]
    · simp [shp, h3] at hl
      rw [k 0 (by omega), k 1 (by omega)]
      simp only [Int.reduceEq, if_false, if_true, if_neg h3]
  by_cases h2 : kd = 8 ∨ kd = 17 ∨ kd = 20
  · have : 2 = n.kids.length := by rcases h2 with rfl | rfl | rfl <;> simpa [shp] using hl
    rw [k 0 (by omega), k 1 (by omega)]
    rcases h2 with rfl | rfl | rfl <;> simp only [Int.reduceEq, if_false, if_true]
  by_cases h1 : kd = 9 ∨ kd = 11 ∨ kd = 12 ∨ kd = 13 ∨ kd = 14 ∨ kd = 15 ∨ kd = 19 ∨ kd = 23 ∨ kd = 25 ∨ kd = 26 ∨ kd = 28 ∨ kd = 34
  · have : 1 ≤ n.kids.length := by rcases h1 with rfl | rfl | rfl | rfl | rfl | rfl | rfl | rfl | rfl | rfl | rfl | rfl <;> simp [shp] at hl <;> omega
    rw [k 0 (by omega)]
    rcases h1 with rfl | rfl | rfl | rfl | rfl | rfl | rfl | rfl | rfl | rfl | rfl | rfl <;> simp only [Int.reduceEq, if_false, if_true]
  simp only [not_or] at h1 h2
  simp only [h18, h33, h16, h1, h2, if_false]
/-- fuel enough is enough. -/
theorem tk_fuel {T : Tre} : ∀ (i : Nat) (n : Nd) (f : Nat), VN T i n → i < f → tk T f (i : Int) = tkA T (i : Int) := by
  intro i
  induction i using Nat.strongRecOn with
  | ind i ih =>
    intro n f hv hf
    obtain ⟨f, rfl⟩ : ∃ f', f = f' + 1 := ⟨f - 1, by omega⟩
    show tkN (tk T f) (nT T (i : Int)) = tkN (tk T (i : Int).toNat) (nT T (i : Int))
    rw [nT_at hv.at_]
    refine tkN_same hv.len fun x hx => ?_
    obtain ⟨k, m, rfl, hk, hvk⟩ := hv.kid hx
    rw [ih k hk m f hvk (by omega), ih k hk m (i : Int).toNat hvk (by simpa using hk)]
/-- what a node's tokens are. -/
theorem tkA_eq {T : Tre} {i : Nat} {n : Nd} (hv : VN T i n) : tkA T (i : Int) = tkN (tkA T) n := by
  show tkN (tk T (i : Int).toNat) (nT T (i : Int)) = _
  rw [nT_at hv.at_]
  refine tkN_same hv.len fun x hx => ?_
  obtain ⟨k, m, rfl, hk, hvk⟩ := hv.kid hx
  exact tk_fuel k m _ hvk (by simpa using hk)
end Go.Proofs.YtknallkcengbbaaGreatDoor
namespace Go.Proofs.YtknallkcengbbaaGreatDoor
open Go.RowKit
set_option linter.unusedVariables false
set_option linter.unusedSimpArgs false

/-! Trees made smaller, in logic. -/
/-- a node that is linked with its kids. -/
inductive PT where
  | nd (k : Int) (t : ByteArray) (i : Int) (ks : List PT)
def PT.k : PT → Int | .nd k _ _ _ => k
def PT.t : PT → ByteArray | .nd _ t _ _ => t
def PT.i : PT → Int | .nd _ _ i _ => i
def PT.ks : PT → List PT | .nd _ _ _ ks => ks
def zPT : PT := .nd 0 ByteArray.empty 0 []
def lk (T : Tre) : Nat → Int → PT
  | 0, _ => zPT
  | f + 1, i => .nd (nT T i).kind (nT T i).text (nT T i).num ((nT T i).kids.map (lk T f))
def lkA (T : Tre) (i : Int) : PT := lk T (i.toNat + 1) i
theorem lk_fuel {T : Tre} : ∀ (i : Nat) (n : Nd) (f : Nat), VN T i n → i < f → lk T f (i : Int) = lkA T (i : Int) := by
  intro i
  induction i using Nat.strongRecOn with
  | ind i ih =>
    intro n f hv hf
    obtain ⟨f, rfl⟩ : ∃ f', f = f' + 1 := ⟨f - 1, by omega⟩
    show PT.nd _ _ _ _ = PT.nd _ _ _ _
    rw [nT_at hv.at_]
    congr 1
    refine List.map_congr_left fun x hx => ?_
    obtain ⟨k, m, rfl, hk, hvk⟩ := hv.kid hx
    rw [ih k hk m f hvk (by omega), ih k hk m (i : Int).toNat hvk (by simpa using hk)]
theorem lkA_eq {T : Tre} {i : Nat} {n : Nd} (hv : VN T i n) : lkA T (i : Int) = .nd n.kind n.text n.num (n.kids.map (lkA T)) := by
  show PT.nd _ _ _ _ = PT.nd _ _ _ _
  rw [nT_at hv.at_]
  congr 1
  refine List.map_congr_left fun x hx => ?_
  obtain ⟨k, m, rfl, hk, hvk⟩ := hv.kid hx
  exact lk_fuel k m _ hvk (by simpa using hk)
/-- what a leaf says: its kind, its number. -/
def vK (k : Int) : Int := if k = 1 then 1 else if k = 3 then 4 else 0
def vI (k i : Int) : Int := if k = 1 then i else if k = 3 then (if i = 1 then 1 else 0) else 0
/-- the leaf that a value is folded into: kind 0: none. -/
def leafV (v : V) : Int × Int := if v.1 = 4 then (3, v.2.1) else if v.1 = 1 ∧ 0 ≤ v.2.1 ∧ v.2.1 ≤ 999999999999999 then (1, v.2.1) else (0, 0)
def at0 (ks : List PT) (j : Nat) : PT := (ks[j]?).getD zPT
noncomputable def mdV (k i : Int) (ks : List PT) : V :=
  if k = 8 then (opOut i (vK (at0 ks 0).k) (vI (at0 ks 0).k (at0 ks 0).i) 0 0 (vK (at0 ks 1).k) (vI (at0 ks 1).k (at0 ks 1).i) 0 0).1
  else if k = 9 then (turnOut i (vK (at0 ks 0).k) (vI (at0 ks 0).k (at0 ks 0).i) 0 0).1 else zV
noncomputable def lfV (k i : Int) (ks : List PT) : Int × Int := leafV (mdV k i ks)
noncomputable def mkF (k : Int) (t : ByteArray) (i : Int) (ks : List PT) : PT :=
  if (lfV k i ks).1 = 0 then .nd k t i ks else .nd (lfV k i ks).1 ByteArray.empty (lfV k i ks).2 []
noncomputable def fd (T : Tre) : Nat → Int → PT
  | 0, _ => zPT
  | f + 1, i => mkF (nT T i).kind (nT T i).text (nT T i).num ((nT T i).kids.map (fd T f))
noncomputable def fdA (T : Tre) (i : Int) : PT := fd T (i.toNat + 1) i
theorem fd_fuel {T : Tre} : ∀ (i : Nat) (n : Nd) (f : Nat), VN T i n → i < f → fd T f (i : Int) = fdA T (i : Int) := by
  intro i
  induction i using Nat.strongRecOn with
  | ind i ih =>
    intro n f hv hf
    obtain ⟨f, rfl⟩ : ∃ f', f = f' + 1 := ⟨f - 1, by omega⟩
    show mkF _ _ _ _ = mkF _ _ _ _
    rw [nT_at hv.at_]
    congr 1
    refine List.map_congr_left fun x hx => ?_
    obtain ⟨k, m, rfl, hk, hvk⟩ := hv.kid hx
    rw [ih k hk m f hvk (by omega), ih k hk m (i : Int).toNat hvk (by simpa using hk)]
theorem fdA_eq {T : Tre} {i : Nat} {n : Nd} (hv : VN T i n) : fdA T (i : Int) = mkF n.kind n.text n.num (n.kids.map (fdA T)) := by
  show mkF _ _ _ _ = mkF _ _ _ _
  rw [nT_at hv.at_]
  congr 1
  refine List.map_congr_left fun x hx => ?_
  obtain ⟨k, m, rfl, hk, hvk⟩ := hv.kid hx
  exact fd_fuel k m _ hvk (by simpa using hk)
/-- one more list of nodes behind others, and the number of its last one. -/
def layS (g : Int → Nat → List Nd) (b : Nat) (s : List Nd × List Int) (x : Int) : List Nd × List Int :=
  (s.1 ++ g x (b + s.1.length), s.2 ++ [((b + s.1.length + (g x (b + s.1.length)).length : Nat) : Int) - 1])
def lays (g : Int → Nat → List Nd) (ks : List Int) (b : Nat) : List Nd × List Int := ks.foldl (layS g b) ([], [])
theorem lays_snoc (g : Int → Nat → List Nd) (ks : List Int) (x : Int) (b : Nat) : lays g (ks ++ [x]) b = layS g b (lays g ks b) x := by simp [lays, List.foldl_append]
theorem lays_congr {g h : Int → Nat → List Nd} {b : Nat} : ∀ (ks : List Int), (∀ x ∈ ks, g x = h x) → ∀ s, ks.foldl (layS g b) s = ks.foldl (layS h b) s
  | [], _, _ => rfl
  | x :: xs, e, s => by
    rw [List.foldl_cons, List.foldl_cons, show layS g b s x = layS h b s x by simp only [layS, e x (by simp)]]
    exact lays_congr xs (fun y hy => e y (by simp [hy])) _
theorem foldl_ids (g : Int → Nat → List Nd) (b : Nat) : ∀ (ks : List Int) s, (ks.foldl (layS g b) s).2.length = s.2.length + ks.length
  | [], _ => rfl
  | x :: xs, s => by rw [List.foldl_cons, foldl_ids g b xs]; simp [layS]; omega
theorem lays_ids (g : Int → Nat → List Nd) (ks : List Int) (b : Nat) : (lays g ks b).2.length = ks.length := by unfold lays; rw [foldl_ids]; simp
/-- how a folded node is laid down behind b others. -/
noncomputable def mkL (k : Int) (t : ByteArray) (i : Int) (ks : List PT) (g : Int → Nat → List Nd) (kids : List Int) (b : Nat) : List Nd :=
  if (lfV k i ks).1 = 0 then (lays g kids b).1 ++ [⟨k, t, i, (lays g kids b).2⟩] else [⟨(lfV k i ks).1, ByteArray.empty, (lfV k i ks).2, []⟩]
noncomputable def ly (T : Tre) : Nat → Int → Nat → List Nd
  | 0, _, _ => []
  | f + 1, i, b => mkL (nT T i).kind (nT T i).text (nT T i).num ((nT T i).kids.map (fdA T)) (ly T f) (nT T i).kids b
noncomputable def lyA (T : Tre) (i : Int) : Nat → List Nd := ly T (i.toNat + 1) i
theorem mkL_congr {k : Int} {t : ByteArray} {i : Int} {ks : List PT} {g h : Int → Nat → List Nd} {kids : List Int} {b : Nat} (e : ∀ x ∈ kids, g x = h x) : mkL k t i ks g kids b = mkL k t i ks h kids b := by
  have : lays g kids b = lays h kids b := lays_congr kids e _
  unfold mkL
  rw [this]
theorem ly_fuel {T : Tre} : ∀ (i : Nat) (n : Nd) (f : Nat), VN T i n → i < f → ly T f (i : Int) = lyA T (i : Int) := by
  intro i
  induction i using Nat.strongRecOn with
  | ind i ih =>
    intro n f hv hf
    obtain ⟨f, rfl⟩ : ∃ f', f = f' + 1 := ⟨f - 1, by omega⟩
    funext b
    show mkL _ _ _ _ _ _ b = mkL _ _ _ _ _ _ b
    rw [nT_at hv.at_]
    refine mkL_congr fun x hx => ?_
    obtain ⟨k, m, rfl, hk, hvk⟩ := hv.kid hx
    rw [ih k hk m f hvk (by omega), ih k hk m (i : Int).toNat hvk (by simpa using hk)]
theorem lyA_eq {T : Tre} {i : Nat} {n : Nd} (hv : VN T i n) (b : Nat) : lyA T (i : Int) b = mkL n.kind n.text n.num (n.kids.map (fdA T)) (lyA T) n.kids b := by
  show mkL _ _ _ _ _ _ b = _
  rw [nT_at hv.at_]
  refine mkL_congr fun x hx => ?_
  obtain ⟨k, m, rfl, hk, hvk⟩ := hv.kid hx
  exact ly_fuel k m _ hvk (by simpa using hk)
/-- the last node that is laid is the folded one. -/
theorem lyA_last {T : Tre} {i : Nat} {n : Nd} (hv : VN T i n) (b : Nat) : ∃ (L : List Nd) (m : Nd), lyA T (i : Int) b = L ++ [m] ∧ m.kind = (fdA T (i : Int)).k ∧ m.num = (fdA T (i : Int)).i ∧ m.kids.length ≤ n.kids.length := by
  rw [lyA_eq hv, fdA_eq hv]
  unfold mkL mkF
  split
  · exact ⟨_, _, rfl, rfl, rfl, by dsimp only; rw [lays_ids]; exact Nat.le_refl _⟩
  · exact ⟨[], _, rfl, rfl, rfl, Nat.zero_le _⟩
/-- how many nodes at most. -/
theorem lays_fit {K : Nat → List Int} {ok : Nat → Prop} {g : Int → Nat → List Nd} {b : Nat} {l : List Int} {a e : Nat} (h : FitL K ok l a e)
    (hg : ∀ (k nx : Nat), (k : Int) ∈ l → ok k → FitL K ok (K k) nx k → ∀ b, (g k b).length ≤ k + 1 - nx) : ∀ s, (l.foldl (layS g b) s).1.length ≤ s.1.length + (e - a) := by
  induction h with
  | nil nx => intro s; simp
  | cons nx k ks e h1 h2 h3 h4 _ ih =>
    intro s
    have hle := h4.le
    have hle3 := h3.le
    rw [List.foldl_cons]
    refine Nat.le_trans (ih (fun k' nx' hk' => hg k' nx' (by simp [hk'])) _) ?_
    have := hg k nx (by simp) h2 h3 (b + s.1.length)
    simp only [layS, List.length_append]
    omega
theorem lyA_len {T : Tre} : ∀ (i : Nat) (nx : Nat), okN T i → FitL (kidsOf T) (okN T) (kidsOf T i) nx i → ∀ b, (lyA T (i : Int) b).length ≤ i + 1 - nx := by
  intro i
  induction i using Nat.strongRecOn with
  | ind i ih =>
    intro nx hok hf b
    have hok2 := hok
    obtain ⟨n, hn, _⟩ := hok2
    rw [kidsOf_some hn] at hf
    have hv : VN T i n := ⟨hn, hok, nx, hf⟩
    have hle := hf.le
    rw [lyA_eq hv]
    unfold mkL
    split
    · have := lays_fit (b := b) hf (g := lyA T) (fun k nx' hk ho hfk b' => by
        obtain ⟨k', m, e, hlt, _⟩ := hv.kid hk
        have : k' = k := by omega
        subst this
        exact ih k' hlt nx' ho hfk b') ([], [])
      have h2 : (lays (lyA T) n.kids b).1.length ≤ 0 + (i - nx) := this
      rw [List.length_append]
      simp only [List.length_singleton]
      omega
    · simp only [List.length_singleton]; omega
/-- what Fold answers. -/
noncomputable def fldA (t : Tre) : Tre := if treB t = true then ⟨(lays (lyA t) t.tops 0).1, (lays (lyA t) t.tops 0).2⟩ else ⟨[], []⟩
theorem VN.ofOk {t : Tre} {k : Nat} (h : okN t k) {nx : Nat} (hf : FitL (kidsOf t) (okN t) (kidsOf t k) nx k) : ∃ n, VN t k n := by
  have h2 := h
  obtain ⟨n, hn, _⟩ := h2
  rw [kidsOf_some hn] at hf
  exact ⟨n, hn, h, nx, hf⟩
theorem top_VN {t : Tre} (h : treP t) {x : Int} (hx : x ∈ t.tops) : ∃ (k : Nat) (n : Nd), x = k ∧ k < 4000 ∧ VN t k n := by
  obtain ⟨k, b, rfl, hok, hf, _, hk⟩ := h.2.1.mem x hx
  obtain ⟨n, hn⟩ := VN.ofOk hok hf
  exact ⟨k, n, rfl, by have := h.1; omega, hn⟩
end Go.Proofs.YtknallkcengbbaaGreatDoor
namespace Go.Proofs.YtknallkcengbbaaGreatDoor
open Go.RowKit
set_option linter.unusedVariables false
set_option linter.unusedSimpArgs false

theorem hid {p : Prop} (h : p) : Hid p := h
/-- what a mark makes of a cell: a number for a number. -/
def Alike (u v : Value) : Prop := u = v ∨ (∃ i j, u = .int .i64 i ∧ v = .int .i64 j) ∨ (∃ i j, u = .float .f64 i ∧ v = .float .f64 j) ∨ (∃ i j, u = .string i ∧ v = .string j)
/-- marking: from w0 on nothing has turned but numbers in the blocks from lo on that W1 has. -/
structure Mr (lo : Nat) (W1 w0 w : World) : Prop where
  be : Below lo w0 w
  s1 : W1.heap.size ≤ w.heap.size
  out : ∀ k, W1.heap.size ≤ k → k < w0.heap.size → w.heap[k]? = w0.heap[k]?
  al : ∀ b o u, lo ≤ b → b < W1.heap.size → W1.cell? ⟨b, o, none⟩ = some u → ∃ v, w.cell? ⟨b, o, none⟩ = some v ∧ Alike u v
  fz : ∀ b o, lo ≤ b → b < W1.heap.size → w.frozen? ⟨b, o, none⟩ = W1.frozen? ⟨b, o, none⟩
theorem Blk.same' {w w' : World} {n : Nat} {c : Array Value} {t : TypeId} (h : Blk w n c t) (hb : w'.heap[n]? = w.heap[n]?) : Blk w' n c t := by unfold Blk; rw [hb]; exact h
section
variable {lo : Nat} {W1 w0 w w' : World}
theorem Mr.start (hb : Below W1.heap.size W1 w0) (lo : Nat) : Mr lo W1 w0 w0 :=
  ⟨Below.refl _ _, hb.size, fun _ _ _ => rfl, fun b o u _ hl hc => ⟨u, (hb.cell (p := ⟨b, o, none⟩) hl).trans hc, Or.inl rfl⟩, fun b o _ hl => hb.frozen (p := ⟨b, o, none⟩) hl⟩
theorem Mr.later (h : Mr lo W1 w0 w) (hb : Below w.heap.size w w') (hlo : lo ≤ w0.heap.size) : Mr lo W1 w0 w' := by
  have hs := h.be.size
  have h1 := h.s1
  have h2 := hb.size
  exact ⟨h.be.trans (hb.mono (by omega)), by omega, fun k h3 h4 => (hb.block k (by omega)).trans (h.out k h3 h4), fun b o u h3 h4 hc => by
    obtain ⟨v, hv, ha⟩ := h.al b o u h3 h4 hc
    exact ⟨v, (hb.cell (p := ⟨b, o, none⟩) (show b < w.heap.size by omega)).trans hv, ha⟩, fun b o h3 h4 => (hb.frozen (p := ⟨b, o, none⟩) (show b < w.heap.size by omega)).trans (h.fz b o h3 h4)⟩
theorem Mr.alloc (h : Mr lo W1 w0 w) (hlo : lo ≤ w0.heap.size) (ob : Obj) : Mr lo W1 w0 (w.alloc ob) := h.later (bl_alloc (Below.refl _ w) ob) hlo
theorem Mr.set (h : Mr lo W1 w0 w) {b o : Nat} {u v : Value} (hb : lo ≤ b) (hl : b < W1.heap.size) (hc : W1.cell? ⟨b, o, none⟩ = some u) (hA : Alike u v) : Mr lo W1 w0 (w.setCell ⟨b, o, none⟩ v) := by
  refine ⟨h.be.setCell hb v, by simpa using h.s1, fun k h3 h4 => ?_, fun b' o' u' h3 h4 hc' => ?_, fun b' o' h3 h4 => (World.frozen?_setCell _ _ _ _).trans (h.fz b' o' h3 h4)⟩
  · rw [Below.heap_setCell w ⟨b, o, none⟩ v k (by dsimp only; omega)]
    exact h.out k h3 h4
  · by_cases e : b = b' ∧ o = o'
    · obtain ⟨rfl, rfl⟩ := e
      obtain ⟨x, hx, _⟩ := h.al b o u' h3 h4 hc'
      rw [hc] at hc'
      cases hc'
      exact ⟨v, World.cell?_setCell_same _ _ _ hx, hA⟩
    · obtain ⟨x, hx, hax⟩ := h.al b' o' u' h3 h4 hc'
      exact ⟨x, (World.cell?_setCell_other _ _ _ _ (fun q => e (by simpa using q))).trans hx, hax⟩
theorem Mr.re (h : Mr lo W1 w0 w) : Mr lo W1 w w := ⟨Below.refl _ _, h.s1, fun _ _ _ => rfl, h.al, h.fz⟩
theorem Mr.join (h : Mr lo W1 w0 w) (g : Mr lo W1 w w') : Mr lo W1 w0 w' :=
  ⟨h.be.trans g.be, g.s1, fun k h1 h2 => (g.out k h1 (by have := h.be.size; omega)).trans (h.out k h1 h2), g.al, g.fz⟩
theorem Mr.blk (h : Mr lo W1 w0 w) {n : Nat} {c : Array Value} {t : TypeId} (hn : W1.heap.size ≤ n) (hb : Blk w0 n c t) : Blk w n c t := hb.same' (h.out n hn hb.lt)
theorem Mr.setI (h : Mr lo W1 w0 w) {b o : Nat} {i : Int} (hb : lo ≤ b) (hl : b < W1.heap.size) (hc : W1.cell? ⟨b, o, none⟩ = some (.int .i64 i)) (j : Int) : Mr lo W1 w0 (w.setCell ⟨b, o, none⟩ (.int .i64 j)) := h.set hb hl hc (Or.inr (Or.inl ⟨_, _, rfl, rfl⟩))
theorem Mr.setF (h : Mr lo W1 w0 w) {b o : Nat} {i : Nat} (hb : lo ≤ b) (hl : b < W1.heap.size) (hc : W1.cell? ⟨b, o, none⟩ = some (.float .f64 i)) (j : Nat) : Mr lo W1 w0 (w.setCell ⟨b, o, none⟩ (.float .f64 j)) := h.set hb hl hc (Or.inr (Or.inr (Or.inl ⟨_, _, rfl, rfl⟩)))
theorem Mr.int (h : Mr lo W1 w0 w) {b o : Nat} {i : Int} (hb : lo ≤ b) (hl : b < W1.heap.size) (hc : W1.cell? ⟨b, o, none⟩ = some (.int .i64 i)) : ∃ j, w.cell? ⟨b, o, none⟩ = some (.int .i64 j) := by
  obtain ⟨v, hv, ha⟩ := h.al b o _ hb hl hc
  rcases ha with rfl | ⟨_, j, _, rfl⟩ | ⟨_, j, e, _⟩ | ⟨_, j, e, _⟩
  · exact ⟨_, hv⟩
  · exact ⟨_, hv⟩
  · cases e
  · cases e
theorem Mr.str (h : Mr lo W1 w0 w) {b o : Nat} {i : ByteArray} (hb : lo ≤ b) (hl : b < W1.heap.size) (hc : W1.cell? ⟨b, o, none⟩ = some (.string i)) : ∃ j, w.cell? ⟨b, o, none⟩ = some (.string j) := by
  obtain ⟨v, hv, ha⟩ := h.al b o _ hb hl hc
  rcases ha with rfl | ⟨_, j, e, _⟩ | ⟨_, j, e, _⟩ | ⟨_, j, _, rfl⟩
  · exact ⟨_, hv⟩
  · cases e
  · cases e
  · exact ⟨_, hv⟩
theorem Mr.setS (h : Mr lo W1 w0 w) {b o : Nat} {i : ByteArray} (hb : lo ≤ b) (hl : b < W1.heap.size) (hc : W1.cell? ⟨b, o, none⟩ = some (.string i)) (j : ByteArray) : Mr lo W1 w0 (w.setCell ⟨b, o, none⟩ (.string j)) := h.set hb hl hc (Or.inr (Or.inr (Or.inr ⟨_, _, rfl, rfl⟩)))
theorem Mr.sl (h : Mr lo W1 w0 w) {b o : Nat} {s : Option Addr} {n c : Nat} (hb : lo ≤ b) (hl : b < W1.heap.size) (hc : W1.cell? ⟨b, o, none⟩ = some (.slice s n c)) : w.cell? ⟨b, o, none⟩ = some (.slice s n c) := by
  obtain ⟨v, hv, ha⟩ := h.al b o _ hb hl hc
  rcases ha with rfl | ⟨_, j, e, _⟩ | ⟨_, j, e, _⟩ | ⟨_, j, e, _⟩
  · exact hv
  · cases e
  · cases e
  · cases e
end
theorem Els.free {α : Type} {k : Nat} {E : World → Nat → List Value → α → Prop} {w : World} {B b o : Nat} {L : List α} (h : Els k E w B (some ⟨b, o, none⟩) L) (h0 : 0 < B) (hL : ¬ L = []) : ∀ j, w.frozen? ⟨b, j, none⟩ = false := by
  rcases h with e | ⟨b', o', e, _, _, _, hz⟩
  · exact absurd e hL
  · cases e
    exact hz h0
theorem not_nil {α : Type} {L : List α} {j : Nat} (h : j < L.length) : ¬ L = [] := by rintro rfl; simp at h

set_option maxHeartbeats 2000000 in
theorem markI_w (lo : Nat) (W1 w0 : World) (s : Option Addr) (c : Nat) (L : List Int) (k : Int) (w : World) (hE : Els 1 cInt W1 lo s L) (hp : 0 < lo) (h : Mr lo W1 w0 w) (hl : L.length ≤ 1048576) (k0 : 0 ≤ k) (k1 : k ≤ 9000000000000000000) :
    Calls Tryz.prog 15 #[.slice s L.length c, .int .i64 k] w fun e w' => e = .returned (.int .i64 (k + (L.length : Int))) ∧ Mr lo W1 w0 w' := by
  go_enter Tryz.func15, Tryz.ntmps15
  go_wp2_with fail
  go_loopw [1, 5] (fun x i wr => ∃ m : Nat, m ≤ L.length ∧ i = .int .i64 m ∧ x = .int .i64 (k + (m : Int)) ∧ Hid (Mr lo W1 w0 wr)) (fun _ i _ => L.length - (intOf i).toNat)
  case atStart => exact ⟨0, Nat.zero_le _, rfl, by simp, h⟩
  case round =>
    obtain ⟨m, hm, rfl, rfl, hM⟩ := hrel
    by_cases hlt : m < L.length
    · obtain ⟨a, ha⟩ := get_some hlt
      obtain ⟨b, o, rfl, hB, hb, e0⟩ := eInt_cells hE ha
      have hfz := fun j => (hM.out.fz b j hB hb).trans (hE.free hp (not_nil hlt) j)
      obtain ⟨j0, c0⟩ := hM.out.int hB hb e0
      have HN : Hid (Mr lo W1 w0 (wr.setCell ⟨b, o + m, none⟩ (.int .i64 (k + (m : Int))))) := hM.out.setI hB hb e0 _
      clear hM h e0 hE ha
      go_wp2_with fail
      refine ⟨⟨m + 1, by omega, by go_num, ?_, HN⟩, by simp [intOf]; omega⟩
      congr 1; simp; omega
    · have hm' : m = L.length := by omega
      subst hm'
      go_wp2_with fail
      go_ret
      exact ⟨rfl, hM.out⟩

theorem one_byte (w : World) (c : Int) : (convert 98 9 (.slice (some ⟨w.heap.size, 0, none⟩) 1 1)).run Tryz.prog (w.alloc (.cells #[.int .u8 c] 5)) = .ok (.string (ByteArray.empty.push (UInt8.ofNat c.toNat))) (w.alloc (.cells #[.int .u8 c] 5)) := by
  rw [run_convert_bytes_string _ _ _ _ _ _ _ Tryz.underlying98 Tryz.underlying5 Tryz.underlying9]
  rw [run_bytesToString _ _ 1 1 [c] (by simp [go_sem])]
  rfl
theorem push_size (x : UInt8) (t : ByteArray) : (ByteArray.empty.push x ++ t).size = 1 + t.size := by
  rw [ByteArray.size_append]; rfl
theorem m_size (t : ByteArray) : ((⟨#[109]⟩ : ByteArray) ++ t).size = 1 + t.size := by
  rw [ByteArray.size_append]; rfl
set_option maxHeartbeats 1000000 in
theorem markText_w (k : Int) (w : World) (h0 : 1 ≤ k) (h1 : k ≤ 1000000000000000000) :
    Calls Tryz.prog 46 #[.int .i64 k] w fun e w' => (∃ t : ByteArray, e = .returned (.string t)) ∧ Below w.heap.size w w' := by
  have hob := one_byte
  go_enter Tryz.func46, Tryz.ntmps46
  go_wp2_with fail
  go_loopw [0, 3] (fun x s wr => ∃ (k : Int) (t : ByteArray), x = .int .i64 k ∧ s = .string t ∧ 0 ≤ k ∧ k ≤ 1000000000000000000 ∧ (t.size : Int) + k ≤ 1000000000000000000 ∧ Below w.heap.size w wr) (fun x _ _ => (intOf x).toNat)
  case atStart => exact ⟨k, _, rfl, rfl, by omega, by omega, by rw [show ((⟨#[]⟩ : ByteArray).size : Int) = 0 from rfl]; omega, Below.refl _ _⟩
  case round =>
    obtain ⟨k, t, rfl, rfl, k0, k1, kt, hb⟩ := hrel
    have hts : ¬ 9223372036854775807 < 1 + t.size := by omega
    by_cases hk : 0 < k
    · go_wp2_with fail
      refine ⟨⟨k / 10, _, rfl, rfl, by omega, by omega, ?_, bl_alloc hb _⟩, ?_⟩
      · rw [push_size]; omega
      · simp [intOf]; omega
    · have hk0 : k = 0 := by omega
      subst hk0
      go_wp2_with fail
      go_ret
      exact ⟨⟨_, rfl⟩, hb⟩

set_option maxRecDepth 100000 in
set_option maxHeartbeats 4000000 in
theorem markNode_w (lo : Nat) (W1 w0 : World) (s : Option Addr) (c : Nat) (L : List Nd) (k : Int) (w : World) (hE : Els 4 cNode W1 lo s L) (hp : 0 < lo) (h : Mr lo W1 w0 w) (hlo : lo ≤ w0.heap.size) (hl : L.length ≤ 1048576) (hk : ∀ n ∈ L, kNode n) (k0 : 1 ≤ k) (k1 : k ≤ 1000) :
    Calls Tryz.prog 28 #[.slice s L.length c, .int .i64 k] w fun e w' => (∃ k', e = .returned (.int .i64 k') ∧ k ≤ k' ∧ k' ≤ k + 1048579 * (L.length : Int)) ∧ Mr lo W1 w0 w' := by
  have HK : Hid (∀ n ∈ L, kNode n) := hk
  clear hk
  go_enter Tryz.func28, Tryz.ntmps28
  go_wp2_with fail
  go_loopw [1, 5] (fun x i wr => ∃ (m : Nat) (q : Int), m ≤ L.length ∧ i = .int .i64 m ∧ x = .int .i64 q ∧ k ≤ q ∧ q ≤ k + 1048579 * (m : Int) ∧ Hid (Mr lo W1 w0 wr)) (fun _ i _ => L.length - (intOf i).toNat)
  case atStart => exact ⟨0, k, Nat.zero_le _, rfl, rfl, by omega, by omega, h⟩
  case round =>
    obtain ⟨m, q, hm, rfl, rfl, q0, q1, hM⟩ := hrel
    by_cases hlt : m < L.length
    · obtain ⟨a, ha⟩ := get_some hlt
      obtain ⟨b, o, rfl, hB, hb, s', c', e0, e1, e2, e3, f⟩ := eNode_cells hE ha
      have hla := (HK.out a (List.mem_of_getElem? ha)).2
      have hfz := fun j => (hM.out.fz b j hB hb).trans (hE.free hp (not_nil hlt) j)
      have HFZ := hid (fun j => hE.free hp (not_nil hlt) j)
      have HE0 := hid e0
      have HE1 := hid e1
      have HE2 := hid e2
      have HE3 := hid e3
      obtain ⟨j0, d0⟩ := hM.out.int hB hb e0
      have HN1 : Hid (Mr lo W1 w0 (wr.setCell ⟨b, o + m * 4, none⟩ (.int .i64 q))) := hM.out.setI hB hb e0 _
      have HF : Hid (Els 1 cInt W1 lo s' a.kids) := f
      clear hM h e0 e1 e2 e3 hE ha f
      go_wp2_with fail
      generalize wr.setCell ⟨b, o + m * 4, none⟩ (.int .i64 q) = X1 at HN1 ⊢
      clear d0 hfz
      refine (markText_w (q + 1) X1 (by omega) (by omega)).mono ?_
      rintro e X2 ⟨⟨tx, rfl⟩, hb2⟩
      have HN2 := hid (HN1.out.later hb2 hlo)
      clear HN1 hb2
      have hfz := fun j => (HN2.out.fz b j hB hb).trans (HFZ.out j)
      obtain ⟨j1, d1⟩ := HN2.out.str hB hb HE1.out
      have HN3 : Hid (Mr lo W1 w0 (X2.setCell ⟨b, o + m * 4 + 1, none⟩ (.string tx))) := HN2.out.setS hB hb HE1.out _
      obtain ⟨j2, d2⟩ := HN3.out.int hB hb HE2.out
      have HN4 : Hid (Mr lo W1 w0 ((X2.setCell ⟨b, o + m * 4 + 1, none⟩ (.string tx)).setCell ⟨b, o + m * 4 + 2, none⟩ (.int .i64 (q + 1 + 1)))) := HN3.out.setI hB hb HE2.out _
      have d3 := HN4.out.sl hB hb HE3.out
      have d2' := HN2.out.int hB hb HE2.out
      obtain ⟨j2', d2'⟩ := d2'
      have d3' := HN2.out.sl hB hb HE3.out
      clear d2 d3 HN2 HN3
      go_wp2_with fail
      refine (markI_w lo W1 w0 s' c' a.kids _ _ HF.out hp HN4.out hla (by omega) (by omega)).mono ?_
      rintro e w2 ⟨rfl, hM2⟩
      have HN5 : Hid (Mr lo W1 w0 w2) := hM2
      clear hM2 HN4 hfz d1 d2' d3'
      go_wp2_with fail
      go_roundw
      case rel => exact ⟨m + 1, _, by omega, by go_num, rfl, by omega, by omega, HN5⟩
      case measure => simp [intOf]; omega
    · have hm' : m = L.length := by omega
      subst hm'
      go_wp2_with fail
      go_ret
      exact ⟨⟨q, rfl, q0, q1⟩, hM.out⟩

/-! own ints, marked and held -/
def ims (k : Int) : Nat → List Int
  | 0 => []
  | n + 1 => ims k n ++ [k + n]
theorem ims_len (k : Int) : ∀ n, (ims k n).length = n
  | 0 => rfl
  | n + 1 => by simp [ims, ims_len k n]
theorem ims_get (k : Int) : ∀ (n j : Nat), j < n → (ims k n)[j]? = some (k + j)
  | n + 1, j, h => by
    by_cases e : j < n
    · rw [ims, List.getElem?_append_left (by rw [ims_len]; exact e), ims_get k n j e]
    · have : j = n := by omega
      subst this
      rw [ims, List.getElem?_append_right (by rw [ims_len]; omega), ims_len]; simp
theorem ims_step (G : List Int) (k : Int) (m : Nat) (h : m < G.length) : (ims k m ++ G.drop m).set m (k + m) = ims k (m + 1) ++ G.drop (m + 1) := by
  rw [List.set_append_right _ _ (by rw [ims_len]; omega), ims_len, Nat.sub_self, List.drop_eq_getElem_cons h, List.set_cons_zero, ims]
  simp
theorem grown_setI (w : World) (g m : Nat) (u : Value) : w.grownBy (w.setCell ⟨g, m, none⟩ u) (some g) := ⟨rfl, rfl, rfl, by simp [World.setCell], fun k hk hr => Below.heap_setCell w ⟨g, m, none⟩ u k (fun e => hr (by rw [e]))⟩
theorem OI.setN {w : World} {B g n cap : Nat} {L : List Int} (hn : L.length = n) (h : OI w B (.slice (some ⟨g, 0, none⟩) n cap) L) (m : Nat) (x : Int) : OI (w.setCell ⟨g, m, none⟩ (.int .i64 x)) B (.slice (some ⟨g, 0, none⟩) n cap) (L.set m x) := by
  subst hn
  obtain ⟨h1, h2⟩ := h
  rcases h2 with ⟨h2, _⟩ | ⟨g', cap', cur, e, hb, hg, hc, hx, hs, ht⟩
  · cases h2
  · cases e
    unfold OI
    rw [List.length_set]
    refine ⟨by simp, Or.inr ⟨g, cap, cur.setIfInBounds m (.int .i64 x), rfl, hb, heap_setCell_same w g m cur _ _ hg, hc, hx, by simpa using hs, ?_⟩⟩
    rw [Array.toList_setIfInBounds, List.take_set, ht, List.map_set]
theorem OI.at {w : World} {B g n cap : Nat} {L : List Int} (h : OI w B (.slice (some ⟨g, 0, none⟩) n cap) L) {j : Nat} {x : Int} (hj : L[j]? = some x) : w.cell? ⟨g, j, none⟩ = some (.int .i64 x) ∧ w.frozen? ⟨g, j, none⟩ = false := by
  obtain ⟨h1, h2⟩ := h
  rcases h2 with ⟨h2, _⟩ | ⟨g', cap', cur, e, hb, hg, hc, hx, hs, ht⟩
  · cases h2
  · have e' := e
    simp only [Value.slice.injEq, Option.some.injEq, Addr.mk.injEq, true_and, and_true] at e'
    obtain ⟨rfl, e2, rfl⟩ := e'
    refine ⟨?_, frozen_of_row w g j cur _ hg⟩
    rw [cell_of_row w g j cur _ (0, 0) hg]
    have hl : j < L.length := (List.getElem?_eq_some_iff.1 hj).1
    have := congrArg (fun l => l[j]?) ht
    simp only [List.getElem?_take, List.getElem?_map, hj] at this
    rw [if_pos (by omega)] at this
    simpa using this

set_option maxHeartbeats 2000000 in
theorem markI_full (B : Nat) (s : Option Addr) (c : Nat) (G : List Int) (w : World) (h : OI w B (.slice s G.length c) G) (hl : G.length ≤ 4398046511104) :
    Calls Tryz.prog 15 #[.slice s G.length c, .int .i64 1] w fun e w' => e = .returned (.int .i64 (1 + (G.length : Int))) ∧ OI w' B (.slice s G.length c) (ims 1 G.length) ∧ w.grownBy w' (Value.slice s G.length c).ownBlock := by
  rcases h.form with ⟨hv, rfl⟩ | ⟨g, cap, hv, _, _, _⟩
  · simp only [Value.slice.injEq] at hv
    obtain ⟨rfl, -, rfl⟩ := hv
    go_enter Tryz.func15, Tryz.ntmps15
    go_wp2_with fail
    refine wp_loop_rounds 1 ?_
    rw [rounds_succ]
    go_wp2_with fail
    go_ret
    exact ⟨by simp, OI.nil _ _, grown_refl _ _⟩
  · simp only [Value.slice.injEq, true_and] at hv
    obtain ⟨rfl, rfl⟩ := hv
    go_enter Tryz.func15, Tryz.ntmps15
    go_wp2_with fail
    go_loopw [1, 5] (fun cv i wr => ∃ m : Nat, m ≤ G.length ∧ i = .int .i64 m ∧ cv = .int .i64 (1 + (m : Int)) ∧ Hid (OI wr B (.slice (some ⟨g, 0, none⟩) G.length c) (ims 1 m ++ G.drop m)) ∧ Hid (w.grownBy wr (some g))) (fun _ i _ => G.length - (intOf i).toNat)
    case atStart => exact ⟨0, Nat.zero_le _, rfl, by simp, by simpa [ims, Hid] using h, grown_refl _ _⟩
    case round =>
      obtain ⟨m, hm, rfl, rfl, hr, hg⟩ := hrel
      by_cases hlt : m < G.length
      · obtain ⟨y, hy⟩ : ∃ y, (ims 1 m ++ G.drop m)[m]? = some y := get_some (by simp [ims_len]; omega)
        obtain ⟨x0, x1⟩ := hr.out.at hy
        have hr' : Hid (OI (wr.setCell ⟨g, m, none⟩ (.int .i64 (1 + (m : Int)))) B (.slice (some ⟨g, 0, none⟩) G.length c) (ims 1 (m + 1) ++ G.drop (m + 1))) := by
          have := hr.out.setN (by simp [ims_len]; omega) m (1 + (m : Int))
          rw [ims_step G 1 m hlt] at this
          exact this
        have hg' : Hid (w.grownBy (wr.setCell ⟨g, m, none⟩ (.int .i64 (1 + (m : Int)))) (some g)) := grown_trans hg.out (grown_setI wr g m (.int .i64 (1 + (m : Int))))
        clear h hr hg hy
        go_wp2_with fail
        go_roundw
        case rel => exact ⟨m + 1, by omega, by go_num, by go_num, hr', hg'⟩
        case measure => simp [intOf]; omega
      · have hm' : m = G.length := by omega
        subst hm'
        have hE : Hid (OI wr B (.slice (some ⟨g, 0, none⟩) G.length c) (ims 1 G.length)) := by have := hr.out; simpa [Hid] using this
        clear h hr
        go_wp2_with fail
        go_ret
        exact ⟨rfl, hE.out, hg.out⟩

set_option maxHeartbeats 2000000 in
theorem heldI_full (B : Nat) (s : Option Addr) (n c : Nat) (w : World) (h : Els 1 cInt w B s (ims 1 n)) (hl : n ≤ 4398046511104) :
    Calls Tryz.prog 16 #[.slice s n c, .int .i64 1] w fun e w' => e = .returned (.int .i64 (1 + (n : Int))) ∧ Below w.heap.size w w' := by
  have H : Hid (Els 1 cInt w B s (ims 1 n)) := h
  clear h
  go_enter Tryz.func16, Tryz.ntmps16
  go_wp2_with fail
  go_loop [1, 5] (fun cv i => ∃ m : Nat, m ≤ n ∧ i = .int .i64 m ∧ cv = .int .i64 (1 + (m : Int))) (fun _ i => n - (intOf i).toNat)
  case atStart => exact ⟨0, Nat.zero_le _, rfl, by simp⟩
  case round =>
    obtain ⟨m, hm, rfl, rfl⟩ := hrel
    by_cases hlt : m < n
    · obtain ⟨b, o, rfl, _, hb, e0⟩ := eInt_cells H.out (ims_get 1 n m hlt)
      go_wp2_with fail
      go_round
      case rel => exact ⟨m + 1, by omega, by go_num, by go_num⟩
      case measure => simp [intOf]; omega
    · have hm' : m = n := by omega
      subst hm'
      go_wp2_with fail
      go_ret
      exact ⟨rfl, Below.refl _ _⟩

set_option maxHeartbeats 2000000 in
theorem eqI_more (s t : Option Addr) (c d : Nat) (R : List Int) (B C : Nat) (w : World) (hs : Els 1 cInt w B s R) (ht : Els 1 cInt w C t R) (hl : R.length ≤ 4398046511104) :
    Calls Tryz.prog 14 #[.slice s R.length c, .slice t R.length d] w fun e w' => e = .returned (.bool true) ∧ Below w.heap.size w w' := by
  have H1 : Hid (Els 1 cInt w B s R) := hs
  have H2 : Hid (Els 1 cInt w C t R) := ht
  clear hs ht
  go_enter Tryz.func14, Tryz.ntmps14
  go_wp2
  go_loopw [5] (fun i wr => ∃ k : Nat, k ≤ R.length ∧ i = .int .i64 k ∧ Hid (Below w.heap.size w wr)) (fun i _ => R.length - (intOf i).toNat)
  case atStart => exact ⟨0, Nat.zero_le _, rfl, Below.refl _ _⟩
  case round =>
    obtain ⟨k, hk, rfl, hbel⟩ := hrel
    by_cases hlt : k < R.length
    · obtain ⟨x, hx⟩ := get_some hlt
      obtain ⟨b, o, rfl, _, hb, d1⟩ := eInt_cells (H1.out.later cInt_keeps hbel.out) hx
      obtain ⟨b2, o2, rfl, _, hb2, d2⟩ := eInt_cells (H2.out.later cInt_keeps hbel.out) hx
      have g : (x != x) = false := by simp
      clear hx
      go_wp2
      go_region
      go_wp2
      go_roundw
      case rel => exact ⟨k + 1, by omega, by go_num, bl_drewN hbel.out _⟩
      case measure => simp [intOf]; omega
    · go_wp2
      go_ret
      exact ⟨rfl, hbel.out⟩
end Go.Proofs.YtknallkcengbbaaGreatDoor
namespace Go.Proofs.YtknallkcengbbaaGreatDoor
open Go.RowKit
set_option linter.unusedVariables false
set_option linter.unusedSimpArgs false

theorem Hid.mk' {p : Prop} (h : p) : Hid p := h
/-- a row of one's own: its elements' type, the cells of each, the slice, how many, the cells. -/
structure OR where
  T : TypeId
  k : Nat
  v : Value
  n : Nat
  cs : List Value
def OR.on (w : World) (B : Nat) (r : OR) : Prop := w.ownsRow B r.T r.k r.v r.n r.cs
def blks (R : List OR) : List Nat := R.filterMap fun r => r.v.ownBlock
/-- rows of one's own that share no block. -/
structure Owns (w : World) (B : Nat) (R : List OR) : Prop where
  on : ∀ r ∈ R, r.on w B
  nd : (blks R).Nodup

theorem OR.on.lt {w : World} {B : Nat} {r : OR} (h : r.on w B) : ∀ g, r.v.ownBlock = some g → B ≤ g ∧ g < w.heap.size := World.ownsRow.lt h
theorem OR.on.same {w w' : World} {B : Nat} {r : OR} (h : r.on w B) (hs : ∀ g, r.v.ownBlock = some g → w'.heap[g]? = w.heap[g]?) : r.on w' B := by
  refine ⟨h.1, ?_⟩
  rcases h.2 with h' | ⟨g, cap', cur, h', hb, hg, r'⟩
  · exact Or.inl h'
  · exact Or.inr ⟨g, cap', cur, h', hb, (hs g (by rw [h']; rfl)).trans hg, r'⟩
theorem OR.on.mono {w : World} {B B' : Nat} {r : OR} (h : r.on w B) (hB : B' ≤ B) : r.on w B' := Go.Joins.ownsRow_le h hB
theorem mem_blks {R : List OR} {g : Nat} : g ∈ blks R ↔ ∃ r ∈ R, r.v.ownBlock = some g := by simp [blks]
theorem blks_cons (r : OR) (R : List OR) : blks (r :: R) = r.v.ownBlock.toList ++ blks R := by
  unfold blks
  rw [List.filterMap_cons]
  cases h : r.v.ownBlock <;> simp
theorem blks_append (R S : List OR) : blks (R ++ S) = blks R ++ blks S := by simp [blks]
theorem Owns.nil (w : World) (B : Nat) : Owns w B [] := ⟨fun r h => by simp at h, by simp [blks]⟩
theorem Owns.perm {w : World} {B : Nat} {R S : List OR} (h : Owns w B R) (hp : R.Perm S) : Owns w B S :=
  ⟨fun r hr => h.on r (hp.mem_iff.2 hr), (hp.filterMap _).nodup_iff.1 h.nd⟩
theorem Owns.mono {w : World} {B B' : Nat} {R : List OR} (h : Owns w B R) (hB : B' ≤ B) : Owns w B' R := ⟨fun r hr => (h.on r hr).mono hB, h.nd⟩
theorem Owns.lt {w : World} {B : Nat} {R : List OR} (h : Owns w B R) {g : Nat} (hg : g ∈ blks R) : B ≤ g ∧ g < w.heap.size := by
  obtain ⟨r, hr, e⟩ := mem_blks.1 hg
  exact (h.on r hr).lt g e
theorem Owns.same {w w' : World} {B : Nat} {R : List OR} (h : Owns w B R) (hs : ∀ g, g ∈ blks R → w'.heap[g]? = w.heap[g]?) : Owns w' B R :=
  ⟨fun r hr => (h.on r hr).same fun g hg => hs g (mem_blks.2 ⟨r, hr, hg⟩), h.nd⟩
theorem Owns.later {w w' : World} {B : Nat} {R : List OR} (h : Owns w B R) (hb : Below w.heap.size w w') : Owns w' B R :=
  h.same fun g hg => hb.block g (h.lt hg).2
theorem Owns.kept {w w' : World} {B : Nat} {R : List OR} (h : Owns w B R) (hk : Kept B w w') : Owns w' B R :=
  h.same fun g hg => hk.2 g (h.lt hg).1 (h.lt hg).2
theorem Owns.grown {w w' : World} {B : Nat} {R : List OR} {r : Option Nat} (h : Owns w B R) (hg : w.grownBy w' r) (hn : ∀ g, r = some g → ¬ g ∈ blks R) : Owns w' B R :=
  h.same fun g hg' => hg.block g (h.lt hg').2 (fun e => hn g e.symm hg')
theorem Owns.tail {w : World} {B : Nat} {r : OR} {R : List OR} (h : Owns w B (r :: R)) : Owns w B R := by
  refine ⟨fun q hq => h.on q (by simp [hq]), ?_⟩
  have := h.nd
  rw [blks_cons] at this
  exact (List.nodup_append.1 this).2.1
theorem Owns.head {w : World} {B : Nat} {r : OR} {R : List OR} (h : Owns w B (r :: R)) : r.on w B := h.on r (by simp)
theorem Owns.off {w : World} {B : Nat} {r : OR} {R : List OR} (h : Owns w B (r :: R)) {g : Nat} (hg : r.v.ownBlock = some g) : ¬ g ∈ blks R := by
  have := h.nd
  rw [blks_cons, hg] at this
  intro hm
  exact (List.nodup_append.1 this).2.2 g (by simp) g hm rfl
theorem Owns.left {w : World} {B : Nat} {R S : List OR} (h : Owns w B (R ++ S)) : Owns w B R := by
  refine ⟨fun q hq => h.on q (by simp [hq]), ?_⟩
  have := h.nd
  rw [blks_append] at this
  exact (List.nodup_append.1 this).1
theorem Owns.right {w : World} {B : Nat} {R S : List OR} (h : Owns w B (R ++ S)) : Owns w B S := by
  refine ⟨fun q hq => h.on q (by simp [hq]), ?_⟩
  have := h.nd
  rw [blks_append] at this
  exact (List.nodup_append.1 this).2.1
/-- two groups of rows that share no block. -/
theorem Owns.join {w : World} {B : Nat} {R S : List OR} (h : Owns w B R) (g : Owns w B S) (ha : ∀ b, b ∈ blks R → ¬ b ∈ blks S) : Owns w B (R ++ S) := by
  refine ⟨fun q hq => ?_, ?_⟩
  · rcases List.mem_append.1 hq with h' | h'
    · exact h.on q h'
    · exact g.on q h'
  · rw [blks_append]
    exact List.nodup_append.2 ⟨h.nd, g.nd, fun a ha' b hb e => ha a ha' (e ▸ hb)⟩
/-- what was made later joins what was there. -/
theorem Owns.add {w w' : World} {B : Nat} {R S : List OR} (h : Owns w B R) (hb : Below w.heap.size w w') (g : Owns w' w.heap.size S) (hB : B ≤ w.heap.size) : Owns w' B (R ++ S) :=
  (h.later hb).join (g.mono hB) fun b h1 h2 => by
    have := (h.lt h1).2
    have := (g.lt h2).1
    omega
theorem Owns.one {w : World} {B : Nat} {r : OR} (h : r.on w B) : Owns w B [r] := by
  refine ⟨fun q hq => ?_, ?_⟩
  · simp at hq; subst hq; exact h
  · rw [blks_cons]; cases r.v.ownBlock <;> simp [blks]
/-- one row turns, the others stay. -/
theorem Owns.turn {w w' : World} {B : Nat} {r r' : OR} {R : List OR} (h : Owns w B (r :: R)) (hg : w.grownBy w' r.v.ownBlock) (hr : r'.on w' B) (hn : ∀ g, r'.v.ownBlock = some g → r.v.ownBlock = some g ∨ w.heap.size ≤ g) : Owns w' B (r' :: R) := by
  have ht := h.tail.grown hg (fun g e => h.off e)
  refine (Owns.one hr).join ht fun b h1 h2 => ?_
  obtain ⟨q, hq, e⟩ := mem_blks.1 h1
  simp at hq
  subst hq
  rcases hn b e with e' | e'
  · exact h.off e' h2
  · have := (h.tail.lt h2).2
    omega
theorem els_own {α : Type} {k : Nat} {E : World → Nat → List Value → α → Prop} {f : α → List Value} (hf : ∀ a, (f a).length = k) {w : World} {B : Nat} {T : TypeId} {s : Option Addr} {c : Nat} {L : List α} (h : w.ownsRow B T k (.slice s L.length c) L.length (L.flatMap f)) (hE : ∀ a ∈ L, E w B (f a) a) : Els k E w B s L := by
  rcases Go.Joins.ownsRow_forms h with ⟨_, h0⟩ | ⟨g, cap, e⟩
  · exact Or.inl (List.length_eq_zero_iff.1 h0)
  · cases e; exact els_of_row hf h hE
theorem OR.on.shape {w : World} {B : Nat} {r : OR} (h : r.on w B) : ∃ s c, r.v = .slice s r.n c := by
  rcases Go.Joins.ownsRow_forms h with ⟨e, h0⟩ | ⟨g, cap, e⟩
  · exact ⟨_, _, by rw [e, h0]⟩
  · exact ⟨_, _, e⟩
def rI (v : Value) (L : List Int) : OR := ⟨3, 1, v, L.length, L.map (Value.int .i64)⟩
theorem map_flat (L : List Int) : L.map (Value.int .i64) = L.flatMap fun n => [Value.int .i64 n] := by
  induction L with
  | nil => rfl
  | cons a L ih => rw [List.map_cons, List.flatMap_cons, ih]; rfl
theorem rI_els {w : World} {B : Nat} {s : Option Addr} {c : Nat} {L : List Int} (h : (rI (.slice s L.length c) L).on w B) : Els 1 cInt w B s L := by
  refine els_own (f := fun n => [Value.int .i64 n]) (fun _ => rfl) (T := 3) (c := c) ?_ (fun a _ => rfl)
  rw [← map_flat]; exact h
/-- a box as a row of one element. -/
def rB (k : Nat) (T : TypeId) (cs : List Value) : OR := ⟨T, cs.length, .slice (some ⟨k, 0, none⟩) 1 1, 1, cs⟩
theorem rB_blk {w : World} {B k : Nat} {T : TypeId} {cs : List Value} (h : (rB k T cs).on w B) : Blk w k cs.toArray T := by
  rcases h.2 with ⟨e, _⟩ | ⟨g, cap, cur, e, hb, hg, h1, h2, h3, h4⟩
  · cases e
  · simp only [rB, Value.slice.injEq, Option.some.injEq, Addr.mk.injEq] at e
    obtain ⟨⟨rfl, _⟩, _, rfl⟩ := e
    have e : cur = cs.toArray := by
      apply Array.toList_inj.1
      have h4 : cur.toList.take (1 * cs.length) = cs := h4
      have h3 : cur.size = 1 * cs.length := h3
      rw [← h4, List.take_of_length_le (by rw [Array.length_toList, h3]; exact Nat.le_refl _)]
    rw [← e]; exact hg
theorem blk_rB {w : World} {B k : Nat} {T : TypeId} {cs : List Value} (h : Blk w k cs.toArray T) (hB : B ≤ k) : (rB k T cs).on w B :=
  ⟨by simp [rB], Or.inr ⟨k, 1, cs.toArray, rfl, hB, h, Nat.le_refl _, by unfold maxLen; omega, by simp [rB], by simp [rB, List.take_of_length_le]⟩⟩
/-- under way: since X nothing below B has turned, and the rows R are one's own. -/
structure Rs (X : World) (B : Nat) (W : World) (R : List OR) : Prop where
  l : Below B X W
  o : Owns W B R
  s : B ≤ W.heap.size
theorem Rs.start {X : World} {B : Nat} {R : List OR} (h : Owns X B R) (hB : B ≤ X.heap.size) : Rs X B X R := ⟨Below.refl _ _, h, hB⟩
theorem Rs.nil (X : World) : Rs X X.heap.size X [] := ⟨Below.refl _ _, Owns.nil _ _, Nat.le_refl _⟩
theorem Rs.drew {X W : World} {B : Nat} {R : List OR} (h : Rs X B W R) : Rs X B W.drew R := ⟨h.l.drew, h.o.same fun _ _ => rfl, h.s⟩
theorem Rs.blk {X W : World} {B : Nat} {R : List OR} (h : Rs X B W R) {n : Nat} {c : Array Value} {t : TypeId} (hb : Blk X n c t) (hn : n < B) : Blk W n c t := by
  unfold Blk; rw [h.l.block n hn]; exact hb
theorem Rs.perm {X W : World} {B : Nat} {R S : List OR} (h : Rs X B W R) (hp : R.Perm S) : Rs X B W S := ⟨h.l, h.o.perm hp, h.s⟩
theorem perm_ins {α : Type} (P S : List α) (r : α) : (P ++ S ++ [r]).Perm (P ++ r :: S) := by
  rw [List.append_assoc]
  exact List.Perm.append_left P List.perm_append_comm
theorem perm_mid {α : Type} (P S : List α) (r : α) : (P ++ r :: S).Perm (r :: (P ++ S)) := List.perm_middle
theorem Rs.later {X W W' : World} {B : Nat} {R : List OR} (h : Rs X B W R) (hb : Below W.heap.size W W') : Rs X B W' R :=
  ⟨h.l.trans (hb.mono h.s), h.o.later hb, Nat.le_trans h.s hb.size⟩
/-- a new row. -/
theorem Rs.ins {X W W' : World} {B : Nat} (P S : List OR) {r : OR} (h : Rs X B W (P ++ S)) (hb : Below W.heap.size W W') (hr : r.on W' W.heap.size) : Rs X B W' (P ++ r :: S) :=
  ⟨h.l.trans (hb.mono h.s), (h.o.add hb (Owns.one hr) h.s).perm (perm_ins P S r), Nat.le_trans h.s hb.size⟩
/-- many new rows. -/
theorem Rs.insM {X W W' : World} {B : Nat} (P M S : List OR) (h : Rs X B W (P ++ S)) (hb : Below W.heap.size W W') (hr : Owns W' W.heap.size M) : Rs X B W' (P ++ (M ++ S)) :=
  ⟨h.l.trans (hb.mono h.s), (h.o.add hb hr h.s).perm (by rw [List.append_assoc]; exact List.Perm.append_left P List.perm_append_comm), Nat.le_trans h.s hb.size⟩
/-- a row turns. -/
theorem Rs.turn {X W W' : World} {B : Nat} (P S : List OR) {r r' : OR} (h : Rs X B W (P ++ r :: S)) (hg : W.grownBy W' r.v.ownBlock) (hr : r'.on W' B) (hn : ∀ g, r'.v.ownBlock = some g → r.v.ownBlock = some g ∨ W.heap.size ≤ g) : Rs X B W' (P ++ r' :: S) := by
  have ho := h.o.perm (perm_mid P S r)
  refine ⟨h.l.grown hg h.s (fun k e => (ho.head.lt k e).1), (ho.turn hg hr hn).perm (perm_mid P S r').symm, Nat.le_trans h.s hg.size⟩
/-- a row is let go. -/
theorem Rs.less {X W : World} {B : Nat} (P S : List OR) {r : OR} (h : Rs X B W (P ++ r :: S)) : Rs X B W (P ++ S) := ⟨h.l, (h.o.perm (perm_mid P S r)).tail, h.s⟩
theorem Rs.at {X W : World} {B : Nat} (P S : List OR) {r : OR} (h : Rs X B W (P ++ r :: S)) : r.on W B := h.o.on r (by simp)
theorem Rs.box {X W : World} {B : Nat} (P S : List OR) {k : Nat} {T : TypeId} {cs : List Value} (h : Rs X B W (P ++ rB k T cs :: S)) : Blk W k cs.toArray T := rB_blk (h.at P S)
/-- a box is written anew, whole. -/
theorem Rs.putB {X W : World} {B : Nat} (P S : List OR) {k : Nat} {T : TypeId} {cs ds : List Value} (h : Rs X B W (P ++ rB k T cs :: S)) : Rs X B (W.setRow k ds.toArray) (P ++ rB k T ds :: S) := by
  have hb := h.box P S
  have hB : B ≤ k := ((h.at P S).lt k rfl).1
  refine h.turn P S ⟨rfl, rfl, rfl, by simp [World.setRow], fun q hq hne => setRow_other W k q _ (fun e => hne (by rw [e]; rfl))⟩ (blk_rB (setRow_heap W k _ _ _ _ hb) hB) (fun g hg => Or.inl hg)
/-- a cell of a box is written. -/
theorem Rs.setB {X W : World} {B : Nat} (P S : List OR) {k : Nat} {T : TypeId} {cs : List Value} (i : Nat) (u : Value) (h : Rs X B W (P ++ rB k T cs :: S)) : Rs X B (W.setCell ⟨k, i, none⟩ u) (P ++ rB k T (cs.set i u) :: S) := by
  have hb := h.box P S
  have hB : B ≤ k := ((h.at P S).lt k rfl).1
  refine h.turn P S ⟨rfl, rfl, rfl, by simp, fun q hq hne => Below.heap_setCell W ⟨k, i, none⟩ u q (fun e => hne (by dsimp only at e; rw [e]; rfl))⟩ (blk_rB ?_ hB) (fun g hg => Or.inl hg)
  have := hb.set i u
  rw [List.setIfInBounds_toArray] at this
  exact this

theorem rng0 : Array.range 0 = #[] := by apply Array.toList_inj.1; simp
theorem rng1 : Array.range 1 = #[0] := by apply Array.toList_inj.1; simp
theorem rng3 : Array.range 3 = #[0, 1, 2] := by apply Array.toList_inj.1; simp; rfl
theorem exec_alloc {P : Program} {t : TypeId} {i : TypeInfo} {z : Value} (hi : P.info? t = some i) (hz : i.zero = some z) (ρ : Operand → Value) (o : Oper) (ho : o.op = .alloc t) (w : World) : (execOp ρ o).run P w = .ok (.value (.pointer (some ⟨w.heap.size, 0, none⟩))) (w.alloc (.cells z.cells t)) := by
  simp [execOp, ho, Instr.alloc, sizeOf, typeInfo, zeroValue, hi, hz, newRow, newVar]
theorem exec_bs0 {P : Program} {t e : TypeId} {i : TypeInfo} (hu : P.underlying t = some (.slice e)) (hi : P.info? e = some i) (ρ : Operand → Value) (o : Oper) (ho : o.op = .buildSlice t 0 #[]) (w : World) : (execOp ρ o).run P w = .ok (.value (.slice (some ⟨w.heap.size, 0, none⟩) 0 0)) (w.alloc (.cells #[] e)) := by
  simp [execOp, ho, Instr.buildSlice, run_underlying hu, sizeOf, typeInfo, zeroValue, hi, newRow, newVar, Instr.fill, rng0]
theorem exec_bs1 {P : Program} {t e : TypeId} {i : TypeInfo} {z : Value} (hu : P.underlying t = some (.slice e)) (hi : P.info? e = some i) (hz : i.zero = some z) (hn : i.size = 1) (ρ : Operand → Value) (o : Oper) (x : Operand) (s : Option Addr) (n c : Nat) (hv : ρ x = .slice s n c) (ho : o.op = .buildSlice t 1 #[(0, x)]) (w : World) : (execOp ρ o).run P w = .ok (.value (.slice (some ⟨w.heap.size, 0, none⟩) 1 1)) (w.alloc (.cells #[.slice s n c] e)) := by
  have hf : Instr.fill (fun j => some (j * i.size, i.size)) ((Array.range (1 * i.size)).map (z.cells[· % z.cells.size]!)) ((#[(0, x)] : Array (Nat × Operand)).map fun (j, x) => (j, ρ x)).toList = some #[.slice s n c] := by
    rw [hn]
    simp [hv, Instr.fill, Value.cells, rng1]
  have hr := run_buildSlice (P := P) w t e 1 ((#[(0, x)] : Array (Nat × Operand)).map fun (j, x) => (j, ρ x)) _ i z hu hi hz (by rw [hn]; decide) (by rw [hn]; decide) hf
  simp only [execOp, ho, Sem.run_bind, hr, Result.andThen_ok, Sem.run_pure]
theorem exec_bs1v {P : Program} {t e : TypeId} {i : TypeInfo} {z : Value} (hu : P.underlying t = some (.slice e)) (hi : P.info? e = some i) (hz : i.zero = some z) (hn : i.size = 1) (ρ : Operand → Value) (o : Oper) (x : Operand) (u : Value) (hc : u.cells = #[u]) (hv : ρ x = u) (ho : o.op = .buildSlice t 1 #[(0, x)]) (w : World) : (execOp ρ o).run P w = .ok (.value (.slice (some ⟨w.heap.size, 0, none⟩) 1 1)) (w.alloc (.cells #[u] e)) := by
  have hf : Instr.fill (fun j => some (j * i.size, i.size)) ((Array.range (1 * i.size)).map (z.cells[· % z.cells.size]!)) ((#[(0, x)] : Array (Nat × Operand)).map fun (j, x) => (j, ρ x)).toList = some #[u] := by
    rw [hn]
    simp [hv, Instr.fill, hc, rng1]
  have hr := run_buildSlice (P := P) w t e 1 ((#[(0, x)] : Array (Nat × Operand)).map fun (j, x) => (j, ρ x)) _ i z hu hi hz (by rw [hn]; decide) (by rw [hn]; decide) hf
  simp only [execOp, ho, Sem.run_bind, hr, Result.andThen_ok, Sem.run_pure]
theorem exec_bs3 {P : Program} {t e : TypeId} {i : TypeInfo} {z : Value} (hu : P.underlying t = some (.slice e)) (hi : P.info? e = some i) (hz : i.zero = some z) (hn : i.size = 3) (ρ : Operand → Value) (o : Oper) (x : Operand) (u0 u1 u2 : Value) (hv : ρ x = .agg #[u0, u1, u2]) (ho : o.op = .buildSlice t 1 #[(0, x)]) (w : World) : (execOp ρ o).run P w = .ok (.value (.slice (some ⟨w.heap.size, 0, none⟩) 1 1)) (w.alloc (.cells #[u0, u1, u2] e)) := by
  have hf : Instr.fill (fun j => some (j * i.size, i.size)) ((Array.range (1 * i.size)).map (z.cells[· % z.cells.size]!)) ((#[(0, x)] : Array (Nat × Operand)).map fun (j, x) => (j, ρ x)).toList = some #[u0, u1, u2] := by
    rw [hn]
    simp [hv, Instr.fill, Value.cells, rng3]
  have hr := run_buildSlice (P := P) w t e 1 ((#[(0, x)] : Array (Nat × Operand)).map fun (j, x) => (j, ρ x)) _ i z hu hi hz (by rw [hn]; decide) (by rw [hn]; decide) hf
  simp only [execOp, ho, Sem.run_bind, hr, Result.andThen_ok, Sem.run_pure]
/-- a step that hands back a value and leaves a world. -/
theorem step_exec {P : Program} {ops : Array Oper} {o : Oper} {a : Act} {w w' : World} {K : Act → World → Prop} {Q : Exit → Act → World → Prop} {E : Prop} {v : Value} (hg : o.guard = none) {d0 : Option Nat} (hd : o.dst = d0) (hr : (execOp a.eval o).run P w = .ok (.value v) w') (hK : K (a.put d0 v) w') :
    if Region.wanted o (yielded ops a.tmps) = true then Oper.wp P o a w K Q else E := by
  have hw : Region.wanted o (yielded ops a.tmps) = true := by simp [Region.wanted, hg]
  rw [if_pos hw]
  unfold Oper.wp
  rw [← hd] at hK
  simp [hr]
  exact hK

theorem run_append_zeroK {P : Program} {t e : TypeId} {i : TypeInfo} (hu : P.underlying t = some (.slice e)) (hi : P.info? e = some i) (w : World) (ty : TypeId) (s x : Option Addr) (n c d : Nat) (h : n ≤ c) : (Builtin.append_ #[t, t] ty #[.slice s n c, .slice x 0 d]).run P w = .ok (.slice s n c) w := by
  cases x with
  | none => cases s <;> simp [Builtin.append_, run_underlying hu, sizeOf, typeInfo, hi, Builtin.lenOf, Builtin.firstCells, storeCells, h]
  | some a =>
    have hl := run_loadCells_list (P := P) w a [] (by simp)
    simp only [List.length_nil] at hl
    cases s <;> simp [Builtin.append_, run_underlying hu, sizeOf, typeInfo, hi, Builtin.lenOf, Builtin.firstCells, hl, storeCells, h]
section
variable {P : Program} {md : Region.Mode} {ops : Array Oper} {Q : Exit → Act → World → Prop} {S : World → Prop} {n n' : Nat} {l l' : Array Bool} {a a' : Act} {w : World}
theorem dag_start (h : ∀ (G : Nat → Array Bool → Act → World → Prop) (a0 : Act), G = wpAnyH P md ops Q S → a0 = a → G n l a0 w) : wpAnyH P md ops Q S n l a w := h _ _ rfl rfl
theorem dag_to {G : Nat → Array Bool → Act → World → Prop} (hG : G = wpAnyH P md ops Q S) (h : G n' l' a' w) (hn : n = n') (hl : l = l') (ha : a = a') : wpAnyH P md ops Q S n l a w := by
  subst hn hl ha; rw [← hG]; exact h
end
section
variable {X : World} {B : Nat} {ops : Array Oper} {o : Oper} {a : Act} {w : World} {K : Act → World → Prop} {Q : Exit → Act → World → Prop} {E : Prop}
/-- a box comes into being. -/
theorem step_box (P S : List OR) (hR : Rs X B w (P ++ S)) (hg : o.guard = none) {d0 : Option Nat} (hd : o.dst = d0) (t : TypeId) {i : TypeInfo} {z : Value} (hi : Tryz.prog.info? t = some i) (hz : i.zero = some z) (ho : o.op = .alloc t)
    (hK : ∀ k w', Rs X B w' (P ++ rB k t z.cells.toList :: S) → K (a.put d0 (.pointer (some ⟨k, 0, none⟩))) w') :
    if Region.wanted o (yielded ops a.tmps) = true then Oper.wp Tryz.prog o a w K Q else E :=
  step_exec hg hd (exec_alloc hi hz _ o ho w) (hK w.heap.size _ (hR.ins P S (bl_alloc (Below.refl _ _) _) (blk_rB (Blk.new w _ t) (Nat.le_refl _))))
/-- an empty list comes into being. -/
theorem step_bs0 (P S : List OR) (hR : Rs X B w (P ++ S)) (hg : o.guard = none) {d0 : Option Nat} (hd : o.dst = d0) (t e : TypeId) {i : TypeInfo} (hu : Tryz.prog.underlying t = some (.slice e)) (hi : Tryz.prog.info? e = some i) (ho : o.op = .buildSlice t 0 #[]) (r : Value → OR) (sz : Nat) (hr : ∀ v, r v = ⟨e, sz, v, 0, []⟩)
    (hK : ∀ k w', Rs X B w' (P ++ r (.slice (some ⟨k, 0, none⟩) 0 0) :: S) → K (a.put d0 (.slice (some ⟨k, 0, none⟩) 0 0)) w') :
    if Region.wanted o (yielded ops a.tmps) = true then Oper.wp Tryz.prog o a w K Q else E := by
  refine step_exec hg hd (exec_bs0 hu hi _ o ho w) (hK w.heap.size _ (hR.ins P S (bl_alloc (Below.refl _ _) _) ?_))
  rw [hr]
  exact ⟨by simp, Or.inr ⟨w.heap.size, 0, #[], rfl, Nat.le_refl _, Blk.new w _ e, Nat.le_refl _, by unfold maxLen; omega, by simp, by simp⟩⟩
/-- a list of one element, of one cell, comes into being. -/
theorem step_bs1 (P S : List OR) (hR : Rs X B w (P ++ S)) (hg : o.guard = none) {d0 : Option Nat} (hd : o.dst = d0) (t e : TypeId) {i : TypeInfo} {z : Value} (hu : Tryz.prog.underlying t = some (.slice e)) (hi : Tryz.prog.info? e = some i) (hz : i.zero = some z) (hn : i.size = 1) (x : Operand) (ho : o.op = .buildSlice t 1 #[(0, x)]) (u : Value) (hc : u.cells = #[u]) (hx : a.eval x = u)
    (hK : ∀ k w', Rs X B w' (P ++ rB k e [u] :: S) → K (a.put d0 (.slice (some ⟨k, 0, none⟩) 1 1)) w') :
    if Region.wanted o (yielded ops a.tmps) = true then Oper.wp Tryz.prog o a w K Q else E :=
  step_exec hg hd (exec_bs1v hu hi hz hn _ o x u hc hx ho w) (hK w.heap.size _ (hR.ins P S (bl_alloc (Below.refl _ _) _) (blk_rB (Blk.new w _ e) (Nat.le_refl _))))
/-- .. of three cells. -/
theorem step_bs3 (P S : List OR) (hR : Rs X B w (P ++ S)) (hg : o.guard = none) {d0 : Option Nat} (hd : o.dst = d0) (t e : TypeId) {i : TypeInfo} {z : Value} (hu : Tryz.prog.underlying t = some (.slice e)) (hi : Tryz.prog.info? e = some i) (hz : i.zero = some z) (hn : i.size = 3) (x : Operand) (ho : o.op = .buildSlice t 1 #[(0, x)]) (u0 u1 u2 : Value) (hx : a.eval x = .agg #[u0, u1, u2])
    (hK : ∀ k w', Rs X B w' (P ++ rB k e [u0, u1, u2] :: S) → K (a.put d0 (.slice (some ⟨k, 0, none⟩) 1 1)) w') :
    if Region.wanted o (yielded ops a.tmps) = true then Oper.wp Tryz.prog o a w K Q else E :=
  step_exec hg hd (exec_bs3 hu hi hz hn _ o x u0 u1 u2 hx ho w) (hK w.heap.size _ (hR.ins P S (bl_alloc (Below.refl _ _) _) (blk_rB (Blk.new w _ e) (Nat.le_refl _))))
/-- onto a list of one's own others are laid. -/
theorem step_app (P S : List OR) {r : OR} (hR : Rs X B w (P ++ r :: S)) (hg : o.guard = none) {d0 : Option Nat} (hd : o.dst = d0) (s x : Operand) (t : TypeId) {i : TypeInfo} {z : Value} (bytes : Nat) (ho : o.op = .call { callee := .builtin .append, args := #[s, x], argTypes := #[t, t] })
    (hu : Tryz.prog.underlying t = some (.slice r.T)) (hi : Tryz.prog.info? r.T = some i) (hz : i.zero = some z) (hsize : i.size = r.k) (hby : i.bytes = bytes) (hzs : z.cells.size = r.k) (hsz : 0 < r.k) (hs : a.eval s = r.v)
    (xs : Option Addr) (m d : Nat) (news : List Value) (hx : a.eval x = .slice xs m d) (hl : news.length = m * r.k) (hnews : m = 0 ∨ ∃ ad, xs = some ad ∧ ∀ j u, news[j]? = some u → w.cell? (ad.add j) = some u) (h1 : ∀ u ∈ news, u.oneCell' = true)
    (h63 : r.n + m ≤ maxLen) (hbytes : (r.n + m) * bytes ≤ 140737488355328) (N : Nat) (hN : r.n + m = N) (f : Value → OR) (hf : ∀ v, f v = ⟨r.T, r.k, v, N, r.cs ++ news⟩)
    (hK : ∀ s' c' w', Rs X B w' (P ++ f (.slice s' N c') :: S) → K (a.put d0 (.slice s' N c')) w') :
    if Region.wanted o (yielded ops a.tmps) = true then Oper.wp Tryz.prog o a w K Q else E := by
  subst hN
  have hr := hR.at P S
  have exec : ∀ (v' : Value) (w' : World), (Builtin.append_ #[t, t] o.type #[r.v, .slice xs m d]).run Tryz.prog w = .ok v' w' → (execOp a.eval o).run Tryz.prog w = .ok (.value v') w' := by
    intro v' w' h
    simp [execOp, ho, resolve, invoke, builtin, hs, hx, h, Result.andThen]
  rcases hnews with rfl | ⟨ad, rfl, hnews⟩
  · obtain ⟨s', c', e'⟩ := hr.shape
    have hc : r.n ≤ c' := by
      rcases hr.2 with ⟨q, _⟩ | ⟨g, cap, cur, q, _, _, h, _⟩
      · rw [e'] at q; simp only [Value.slice.injEq] at q; omega
      · rw [e'] at q; simp only [Value.slice.injEq] at q; obtain ⟨_, _, rfl⟩ := q; exact h
    have e0 : news = [] := List.eq_nil_of_length_eq_zero (by simpa using hl)
    have hrun := run_append_zeroK (P := Tryz.prog) hu hi w o.type s' xs r.n c' d hc
    rw [← e'] at hrun
    refine step_exec hg hd (exec _ _ hrun) ?_
    rw [e']
    refine hK s' c' w ?_
    have e1 : f (.slice s' (r.n + 0) c') = r := by rw [hf, e0, List.append_nil]; show (⟨r.T, r.k, .slice s' r.n c', r.n, r.cs⟩ : OR) = r; rw [← e']
    rw [e1]; exact hR
  · obtain ⟨v', w', hrun, h2, h3, _, h5⟩ := run_append_own_at (P := Tryz.prog) w B t o.type r.T i z r.k bytes hu hi hz hsize hby hzs hsz r.v r.n r.cs hr ad m d news hl hnews h1 h63 hbytes hR.s
    have hO : (⟨r.T, r.k, v', r.n + m, r.cs ++ news⟩ : OR).on w' B := h2
    obtain ⟨s', c', e'⟩ := hO.shape
    have e' : v' = .slice s' (r.n + m) c' := e'
    subst e'
    refine step_exec hg hd (exec _ _ hrun) (hK s' c' w' (hR.turn P S h3 (by rw [hf]; exact hO) ?_))
    rw [hf]
    intro g hg
    have hg : (Value.slice s' (r.n + m) c').ownBlock = some g := hg
    rcases h5 with h5 | h5
    · left; rw [← h5]; exact hg
    · right; rw [h5] at hg; cases hg; exact Nat.le_refl _
/-- onto a list of one's own others are laid. -/
theorem app_rs (P S : List OR) {r : OR} (hR : Rs X B w (P ++ r :: S)) (t ty : TypeId) {i : TypeInfo} {z : Value} (bytes : Nat)
    (hu : Tryz.prog.underlying t = some (.slice r.T)) (hi : Tryz.prog.info? r.T = some i) (hz : i.zero = some z) (hsize : i.size = r.k) (hby : i.bytes = bytes) (hzs : z.cells.size = r.k) (hsz : 0 < r.k)
    (xs : Option Addr) (m d : Nat) (news : List Value) (hl : news.length = m * r.k) (hnews : m = 0 ∨ ∃ ad, xs = some ad ∧ ∀ j u, news[j]? = some u → w.cell? (ad.add j) = some u) (h1 : ∀ u ∈ news, u.oneCell' = true)
    (h63 : r.n + m ≤ maxLen) (hbytes : (r.n + m) * bytes ≤ 140737488355328) (N : Nat) (hN : r.n + m = N) (f : Value → OR) (hf : ∀ v, f v = ⟨r.T, r.k, v, N, r.cs ++ news⟩) :
    ∃ s' c' w', (Builtin.append_ #[t, t] ty #[r.v, .slice xs m d]).run Tryz.prog w = .ok (.slice s' N c') w' ∧ Rs X B w' (P ++ f (.slice s' N c') :: S) := by
  subst hN
  have hr := hR.at P S
  rcases hnews with rfl | ⟨ad, rfl, hnews⟩
  · obtain ⟨s', c', e'⟩ := hr.shape
    have hc : r.n ≤ c' := by
      rcases hr.2 with ⟨q, _⟩ | ⟨g, cap, cur, q, _, _, h, _⟩
      · rw [e'] at q; simp only [Value.slice.injEq] at q; omega
      · rw [e'] at q; simp only [Value.slice.injEq] at q; obtain ⟨_, _, rfl⟩ := q; exact h
    have e0 : news = [] := List.eq_nil_of_length_eq_zero (by simpa using hl)
    have hrun := run_append_zeroK (P := Tryz.prog) hu hi w ty s' xs r.n c' d hc
    rw [← e'] at hrun
    have e1 : f r.v = r := by rw [hf, e0, List.append_nil, Nat.add_zero]
    refine ⟨s', c', w, by rw [← show r.v = .slice s' (r.n + 0) c' from e']; exact hrun, ?_⟩
    rw [← show r.v = .slice s' (r.n + 0) c' from e', e1]; exact hR
  · obtain ⟨v', w', hrun, h2, h3, _, h5⟩ := run_append_own_at (P := Tryz.prog) w B t ty r.T i z r.k bytes hu hi hz hsize hby hzs hsz r.v r.n r.cs hr ad m d news hl hnews h1 h63 hbytes hR.s
    have hO : (⟨r.T, r.k, v', r.n + m, r.cs ++ news⟩ : OR).on w' B := h2
    obtain ⟨s', c', e'⟩ := hO.shape
    have e' : v' = .slice s' (r.n + m) c' := e'
    subst e'
    refine ⟨s', c', w', hrun, hR.turn P S h3 (by rw [hf]; exact hO) ?_⟩
    rw [hf]
    intro g hg
    have hg : (Value.slice s' (r.n + m) c').ownBlock = some g := hg
    rcases h5 with h5 | h5
    · left; rw [← h5]; exact hg
    · right; rw [h5] at hg; cases hg; exact Nat.le_refl _
/-- .. in a region that does not draw. -/
theorem wpl_app {rest : List Oper} (P S : List OR) {r : OR} (hR : Rs X B w (P ++ r :: S)) (hg : o.guard = none) (s x : Operand) (t : TypeId) {i : TypeInfo} {z : Value} (bytes : Nat) (ho : o.op = .call { callee := .builtin .append, args := #[s, x], argTypes := #[t, t] })
    (hu : Tryz.prog.underlying t = some (.slice r.T)) (hi : Tryz.prog.info? r.T = some i) (hz : i.zero = some z) (hsize : i.size = r.k) (hby : i.bytes = bytes) (hzs : z.cells.size = r.k) (hsz : 0 < r.k) (hs : a.eval s = r.v)
    (xs : Option Addr) (m d : Nat) (news : List Value) (hx : a.eval x = .slice xs m d) (hl : news.length = m * r.k) (hnews : m = 0 ∨ ∃ ad, xs = some ad ∧ ∀ j u, news[j]? = some u → w.cell? (ad.add j) = some u) (h1 : ∀ u ∈ news, u.oneCell' = true)
    (h63 : r.n + m ≤ maxLen) (hbytes : (r.n + m) * bytes ≤ 140737488355328) (N : Nat) (hN : r.n + m = N) (f : Value → OR) (hf : ∀ v, f v = ⟨r.T, r.k, v, N, r.cs ++ news⟩)
    (hK : ∀ s' c' w', Rs X B w' (P ++ f (.slice s' N c') :: S) → wpList Tryz.prog ops Q rest (a.put o.dst (.slice s' N c')) w') :
    wpList Tryz.prog ops Q (o :: rest) a w := by
  obtain ⟨s', c', w', hrun, h⟩ := app_rs P S hR t o.type bytes hu hi hz hsize hby hzs hsz xs m d news hl hnews h1 h63 hbytes N hN f hf
  refine wpList_plain hg fun K hK2 => ?_
  unfold Oper.wp
  simp [execOp, ho, resolve, invoke, builtin, hs, hx, hrun, Result.andThen]
  exact hK2 _ _ (hK s' c' w' h)
/-- a box is stored into, whole. -/
theorem step_put (P S : List OR) {k : Nat} {t ty : TypeId} {old : List Value} (hR : Rs X B w (P ++ rB k t old :: S)) (hg : o.guard = none) {d0 : Option Nat} (hd : o.dst = d0) (x y : Operand) (ho : o.op = .store ty x y) (cells : List Value) (hx : a.eval x = .pointer (some ⟨k, 0, none⟩)) (hy : a.eval y = .agg cells.toArray)
    (hi : (Tryz.prog.info? ty).map (·.size) = some cells.length) (hold : old.length = cells.length) (h1 : ∀ u ∈ cells, u.oneCell' = true)
    (hK : ∀ w', Rs X B w' (P ++ rB k t cells :: S) → K (a.put d0 undef) w') :
    if Region.wanted o (yielded ops a.tmps) = true then Oper.wp Tryz.prog o a w K Q else E := by
  have hw : Region.wanted o (yielded ops a.tmps) = true := by simp [Region.wanted, hg]
  rw [if_pos hw]
  exact wp_store_row ty x y ho k cells.toArray hx hy t old.toArray (hR.box P S) (by simpa using hi) (by simpa using hold) (by simp only [List.all_toArray, List.all_eq_true]; exact h1) (by rw [hd]; exact hK _ (hR.putB P S))
end
/-- nodes with where their kids lie. -/
abbrev NK := Nd × Value
def nc (q : NK) : List Value := [.int .i64 q.1.kind, .string q.1.text, .int .i64 q.1.num, q.2]
theorem nc_len (q : NK) : (nc q).length = 4 := rfl
def rN (v : Value) (Q : List NK) : OR := ⟨57, 4, v, Q.length, Q.flatMap nc⟩
def rK (Q : List NK) : List OR := Q.map fun q => rI q.2 q.1.kids
theorem Rs.addB {X W : World} {B : Nat} {R : List OR} (h : Rs X B W R) (cs : List Value) (t : TypeId) : Rs X B (W.alloc (.cells cs.toArray t)) (rB W.heap.size t cs :: R) :=
  h.ins [] R (bl_alloc (Below.refl _ _) _) (blk_rB (Blk.new W _ _) (Nat.le_refl _))
theorem rng4 : Array.range 4 = #[0, 1, 2, 3] := by apply Array.toList_inj.1; simp; rfl
theorem exec_bs4 {P : Program} {t e : TypeId} {i : TypeInfo} {z : Value} (hu : P.underlying t = some (.slice e)) (hi : P.info? e = some i) (hz : i.zero = some z) (hn : i.size = 4) (ρ : Operand → Value) (o : Oper) (x : Operand) (u0 u1 u2 u3 : Value) (hv : ρ x = .agg #[u0, u1, u2, u3]) (ho : o.op = .buildSlice t 1 #[(0, x)]) (w : World) : (execOp ρ o).run P w = .ok (.value (.slice (some ⟨w.heap.size, 0, none⟩) 1 1)) (w.alloc (.cells #[u0, u1, u2, u3] e)) := by
  have hf : Instr.fill (fun j => some (j * i.size, i.size)) ((Array.range (1 * i.size)).map (z.cells[· % z.cells.size]!)) ((#[(0, x)] : Array (Nat × Operand)).map fun (j, x) => (j, ρ x)).toList = some #[u0, u1, u2, u3] := by
    rw [hn]
    simp [hv, Instr.fill, Value.cells, rng4]
  have hr := run_buildSlice (P := P) w t e 1 ((#[(0, x)] : Array (Nat × Operand)).map fun (j, x) => (j, ρ x)) _ i z hu hi hz (by rw [hn]; decide) (by rw [hn]; decide) hf
  simp only [execOp, ho, Sem.run_bind, hr, Result.andThen_ok, Sem.run_pure]
section
variable {X w : World} {B : Nat} {o : Oper} {a : Act} {ops : Array Oper} {K : Act → World → Prop} {Q : Exit → Act → World → Prop} {E : Prop}
theorem step_bs4 (P S : List OR) (hR : Rs X B w (P ++ S)) (hg : o.guard = none) {d0 : Option Nat} (hd : o.dst = d0) (t e : TypeId) {i : TypeInfo} {z : Value} (hu : Tryz.prog.underlying t = some (.slice e)) (hi : Tryz.prog.info? e = some i) (hz : i.zero = some z) (hn : i.size = 4) (x : Operand) (ho : o.op = .buildSlice t 1 #[(0, x)]) (u0 u1 u2 u3 : Value) (hx : a.eval x = .agg #[u0, u1, u2, u3])
    (hK : ∀ k w', Rs X B w' (P ++ rB k e [u0, u1, u2, u3] :: S) → K (a.put d0 (.slice (some ⟨k, 0, none⟩) 1 1)) w') :
    if Region.wanted o (yielded ops a.tmps) = true then Oper.wp Tryz.prog o a w K Q else E :=
  step_exec hg hd (exec_bs4 hu hi hz hn _ o x u0 u1 u2 u3 hx ho w) (hK w.heap.size _ (hR.ins P S (bl_alloc (Below.refl _ _) _) (blk_rB (Blk.new w _ e) (Nat.le_refl _))))
end
theorem news4 {w : World} {k : Nat} {u0 u1 u2 u3 : Value} {t : TypeId} (h : Blk w k #[u0, u1, u2, u3] t) : ∀ (j : Nat) v, [u0, u1, u2, u3][j]? = some v → w.cell? ((⟨k, 0, none⟩ : Addr).add j) = some v := by
  intro j v hj
  match j, hj with
  | 0, hj => rw [Go.WideShapes.add_plain]; exact (h.cell 0).trans hj
  | 1, hj => rw [Go.WideShapes.add_plain]; exact (h.cell 1).trans hj
  | 2, hj => rw [Go.WideShapes.add_plain]; exact (h.cell 2).trans hj
  | 3, hj => rw [Go.WideShapes.add_plain]; exact (h.cell 3).trans hj
/-- a box of one cell, to be laid onto a list. -/
theorem srcB {w : World} {k : Nat} {u : Value} {t : TypeId} (h : Blk w k #[u] t) : 1 = 0 ∨ ∃ ad, some (⟨k, 0, none⟩ : Addr) = some ad ∧ ∀ j v, [u][j]? = some v → w.cell? (ad.add j) = some v := by
  refine Or.inr ⟨_, rfl, fun j v hv => ?_⟩
  have hj : j = 0 := by have := (List.getElem?_eq_some_iff.1 hv).1; simp at this; exact this
  subst hj
  simp at hv
  subst hv
  rw [Go.WideShapes.add_plain]
  exact h.cell 0
theorem Rs.left {X W : World} {B : Nat} {R S : List OR} (h : Rs X B W (R ++ S)) : Rs X B W R := ⟨h.l, h.o.left, h.s⟩
theorem Rs.right {X W : World} {B : Nat} {R S : List OR} (h : Rs X B W (R ++ S)) : Rs X B W S := ⟨h.l, h.o.right, h.s⟩
theorem Rs.cell {X W : World} {B : Nat} {R : List OR} (h : Rs X B W R) {p : Addr} (hp : p.block < B) : W.cell? p = X.cell? p := h.l.cell hp
end Go.Proofs.YtknallkcengbbaaGreatDoor
namespace Go.Proofs
open Go.Shelf
shelf_lay LaysM.n316 Nm 316 at Tryz as Tryz.laysClone
end Go.Proofs
namespace Go.Proofs.YtknallkcengbbaaGreatDoor
open Go.RowKit
set_option linter.unusedVariables false
set_option linter.unusedSimpArgs false
set_option maxHeartbeats 1000000 in
theorem clone_any (s : ByteArray) (hs : s.size ≤ 1048576) (w : World) :
    Calls Tryz.prog 41 #[.string s] w fun e w' => e = .returned (.string s) ∧ Below w.heap.size w w' := by
  go_enter Tryz.func41, Tryz.ntmps41
  go_wp2_with fail
  refine (Any.stringslite_Clone Tryz.laysClone s _ (by omega)).mono ?_
  rintro e w1 ⟨rfl, hb⟩
  go_wp2_with fail
  go_ret
  exact ⟨rfl, hb⟩

/-! Parts that are linked, in memory. -/
def rP (v : Value) (ps : List Nat) : OR := ⟨45, 1, v, ps.length, ps.map fun q => Value.pointer (some ⟨q, 0, none⟩)⟩
def pcs (k : Int) (t : ByteArray) (i : Int) (v : Value) : List Value := [.int .i64 k, .string t, .int .i64 i, v]
inductive PL : List Nat → List PT → List OR → Prop
  | nil : PL [] [] []
  | cons (p : Nat) (k : Int) (t : ByteArray) (i : Int) (ks : List PT) (v : Value) (ps : List Nat) (R : List OR) (q : List Nat) (xs : List PT) (R' : List OR) : PL ps ks R → PL q xs R' → PL (p :: q) (.nd k t i ks :: xs) (rB p 72 (pcs k t i v) :: rP v ps :: (R ++ R'))
theorem PL.len {q : List Nat} {xs : List PT} {R : List OR} (h : PL q xs R) : q.length = xs.length := by
  induction h with
  | nil => rfl
  | cons p k t i ks v ps R q xs R' _ _ _ ih => simp [ih]
theorem PL.one {p : Nat} {x : PT} {R : List OR} (h : PL [p] [x] R) : ∃ k t i ks v ps R0, x = .nd k t i ks ∧ PL ps ks R0 ∧ R = rB p 72 (pcs k t i v) :: rP v ps :: R0 := by
  cases h with
  | cons p k t i ks v ps R0 q xs R' h1 h2 =>
    cases h2
    exact ⟨k, t, i, ks, v, ps, R0, rfl, h1, by rw [List.append_nil]⟩
theorem PL.mk1 {p : Nat} {k : Int} {t : ByteArray} {i : Int} {ks : List PT} {v : Value} {ps : List Nat} {R : List OR} (h : PL ps ks R) : PL [p] [.nd k t i ks] (rB p 72 (pcs k t i v) :: rP v ps :: R) := by
  have := PL.cons p k t i ks v ps R [] [] [] h PL.nil
  rwa [List.append_nil] at this
theorem PL.snoc {q : List Nat} {xs : List PT} {R : List OR} (h : PL q xs R) {p : Nat} {x : PT} {R2 : List OR} (h2 : PL [p] [x] R2) : PL (q ++ [p]) (xs ++ [x]) (R ++ R2) := by
  induction h with
  | nil => exact h2
  | cons p' k t i ks v ps R q xs R' h1 _ _ ih =>
    have := PL.cons p' k t i ks v ps R (q ++ [p]) (xs ++ [x]) (R' ++ R2) h1 ih
    rw [← List.append_assoc] at this
    exact this
theorem PL.get {q : List Nat} {xs : List PT} {R : List OR} (h : PL q xs R) : ∀ {j : Nat} {p : Nat}, q[j]? = some p → ∃ x R', xs[j]? = some x ∧ PL [p] [x] R' ∧ ∀ r ∈ R', r ∈ R := by
  induction h with
  | nil => intro j p hj; simp at hj
  | cons p' k t i ks v ps R q xs R' h1 h2 _ ih =>
    intro j p hj
    cases j with
    | zero =>
      simp at hj
      subst hj
      exact ⟨_, _, rfl, PL.mk1 (v := v) h1, fun r hr => by simp at hr ⊢; rcases hr with h | h | h <;> simp [h]⟩
    | succ j =>
      obtain ⟨x, R2, e1, e2, e3⟩ := ih (by simpa using hj)
      exact ⟨x, R2, by simpa using e1, e2, fun r hr => by have := e3 r hr; simp [this]⟩
/-- rows that can be read. -/
def Rd (w : World) (R : List OR) : Prop := ∀ r ∈ R, r.on w 0
theorem Rd.later {w w' : World} {R : List OR} (h : Rd w R) (hb : Below w.heap.size w w') : Rd w' R := fun r hr => (h r hr).same fun g hg => hb.block g ((h r hr).lt g hg).2
theorem Rd.sub {w : World} {R S : List OR} (h : Rd w R) (hs : ∀ r ∈ S, r ∈ R) : Rd w S := fun r hr => h r (hs r hr)
theorem Owns.rd {w : World} {B : Nat} {R : List OR} (h : Owns w B R) : Rd w R := fun r hr => (h.on r hr).mono (Nat.zero_le _)
/-- a pointer of a list, read where it lies. -/
theorem rP_at {w : World} {B : Nat} {v : Value} {ps : List Nat} (h : (rP v ps).on w B) {j p : Nat} (hj : ps[j]? = some p) : ∃ g c, v = .slice (some ⟨g, 0, none⟩) ps.length c ∧ g < w.heap.size ∧ w.cell? ⟨g, j, none⟩ = some (.pointer (some ⟨p, 0, none⟩)) := by
  have hlt : j < ps.length := (List.getElem?_eq_some_iff.1 hj).1
  rcases Go.Joins.ownsRow_forms h with ⟨e, h0⟩ | ⟨g, cap, e⟩
  · have : ps.length = 0 := h0
    omega
  · have e : v = .slice (some ⟨g, 0, none⟩) ps.length cap := e
    subst e
    have h' : w.ownsRow B 45 1 (.slice (some ⟨g, 0, none⟩) ps.length cap) ps.length (ps.map fun q => Value.pointer (some ⟨q, 0, none⟩)) := h
    refine ⟨g, cap, rfl, (OR.on.lt h g rfl).2, ?_⟩
    have h5 := World.ownsRow.cellAt h' j (by omega)
    rw [h5]
    simp [hj]
theorem rP_shape {w : World} {B : Nat} {v : Value} {ps : List Nat} (h : (rP v ps).on w B) : ∃ s c, v = .slice s ps.length c := OR.on.shape h
theorem Tryz.infoP : (Tryz.prog.info? 45).map (fun i => (i.zero, i.size, i.bytes)) = some (some (.pointer none), 1, 8) := by kernel_rfl
theorem Rs.drop4 {X g : World} {B : Nat} {a b c d : OR} {RR RQ : List OR} (h : Rs X B g ([a, b, c, d] ++ (RQ ++ RR))) : Rs X B g ([a, b, c] ++ (RR ++ RQ)) := by
  have h2 : Rs X B g ([a, b, c] ++ (RQ ++ RR)) := Rs.less [a, b, c] (RQ ++ RR) (r := d) h
  exact h2.perm (List.Perm.append_left _ List.perm_append_comm)
def NC (n : Nd) (s : Option Addr) (c : Nat) : Array Value := #[.int .i64 n.kind, .string n.text, .int .i64 n.num, .slice s n.kids.length c]

set_option maxRecDepth 100000 in
set_option maxHeartbeats 4000000 in
theorem linked_any (T : Tre) (s : Option Addr) (c : Nat) : ∀ (i : Nat) (n : Nd) (w : World), VN T i n → Els 4 cNode w 0 s T.nodes → T.nodes.length ≤ 1048576 → (∀ n ∈ T.nodes, kNode n) →
    Calls Tryz.prog 24 #[.slice s T.nodes.length c, .int .i64 (i : Int)] w fun e w' => (∃ p R, e = .returned (.pointer (some ⟨p, 0, none⟩)) ∧ PL [p] [lkA T (i : Int)] R ∧ Owns w' w.heap.size R) ∧ Below w.heap.size w w' := by
  intro i
  induction i using Nat.strongRecOn with
  | ind i ih =>
    intro n w hv hE hl hk
    have hal := alloc_old
    have haf := alloc_oldf
    have IH := hid ih
    have HV := hid hv
    have HE := hid hE
    have HK := hid hk
    obtain ⟨b, o, rfl, hB, hb, s', c', e0, e1, e2, e3, f⟩ := eNode_cells hE hv.at_
    have hi : (i : Int) < (T.nodes.length : Int) := by have := (List.getElem?_eq_some_iff.1 hv.at_).1; omega
    have hn := hk n (List.mem_of_getElem? hv.at_)
    have hF := hid f
    clear ih hv hE hk f
    have kn := Blk.new w (NC n s' c') 57
    have L0 := bl_alloc (Below.refl _ w) (.cells (NC n s' c') 57)
    go_enter Tryz.func24, Tryz.ntmps24
    go_wp2_with fail
    clear e0 e1 e2 e3
    rw [show (#[.int .i64 n.kind, .string n.text, .int .i64 n.num, .slice s' n.kids.length c'] : Array Value) = NC n s' c' from rfl]
    generalize hX : w.alloc (.cells (NC n s' c') 57) = X at kn L0 ⊢
    have hXs : X.heap.size = w.heap.size + 1 := by rw [← hX]; simp
    have KN := hid kn
    obtain ⟨x0, x1, x2, x3, x4⟩ := Blk.four' kn
    clear hX kn
    have htx := hn.1
    go_region_held3 (fun w' => w'.cell? ⟨w.heap.size, 0, none⟩ = some (.int .i64 n.kind) ∧ w'.cell? ⟨w.heap.size, 1, none⟩ = some (.string n.text) ∧ w'.cell? ⟨w.heap.size, 2, none⟩ = some (.int .i64 n.num)) (simp [hal, x0, x1, x2])
      (first
        | (go_at_call 41; refine (clone_any n.text htx _).mono ?_; rintro e wg ⟨rfl, hbg⟩; have hwg : Below X.heap.size X wg := bl_trans (bl_drew (Below.refl _ _)) hbg; obtain ⟨x0, x1, x2, x3, x4⟩ := Blk.four' (KN.out.later hwg)))
    have Lg : Below w.heap.size w wg := bl_trans L0 hwg
    have hgs : w.heap.size < wg.heap.size := by have := hwg.size; omega
    have r1 : Rs w w.heap.size X ([] ++ rB w.heap.size 57 (NC n s' c').toList :: []) := Rs.ins [] [] (Rs.nil w) L0 (blk_rB KN.out (Nat.le_refl _))
    have r2 : Rs w w.heap.size (wg.alloc (.cells #[.int .i64 n.kind, .string n.text, .int .i64 n.num, .slice none 0 0] 72)) ([rB w.heap.size 57 (NC n s' c').toList] ++ rB wg.heap.size 72 [.int .i64 n.kind, .string n.text, .int .i64 n.num, .slice none 0 0] :: []) :=
      Rs.ins [rB w.heap.size 57 (NC n s' c').toList] [] (r1.later hwg) (bl_alloc (Below.refl _ _) _) (blk_rB (Blk.new wg _ _) (Nat.le_refl _))
    have r3 := Rs.ins [rB w.heap.size 57 (NC n s' c').toList, rB wg.heap.size 72 [.int .i64 n.kind, .string n.text, .int .i64 n.num, .slice none 0 0]] [] (r := rP (.slice none 0 0) []) r2 (Below.refl _ _) (World.ownsRow_nil _ _ _ _)
    have R3 := hid r3
    have x3' := (r3.box [] [rB wg.heap.size 72 [.int .i64 n.kind, .string n.text, .int .i64 n.num, .slice none 0 0], rP (.slice none 0 0) []]).cell 3
    have x3' : (wg.alloc (.cells #[.int .i64 n.kind, .string n.text, .int .i64 n.num, .slice none 0 0] 72)).cell? ⟨w.heap.size, 3, none⟩ = some (.slice s' n.kids.length c') := x3'
    clear r1 r2 r3 x0 x1 x2 x3 x4 hwg hbg KN L0 Lg hal haf
    generalize wg.alloc (.cells #[.int .i64 n.kind, .string n.text, .int .i64 n.num, .slice none 0 0] 72) = W0 at R3 x3' ⊢
    generalize wg.heap.size = p at R3 hgs ⊢
    obtain ⟨iP, hiP, hzP, hsP, hbP⟩ := info_parts Tryz.infoP
    go_wp2_with fail
    clear x3'
    -- LOOP
    go_loopw [26] (fun ii wr => ∃ (j : Nat) (ps : List Nat) (RR : List OR) (v : Value), j ≤ n.kids.length ∧ ii = .int .i64 j ∧ ps.length = j ∧ Hid (PL ps ((n.kids.take j).map (lkA T)) RR) ∧ Hid (Rs w w.heap.size wr ([rB w.heap.size 57 (NC n s' c').toList, rB p 72 [.int .i64 n.kind, .string n.text, .int .i64 n.num, v], rP v ps] ++ RR))) (fun ii _ => n.kids.length - (intOf ii).toNat)
    case atStart => exact ⟨0, [], [], .slice none 0 0, Nat.zero_le _, rfl, rfl, PL.nil, R3.out⟩
    case round =>
      obtain ⟨j, ps, RR, v, hj, rfl, hps, hPR, hRr⟩ := hrel
      clear R3
      subst hps
      by_cases hlt : ps.length < n.kids.length
      · obtain ⟨x, hx⟩ := get_some hlt
        obtain ⟨k, m, rfl, hkk, hvk⟩ := HV.out.kid (List.mem_of_getElem? hx)
        obtain ⟨b2, o2, rfl, _, hp2, d0⟩ := eInt_cells hF.out hx
        have e5 := (hRr.out.cell (p := ⟨b2, o2 + ps.length, none⟩) hp2).trans d0
        have PLs : ∀ {q : Nat} {RQ : List OR}, PL [q] [lkA T (k : Int)] RQ → PL (ps ++ [q]) ((n.kids.take (ps.length + 1)).map (lkA T)) (RR ++ RQ) := by
          intro q RQ h
          have e6 : n.kids.take (ps.length + 1) = n.kids.take ps.length ++ [(k : Int)] := by
            rw [List.take_succ_eq_append_getElem hlt]
            have : n.kids[ps.length] = (k : Int) := by rw [List.getElem?_eq_getElem hlt] at hx; simpa using hx
            rw [this]
          rw [e6, List.map_append]
          exact hPR.out.snoc h
        have hkl := hn.2
        go_wp2_with fail
        have hR := hRr
        clear hRr hPR e5 d0 hx
        -- REGION
        refine wp_region_held_drew (S := (fun _ => True)) (by kernel_rfl) ?_ (fun hHeld => ?_)
        · exact ⟨⟩
        have hR := Hid.mk' hR.out.drew
        refine wpAnyH_one (i := 0) (d := 30) (v := ?_) rfl rfl (by kernel_rfl) (by kernel_rfl) (by kernel_rfl) (fun _ _ _ h => h) (by rfl) (by assumption) ?_ ?_
        rotate_left 1
        · intro w hSw; (try dsimp only at hSw); go_simp <;> with_reducible rfl
        simp only [List.foldl, Act.put, List.setIfInBounds_toArray, List.set_cons_zero, List.set_cons_succ]
        refine wpAnyH_one (i := 1) (d := 31) (v := ?_) rfl rfl (by kernel_rfl) (by kernel_rfl) (by kernel_rfl) (fun _ _ _ h => h) (by rfl) (by assumption) ?_ ?_
        rotate_left 1
        · intro w hSw; (try dsimp only at hSw); go_simp <;> with_reducible rfl
        simp only [List.foldl, Act.put, List.setIfInBounds_toArray, List.set_cons_zero, List.set_cons_succ]
        refine wpAnyH_one (i := 2) (d := 32) (v := ?_) rfl rfl (by kernel_rfl) (by kernel_rfl) (by kernel_rfl) (fun _ _ _ h => h) (by rfl) (by assumption) ?_ ?_
        rotate_left 1
        · intro w hSw; (try dsimp only at hSw); go_simp <;> with_reducible rfl
        simp only [List.foldl, Act.put, List.setIfInBounds_toArray, List.set_cons_zero, List.set_cons_succ]
        refine wpAnyH_one (i := 3) (d := 33) (v := ?_) rfl rfl (by kernel_rfl) (by kernel_rfl) (by kernel_rfl) (fun _ _ _ h => h) (by rfl) (by assumption) ?_ ?_
        rotate_left 1
        · intro w hSw; (try dsimp only at hSw); go_simp <;> with_reducible rfl
        simp only [List.foldl, Act.put, List.setIfInBounds_toArray, List.set_cons_zero, List.set_cons_succ]
        refine wpAnyH_one (i := 5) (d := 35) (v := ?_) rfl rfl (by kernel_rfl) (by kernel_rfl) (by kernel_rfl) (fun _ _ _ h => h) (by rfl) (by assumption) ?_ ?_
        rotate_left 1
        · intro w hSw; (try dsimp only at hSw); go_simp <;> with_reducible rfl
        simp only [List.foldl, Act.put, List.setIfInBounds_toArray, List.set_cons_zero, List.set_cons_succ]
        refine wpAnyH_one (i := 6) (d := 36) (v := ?_) rfl rfl (by kernel_rfl) (by kernel_rfl) (by kernel_rfl) (fun _ _ _ h => h) (by rfl) (by assumption) ?_ ?_
        rotate_left 1
        · intro w hSw; (try dsimp only at hSw); go_simp <;> with_reducible rfl
        simp only [List.foldl, Act.put, List.setIfInBounds_toArray, List.set_cons_zero, List.set_cons_succ]
        refine dag_start fun Gd a0 hG ha => ?_
        have st0 : ∀ q : Nat, ∀ RQ : List OR, ∀ kc : Nat, ∀ sv : Option Addr, ∀ cv : Nat, ∀ g0 : World, Hid (PL [q] [lkA T (k : Int)] RQ) → Hid (Rs w w.heap.size g0 ([rB w.heap.size 57 (NC n (some ⟨b2, o2, none⟩) c').toList, rB p 72 [.int .i64 n.kind, .string n.text, .int .i64 n.num, (.slice sv (ps.length + 1) cv)], rP (.slice sv (ps.length + 1) cv) (ps ++ [q]), rB kc 45 [.pointer (some ⟨q, 0, none⟩)]] ++ ((RQ) ++ (RR)))) → (fun _ => True) g0 → Gd 0 #[true, true, true, true, true, true, true, true, true, true, true, true, true] ((((((a0.put (some 34) v).put (some 37) (.pointer (some ⟨q, 0, none⟩))).put (some 38) (.slice (some ⟨kc, 0, none⟩) 1 1)).put (some 39) (.slice sv (ps.length + 1) cv)).put (some 40) (.pointer (some ⟨p, 0, none⟩))).put (some 41) (.pointer (some ⟨p, 3, none⟩))) g0 := by
          intro q RQ kc sv cv g0 hPL hR hHeld
          rw [hG, ha]
          simp only [List.foldl, Act.put, List.setIfInBounds_toArray, List.set_cons_zero, List.set_cons_succ]
          refine wpAnyH_done (by kernel_rfl) ?_ _
          clear hHeld
          go_wp2_with fail
          go_roundw
          case rel => exact ⟨ps.length + 1, ps ++ [q], RR ++ RQ, (.slice sv (ps.length + 1) cv), by omega, by go_num, by simp, Hid.mk' (PLs hPL.out), Rs.drop4 hR.out⟩
          case measure => simp [intOf] <;> omega
        have st1 : ∀ q : Nat, ∀ RQ : List OR, ∀ kc : Nat, ∀ sv : Option Addr, ∀ cv : Nat, ∀ g0 : World, Hid (PL [q] [lkA T (k : Int)] RQ) → Hid (Rs w w.heap.size g0 ([rB w.heap.size 57 (NC n (some ⟨b2, o2, none⟩) c').toList, rB p 72 [.int .i64 n.kind, .string n.text, .int .i64 n.num, v], rP (.slice sv (ps.length + 1) cv) (ps ++ [q]), rB kc 45 [.pointer (some ⟨q, 0, none⟩)]] ++ ((RQ) ++ (RR)))) → (fun _ => True) g0 → Gd 1 #[true, true, true, true, true, true, true, true, true, true, true, true, false] ((((((a0.put (some 34) v).put (some 37) (.pointer (some ⟨q, 0, none⟩))).put (some 38) (.slice (some ⟨kc, 0, none⟩) 1 1)).put (some 39) (.slice sv (ps.length + 1) cv)).put (some 40) (.pointer (some ⟨p, 0, none⟩))).put (some 41) (.pointer (some ⟨p, 3, none⟩))) g0 := by
          intro q RQ kc sv cv g0 hPL hR hHeld
          rw [hG, ha]
          simp only [List.foldl, Act.put, List.setIfInBounds_toArray, List.set_cons_zero, List.set_cons_succ]
          refine wpAnyH_ready (rs := [12]) (by kernel_rfl) (by simp) ?_
          refine AllReadyH.cons rfl (fun K hK => ?_) AllReadyH.nil
          have hbx := hR.out.box [rB w.heap.size 57 (NC n (some ⟨b2, o2, none⟩) c').toList] ([rP (.slice sv (ps.length + 1) cv) (ps ++ [q]), rB kc 45 [.pointer (some ⟨q, 0, none⟩)]] ++ ((RQ) ++ (RR)))
          have x0 := hbx.cell 3
          have x1 := hbx.frozen 3
          clear hbx
          go_simp
          clear x0 x1
          have hR : Hid (Rs w w.heap.size _ ([rB w.heap.size 57 (NC n (some ⟨b2, o2, none⟩) c').toList, rB p 72 [.int .i64 n.kind, .string n.text, .int .i64 n.num, (.slice sv (ps.length + 1) cv)], rP (.slice sv (ps.length + 1) cv) (ps ++ [q]), rB kc 45 [.pointer (some ⟨q, 0, none⟩)]] ++ ((RQ) ++ (RR)))) := Hid.mk' (hR.out.setB [rB w.heap.size 57 (NC n (some ⟨b2, o2, none⟩) c').toList] ([rP (.slice sv (ps.length + 1) cv) (ps ++ [q]), rB kc 45 [.pointer (some ⟨q, 0, none⟩)]] ++ ((RQ) ++ (RR))) 3 (.slice sv (ps.length + 1) cv))
          refine hK.out _ _ ?_ (fun hHeld => ?_)
          · exact ⟨⟩
          clear hK K
          exact dag_to hG (st0 q RQ kc sv cv _ hPL hR hHeld) rfl (by kernel_rfl) (by rw [ha] <;> rfl)
        have st2 : ∀ q : Nat, ∀ RQ : List OR, ∀ kc : Nat, ∀ g0 : World, Hid (PL [q] [lkA T (k : Int)] RQ) → Hid (Rs w w.heap.size g0 ([rB w.heap.size 57 (NC n (some ⟨b2, o2, none⟩) c').toList, rB p 72 [.int .i64 n.kind, .string n.text, .int .i64 n.num, v], rP v ps, rB kc 45 [.pointer (some ⟨q, 0, none⟩)]] ++ ((RQ) ++ (RR)))) → (fun _ => True) g0 → Gd 4 #[true, true, true, true, true, true, true, true, true, false, false, false, false] (((a0.put (some 34) v).put (some 37) (.pointer (some ⟨q, 0, none⟩))).put (some 38) (.slice (some ⟨kc, 0, none⟩) 1 1)) g0 := by
          intro q RQ kc g0 hPL hR hHeld
          rw [hG, ha]
          simp only [List.foldl, Act.put, List.setIfInBounds_toArray, List.set_cons_zero, List.set_cons_succ]
          refine wpAnyH_ready (rs := [9]) (by kernel_rfl) (by simp) ?_
          refine AllReadyH.cons rfl (fun K hK => ?_) AllReadyH.nil
          refine step_app [rB w.heap.size 57 (NC n (some ⟨b2, o2, none⟩) c').toList, rB p 72 [.int .i64 n.kind, .string n.text, .int .i64 n.num, v]] ([rB kc 45 [.pointer (some ⟨q, 0, none⟩)]] ++ ((RQ) ++ (RR))) hR.out rfl (d0 := (some 39)) rfl (.tmp 34) (.tmp 38) 44 8 rfl Tryz.underlying44 hiP hzP hsP hbP rfl (Nat.succ_pos _) rfl (some ⟨kc, 0, none⟩) 1 1 [.pointer (some ⟨q, 0, none⟩)] rfl rfl (srcB (hR.out.box [rB w.heap.size 57 (NC n (some ⟨b2, o2, none⟩) c').toList, rB p 72 [.int .i64 n.kind, .string n.text, .int .i64 n.num, v], rP v ps] ((RQ) ++ (RR)))) (fun u hu => by simp at hu; subst hu; rfl) (by show ps.length + 1 ≤ _; unfold maxLen; omega) (by show (ps.length + 1) * 8 ≤ _; omega) (ps.length + 1) rfl (fun v => rP v (ps ++ [q])) (fun _ => by simp [rP]) ?_
          intro sv cv g2 hR'
          have hR : Hid (Rs w w.heap.size g2 ([rB w.heap.size 57 (NC n (some ⟨b2, o2, none⟩) c').toList, rB p 72 [.int .i64 n.kind, .string n.text, .int .i64 n.num, v], rP (.slice sv (ps.length + 1) cv) (ps ++ [q]), rB kc 45 [.pointer (some ⟨q, 0, none⟩)]] ++ ((RQ) ++ (RR)))) := hR'
          clear hR'
          refine hK.out _ _ ?_ (fun hHeld => ?_)
          · exact ⟨⟩
          clear hK K
          try simp only [List.foldl, Act.put, List.setIfInBounds_toArray, List.set_cons_zero, List.set_cons_succ]
          refine wpAnyH_one (i := 10) (d := 40) (v := ?_) rfl rfl (by kernel_rfl) (by kernel_rfl) (by kernel_rfl) (fun _ _ _ h => h) (by rfl) (by assumption) ?_ ?_
          rotate_left 1
          · intro w hSw; (try dsimp only at hSw); go_simp <;> with_reducible rfl
          simp only [List.foldl, Act.put, List.setIfInBounds_toArray, List.set_cons_zero, List.set_cons_succ]
          refine wpAnyH_one (i := 11) (d := 41) (v := ?_) rfl rfl (by kernel_rfl) (by kernel_rfl) (by kernel_rfl) (fun _ _ _ h => h) (by rfl) (by assumption) ?_ ?_
          rotate_left 1
          · intro w hSw; (try dsimp only at hSw); go_simp <;> with_reducible rfl
          simp only [List.foldl, Act.put, List.setIfInBounds_toArray, List.set_cons_zero, List.set_cons_succ]
          exact dag_to hG (st1 q RQ kc sv cv _ hPL hR hHeld) rfl (by kernel_rfl) (by rw [ha] <;> rfl)
        have st3 : ∀ q : Nat, ∀ RQ : List OR, ∀ g0 : World, Hid (PL [q] [lkA T (k : Int)] RQ) → Hid (Rs w w.heap.size g0 ([rB w.heap.size 57 (NC n (some ⟨b2, o2, none⟩) c').toList, rB p 72 [.int .i64 n.kind, .string n.text, .int .i64 n.num, v], rP v ps] ++ ((RQ) ++ (RR)))) → (fun _ => True) g0 → Gd 5 #[true, true, true, true, true, true, true, true, false, false, false, false, false] ((a0.put (some 34) v).put (some 37) (.pointer (some ⟨q, 0, none⟩))) g0 := by
          intro q RQ g0 hPL hR hHeld
          rw [hG, ha]
          simp only [List.foldl, Act.put, List.setIfInBounds_toArray, List.set_cons_zero, List.set_cons_succ]
          refine wpAnyH_ready (rs := [8]) (by kernel_rfl) (by simp) ?_
          refine AllReadyH.cons rfl (fun K hK => ?_) AllReadyH.nil
          refine step_bs1 [rB w.heap.size 57 (NC n (some ⟨b2, o2, none⟩) c').toList, rB p 72 [.int .i64 n.kind, .string n.text, .int .i64 n.num, v], rP v ps] ((RQ) ++ (RR)) hR.out rfl (d0 := (some 38)) rfl 44 45 Tryz.underlying44 hiP hzP hsP (.tmp 37) rfl (.pointer (some ⟨q, 0, none⟩)) rfl rfl ?_
          intro kc g3 hR'
          have hR : Hid (Rs w w.heap.size g3 ([rB w.heap.size 57 (NC n (some ⟨b2, o2, none⟩) c').toList, rB p 72 [.int .i64 n.kind, .string n.text, .int .i64 n.num, v], rP v ps, rB kc 45 [.pointer (some ⟨q, 0, none⟩)]] ++ ((RQ) ++ (RR)))) := hR'
          clear hR'
          refine hK.out _ _ ?_ (fun hHeld => ?_)
          · exact ⟨⟩
          clear hK K
          exact dag_to hG (st2 q RQ kc _ hPL hR hHeld) rfl (by kernel_rfl) (by rw [ha] <;> rfl)
        have st4 : ∀ g0 : World, Hid (Rs w w.heap.size g0 ([rB w.heap.size 57 (NC n (some ⟨b2, o2, none⟩) c').toList, rB p 72 [.int .i64 n.kind, .string n.text, .int .i64 n.num, v], rP v ps] ++ (RR))) → (fun _ => True) g0 → Gd 6 #[true, true, true, true, true, true, true, false, false, false, false, false, false] (a0.put (some 34) v) g0 := by
          intro g0 hR hHeld
          rw [hG, ha]
          simp only [List.foldl, Act.put, List.setIfInBounds_toArray, List.set_cons_zero, List.set_cons_succ]
          refine wpAnyH_ready (rs := [7]) (by kernel_rfl) (by simp) ?_
          refine AllReadyH.cons rfl (fun K hK => ?_) AllReadyH.nil
          go_simp
          refine (IH.out k hkk m _ hvk (HE.out.later cNode_keeps hR.out.l) hl HK.out).mono ?_
          rintro z g4 ⟨⟨q, RQ, rfl, hPL, hO⟩, hb⟩
          have hPL := Hid.mk' hPL
          have hR : Hid (Rs w w.heap.size g4 ([rB w.heap.size 57 (NC n (some ⟨b2, o2, none⟩) c').toList, rB p 72 [.int .i64 n.kind, .string n.text, .int .i64 n.num, v], rP v ps] ++ ((RQ) ++ (RR)))) := Hid.mk' (hR.out.insM [rB w.heap.size 57 (NC n (some ⟨b2, o2, none⟩) c').toList, rB p 72 [.int .i64 n.kind, .string n.text, .int .i64 n.num, v], rP v ps] (RQ) (RR) hb hO)
          clear hb hO
          refine hK.out _ _ ?_ (fun hHeld => ?_)
          · exact ⟨⟩
          clear hK K
          exact dag_to hG (st3 q RQ _ hPL hR hHeld) rfl (by kernel_rfl) (by rw [ha] <;> rfl)
        have st5 : ∀ q : Nat, ∀ RQ : List OR, ∀ kc : Nat, ∀ g0 : World, Hid (PL [q] [lkA T (k : Int)] RQ) → Hid (Rs w w.heap.size g0 ([rB w.heap.size 57 (NC n (some ⟨b2, o2, none⟩) c').toList, rB p 72 [.int .i64 n.kind, .string n.text, .int .i64 n.num, v], rP v ps, rB kc 45 [.pointer (some ⟨q, 0, none⟩)]] ++ ((RQ) ++ (RR)))) → (fun _ => True) g0 → Gd 5 #[true, true, true, true, false, true, true, true, true, false, false, false, false] ((a0.put (some 37) (.pointer (some ⟨q, 0, none⟩))).put (some 38) (.slice (some ⟨kc, 0, none⟩) 1 1)) g0 := by
          intro q RQ kc g0 hPL hR hHeld
          rw [hG, ha]
          simp only [List.foldl, Act.put, List.setIfInBounds_toArray, List.set_cons_zero, List.set_cons_succ]
          refine wpAnyH_ready (rs := [4]) (by kernel_rfl) (by simp) ?_
          refine AllReadyH.cons rfl (fun K hK => ?_) AllReadyH.nil
          have hbx := hR.out.box [rB w.heap.size 57 (NC n (some ⟨b2, o2, none⟩) c').toList] ([rP v ps, rB kc 45 [.pointer (some ⟨q, 0, none⟩)]] ++ ((RQ) ++ (RR)))
          have x0 := hbx.cell 3
          have x1 := hbx.frozen 3
          clear hbx
          go_simp
          clear x0 x1
          refine hK.out _ _ ?_ (fun hHeld => ?_)
          · exact ⟨⟩
          clear hK K
          exact dag_to hG (st2 q RQ kc _ hPL hR hHeld) rfl (by kernel_rfl) (by rw [ha] <;> rfl)
        have st6 : ∀ q : Nat, ∀ RQ : List OR, ∀ g0 : World, Hid (PL [q] [lkA T (k : Int)] RQ) → Hid (Rs w w.heap.size g0 ([rB w.heap.size 57 (NC n (some ⟨b2, o2, none⟩) c').toList, rB p 72 [.int .i64 n.kind, .string n.text, .int .i64 n.num, v], rP v ps] ++ ((RQ) ++ (RR)))) → (fun _ => True) g0 → Gd 6 #[true, true, true, true, false, true, true, true, false, false, false, false, false] (a0.put (some 37) (.pointer (some ⟨q, 0, none⟩))) g0 := by
          intro q RQ g0 hPL hR hHeld
          rw [hG, ha]
          simp only [List.foldl, Act.put, List.setIfInBounds_toArray, List.set_cons_zero, List.set_cons_succ]
          refine wpAnyH_ready (rs := [4, 8]) (by kernel_rfl) (by simp) ?_
          refine AllReadyH.cons rfl (fun K hK => ?_) ?_
          · skip
            have hbx := hR.out.box [rB w.heap.size 57 (NC n (some ⟨b2, o2, none⟩) c').toList] ([rP v ps] ++ ((RQ) ++ (RR)))
            have x0 := hbx.cell 3
            have x1 := hbx.frozen 3
            clear hbx
            go_simp
            clear x0 x1
            refine hK.out _ _ ?_ (fun hHeld => ?_)
            · exact ⟨⟩
            clear hK K
            exact dag_to hG (st3 q RQ _ hPL hR hHeld) rfl (by kernel_rfl) (by rw [ha] <;> rfl)
          refine AllReadyH.cons rfl (fun K hK => ?_) AllReadyH.nil
          refine step_bs1 [rB w.heap.size 57 (NC n (some ⟨b2, o2, none⟩) c').toList, rB p 72 [.int .i64 n.kind, .string n.text, .int .i64 n.num, v], rP v ps] ((RQ) ++ (RR)) hR.out rfl (d0 := (some 38)) rfl 44 45 Tryz.underlying44 hiP hzP hsP (.tmp 37) rfl (.pointer (some ⟨q, 0, none⟩)) rfl rfl ?_
          intro kc g7 hR'
          have hR : Hid (Rs w w.heap.size g7 ([rB w.heap.size 57 (NC n (some ⟨b2, o2, none⟩) c').toList, rB p 72 [.int .i64 n.kind, .string n.text, .int .i64 n.num, v], rP v ps, rB kc 45 [.pointer (some ⟨q, 0, none⟩)]] ++ ((RQ) ++ (RR)))) := hR'
          clear hR'
          refine hK.out _ _ ?_ (fun hHeld => ?_)
          · exact ⟨⟩
          clear hK K
          exact dag_to hG (st5 q RQ kc _ hPL hR hHeld) rfl (by kernel_rfl) (by rw [ha] <;> rfl)
        rw [hG, ha]
        try simp only [List.foldl, Act.put, List.setIfInBounds_toArray, List.set_cons_zero, List.set_cons_succ]
        refine wpAnyH_ready (rs := [4, 7]) (by kernel_rfl) (by simp) ?_
        refine AllReadyH.cons rfl (fun K hK => ?_) ?_
        · skip
          have hbx := hR.out.box [rB w.heap.size 57 (NC n (some ⟨b2, o2, none⟩) c').toList] ([rP v ps] ++ (RR))
          have x0 := hbx.cell 3
          have x1 := hbx.frozen 3
          clear hbx
          go_simp
          clear x0 x1
          refine hK.out _ _ ?_ (fun hHeld => ?_)
          · exact ⟨⟩
          clear hK K
          exact dag_to hG (st4  _  hR hHeld) rfl (by kernel_rfl) (by rw [ha] <;> rfl)
        refine AllReadyH.cons rfl (fun K hK => ?_) AllReadyH.nil
        go_simp
        refine (IH.out k hkk m _ hvk (HE.out.later cNode_keeps hR.out.l) hl HK.out).mono ?_
        rintro z g9 ⟨⟨q, RQ, rfl, hPL, hO⟩, hb⟩
        have hPL := Hid.mk' hPL
        have hR : Hid (Rs w w.heap.size g9 ([rB w.heap.size 57 (NC n (some ⟨b2, o2, none⟩) c').toList, rB p 72 [.int .i64 n.kind, .string n.text, .int .i64 n.num, v], rP v ps] ++ ((RQ) ++ (RR)))) := Hid.mk' (hR.out.insM [rB w.heap.size 57 (NC n (some ⟨b2, o2, none⟩) c').toList, rB p 72 [.int .i64 n.kind, .string n.text, .int .i64 n.num, v], rP v ps] (RQ) (RR) hb hO)
        clear hb hO
        refine hK.out _ _ ?_ (fun hHeld => ?_)
        · exact ⟨⟩
        clear hK K
        exact dag_to hG (st6 q RQ _ hPL hR hHeld) rfl (by kernel_rfl) (by rw [ha] <;> rfl)
        -- END
      · have hj' : ps.length = n.kids.length := by omega
        go_wp2_with fail
        go_ret
        refine ⟨⟨p, rB p 72 [.int .i64 n.kind, .string n.text, .int .i64 n.num, v] :: rP v ps :: RR, rfl, ?_, ?_⟩, hRr.out.l⟩
        · rw [lkA_eq HV.out]
          have := hPR.out
          rw [hj', List.take_length] at this
          exact PL.mk1 this
        · exact hRr.out.o.tail
end Go.Proofs.YtknallkcengbbaaGreatDoor
namespace Go.Proofs.YtknallkcengbbaaGreatDoor
open Go.RowKit
set_option linter.unusedVariables false
set_option linter.unusedSimpArgs false

theorem Tryz.infoVa : (Tryz.prog.info? 76).map (fun i => (i.zero, i.size, i.bytes)) = some (some (.agg #[.int .i64 0, .int .i64 0, .float .f64 0, .float .f64 0]), 4, 32) := by kernel_rfl
theorem Tryz.infoVas : (Tryz.prog.info? 76).map (·.size) = some 4 := by kernel_rfl
theorem Tryz.infoLf : (Tryz.prog.info? 70).map (fun i => (i.zero, i.size, i.bytes)) = some (some (.agg #[.int .i64 0, .string ⟨#[]⟩, .int .i64 0]), 3, 32) := by kernel_rfl
theorem Tryz.infoLfs : (Tryz.prog.info? 70).map (·.size) = some 3 := by kernel_rfl

section
variable {ops : Array Oper} {rest : List Oper} {o : Oper} {a : Act} {w : World} {Q : Exit → Act → World → Prop}
theorem wpl_row {t : TypeId} {n : Nat} (hi : (Tryz.prog.info? t).map (·.size) = some n) (hg : o.guard = none) (x y : Operand) (ho : o.op = .store t x y) (k : Nat) (cells c0 : Array Value) (hx : a.eval x = .pointer (some ⟨k, 0, none⟩)) (hy : a.eval y = .agg cells) (hB : Blk w k c0 t) (hs : cells.size = n) (h0 : c0.size = n) (h1 : cells.all (·.oneCell') = true)
    (hK : ∀ w', Blk w' k cells t → (∀ B W, Below B W w → B ≤ k → Below B W w') → wpList Tryz.prog ops Q rest (a.put o.dst undef) w') : wpList Tryz.prog ops Q (o :: rest) a w :=
  wpList_store_row hg t x y ho k cells hx hy t c0 hB (by rw [hi, hs]) (by rw [hs, h0]) h1 (hK _ (setRow_heap _ _ _ _ _ _ hB) (fun B W h1 h2 => below_setRow h1 h2 _))
end
abbrev vz : Array Value := #[.int .i64 0, .int .i64 0, .float .f64 0, .float .f64 0]
theorem Blk.in' {w : World} {n : Nat} {c : Array Value} {t : TypeId} (hn : w.heap.size = n) : Blk (w.alloc (.cells c t)) n c t := by subst hn; exact Blk.new w c t

set_option maxHeartbeats 1000000 in
theorem value_any (k i : Int) (t : ByteArray) (w : World) :
    Calls Tryz.prog 65 #[.agg #[.int .i64 k, .string t, .int .i64 i]] w fun e w' => e = .returned (.agg #[.int .i64 (vK k), .int .i64 (vI k i), .float .f64 0, .float .f64 0]) ∧ Below w.heap.size w w' := by
  have hal := alloc_old
  have haf := alloc_oldf
  have k0 := Blk.new w #[.int .i64 k, .string t, .int .i64 i] 70
  obtain ⟨x0, x1, x2, x3⟩ : _ ∧ _ ∧ _ ∧ _ := ⟨k0.cell 0, k0.cell 1, k0.cell 2, k0.frozen⟩
  have kz : Blk ((w.alloc (.cells #[.int .i64 k, .string t, .int .i64 i] 70)).alloc (.cells vz 76)) (w.heap.size + 1) vz 76 := Blk.in' (by simp)
  have B0 : Below w.heap.size w ((w.alloc (.cells #[.int .i64 k, .string t, .int .i64 i] 70)).alloc (.cells vz 76)) := bl_alloc (bl_alloc (Below.refl _ _) _) _
  have KZ := hid kz
  have HB0 := hid B0
  clear kz B0 k0
  by_cases h1 : k = 1
  · subst h1
    go_enter Tryz.func65, Tryz.ntmps65
    go_wp2_with fail
    refine (intVal_any i _).mono ?_
    rintro e w2 ⟨rfl, h2⟩
    have hb2 : Below ((w.alloc (.cells #[.int .i64 1, .string t, .int .i64 i] 70)).alloc (.cells vz 76)).heap.size ((w.alloc (.cells #[.int .i64 1, .string t, .int .i64 i] 70)).alloc (.cells vz 76)) w2 := by rw [h2]; exact bl_alloc (Below.refl _ _) _
    have K2 := hid (KZ.out.later hb2)
    have B2 := hid (bl_trans HB0.out hb2)
    clear h2 hb2 KZ HB0 x0 x1 x2 x3
    go_wp2_with (refine wpl_row Tryz.infoVas rfl _ _ rfl (w.heap.size + 1) #[.int .i64 1, .int .i64 i, .float .f64 0, .float .f64 0] vz rfl rfl K2.out rfl rfl (by simp [Value.oneCell']) ?_; intro w3 hB3 hb3)
    have B3 : Hid (Below w.heap.size w w3) := hb3 _ _ B2.out (Nat.le_succ _)
    obtain ⟨z0, z1, z2, z3, z4⟩ := Blk.four' hB3
    clear hb3 B2 K2
    go_wp2_with fail
    refine bodyPost_ret (v := .agg #[.int .i64 1, .int .i64 i, .float .f64 0, .float .f64 0]) (by simp [results, Tryz.results65, go_sem, z0, z1, z2, z3]) rfl ⟨rfl, B3.out⟩
  · have t1 : (k == 1) = false := by simp [h1]
    by_cases h3 : k = 3
    · subst h3
      obtain ⟨b, hb⟩ : ∃ b : Bool, (i == 1) = b := ⟨_, rfl⟩
      have E : Hid (vI 3 i = bN b) := by show _ = _; rw [← hb]; by_cases q : i = 1 <;> simp [vI, bN, q]
      go_enter Tryz.func65, Tryz.ntmps65
      go_wp2_with fail
      refine (boolVal_any b _).mono ?_
      rintro e w2 ⟨rfl, h2⟩
      have hb2 : Below ((w.alloc (.cells #[.int .i64 3, .string t, .int .i64 i] 70)).alloc (.cells vz 76)).heap.size ((w.alloc (.cells #[.int .i64 3, .string t, .int .i64 i] 70)).alloc (.cells vz 76)) w2 := by rw [h2]; exact bl_alloc (Below.refl _ _) _
      have K2 := hid (KZ.out.later hb2)
      have B2 := hid (bl_trans HB0.out hb2)
      clear h2 hb2 KZ HB0 x0 x1 x2 x3 hb
      go_wp2_with (refine wpl_row Tryz.infoVas rfl _ _ rfl (w.heap.size + 1) #[.int .i64 4, .int .i64 (bN b), .float .f64 0, .float .f64 0] vz rfl rfl K2.out rfl rfl (by simp [Value.oneCell']) ?_; intro w3 hB3 hb3)
      have B3 : Hid (Below w.heap.size w w3) := hb3 _ _ B2.out (Nat.le_succ _)
      obtain ⟨z0, z1, z2, z3, z4⟩ := Blk.four' hB3
      clear hb3 B2 K2
      go_wp2_with fail
      refine bodyPost_ret (v := .agg #[.int .i64 4, .int .i64 (bN b), .float .f64 0, .float .f64 0]) (by simp [results, Tryz.results65, go_sem, z0, z1, z2, z3]) rfl ⟨?_, B3.out⟩
      rw [E.out]; rfl
    · have t3 : (k == 3) = false := by simp [h3]
      have E : Hid (vK k = 0 ∧ vI k i = 0) := by show _ ∧ _; simp [vK, vI, h1, h3]
      clear h1 h3
      go_enter Tryz.func65, Tryz.ntmps65
      go_wp2_with fail
      refine bodyPost_ret (v := .agg #[.int .i64 0, .int .i64 0, .float .f64 0, .float .f64 0]) (by simp [results, Tryz.results65, go_sem]) rfl ⟨?_, ?_⟩
      · rw [E.out.1, E.out.2]
      · exact HB0.out

def LeafS (k i : Int) (e : Ending) : Prop := ∀ v : V, v.1 = k → v.2.1 = i → e = .returned (.agg #[.int .i64 (leafV v).1, .string ⟨#[]⟩, .int .i64 (leafV v).2])
set_option maxHeartbeats 1000000 in
theorem leafOf_any (k i : Int) (x y : Nat) (w : World) :
    Calls Tryz.prog 42 #[.agg #[.int .i64 k, .int .i64 i, .float .f64 x, .float .f64 y]] w fun e w' => LeafS k i e ∧ Below w.heap.size w w' := by
  have hal := alloc_old
  have haf := alloc_oldf
  have k0 := Blk.new w #[.int .i64 k, .int .i64 i, .float .f64 x, .float .f64 y] 76
  obtain ⟨x0, x1, x2, x3, x4⟩ := Blk.four' k0
  by_cases h4 : k = 4
  · subst h4
    go_enter Tryz.func42, Tryz.ntmps42
    go_wp2_with fail
    refine bodyPost_ret (v := .agg #[.int .i64 3, .string ⟨#[]⟩, .int .i64 i]) (by simp [results, Tryz.results42, go_sem]) rfl ⟨fun v h1 h2 => ?_, ?_⟩
    · subst h2; simp [leafV, h1]
    · (repeat (first | with_reducible exact Below.refl _ _ | with_reducible refine bl_alloc ?_ _ | with_reducible refine bl_drewN ?_ _ | with_reducible refine bl_drew ?_ | with_reducible refine bl_setCell ?_ (by first | exact Nat.le_refl _ | (dsimp only; omega) | (simp <;> omega)) _ | with_reducible refine bl_trans ?_ (by with_reducible assumption)))
  · have t4 : (k == 4) = false := by simp [h4]
    by_cases h1 : k = 1 ∧ 0 ≤ i ∧ i ≤ 999999999999999
    · obtain ⟨rfl, i0, i1⟩ := h1
      go_enter Tryz.func42, Tryz.ntmps42
      go_wp2_with fail
      refine bodyPost_ret (v := .agg #[.int .i64 1, .string ⟨#[]⟩, .int .i64 i]) (by simp [results, Tryz.results42, go_sem]) rfl ⟨fun v h1 h2 => ?_, ?_⟩
      · subst h2; simp [leafV, h1, i0, i1]
      · (repeat (first | with_reducible exact Below.refl _ _ | with_reducible refine bl_alloc ?_ _ | with_reducible refine bl_drewN ?_ _ | with_reducible refine bl_drew ?_ | with_reducible refine bl_setCell ?_ (by first | exact Nat.le_refl _ | (dsimp only; omega) | (simp <;> omega)) _ | with_reducible refine bl_trans ?_ (by with_reducible assumption)))
    · have E : ∀ v : V, v.1 = k → v.2.1 = i → leafV v = (0, 0) := by
        intro v e1 e2; subst e1 e2; unfold leafV; rw [if_neg h4, if_neg h1]
      have HE := hid E
      by_cases g1 : k = 1
      · subst g1
        by_cases g2 : 0 ≤ i
        · have g3 : ¬ i ≤ 999999999999999 := fun h => h1 ⟨rfl, g2, h⟩
          clear h1 E h4
          go_enter Tryz.func42, Tryz.ntmps42
          go_wp2_with fail
          refine bodyPost_ret (v := .agg #[.int .i64 0, .string ⟨#[]⟩, .int .i64 0]) (by simp [results, Tryz.results42, go_sem]) rfl ⟨fun v h1 h2 => by rw [HE.out v h1 h2], ?_⟩
          (repeat (first | with_reducible exact Below.refl _ _ | with_reducible refine bl_alloc ?_ _ | with_reducible refine bl_drewN ?_ _ | with_reducible refine bl_drew ?_ | with_reducible refine bl_setCell ?_ (by first | exact Nat.le_refl _ | (dsimp only; omega) | (simp <;> omega)) _ | with_reducible refine bl_trans ?_ (by with_reducible assumption)))
        · clear h1 E h4
          go_enter Tryz.func42, Tryz.ntmps42
          go_wp2_with fail
          refine bodyPost_ret (v := .agg #[.int .i64 0, .string ⟨#[]⟩, .int .i64 0]) (by simp [results, Tryz.results42, go_sem]) rfl ⟨fun v h1 h2 => by rw [HE.out v h1 h2], ?_⟩
          (repeat (first | with_reducible exact Below.refl _ _ | with_reducible refine bl_alloc ?_ _ | with_reducible refine bl_drewN ?_ _ | with_reducible refine bl_drew ?_ | with_reducible refine bl_setCell ?_ (by first | exact Nat.le_refl _ | (dsimp only; omega) | (simp <;> omega)) _ | with_reducible refine bl_trans ?_ (by with_reducible assumption)))
      · have t1 : (k == 1) = false := by simp [g1]
        clear h1 E h4 g1
        go_enter Tryz.func42, Tryz.ntmps42
        go_wp2_with fail
        refine bodyPost_ret (v := .agg #[.int .i64 0, .string ⟨#[]⟩, .int .i64 0]) (by simp [results, Tryz.results42, go_sem]) rfl ⟨fun v h1 h2 => by rw [HE.out v h1 h2], ?_⟩
        (repeat (first | with_reducible exact Below.refl _ _ | with_reducible refine bl_alloc ?_ _ | with_reducible refine bl_drewN ?_ _ | with_reducible refine bl_drew ?_ | with_reducible refine bl_setCell ?_ (by first | exact Nat.le_refl _ | (dsimp only; omega) | (simp <;> omega)) _ | with_reducible refine bl_trans ?_ (by with_reducible assumption)))
end Go.Proofs.YtknallkcengbbaaGreatDoor
namespace Go.Proofs.YtknallkcengbbaaGreatDoor
open Go.RowKit
set_option linter.unusedVariables false
set_option linter.unusedSimpArgs false

theorem cell_far (W : World) (b n o p : Nat) (v : Value) (h : ¬ b = n) : (W.setCell ⟨n, o, none⟩ v).cell? ⟨b, p, none⟩ = W.cell? ⟨b, p, none⟩ := World.cell?_setCell_other _ _ _ _ (fun e => h (by injection e with e _ _; exact e.symm))
/-- a part's cells, read. -/
theorem part_cells {w : World} {R : List OR} (hR : Rd w R) {q : Nat} {k : Int} {t : ByteArray} {i : Int} {v : Value} (h : rB q 72 (pcs k t i v) ∈ R) : Blk w q #[.int .i64 k, .string t, .int .i64 i, v] 72 := rB_blk (hR _ h)
theorem kid_part {w : World} {ps : List Nat} {ks : List PT} {R : List OR} (hP : PL ps ks R) (hR : Rd w R) {j : Nat} (hj : j < ks.length) : ∃ p a v, ps[j]? = some p ∧ ks[j]? = some a ∧ at0 ks j = a ∧ Blk w p #[.int .i64 a.k, .string a.t, .int .i64 a.i, v] 72 := by
  have hl := hP.len
  have hp : ps[j]? = some ps[j] := List.getElem?_eq_getElem (by omega)
  obtain ⟨x, R', e1, e2, e3⟩ := hP.get hp
  obtain ⟨k, t, i, ks', v, ps', R0, rfl, _, rfl⟩ := e2.one
  exact ⟨_, _, v, hp, e1, by simp [at0, e1], part_cells (k := k) (t := t) (i := i) (v := v) hR (e3 _ (by simp))⟩

set_option maxRecDepth 100000 in
set_option maxHeartbeats 4000000 in
theorem made_8 {i : Int} {t : ByteArray} {ks : List PT} {q : Nat} {v : Value} {ps : List Nat} {R : List OR} (hP : PL ps ks R) (w : World) (hR : Rd w (rB q 72 (pcs 8 t i v) :: rP v ps :: R)) (h2 : 2 ≤ ks.length) :
    Calls Tryz.prog 43 #[.pointer (some ⟨q, 0, none⟩)] w fun e w' => (∃ ka ia xa ya, e = .returned (.agg #[.int .i64 ka, .int .i64 ia, .float .f64 xa, .float .f64 ya]) ∧ VIs (mdV 8 i ks) ka ia xa ya) ∧ Below w.heap.size w w' := by
  have hal := alloc_old
  have haf := alloc_oldf
  obtain ⟨p0, a, va, hp0, ha, ea, ba⟩ := kid_part hP (hR.sub (S := R) (fun r hr => by simp [hr])) (j := 0) (by omega)
  obtain ⟨p1, b, vb, hp1, hb, eb, bb⟩ := kid_part hP (hR.sub (S := R) (fun r hr => by simp [hr])) (j := 1) (by omega)
  have bq := part_cells hR (q := q) (k := 8) (t := t) (i := i) (v := v) (by simp)
  have hrp : (rP v ps).on w 0 := hR _ (by simp)
  obtain ⟨g, c, rfl, hg, l0⟩ := rP_at hrp hp0
  obtain ⟨g', c', e', hg', l1⟩ := rP_at hrp hp1
  obtain ⟨rfl, rfl⟩ : g = g' ∧ c = c' := by simp only [Value.slice.injEq, Option.some.injEq, Addr.mk.injEq] at e'; exact ⟨e'.1.1, e'.2.2⟩
  have hl : ps.length = ks.length := hP.len
  have hlen : (1 : Int) < (ps.length : Int) := by omega
  have hlen0 : 0 < ps.length := by omega
  have HM : Hid (mdV 8 i ks = (opOut i (vK a.k) (vI a.k a.i) 0 0 (vK b.k) (vI b.k b.i) 0 0).1) := by show _ = _; unfold mdV; rw [ea, eb]; rfl
  have B0 : Below w.heap.size w ((w.alloc (.cells vz 76)).alloc (.cells vz 76)) := bl_alloc (bl_alloc (Below.refl _ _) _) _
  have KS : ∀ w', Below w.heap.size w w' → w'.cell? ⟨q, 0, none⟩ = some (.int .i64 8) ∧ w'.cell? ⟨q, 2, none⟩ = some (.int .i64 i) ∧ w'.cell? ⟨q, 3, none⟩ = some (.slice (some ⟨g, 0, none⟩) ps.length c) ∧ w'.cell? ⟨g, 0, none⟩ = some (.pointer (some ⟨p0, 0, none⟩)) ∧ w'.cell? ⟨g, 1, none⟩ = some (.pointer (some ⟨p1, 0, none⟩)) ∧ w'.cell? ⟨p0, 0, none⟩ = some (.int .i64 a.k) ∧ w'.cell? ⟨p0, 1, none⟩ = some (.string a.t) ∧ w'.cell? ⟨p0, 2, none⟩ = some (.int .i64 a.i) ∧ w'.cell? ⟨p1, 0, none⟩ = some (.int .i64 b.k) ∧ w'.cell? ⟨p1, 1, none⟩ = some (.string b.t) ∧ w'.cell? ⟨p1, 2, none⟩ = some (.int .i64 b.i) := by
    intro w' h
    have q' := bq.later h
    have a' := ba.later h
    have b' := bb.later h
    exact ⟨q'.cell 0, q'.cell 2, q'.cell 3, (h.cell (p := ⟨g, 0, none⟩) hg).trans l0, (h.cell (p := ⟨g, 1, none⟩) hg).trans l1, a'.cell 0, a'.cell 1, a'.cell 2, b'.cell 0, b'.cell 1, b'.cell 2⟩
  have HKS := hid KS
  have KZ : Hid (Blk ((w.alloc (.cells vz 76)).alloc (.cells vz 76)) (w.heap.size + 1) vz 76) := Blk.in' (by simp)
  have KZ0 : Hid (Blk ((w.alloc (.cells vz 76)).alloc (.cells vz 76)) w.heap.size vz 76) := (Blk.new w vz 76).later (bl_alloc (Below.refl _ _) _)
  have HB0 := hid B0
  obtain ⟨x0, x1, x2, x3, x4, x5, x6, x7, x8, x9, x10⟩ := KS _ B0
  have nq : ¬ q = w.heap.size + 1 := by have := bq.lt; omega
  have ng : ¬ g = w.heap.size + 1 := by omega
  have n0 : ¬ p0 = w.heap.size + 1 := by have := ba.lt; omega
  have n1 : ¬ p1 = w.heap.size + 1 := by have := bb.lt; omega
  clear hP hR h2 hp0 ha ea ba hp1 hb eb bb bq hrp hg l0 hg' l1 e' KS B0 hl
  go_enter Tryz.func43, Tryz.ntmps43
  go_wp2_with fail
  generalize hW : (w.alloc (.cells vz 76)).alloc (.cells vz 76) = W at KZ KZ0 HB0 x0 x1 x2 x3 x4 x5 x6 x7 x8 x9 x10 ⊢
  clear hW
  go_region_held3 (fun w' => w'.cell? ⟨q, 2, none⟩ = some (.int .i64 i) ∧ w'.cell? ⟨q, 3, none⟩ = some (.slice (some ⟨g, 0, none⟩) ps.length c) ∧ w'.cell? ⟨g, 0, none⟩ = some (.pointer (some ⟨p0, 0, none⟩)) ∧ w'.cell? ⟨g, 1, none⟩ = some (.pointer (some ⟨p1, 0, none⟩)) ∧ w'.cell? ⟨p0, 0, none⟩ = some (.int .i64 a.k) ∧ w'.cell? ⟨p0, 1, none⟩ = some (.string a.t) ∧ w'.cell? ⟨p0, 2, none⟩ = some (.int .i64 a.i) ∧ w'.cell? ⟨p1, 0, none⟩ = some (.int .i64 b.k) ∧ w'.cell? ⟨p1, 1, none⟩ = some (.string b.t) ∧ w'.cell? ⟨p1, 2, none⟩ = some (.int .i64 b.i)) (simp [cell_far, nq, ng, n0, n1, x1, x2, x3, x4, x5, x6, x7, x8, x9, x10])
    (first
      | (go_at_call 65; refine (value_any _ _ _ _).mono ?_; rintro e w2 ⟨rfl, hb2⟩; have h2 : Below W.heap.size W w2 := bl_trans h1 hb2; obtain ⟨x0, x1, x2, x3, x4, x5, x6, x7, x8, x9, x10⟩ := HKS.out _ (bl_trans HB0.out h2))
      | (go_at_call 65; refine (value_any _ _ _ _).mono ?_; rintro e w1 ⟨rfl, hb1⟩; have h1 : Below W.heap.size W w1 := bl_trans (bl_drew (Below.refl _ _)) hb1; obtain ⟨x0, x1, x2, x3, x4, x5, x6, x7, x8, x9, x10⟩ := HKS.out _ (bl_trans HB0.out h1))
      | (go_at_call 64; refine (implOp_any _ _ _ _ _ _ _ _ _ _).mono ?_; rintro e w3 ⟨ka, ia, xa, ya, rfl, hv, hb3⟩; have h3 : Below W.heap.size W w3 := bl_trans h2 hb3; obtain ⟨x0, x1, x2, x3, x4, x5, x6, x7, x8, x9, x10⟩ := HKS.out _ (bl_trans HB0.out h3); obtain ⟨z0, z1, z2, z3, z4⟩ := Blk.four' (KZ.out.later h3)))
  have le1 : w.heap.size ≤ w.heap.size + 1 := Nat.le_succ _
  have ne1 : ¬ w.heap.size = w.heap.size + 1 := by omega
  have B4 := ((((bl_trans HB0.out h3).setCell (p := ⟨w.heap.size + 1, 0, none⟩) le1 (.int .i64 ka)).setCell (p := ⟨w.heap.size + 1, 1, none⟩) le1 (.int .i64 ia)).setCell (p := ⟨w.heap.size + 1, 2, none⟩) le1 (.float .f64 xa)).setCell (p := ⟨w.heap.size + 1, 3, none⟩) le1 (.float .f64 ya)
  have KB : Blk (((((w3).setCell ⟨w.heap.size + 1, 0, none⟩ (.int .i64 ka)).setCell ⟨w.heap.size + 1, 1, none⟩ (.int .i64 ia)).setCell ⟨w.heap.size + 1, 2, none⟩ (.float .f64 xa)).setCell ⟨w.heap.size + 1, 3, none⟩ (.float .f64 ya)) (w.heap.size + 1) #[.int .i64 ka, .int .i64 ia, .float .f64 xa, .float .f64 ya] 76 := ((((KZ.out.later h3).set 0 _).set 1 _).set 2 _).set 3 _
  have KA : Blk (((((w3).setCell ⟨w.heap.size + 1, 0, none⟩ (.int .i64 ka)).setCell ⟨w.heap.size + 1, 1, none⟩ (.int .i64 ia)).setCell ⟨w.heap.size + 1, 2, none⟩ (.float .f64 xa)).setCell ⟨w.heap.size + 1, 3, none⟩ (.float .f64 ya)) w.heap.size vz 76 := ((((KZ0.out.later h3).other ne1 0 _).other ne1 1 _).other ne1 2 _).other ne1 3 _
  have B4 : Below w.heap.size w (((((w3).setCell ⟨w.heap.size + 1, 0, none⟩ (.int .i64 ka)).setCell ⟨w.heap.size + 1, 1, none⟩ (.int .i64 ia)).setCell ⟨w.heap.size + 1, 2, none⟩ (.float .f64 xa)).setCell ⟨w.heap.size + 1, 3, none⟩ (.float .f64 ya)) := B4
  generalize (((((w3).setCell ⟨w.heap.size + 1, 0, none⟩ (.int .i64 ka)).setCell ⟨w.heap.size + 1, 1, none⟩ (.int .i64 ia)).setCell ⟨w.heap.size + 1, 2, none⟩ (.float .f64 xa)).setCell ⟨w.heap.size + 1, 3, none⟩ (.float .f64 ya)) = W4 at KA KB B4 ⊢
  clear x0 x1 x2 x3 x4 x5 x6 x7 x8 x9 x10 z0 z1 z2 z3 z4 KZ KZ0 HKS HB0 hal haf
  obtain ⟨z0, z1, z2, z3, z4⟩ := Blk.four' KB
  have KA := hid KA
  clear KB
  go_wp2_with (refine wpl_row Tryz.infoVas rfl _ _ rfl w.heap.size #[.int .i64 ka, .int .i64 ia, .float .f64 xa, .float .f64 ya] vz rfl rfl KA.out rfl rfl (by simp [Value.oneCell']) ?_; intro w5 hB5 hb5)
  have B5 : Below w.heap.size w w5 := hb5 _ _ B4 (Nat.le_refl _)
  obtain ⟨y0, y1, y2, y3, y4⟩ := Blk.four' hB5
  clear z0 z1 z2 z3 z4
  go_wp2_with fail
  refine bodyPost_ret (v := .agg #[.int .i64 ka, .int .i64 ia, .float .f64 xa, .float .f64 ya]) (by simp [results, Tryz.results43, go_sem, y0, y1, y2, y3]) rfl ⟨⟨ka, ia, xa, ya, rfl, ?_⟩, B5⟩
  rw [HM.out]; exact hv
set_option maxRecDepth 100000 in
set_option maxHeartbeats 4000000 in
theorem made_9 {i : Int} {t : ByteArray} {ks : List PT} {q : Nat} {v : Value} {ps : List Nat} {R : List OR} (hP : PL ps ks R) (w : World) (hR : Rd w (rB q 72 (pcs 9 t i v) :: rP v ps :: R)) (h2 : 1 ≤ ks.length) :
    Calls Tryz.prog 43 #[.pointer (some ⟨q, 0, none⟩)] w fun e w' => (∃ ka ia xa ya, e = .returned (.agg #[.int .i64 ka, .int .i64 ia, .float .f64 xa, .float .f64 ya]) ∧ VIs (mdV 9 i ks) ka ia xa ya) ∧ Below w.heap.size w w' := by
  have hal := alloc_old
  have haf := alloc_oldf
  obtain ⟨p0, a, va, hp0, ha, ea, ba⟩ := kid_part hP (hR.sub (S := R) (fun r hr => by simp [hr])) (j := 0) (by omega)
  have bq := part_cells hR (q := q) (k := 9) (t := t) (i := i) (v := v) (by simp)
  have hrp : (rP v ps).on w 0 := hR _ (by simp)
  obtain ⟨g, c, rfl, hg, l0⟩ := rP_at hrp hp0
  have hl : ps.length = ks.length := hP.len
  have hlen0 : 0 < ps.length := by omega
  have HM : Hid (mdV 9 i ks = (turnOut i (vK a.k) (vI a.k a.i) 0 0).1) := by show _ = _; unfold mdV; rw [ea]; rfl
  have B0 : Below w.heap.size w ((w.alloc (.cells vz 76)).alloc (.cells vz 76)) := bl_alloc (bl_alloc (Below.refl _ _) _) _
  have KS : ∀ w', Below w.heap.size w w' → w'.cell? ⟨q, 0, none⟩ = some (.int .i64 9) ∧ w'.cell? ⟨q, 2, none⟩ = some (.int .i64 i) ∧ w'.cell? ⟨q, 3, none⟩ = some (.slice (some ⟨g, 0, none⟩) ps.length c) ∧ w'.cell? ⟨g, 0, none⟩ = some (.pointer (some ⟨p0, 0, none⟩)) ∧ w'.cell? ⟨p0, 0, none⟩ = some (.int .i64 a.k) ∧ w'.cell? ⟨p0, 1, none⟩ = some (.string a.t) ∧ w'.cell? ⟨p0, 2, none⟩ = some (.int .i64 a.i) := by
    intro w' h
    have q' := bq.later h
    have a' := ba.later h
    exact ⟨q'.cell 0, q'.cell 2, q'.cell 3, (h.cell (p := ⟨g, 0, none⟩) hg).trans l0, a'.cell 0, a'.cell 1, a'.cell 2⟩
  have HKS := hid KS
  have KZ : Hid (Blk ((w.alloc (.cells vz 76)).alloc (.cells vz 76)) (w.heap.size + 1) vz 76) := Blk.in' (by simp)
  have KZ0 : Hid (Blk ((w.alloc (.cells vz 76)).alloc (.cells vz 76)) w.heap.size vz 76) := (Blk.new w vz 76).later (bl_alloc (Below.refl _ _) _)
  have HB0 := hid B0
  obtain ⟨x0, x1, x2, x3, x4, x5, x6⟩ := KS _ B0
  have nq : ¬ q = w.heap.size + 1 := by have := bq.lt; omega
  have ng : ¬ g = w.heap.size + 1 := by omega
  have n0 : ¬ p0 = w.heap.size + 1 := by have := ba.lt; omega
  clear hP hR h2 hp0 ha ea ba bq hrp hg l0 KS B0 hl
  go_enter Tryz.func43, Tryz.ntmps43
  go_wp2_with fail
  generalize hW : (w.alloc (.cells vz 76)).alloc (.cells vz 76) = W at KZ KZ0 HB0 x0 x1 x2 x3 x4 x5 x6 ⊢
  clear hW
  go_region_held3 (fun w' => w'.cell? ⟨q, 2, none⟩ = some (.int .i64 i) ∧ w'.cell? ⟨q, 3, none⟩ = some (.slice (some ⟨g, 0, none⟩) ps.length c) ∧ w'.cell? ⟨g, 0, none⟩ = some (.pointer (some ⟨p0, 0, none⟩)) ∧ w'.cell? ⟨p0, 0, none⟩ = some (.int .i64 a.k) ∧ w'.cell? ⟨p0, 1, none⟩ = some (.string a.t) ∧ w'.cell? ⟨p0, 2, none⟩ = some (.int .i64 a.i)) (simp [cell_far, nq, ng, n0, x1, x2, x3, x4, x5, x6])
    (first
      | (go_at_call 65; refine (value_any _ _ _ _).mono ?_; rintro e w1 ⟨rfl, hb1⟩; have h1 : Below W.heap.size W w1 := bl_trans (bl_drew (Below.refl _ _)) hb1; obtain ⟨x0, x1, x2, x3, x4, x5, x6⟩ := HKS.out _ (bl_trans HB0.out h1))
      | (go_at_call 66; refine (implTurn_any _ _ _ _ _ _ (by decide) (by decide)).mono ?_; rintro e w3 ⟨ka, ia, xa, ya, rfl, hv, hb3⟩; have h3 : Below W.heap.size W w3 := bl_trans h1 hb3; obtain ⟨x0, x1, x2, x3, x4, x5, x6⟩ := HKS.out _ (bl_trans HB0.out h3); obtain ⟨z0, z1, z2, z3, z4⟩ := Blk.four' (KZ.out.later h3)))
  have le1 : w.heap.size ≤ w.heap.size + 1 := Nat.le_succ _
  have ne1 : ¬ w.heap.size = w.heap.size + 1 := by omega
  have B4 := ((((bl_trans HB0.out h3).setCell (p := ⟨w.heap.size + 1, 0, none⟩) le1 (.int .i64 ka)).setCell (p := ⟨w.heap.size + 1, 1, none⟩) le1 (.int .i64 ia)).setCell (p := ⟨w.heap.size + 1, 2, none⟩) le1 (.float .f64 xa)).setCell (p := ⟨w.heap.size + 1, 3, none⟩) le1 (.float .f64 ya)
  have KB : Blk (((((w3).setCell ⟨w.heap.size + 1, 0, none⟩ (.int .i64 ka)).setCell ⟨w.heap.size + 1, 1, none⟩ (.int .i64 ia)).setCell ⟨w.heap.size + 1, 2, none⟩ (.float .f64 xa)).setCell ⟨w.heap.size + 1, 3, none⟩ (.float .f64 ya)) (w.heap.size + 1) #[.int .i64 ka, .int .i64 ia, .float .f64 xa, .float .f64 ya] 76 := ((((KZ.out.later h3).set 0 _).set 1 _).set 2 _).set 3 _
  have KA : Blk (((((w3).setCell ⟨w.heap.size + 1, 0, none⟩ (.int .i64 ka)).setCell ⟨w.heap.size + 1, 1, none⟩ (.int .i64 ia)).setCell ⟨w.heap.size + 1, 2, none⟩ (.float .f64 xa)).setCell ⟨w.heap.size + 1, 3, none⟩ (.float .f64 ya)) w.heap.size vz 76 := ((((KZ0.out.later h3).other ne1 0 _).other ne1 1 _).other ne1 2 _).other ne1 3 _
  have B4 : Below w.heap.size w (((((w3).setCell ⟨w.heap.size + 1, 0, none⟩ (.int .i64 ka)).setCell ⟨w.heap.size + 1, 1, none⟩ (.int .i64 ia)).setCell ⟨w.heap.size + 1, 2, none⟩ (.float .f64 xa)).setCell ⟨w.heap.size + 1, 3, none⟩ (.float .f64 ya)) := B4
  generalize (((((w3).setCell ⟨w.heap.size + 1, 0, none⟩ (.int .i64 ka)).setCell ⟨w.heap.size + 1, 1, none⟩ (.int .i64 ia)).setCell ⟨w.heap.size + 1, 2, none⟩ (.float .f64 xa)).setCell ⟨w.heap.size + 1, 3, none⟩ (.float .f64 ya)) = W4 at KA KB B4 ⊢
  clear x0 x1 x2 x3 x4 x5 x6 z0 z1 z2 z3 z4 KZ KZ0 HKS HB0 hal haf
  obtain ⟨z0, z1, z2, z3, z4⟩ := Blk.four' KB
  have KA := hid KA
  clear KB
  go_wp2_with (refine wpl_row Tryz.infoVas rfl _ _ rfl w.heap.size #[.int .i64 ka, .int .i64 ia, .float .f64 xa, .float .f64 ya] vz rfl rfl KA.out rfl rfl (by simp [Value.oneCell']) ?_; intro w5 hB5 hb5)
  have B5 : Below w.heap.size w w5 := hb5 _ _ B4 (Nat.le_refl _)
  obtain ⟨y0, y1, y2, y3, y4⟩ := Blk.four' hB5
  clear z0 z1 z2 z3 z4
  go_wp2_with fail
  refine bodyPost_ret (v := .agg #[.int .i64 ka, .int .i64 ia, .float .f64 xa, .float .f64 ya]) (by simp [results, Tryz.results43, go_sem, y0, y1, y2, y3]) rfl ⟨⟨ka, ia, xa, ya, rfl, ?_⟩, B5⟩
  rw [HM.out]; exact hv
end Go.Proofs.YtknallkcengbbaaGreatDoor
namespace Go.Proofs.YtknallkcengbbaaGreatDoor
open Go.RowKit
set_option linter.unusedVariables false
set_option linter.unusedSimpArgs false

set_option maxRecDepth 100000 in
set_option maxHeartbeats 4000000 in
theorem made_0 {k i : Int} {t : ByteArray} {q : Nat} {v : Value} (w : World) (hB : Blk w q #[.int .i64 k, .string t, .int .i64 i, v] 72) (h8 : ¬ k = 8) (h9 : ¬ k = 9) :
    Calls Tryz.prog 43 #[.pointer (some ⟨q, 0, none⟩)] w fun e w' => e = .returned (.agg #[.int .i64 0, .int .i64 0, .float .f64 0, .float .f64 0]) ∧ Below w.heap.size w w' := by
  have hal := alloc_old
  have haf := alloc_oldf
  obtain ⟨x0, x1, x2, x3, x4⟩ := Blk.four' hB
  have t8 : (k == 8) = false := by simp [h8]
  have t9 : (k == 9) = false := by simp [h9]
  clear hB h8 h9
  go_enter Tryz.func43, Tryz.ntmps43
  go_wp2_with fail
  refine bodyPost_ret (v := .agg #[.int .i64 0, .int .i64 0, .float .f64 0, .float .f64 0]) (by simp [results, Tryz.results43, go_sem]) rfl ⟨rfl, ?_⟩
  (repeat (first | with_reducible exact Below.refl _ _ | with_reducible refine bl_alloc ?_ _ | with_reducible refine bl_drewN ?_ _ | with_reducible refine bl_drew ?_ | with_reducible refine bl_setCell ?_ (by first | exact Nat.le_refl _ | (dsimp only; omega) | (simp <;> omega)) _ | with_reducible refine bl_trans ?_ (by with_reducible assumption)))
theorem made_any {k i : Int} {t : ByteArray} {ks : List PT} {q : Nat} {v : Value} {ps : List Nat} {R : List OR} (hP : PL ps ks R) (w : World) (hR : Rd w (rB q 72 (pcs k t i v) :: rP v ps :: R)) (h8 : k = 8 → 2 ≤ ks.length) (h9 : k = 9 → 1 ≤ ks.length) :
    Calls Tryz.prog 43 #[.pointer (some ⟨q, 0, none⟩)] w fun e w' => (∃ ka ia xa ya, e = .returned (.agg #[.int .i64 ka, .int .i64 ia, .float .f64 xa, .float .f64 ya]) ∧ VIs (mdV k i ks) ka ia xa ya) ∧ Below w.heap.size w w' := by
  by_cases q8 : k = 8
  · subst q8; exact made_8 hP w hR (h8 rfl)
  · by_cases q9 : k = 9
    · subst q9; exact made_9 hP w hR (h9 rfl)
    · refine (made_0 w (part_cells hR List.mem_cons_self) q8 q9).mono ?_
      rintro e w' ⟨rfl, hb⟩
      refine ⟨⟨0, 0, 0, 0, rfl, ?_⟩, hb⟩
      unfold mdV
      rw [if_neg q8, if_neg q9]
      exact is_zV

theorem leafV_zero (v : V) : (leafV v).1 = 0 → (leafV v).2 = 0 := by
  unfold leafV
  split
  · intro h; cases h
  · split
    · intro h; cases h
    · intro _; rfl
theorem Rs.drop3 {X g : World} {B : Nat} {a b d : OR} {RR RQ : List OR} (h : Rs X B g ([a, b, d] ++ (RQ ++ RR))) : Rs X B g ([a, b] ++ (RR ++ RQ)) := by
  have h2 : Rs X B g ([a, b] ++ (RQ ++ RR)) := Rs.less [a, b] (RQ ++ RR) (r := d) h
  exact h2.perm (List.Perm.append_left _ List.perm_append_comm)
set_option maxRecDepth 100000 in
set_option maxHeartbeats 4000000 in
theorem folded_any (T : Tre) (hk : ∀ n ∈ T.nodes, kNode n) : ∀ (i : Nat) (n : Nd) (p : Nat) (R : List OR) (w : World), VN T i n → PL [p] [lkA T (i : Int)] R → Rd w R →
    Calls Tryz.prog 25 #[.pointer (some ⟨p, 0, none⟩)] w fun e w' => (∃ q R', e = .returned (.pointer (some ⟨q, 0, none⟩)) ∧ PL [q] [fdA T (i : Int)] R' ∧ Owns w' w.heap.size R') ∧ Below w.heap.size w w' := by
  intro i
  induction i using Nat.strongRecOn with
  | ind i ih =>
    intro n p R w hv hP hR
    have hal := alloc_old
    have haf := alloc_oldf
    have hkl := (hk n (List.mem_of_getElem? hv.at_)).2
    have IH := hid ih
    have HV := hid hv
    rw [lkA_eq hv] at hP
    obtain ⟨k0, t0, i0, ks0, v0, ps0, R0, e0, hP0, rfl⟩ := hP.one
    injection e0 with e1 e2 e3 e4
    subst e1 e2 e3 e4
    have hB := part_cells hR (q := p) List.mem_cons_self
    have hps : (rP v0 ps0).on w 0 := hR _ (by simp)
    have hlen : ps0.length = n.kids.length := by rw [hP0.len]; simp
    obtain ⟨s0, c0, rfl⟩ := rP_shape hps
    have HP0 := hid hP0
    have HR := hid hR
    have HPS := hid hps
    obtain ⟨x0, x1, x2, x3, x4⟩ := Blk.four' hB
    clear ih hv hP hR hP0 hps hB
    go_enter Tryz.func25, Tryz.ntmps25
    go_wp2_with fail
    clear x0 x1 x2 x3 x4
    have r1 : Rs w w.heap.size (w.alloc (.cells #[.int .i64 n.kind, .string n.text, .int .i64 n.num, .slice none 0 0] 72)) ([] ++ rB w.heap.size 72 [.int .i64 n.kind, .string n.text, .int .i64 n.num, .slice none 0 0] :: []) :=
      Rs.ins [] [] (Rs.nil w) (bl_alloc (Below.refl _ _) _) (blk_rB (Blk.new w _ _) (Nat.le_refl _))
    have R3 := hid (Rs.ins [rB w.heap.size 72 [.int .i64 n.kind, .string n.text, .int .i64 n.num, .slice none 0 0]] [] (r := rP (.slice none 0 0) []) r1 (Below.refl _ _) (World.ownsRow_nil _ _ _ _))
    clear r1 hal haf
    generalize w.alloc (.cells #[.int .i64 n.kind, .string n.text, .int .i64 n.num, .slice none 0 0] 72) = W0 at R3 ⊢
    obtain ⟨iP, hiP, hzP, hsP, hbP⟩ := info_parts Tryz.infoP
    obtain ⟨nq, hnq⟩ : ∃ nq, Hid (nq = w.heap.size) := ⟨_, rfl⟩
    go_loopw [18] (fun ii wr => ∃ (j : Nat) (ps : List Nat) (RR : List OR) (v : Value), j ≤ n.kids.length ∧ ii = .int .i64 j ∧ ps.length = j ∧ Hid (PL ps ((n.kids.take j).map (fdA T)) RR) ∧ Hid (Rs w w.heap.size wr ([rB w.heap.size 72 [.int .i64 n.kind, .string n.text, .int .i64 n.num, v], rP v ps] ++ RR))) (fun ii _ => n.kids.length - (intOf ii).toNat)
    case atStart => exact ⟨0, [], [], .slice none 0 0, Nat.zero_le _, rfl, rfl, PL.nil, R3.out⟩
    case round =>
      obtain ⟨j, ps, RR, v, hj, rfl, hps, hPR, hRr⟩ := hrel
      clear R3
      subst hps
      by_cases hlt : ps.length < n.kids.length
      · obtain ⟨x, hx⟩ := get_some hlt
        obtain ⟨k, m, rfl, hkk, hvk⟩ := HV.out.kid (List.mem_of_getElem? hx)
        obtain ⟨pj, hpj⟩ := get_some (L := ps0) (k := ps.length) (by omega)
        obtain ⟨xj, Rj, ex, hPj, hsub⟩ := HP0.out.get hpj
        have ex2 : xj = lkA T (k : Int) := by rw [List.getElem?_map, hx] at ex; simpa using ex.symm
        subst ex2
        have HPJ := hid hPj
        have HRJ : Hid (Rd w Rj) := HR.out.sub fun r hr => by have := hsub r hr; simp [this]
        obtain ⟨g0, c1, e9, hg0, d0⟩ := rP_at HPS.out hpj
        simp only [Value.slice.injEq] at e9
        obtain ⟨rfl, _, rfl⟩ := e9
        have e5 := (hRr.out.cell (p := ⟨g0, ps.length, none⟩) hg0).trans d0
        have PLs : ∀ {q : Nat} {RQ : List OR}, PL [q] [fdA T (k : Int)] RQ → PL (ps ++ [q]) ((n.kids.take (ps.length + 1)).map (fdA T)) (RR ++ RQ) := by
          intro q RQ h
          have e6 : n.kids.take (ps.length + 1) = n.kids.take ps.length ++ [(k : Int)] := by
            rw [List.take_succ_eq_append_getElem hlt]
            have : n.kids[ps.length] = (k : Int) := by rw [List.getElem?_eq_getElem hlt] at hx; simpa using hx
            rw [this]
          rw [e6, List.map_append]
          exact hPR.out.snoc h
        clear hPj hsub ex hpj
        go_wp2_with fail
        have hR := hRr
        clear hRr hPR e5 d0 hx
        -- REGION
        refine wp_region_held_drew (S := (fun _ => True)) (by kernel_rfl) ?_ (fun hHeld => ?_)
        · exact ⟨⟩
        have hR := Hid.mk' hR.out.drew
        refine wpAnyH_one (i := 0) (d := 22) (v := ?_) rfl rfl (by kernel_rfl) (by kernel_rfl) (by kernel_rfl) (fun _ _ _ h => h) (by rfl) (by assumption) ?_ ?_
        rotate_left 1
        · intro w hSw; (try dsimp only at hSw); go_simp <;> with_reducible rfl
        simp only [List.foldl, Act.put, List.setIfInBounds_toArray, List.set_cons_zero, List.set_cons_succ]
        refine wpAnyH_one (i := 1) (d := 23) (v := ?_) rfl rfl (by kernel_rfl) (by kernel_rfl) (by kernel_rfl) (fun _ _ _ h => h) (by rfl) (by assumption) ?_ ?_
        rotate_left 1
        · intro w hSw; (try dsimp only at hSw); go_simp <;> with_reducible rfl
        simp only [List.foldl, Act.put, List.setIfInBounds_toArray, List.set_cons_zero, List.set_cons_succ]
        refine wpAnyH_one (i := 2) (d := 24) (v := ?_) rfl rfl (by kernel_rfl) (by kernel_rfl) (by kernel_rfl) (fun _ _ _ h => h) (by rfl) (by assumption) ?_ ?_
        rotate_left 1
        · intro w hSw; (try dsimp only at hSw); go_simp <;> with_reducible rfl
        simp only [List.foldl, Act.put, List.setIfInBounds_toArray, List.set_cons_zero, List.set_cons_succ]
        refine wpAnyH_one (i := 3) (d := 25) (v := ?_) rfl rfl (by kernel_rfl) (by kernel_rfl) (by kernel_rfl) (fun _ _ _ h => h) (by rfl) (by assumption) ?_ ?_
        rotate_left 1
        · intro w hSw; (try dsimp only at hSw); go_simp <;> with_reducible rfl
        simp only [List.foldl, Act.put, List.setIfInBounds_toArray, List.set_cons_zero, List.set_cons_succ]
        refine wpAnyH_one (i := 5) (d := 27) (v := ?_) rfl rfl (by kernel_rfl) (by kernel_rfl) (by kernel_rfl) (fun _ _ _ h => h) (by rfl) (by assumption) ?_ ?_
        rotate_left 1
        · intro w hSw; (try dsimp only at hSw); go_simp <;> with_reducible rfl
        simp only [List.foldl, Act.put, List.setIfInBounds_toArray, List.set_cons_zero, List.set_cons_succ]
        refine dag_start fun Gd a0 hG ha => ?_
        have st0 : ∀ q : Nat, ∀ RQ : List OR, ∀ kc : Nat, ∀ sv : Option Addr, ∀ cv : Nat, ∀ g0 : World, Hid (PL [q] [fdA T (k : Int)] RQ) → Hid (Rs w w.heap.size g0 ([rB w.heap.size 72 [.int .i64 n.kind, .string n.text, .int .i64 n.num, (.slice sv (ps.length + 1) cv)], rP (.slice sv (ps.length + 1) cv) (ps ++ [q]), rB kc 45 [.pointer (some ⟨q, 0, none⟩)]] ++ ((RQ) ++ (RR)))) → (fun _ => True) g0 → Gd 0 #[true, true, true, true, true, true, true, true, true, true, true, true] ((((((a0.put (some 26) v).put (some 28) (.pointer (some ⟨q, 0, none⟩))).put (some 29) (.slice (some ⟨kc, 0, none⟩) 1 1)).put (some 30) (.slice sv (ps.length + 1) cv)).put (some 31) (.pointer (some ⟨w.heap.size, 0, none⟩))).put (some 32) (.pointer (some ⟨w.heap.size, 3, none⟩))) g0 := by
          intro q RQ kc sv cv g0 hPL hR hHeld
          rw [hG, ha]
          simp only [List.foldl, Act.put, List.setIfInBounds_toArray, List.set_cons_zero, List.set_cons_succ]
          refine wpAnyH_done (by kernel_rfl) ?_ _
          clear hHeld
          go_wp2_with fail
          go_roundw
          case rel => exact ⟨ps.length + 1, ps ++ [q], RR ++ RQ, (.slice sv (ps.length + 1) cv), by omega, by go_num, by simp, Hid.mk' (PLs hPL.out), Rs.drop3 hR.out⟩
          case measure => simp [intOf] <;> omega
        have st1 : ∀ q : Nat, ∀ RQ : List OR, ∀ kc : Nat, ∀ sv : Option Addr, ∀ cv : Nat, ∀ g0 : World, Hid (PL [q] [fdA T (k : Int)] RQ) → Hid (Rs w w.heap.size g0 ([rB w.heap.size 72 [.int .i64 n.kind, .string n.text, .int .i64 n.num, v], rP (.slice sv (ps.length + 1) cv) (ps ++ [q]), rB kc 45 [.pointer (some ⟨q, 0, none⟩)]] ++ ((RQ) ++ (RR)))) → (fun _ => True) g0 → Gd 1 #[true, true, true, true, true, true, true, true, true, true, true, false] ((((((a0.put (some 26) v).put (some 28) (.pointer (some ⟨q, 0, none⟩))).put (some 29) (.slice (some ⟨kc, 0, none⟩) 1 1)).put (some 30) (.slice sv (ps.length + 1) cv)).put (some 31) (.pointer (some ⟨w.heap.size, 0, none⟩))).put (some 32) (.pointer (some ⟨w.heap.size, 3, none⟩))) g0 := by
          intro q RQ kc sv cv g0 hPL hR hHeld
          rw [hG, ha]
          simp only [List.foldl, Act.put, List.setIfInBounds_toArray, List.set_cons_zero, List.set_cons_succ]
          refine wpAnyH_ready (rs := [11]) (by kernel_rfl) (by simp) ?_
          refine AllReadyH.cons rfl (fun K hK => ?_) AllReadyH.nil
          have hbx := hR.out.box [] ([rP (.slice sv (ps.length + 1) cv) (ps ++ [q]), rB kc 45 [.pointer (some ⟨q, 0, none⟩)]] ++ ((RQ) ++ (RR)))
          have x0 := hbx.cell 3
          have x1 := hbx.frozen 3
          clear hbx
          go_simp
          clear x0 x1
          have hR : Hid (Rs w w.heap.size _ ([rB w.heap.size 72 [.int .i64 n.kind, .string n.text, .int .i64 n.num, (.slice sv (ps.length + 1) cv)], rP (.slice sv (ps.length + 1) cv) (ps ++ [q]), rB kc 45 [.pointer (some ⟨q, 0, none⟩)]] ++ ((RQ) ++ (RR)))) := Hid.mk' (hR.out.setB [] ([rP (.slice sv (ps.length + 1) cv) (ps ++ [q]), rB kc 45 [.pointer (some ⟨q, 0, none⟩)]] ++ ((RQ) ++ (RR))) 3 (.slice sv (ps.length + 1) cv))
          refine hK.out _ _ ?_ (fun hHeld => ?_)
          · exact ⟨⟩
          clear hK K
          exact dag_to hG (st0 q RQ kc sv cv _ hPL hR hHeld) rfl (by kernel_rfl) (by rw [ha] <;> rfl)
        have st2 : ∀ q : Nat, ∀ RQ : List OR, ∀ kc : Nat, ∀ g0 : World, Hid (PL [q] [fdA T (k : Int)] RQ) → Hid (Rs w w.heap.size g0 ([rB w.heap.size 72 [.int .i64 n.kind, .string n.text, .int .i64 n.num, v], rP v ps, rB kc 45 [.pointer (some ⟨q, 0, none⟩)]] ++ ((RQ) ++ (RR)))) → (fun _ => True) g0 → Gd 4 #[true, true, true, true, true, true, true, true, false, false, false, false] (((a0.put (some 26) v).put (some 28) (.pointer (some ⟨q, 0, none⟩))).put (some 29) (.slice (some ⟨kc, 0, none⟩) 1 1)) g0 := by
          intro q RQ kc g0 hPL hR hHeld
          rw [hG, ha]
          simp only [List.foldl, Act.put, List.setIfInBounds_toArray, List.set_cons_zero, List.set_cons_succ]
          refine wpAnyH_ready (rs := [8]) (by kernel_rfl) (by simp) ?_
          refine AllReadyH.cons rfl (fun K hK => ?_) AllReadyH.nil
          refine step_app [rB w.heap.size 72 [.int .i64 n.kind, .string n.text, .int .i64 n.num, v]] ([rB kc 45 [.pointer (some ⟨q, 0, none⟩)]] ++ ((RQ) ++ (RR))) hR.out rfl (d0 := (some 30)) rfl (.tmp 26) (.tmp 29) 44 8 rfl Tryz.underlying44 hiP hzP hsP hbP rfl (Nat.succ_pos _) rfl (some ⟨kc, 0, none⟩) 1 1 [.pointer (some ⟨q, 0, none⟩)] rfl rfl (srcB (hR.out.box [rB w.heap.size 72 [.int .i64 n.kind, .string n.text, .int .i64 n.num, v], rP v ps] ((RQ) ++ (RR)))) (fun u hu => by simp at hu; subst hu; rfl) (by show ps.length + 1 ≤ _; unfold maxLen; omega) (by show (ps.length + 1) * 8 ≤ _; omega) (ps.length + 1) rfl (fun v => rP v (ps ++ [q])) (fun _ => by simp [rP]) ?_
          intro sv cv g2 hR'
          have hR : Hid (Rs w w.heap.size g2 ([rB w.heap.size 72 [.int .i64 n.kind, .string n.text, .int .i64 n.num, v], rP (.slice sv (ps.length + 1) cv) (ps ++ [q]), rB kc 45 [.pointer (some ⟨q, 0, none⟩)]] ++ ((RQ) ++ (RR)))) := hR'
          clear hR'
          refine hK.out _ _ ?_ (fun hHeld => ?_)
          · exact ⟨⟩
          clear hK K
          try simp only [List.foldl, Act.put, List.setIfInBounds_toArray, List.set_cons_zero, List.set_cons_succ]
          refine wpAnyH_one (i := 9) (d := 31) (v := ?_) rfl rfl (by kernel_rfl) (by kernel_rfl) (by kernel_rfl) (fun _ _ _ h => h) (by rfl) (by assumption) ?_ ?_
          rotate_left 1
          · intro w hSw; (try dsimp only at hSw); go_simp <;> with_reducible rfl
          simp only [List.foldl, Act.put, List.setIfInBounds_toArray, List.set_cons_zero, List.set_cons_succ]
          refine wpAnyH_one (i := 10) (d := 32) (v := ?_) rfl rfl (by kernel_rfl) (by kernel_rfl) (by kernel_rfl) (fun _ _ _ h => h) (by rfl) (by assumption) ?_ ?_
          rotate_left 1
          · intro w hSw; (try dsimp only at hSw); go_simp <;> with_reducible rfl
          simp only [List.foldl, Act.put, List.setIfInBounds_toArray, List.set_cons_zero, List.set_cons_succ]
          exact dag_to hG (st1 q RQ kc sv cv _ hPL hR hHeld) rfl (by kernel_rfl) (by rw [ha] <;> rfl)
        have st3 : ∀ q : Nat, ∀ RQ : List OR, ∀ g0 : World, Hid (PL [q] [fdA T (k : Int)] RQ) → Hid (Rs w w.heap.size g0 ([rB w.heap.size 72 [.int .i64 n.kind, .string n.text, .int .i64 n.num, v], rP v ps] ++ ((RQ) ++ (RR)))) → (fun _ => True) g0 → Gd 5 #[true, true, true, true, true, true, true, false, false, false, false, false] ((a0.put (some 26) v).put (some 28) (.pointer (some ⟨q, 0, none⟩))) g0 := by
          intro q RQ g0 hPL hR hHeld
          rw [hG, ha]
          simp only [List.foldl, Act.put, List.setIfInBounds_toArray, List.set_cons_zero, List.set_cons_succ]
          refine wpAnyH_ready (rs := [7]) (by kernel_rfl) (by simp) ?_
          refine AllReadyH.cons rfl (fun K hK => ?_) AllReadyH.nil
          refine step_bs1 [rB w.heap.size 72 [.int .i64 n.kind, .string n.text, .int .i64 n.num, v], rP v ps] ((RQ) ++ (RR)) hR.out rfl (d0 := (some 29)) rfl 44 45 Tryz.underlying44 hiP hzP hsP (.tmp 28) rfl (.pointer (some ⟨q, 0, none⟩)) rfl rfl ?_
          intro kc g3 hR'
          have hR : Hid (Rs w w.heap.size g3 ([rB w.heap.size 72 [.int .i64 n.kind, .string n.text, .int .i64 n.num, v], rP v ps, rB kc 45 [.pointer (some ⟨q, 0, none⟩)]] ++ ((RQ) ++ (RR)))) := hR'
          clear hR'
          refine hK.out _ _ ?_ (fun hHeld => ?_)
          · exact ⟨⟩
          clear hK K
          exact dag_to hG (st2 q RQ kc _ hPL hR hHeld) rfl (by kernel_rfl) (by rw [ha] <;> rfl)
        have st4 : ∀ g0 : World, Hid (Rs w w.heap.size g0 ([rB w.heap.size 72 [.int .i64 n.kind, .string n.text, .int .i64 n.num, v], rP v ps] ++ (RR))) → (fun _ => True) g0 → Gd 6 #[true, true, true, true, true, true, false, false, false, false, false, false] (a0.put (some 26) v) g0 := by
          intro g0 hR hHeld
          rw [hG, ha]
          simp only [List.foldl, Act.put, List.setIfInBounds_toArray, List.set_cons_zero, List.set_cons_succ]
          refine wpAnyH_ready (rs := [6]) (by kernel_rfl) (by simp) ?_
          refine AllReadyH.cons rfl (fun K hK => ?_) AllReadyH.nil
          go_simp
          refine (IH.out k hkk m pj Rj _ hvk HPJ.out (HRJ.out.later hR.out.l)).mono ?_
          rintro z g4 ⟨⟨q, RQ, rfl, hPL, hO⟩, hb⟩
          have hPL := Hid.mk' hPL
          have hR : Hid (Rs w w.heap.size g4 ([rB w.heap.size 72 [.int .i64 n.kind, .string n.text, .int .i64 n.num, v], rP v ps] ++ ((RQ) ++ (RR)))) := Hid.mk' (hR.out.insM [rB w.heap.size 72 [.int .i64 n.kind, .string n.text, .int .i64 n.num, v], rP v ps] (RQ) (RR) hb hO)
          clear hb hO
          refine hK.out _ _ ?_ (fun hHeld => ?_)
          · exact ⟨⟩
          clear hK K
          exact dag_to hG (st3 q RQ _ hPL hR hHeld) rfl (by kernel_rfl) (by rw [ha] <;> rfl)
        have st5 : ∀ q : Nat, ∀ RQ : List OR, ∀ kc : Nat, ∀ g0 : World, Hid (PL [q] [fdA T (k : Int)] RQ) → Hid (Rs w w.heap.size g0 ([rB w.heap.size 72 [.int .i64 n.kind, .string n.text, .int .i64 n.num, v], rP v ps, rB kc 45 [.pointer (some ⟨q, 0, none⟩)]] ++ ((RQ) ++ (RR)))) → (fun _ => True) g0 → Gd 5 #[true, true, true, true, false, true, true, true, false, false, false, false] ((a0.put (some 28) (.pointer (some ⟨q, 0, none⟩))).put (some 29) (.slice (some ⟨kc, 0, none⟩) 1 1)) g0 := by
          intro q RQ kc g0 hPL hR hHeld
          rw [hG, ha]
          simp only [List.foldl, Act.put, List.setIfInBounds_toArray, List.set_cons_zero, List.set_cons_succ]
          refine wpAnyH_ready (rs := [4]) (by kernel_rfl) (by simp) ?_
          refine AllReadyH.cons rfl (fun K hK => ?_) AllReadyH.nil
          have hbx := hR.out.box [] ([rP v ps, rB kc 45 [.pointer (some ⟨q, 0, none⟩)]] ++ ((RQ) ++ (RR)))
          have x0 := hbx.cell 3
          have x1 := hbx.frozen 3
          clear hbx
          go_simp
          clear x0 x1
          refine hK.out _ _ ?_ (fun hHeld => ?_)
          · exact ⟨⟩
          clear hK K
          exact dag_to hG (st2 q RQ kc _ hPL hR hHeld) rfl (by kernel_rfl) (by rw [ha] <;> rfl)
        have st6 : ∀ q : Nat, ∀ RQ : List OR, ∀ g0 : World, Hid (PL [q] [fdA T (k : Int)] RQ) → Hid (Rs w w.heap.size g0 ([rB w.heap.size 72 [.int .i64 n.kind, .string n.text, .int .i64 n.num, v], rP v ps] ++ ((RQ) ++ (RR)))) → (fun _ => True) g0 → Gd 6 #[true, true, true, true, false, true, true, false, false, false, false, false] (a0.put (some 28) (.pointer (some ⟨q, 0, none⟩))) g0 := by
          intro q RQ g0 hPL hR hHeld
          rw [hG, ha]
          simp only [List.foldl, Act.put, List.setIfInBounds_toArray, List.set_cons_zero, List.set_cons_succ]
          refine wpAnyH_ready (rs := [4, 7]) (by kernel_rfl) (by simp) ?_
          refine AllReadyH.cons rfl (fun K hK => ?_) ?_
          · skip
            have hbx := hR.out.box [] ([rP v ps] ++ ((RQ) ++ (RR)))
            have x0 := hbx.cell 3
            have x1 := hbx.frozen 3
            clear hbx
            go_simp
            clear x0 x1
            refine hK.out _ _ ?_ (fun hHeld => ?_)
            · exact ⟨⟩
            clear hK K
            exact dag_to hG (st3 q RQ _ hPL hR hHeld) rfl (by kernel_rfl) (by rw [ha] <;> rfl)
          refine AllReadyH.cons rfl (fun K hK => ?_) AllReadyH.nil
          refine step_bs1 [rB w.heap.size 72 [.int .i64 n.kind, .string n.text, .int .i64 n.num, v], rP v ps] ((RQ) ++ (RR)) hR.out rfl (d0 := (some 29)) rfl 44 45 Tryz.underlying44 hiP hzP hsP (.tmp 28) rfl (.pointer (some ⟨q, 0, none⟩)) rfl rfl ?_
          intro kc g7 hR'
          have hR : Hid (Rs w w.heap.size g7 ([rB w.heap.size 72 [.int .i64 n.kind, .string n.text, .int .i64 n.num, v], rP v ps, rB kc 45 [.pointer (some ⟨q, 0, none⟩)]] ++ ((RQ) ++ (RR)))) := hR'
          clear hR'
          refine hK.out _ _ ?_ (fun hHeld => ?_)
          · exact ⟨⟩
          clear hK K
          exact dag_to hG (st5 q RQ kc _ hPL hR hHeld) rfl (by kernel_rfl) (by rw [ha] <;> rfl)
        rw [hG, ha]
        try simp only [List.foldl, Act.put, List.setIfInBounds_toArray, List.set_cons_zero, List.set_cons_succ]
        refine wpAnyH_ready (rs := [4, 6]) (by kernel_rfl) (by simp) ?_
        refine AllReadyH.cons rfl (fun K hK => ?_) ?_
        · skip
          have hbx := hR.out.box [] ([rP v ps] ++ (RR))
          have x0 := hbx.cell 3
          have x1 := hbx.frozen 3
          clear hbx
          go_simp
          clear x0 x1
          refine hK.out _ _ ?_ (fun hHeld => ?_)
          · exact ⟨⟩
          clear hK K
          exact dag_to hG (st4  _  hR hHeld) rfl (by kernel_rfl) (by rw [ha] <;> rfl)
        refine AllReadyH.cons rfl (fun K hK => ?_) AllReadyH.nil
        go_simp
        refine (IH.out k hkk m pj Rj _ hvk HPJ.out (HRJ.out.later hR.out.l)).mono ?_
        rintro z g9 ⟨⟨q, RQ, rfl, hPL, hO⟩, hb⟩
        have hPL := Hid.mk' hPL
        have hR : Hid (Rs w w.heap.size g9 ([rB w.heap.size 72 [.int .i64 n.kind, .string n.text, .int .i64 n.num, v], rP v ps] ++ ((RQ) ++ (RR)))) := Hid.mk' (hR.out.insM [rB w.heap.size 72 [.int .i64 n.kind, .string n.text, .int .i64 n.num, v], rP v ps] (RQ) (RR) hb hO)
        clear hb hO
        refine hK.out _ _ ?_ (fun hHeld => ?_)
        · exact ⟨⟩
        clear hK K
        exact dag_to hG (st6 q RQ _ hPL hR hHeld) rfl (by kernel_rfl) (by rw [ha] <;> rfl)
        -- END
      · have hj' : ps.length = n.kids.length := by omega
        have hPF : Hid (PL ps (n.kids.map (fdA T)) RR) := by
          have := hPR.out
          rw [hj', List.take_length] at this
          exact this
        have hRF := hRr
        clear hPR hRr
        go_wp2_with fail
        refine (made_any hPF.out _ hRF.out.o.rd (fun h => ?_) (fun h => ?_)).mono ?_
        · have := HV.out.len; rw [h] at this; simp [shp] at this; simp; omega
        · have := HV.out.len; rw [h] at this; simp [shp] at this; simp; omega
        rintro e w2 ⟨⟨ka, ia, xa, ya, rfl, hvs⟩, hb2⟩
        have R2 := hid (hRF.out.later hb2)
        clear hRF hb2
        go_wp2_with fail
        refine (leafOf_any ka ia xa ya _).mono ?_
        rintro e w3 ⟨hL, hb3⟩
        have hL := hL (mdV n.kind n.num (n.kids.map (fdA T))) hvs.1.symm hvs.2.1.symm
        subst hL
        have R4 := hid (R2.out.later hb3)
        have R5 := hid (R4.out.later (bl_alloc (Below.refl _ w3) (.cells #[.int .i64 (leafV (mdV n.kind n.num (n.kids.map (fdA T)))).1, .string ⟨#[]⟩, .int .i64 (leafV (mdV n.kind n.num (n.kids.map (fdA T)))).2] 70)))
        clear R2 hb3 hvs R4
        obtain ⟨lf, hlf⟩ : ∃ lf, Hid (lfV n.kind n.num (n.kids.map (fdA T)) = lf) := ⟨_, rfl⟩
        have hz : lf.1 = 0 → lf.2 = 0 := by rw [← hlf.out]; exact leafV_zero _
        rw [show leafV (mdV n.kind n.num (n.kids.map (fdA T))) = lf from hlf.out] at R5 ⊢
        obtain ⟨l1, l2⟩ := lf
        by_cases h0 : l1 = 0
        · subst h0
          obtain rfl : l2 = 0 := hz rfl
          go_wp2_with fail
          go_ret
          refine ⟨⟨w.heap.size, _, rfl, ?_, R5.out.o⟩, R5.out.l⟩
          rw [fdA_eq HV.out]
          have e : mkF n.kind n.text n.num (n.kids.map (fdA T)) = .nd n.kind n.text n.num (n.kids.map (fdA T)) := by unfold mkF; rw [if_pos (by rw [hlf.out])]
          rw [e]
          exact PL.mk1 hPF.out
        · have t0 : (l1 == 0) = false := by simp [h0]
          have R6 : Rs w w.heap.size (w3.alloc (.cells #[.int .i64 l1, .string ⟨#[]⟩, .int .i64 l2] 70)) ([] ++ []) := ⟨R5.out.l, Owns.nil _ _, R5.out.s⟩
          have R7 := R6.ins [] [] (bl_alloc (Below.refl _ _) _) (blk_rB (Blk.in' (c := #[.int .i64 l1, .string ⟨#[]⟩, .int .i64 l2, .slice none 0 0]) (t := 72) (n := w3.heap.size + 1) (by simp)) (by simp))
          have R8 := hid (Rs.ins [rB (w3.heap.size + 1) 72 [.int .i64 l1, .string ⟨#[]⟩, .int .i64 l2, .slice none 0 0]] [] (r := rP (.slice none 0 0) []) R7 (Below.refl _ _) (World.ownsRow_nil _ _ _ _))
          clear R5 R6 R7 hz
          go_wp2_with fail
          go_ret
          refine ⟨⟨w3.heap.size + 1, _, rfl, ?_, R8.out.o⟩, R8.out.l⟩
          rw [fdA_eq HV.out]
          have e : mkF n.kind n.text n.num (n.kids.map (fdA T)) = .nd l1 ByteArray.empty l2 [] := by unfold mkF; rw [if_neg (by rw [hlf.out]; exact h0), hlf.out]
          rw [e]
          exact PL.mk1 PL.nil
end Go.Proofs.YtknallkcengbbaaGreatDoor
namespace Go.Proofs.YtknallkcengbbaaGreatDoor
open Go.RowKit
set_option linter.unusedVariables false
set_option linter.unusedSimpArgs false

theorem fd_form {T : Tre} {i : Nat} {n : Nd} (hv : VN T i n) : ∃ (k : Int) (t : ByteArray) (m : Int) (kl : List Int), fdA T (i : Int) = .nd k t m (kl.map (fdA T)) ∧ (∀ b, lyA T (i : Int) b = (lays (lyA T) kl b).1 ++ [⟨k, t, m, (lays (lyA T) kl b).2⟩]) ∧ (∀ x ∈ kl, x ∈ n.kids) ∧ kl.length ≤ n.kids.length := by
  by_cases h : (lfV n.kind n.num (n.kids.map (fdA T))).1 = 0
  · refine ⟨n.kind, n.text, n.num, n.kids, ?_, fun b => ?_, fun _ hx => hx, Nat.le_refl _⟩
    · rw [fdA_eq hv]; unfold mkF; rw [if_pos h]
    · rw [lyA_eq hv]; unfold mkL; rw [if_pos h]
  · refine ⟨(lfV n.kind n.num (n.kids.map (fdA T))).1, ByteArray.empty, (lfV n.kind n.num (n.kids.map (fdA T))).2, [], ?_, fun b => ?_, fun _ hx => by simp at hx, Nat.zero_le _⟩
    · rw [fdA_eq hv]; unfold mkF; rw [if_neg h]; rfl
    · rw [lyA_eq hv]; unfold mkL; rw [if_neg h]; rfl
theorem foldl_grow (g : Int → Nat → List Nd) (b : Nat) : ∀ (ks : List Int) s, s.1.length ≤ (ks.foldl (layS g b) s).1.length
  | [], s => Nat.le_refl _
  | x :: xs, s => by
    rw [List.foldl_cons]
    refine Nat.le_trans ?_ (foldl_grow g b xs _)
    simp [layS]
theorem lays_mono (g : Int → Nat → List Nd) (b : Nat) (ks : List Int) (j : Nat) : (lays g (ks.take j) b).1.length ≤ (lays g ks b).1.length := by
  conv => rhs; rw [← List.take_append_drop j ks]
  unfold lays
  rw [List.foldl_append]
  exact foldl_grow g b _ _
theorem lays_next (g : Int → Nat → List Nd) (b : Nat) {ks : List Int} {j : Nat} {x : Int} (h : ks[j]? = some x) : lays g (ks.take (j + 1)) b = layS g b (lays g (ks.take j) b) x := by
  have hj : j < ks.length := (List.getElem?_eq_some_iff.1 h).1
  rw [List.take_succ_eq_append_getElem hj, lays_snoc]
  have : ks[j] = x := by rw [List.getElem?_eq_getElem hj] at h; simpa using h
  rw [this]
/-- rows that lie below B and can be read there. -/
def RX (X : World) (B : Nat) (R : List OR) : Prop := ∀ r ∈ R, r.on X 0 ∧ ∀ g, r.v.ownBlock = some g → g < B
theorem RX.rd {X W : World} {B : Nat} {R : List OR} (h : RX X B R) (hb : Below B X W) : Rd W R := fun r hr => (h r hr).1.same fun g hg => hb.block g ((h r hr).2 g hg)
theorem RX.sub {X : World} {B : Nat} {R S : List OR} (h : RX X B R) (hs : ∀ r ∈ S, r ∈ R) : RX X B S := fun r hr => h r (hs r hr)
theorem perm_rec {α : Type} (a b c : α) (K S : List α) : ([a, b, c] ++ (K ++ S)).Perm ([c] ++ (K ++ (a :: b :: S))) := by
  have h1 : (K ++ (a :: b :: S)).Perm (a :: b :: (K ++ S)) := List.perm_middle.trans (List.perm_middle.cons a)
  have h2 : (c :: (K ++ (a :: b :: S))).Perm (c :: a :: b :: (K ++ S)) := h1.cons c
  have h3 : (c :: a :: b :: (K ++ S)).Perm (a :: c :: b :: (K ++ S)) := List.Perm.swap a c _
  have h4 : (a :: c :: b :: (K ++ S)).Perm (a :: b :: c :: (K ++ S)) := (List.Perm.swap b c _).cons a
  exact ((h2.trans h3).trans h4).symm
theorem perm_in {α : Type} (a c : α) (K S : List α) : ([a] ++ ([c] ++ (K ++ S))).Perm ([c] ++ ((K ++ [a]) ++ S)) := by
  have e : (K ++ [a]) ++ S = K ++ (a :: S) := by simp
  rw [e]
  have h2 : (c :: (K ++ (a :: S))).Perm (c :: a :: (K ++ S)) := List.perm_middle.cons c
  exact (h2.trans (List.Perm.swap a c _)).symm
theorem rN_shape {w : World} {B : Nat} {v : Value} {Q : List NK} (h : (rN v Q).on w B) : ∃ s c, v = .slice s Q.length c := OR.on.shape h
theorem rI_shape {w : World} {B : Nat} {v : Value} {L : List Int} (h : (rI v L).on w B) : ∃ s c, v = .slice s L.length c := OR.on.shape h
theorem Tryz.infoNdd : (Tryz.prog.info? 57).map (fun i => (i.zero, i.size, i.bytes)) = some (some (.agg #[.int .i64 0, .string ⟨#[]⟩, .int .i64 0, .slice none 0 0]), 4, 56) := by kernel_rfl
/-- what laying down leaves. -/
def Laidn (T : Tre) (i : Int) (X : World) (B : Nat) (Q : List NK) (S : List OR) (e : Ending) (w' : World) : Prop :=
  ∃ v' Q', e = .returned v' ∧ Rs X B w' ([rN v' Q'] ++ (rK Q' ++ S)) ∧ Q'.map (·.1) = Q.map (·.1) ++ lyA T i Q.length

set_option maxRecDepth 100000 in
set_option maxHeartbeats 4000000 in
theorem laid_any (T : Tre) (X : World) (B : Nat) : ∀ (i : Nat) (n : Nd) (p : Nat) (R : List OR) (v : Value) (Q : List NK) (S : List OR) (w : World), VN T i n → i ≤ 4000 → PL [p] [fdA T (i : Int)] R → RX X B R → Rs X B w ([rN v Q] ++ (rK Q ++ S)) → Q.length + (lyA T (i : Int) Q.length).length ≤ 8000 →
    Calls Tryz.prog 44 #[.pointer (some ⟨p, 0, none⟩), v] w fun e w' => Laidn T (i : Int) X B Q S e w' := by
  intro i
  induction i using Nat.strongRecOn with
  | ind i ih =>
    intro n p R v Q S w hv hi4 hP hX hRs hq
    have hal := alloc_old
    have haf := alloc_oldf
    have IH := hid ih
    have HV := hid hv
    obtain ⟨k, t, mm, kl, hf, hly, hkm, hkn⟩ := fd_form hv
    have hnl : n.kids.length ≤ i := by obtain ⟨nx, hfit⟩ := hv.fit; have := hfit.len; omega
    have HLY := hid hly
    have HKM := hid hkm
    rw [hf] at hP
    rw [hly] at hq
    obtain ⟨k0, t0, i0, ks0, v0, ps0, R0, e0, hP0, rfl⟩ := hP.one
    injection e0 with e1 e2 e3 e4
    subst e1 e2 e3 e4
    have hRd := hX.rd hRs.l
    have hB := part_cells hRd (q := p) List.mem_cons_self
    have hps : (rP v0 ps0).on w 0 := hRd _ (by simp)
    have hlen : ps0.length = kl.length := by rw [hP0.len]; simp
    obtain ⟨s0, c0, rfl⟩ := rP_shape hps
    obtain ⟨sv, cv, rfl⟩ := rN_shape (hRs.at [] _)
    have HP0 := hid hP0
    have HX := hid hX
    have HRS := hid hRs
    obtain ⟨x0, x1, x2, x3, x4⟩ := Blk.four' hB
    have hpl := hB.lt
    clear ih hv hP hP0 hps hB hX hRs hRd hly hkm hf
    go_enter Tryz.func44, Tryz.ntmps44
    go_wp2_with fail
    have np : ¬ p = w.heap.size := by omega
    go_region_held3 (fun w' => w'.cell? ⟨p, 0, none⟩ = some (.int .i64 k) ∧ w'.cell? ⟨p, 1, none⟩ = some (.string t) ∧ w'.cell? ⟨p, 2, none⟩ = some (.int .i64 mm)) (simp [cell_far, np, hal, x0, x1, x2]) (fail)
    have ra := (Rs.ins [] _ (r := rB w.heap.size 57 [.int .i64 k, .string t, .int .i64 mm, .slice none 0 0]) HRS.out (bl_alloc (Below.refl _ _) _) (blk_rB (Blk.new w _ _) (Nat.le_refl _))).drew
    have R1 := hid (Rs.ins [] _ (r := rI (.slice none 0 0) []) ra (Below.refl _ _) (World.ownsRow_nil _ _ _ _))
    have x3 := (((HX.out.rd R1.out.l) _ List.mem_cons_self : (rB p 72 (pcs k t mm (.slice s0 ps0.length c0))).on _ 0))
    have x3 := (rB_blk x3).cell 3
    have x3 : (w.alloc (.cells #[.int .i64 k, .string t, .int .i64 mm, .slice none 0 0] 57)).drew.cell? ⟨p, 3, none⟩ = some (.slice s0 ps0.length c0) := x3
    clear ra HRS x0 x1 x2 x4 hal haf np hpl
    generalize (w.alloc (.cells #[.int .i64 k, .string t, .int .i64 mm, .slice none 0 0] 57)).drew = W0 at R1 x3 ⊢
    generalize w.heap.size = nb at R1 ⊢
    obtain ⟨iI, hiI, hzI, hsI, hbI⟩ := info_parts Tryz.infoI
    obtain ⟨iN, hiN, hzN, hsN, hbN⟩ := info_parts Tryz.infoNdd
    go_wp2_with fail
    clear x3
    obtain ⟨b, hbq⟩ : ∃ b, b = Q.length := ⟨_, rfl⟩
    rw [← hbq] at hq
    have HQ : Hid (∀ e w', (∃ v' Q', e = .returned v' ∧ Rs X B w' ([rN v' Q'] ++ (rK Q' ++ S)) ∧ Q'.map (·.1) = Q.map (·.1) ++ ((lays (lyA T) kl b).1 ++ [⟨k, t, mm, (lays (lyA T) kl b).2⟩])) → Laidn T (i : Int) X B Q S e w') := by
      rintro e w' ⟨v', Q', h1, h2, h3⟩
      refine ⟨v', Q', h1, h2, ?_⟩
      rw [h3, HLY.out, hbq]
    have hq1 : b + (lays (lyA T) kl b).1.length + 1 ≤ 8000 := by simp at hq; omega
    clear hq HLY
    go_loopw [1, 29] (fun nv ii wr => ∃ (j : Nat) (s9 : Option Addr) (c9 : Nat) (Q' : List NK) (ids : List Int) (kv : Value), j ≤ kl.length ∧ ii = .int .i64 j ∧ nv = .slice s9 Q'.length c9 ∧ ids.length = j ∧ Q'.length = b + (lays (lyA T) (kl.take j) b).1.length ∧ Hid (Q'.map (·.1) = Q.map (·.1) ++ (lays (lyA T) (kl.take j) b).1) ∧ Hid (ids = (lays (lyA T) (kl.take j) b).2) ∧ Hid (Rs X B wr ([rI kv ids, rB nb 57 [.int .i64 k, .string t, .int .i64 mm, kv], rN (.slice s9 Q'.length c9) Q'] ++ (rK Q' ++ S)))) (fun _ ii _ => kl.length - (intOf ii).toNat)
    case atStart => exact ⟨0, sv, cv, Q, [], .slice none 0 0, Nat.zero_le _, rfl, rfl, rfl, by simp [lays, hbq], by simp [Hid, lays], by simp [Hid, lays], R1.out⟩
    case round =>
      obtain ⟨j, s9, c9, Q', ids, kv, hj, rfl, rfl, hil, hQl, hQm, hid', hRr⟩ := hrel
      clear R1
      have hmono := lays_mono (lyA T) b kl j
      by_cases hlt : j < kl.length
      · obtain ⟨x, hx⟩ := get_some hlt
        obtain ⟨kk, m, rfl, hkk, hvk⟩ := HV.out.kid (HKM.out _ (List.mem_of_getElem? hx))
        obtain ⟨pj, hpj⟩ := get_some (L := ps0) (k := j) (by omega)
        obtain ⟨xj, Rj, ex, hPj, hsub⟩ := HP0.out.get hpj
        have ex2 : xj = fdA T (kk : Int) := by rw [List.getElem?_map, hx] at ex; simpa using ex.symm
        subst ex2
        have HPJ := hid hPj
        have HXJ : Hid (RX X B Rj) := HX.out.sub fun r hr => by have := hsub r hr; simp [this]
        have hps : (rP (.slice s0 ps0.length c0) ps0).on wr 0 := (HX.out.rd hRr.out.l) _ (by simp)
        obtain ⟨g0, c1, e9, hg0, d0⟩ := rP_at hps hpj
        simp only [Value.slice.injEq] at e9
        obtain ⟨rfl, _, rfl⟩ := e9
        have hnx := lays_next (lyA T) b hx
        have hm2 := lays_mono (lyA T) b kl (j + 1)
        have hl2 : (lays (lyA T) (kl.take (j + 1)) b).1.length = (lays (lyA T) (kl.take j) b).1.length + (lyA T (kk : Int) Q'.length).length := by rw [hnx, hQl]; simp [layS]
        have HNX := hid hnx
        clear hPj hsub ex hpj hps hnx hx
        have hjp : (j : Int) < (ps0.length : Int) := by omega
        have hRp : Rs X B wr ([rN (.slice s9 Q'.length c9) Q'] ++ (rK Q' ++ (rI kv ids :: rB nb 57 [.int .i64 k, .string t, .int .i64 mm, kv] :: S))) := hRr.out.perm (perm_rec (rI kv ids) (rB nb 57 [.int .i64 k, .string t, .int .i64 mm, kv]) (rN (.slice s9 Q'.length c9) Q') (rK Q') S)
        have hc1 : kk ≤ 4000 := by omega
        have hc2 : Q'.length + (lyA T (kk : Int) Q'.length).length ≤ 8000 := by omega
        have HC := hid (IH.out kk hkk m pj Rj (.slice s9 Q'.length c9) Q' (rI kv ids :: rB nb 57 [.int .i64 k, .string t, .int .i64 mm, kv] :: S) wr hvk hc1 HPJ.out HXJ.out hRp hc2)
        have HQL := hid hQl
        have HIL := hid hil
        have HL2 := hid hl2
        clear hRp hQl hil hl2 hm2 hmono
        go_wp2_with fail
        refine (HC.out).mono ?_
        rintro e w2 ⟨v2, Q2, rfl, hR2, hm⟩
        have R2 := hid (hR2.perm (perm_rec (rI kv ids) (rB nb 57 [.int .i64 k, .string t, .int .i64 mm, kv]) (rN v2 Q2) (rK Q2) S).symm)
        obtain ⟨s2, c2, rfl⟩ := rN_shape (R2.out.at [rI kv ids, rB nb 57 [.int .i64 k, .string t, .int .i64 mm, kv]] _)
        obtain ⟨sk, ck, rfl⟩ := rI_shape (R2.out.at [] _)
        have hQ2 : Q2.length = Q'.length + (lyA T (kk : Int) Q'.length).length := by have := congrArg List.length hm; simpa using this
        have HM := hid hm
        clear hR2 hm hRr d0
        have hm2 := lays_mono (lyA T) b kl (j + 1)
        have hl2 := HL2.out
        have hQl := HQL.out
        have hil := HIL.out
        have hq8 : Q2.length ≤ 8000 := by omega
        have hi8 : ids.length < 4001 := by omega
        have HQ2 := hid hQ2
        clear hm2 hl2 hQl hil hQ2
        have tw : IntKind.i64.wrap ((Q2.length : Int) - 1) = (Q2.length : Int) - 1 := by rw [IntKind.wrap_i64]; omega
        obtain ⟨z0, z1, z2, z3, z4⟩ := Blk.four' (R2.out.box [rI (.slice sk ids.length ck) ids] _)
        have R3 := hid (R2.out.later (bl_alloc (Below.refl _ w2) (.cells #[.int .i64 ((Q2.length : Int) - 1)] 3)))
        have B3 := hid (Blk.new w2 #[.int .i64 ((Q2.length : Int) - 1)] 3)
        go_wp2_with (at_builtin; refine wpl_app [] ([rB nb 57 [.int .i64 k, .string t, .int .i64 mm, .slice sk ids.length ck], rN (.slice s2 Q2.length c2) Q2] ++ (rK Q2 ++ S)) (r := rI (.slice sk ids.length ck) ids) R3.out rfl _ _ 23 8 rfl Tryz.underlying23 hiI hzI hsI hbI rfl (Nat.succ_pos _) rfl (some ⟨w2.heap.size, 0, none⟩) 1 1 [.int .i64 ((Q2.length : Int) - 1)] rfl rfl (srcB B3.out) (fun u hu => by simp at hu; subst hu; rfl) (by show ids.length + 1 ≤ _; unfold maxLen; omega) (by show (ids.length + 1) * 8 ≤ _; omega) (ids.length + 1) rfl (fun v => rI v (ids ++ [(Q2.length : Int) - 1])) (fun _ => by simp [rI]) ?_; intro s4 c4 w4 hR4; have R4 := hid hR4; obtain ⟨y0, y1, y2, y3, y4⟩ := Blk.four' (hR4.box [rI (.slice s4 (ids.length + 1) c4) (ids ++ [(Q2.length : Int) - 1])] ([rN (.slice s2 Q2.length c2) Q2] ++ (rK Q2 ++ S))); clear hR4)
        have R5 := hid (R4.out.setB [rI (.slice s4 (ids.length + 1) c4) (ids ++ [(Q2.length : Int) - 1])] ([rN (.slice s2 Q2.length c2) Q2] ++ (rK Q2 ++ S)) 3 (.slice s4 (ids.length + 1) c4))
        go_roundw
        case rel =>
          have hil := HIL.out
          have hQl := HQL.out
          have hnx := HNX.out
          have hQ2 := HQ2.out
          refine ⟨j + 1, s2, c2, Q2, ids ++ [(Q2.length : Int) - 1], .slice s4 (ids.length + 1) c4, by omega, by go_num, rfl, by simp [hil], ?_, ?_, ?_, R5.out⟩
          · rw [hnx, hQ2, hQl]; simp [layS]; omega
          · show _ = _
            rw [HM.out, hQm.out, hnx, hQl]; simp [layS]
          · show _ = _
            rw [hnx, hQ2, hQl, hid'.out]; simp [layS]
        case measure => simp [intOf] <;> omega
      · have hj' : j = kl.length := by omega
        subst hj'
        have hQm := hQm.out
        have hid' := hid'.out
        rw [List.take_length] at hQl hQm hid'
        have HQm := hid hQm
        have HQi := hid hid'
        have hq8 : Q'.length ≤ 8000 := by omega
        have B4 := hid (hRr.out.box [rI kv ids] ([rN (.slice s9 Q'.length c9) Q'] ++ (rK Q' ++ S)))
        have R3 := hid (hRr.out.later (bl_alloc (Below.refl _ wr) (.cells #[.int .i64 k, .string t, .int .i64 mm, kv] 57)))
        have B3 := hid (Blk.new wr #[.int .i64 k, .string t, .int .i64 mm, kv] 57)
        have HKV : Hid (∃ a c, kv = .slice a ids.length c) := rI_shape (hRr.out.at [] ([rB nb 57 [.int .i64 k, .string t, .int .i64 mm, kv], rN (.slice s9 Q'.length c9) Q'] ++ (rK Q' ++ S)))
        obtain ⟨z0, z1, z2, z3, z4⟩ := Blk.four' B4.out
        clear hQl hQm hid' hRr hmono hil
        go_wp2_with (at_builtin; refine wpl_app [rI kv ids, rB nb 57 [.int .i64 k, .string t, .int .i64 mm, kv]] (rK Q' ++ S) (r := rN (.slice s9 Q'.length c9) Q') R3.out rfl _ _ 27 56 rfl Tryz.underlying27 hiN hzN hsN hbN rfl (Nat.succ_pos _) rfl (some ⟨wr.heap.size, 0, none⟩) 1 1 [.int .i64 k, .string t, .int .i64 mm, kv] rfl rfl (Or.inr ⟨_, rfl, news4 B3.out⟩) (fun u hu => by simp only [List.mem_cons, List.not_mem_nil, or_false] at hu; rcases hu with rfl | rfl | rfl | rfl <;> first | rfl | (obtain ⟨_, _, rfl⟩ := HKV.out; rfl)) (by show Q'.length + 1 ≤ _; unfold maxLen; omega) (by show (Q'.length + 1) * 56 ≤ _; omega) (Q'.length + 1) rfl (fun v => rN v (Q' ++ [(⟨k, t, mm, ids⟩, kv)])) (fun _ => by simp [rN, nc]) ?_; intro s4 c4 w4 hR4; have R4 := hid hR4; clear hR4)
        go_ret
        refine HQ.out _ _ ⟨_, Q' ++ [(⟨k, t, mm, ids⟩, kv)], rfl, ?_, ?_⟩
        · have h1 := Rs.less [rI kv ids] ([rN (.slice s4 (Q'.length + 1) c4) (Q' ++ [(⟨k, t, mm, ids⟩, kv)])] ++ (rK Q' ++ S)) R4.out
          have h2 := Rs.perm h1 (perm_in (rI kv ids) (rN (.slice s4 (Q'.length + 1) c4) (Q' ++ [(⟨k, t, mm, ids⟩, kv)])) (rK Q') S)
          have e : rK (Q' ++ [((⟨k, t, mm, ids⟩ : Nd), kv)]) = rK Q' ++ [rI kv ids] := by simp [rK]
          rw [e]
          exact h2
        · rw [List.map_append, HQm.out, HQi.out]; simp
end Go.Proofs.YtknallkcengbbaaGreatDoor
namespace Go.Proofs.YtknallkcengbbaaGreatDoor
open Go.RowKit
set_option linter.unusedVariables false
set_option linter.unusedSimpArgs false

theorem Blk.under {BB n : Nat} {w w' : World} {c : Array Value} {t : TypeId} (h : Blk w n c t) (hb : Below BB w w') (hn : n < BB) : Blk w' n c t := by unfold Blk; rw [hb.block n hn]; exact h
/-- the top ahead of the k-th, or what stands for it. -/
def topB (T : List Int) (k : Nat) : Int := if k = 0 then -1 else (T[k - 1]?).getD 0
/-- how many nodes the k-th top has. -/
def szAt (T : List Int) (k : Nat) : Int := (T[k]?).getD 0 - topB T k
def szN (T : List Int) (k : Nat) : List Int := (List.range k).map (szAt T)
theorem szN_len (T : List Int) (k : Nat) : (szN T k).length = k := by simp [szN]
theorem szN_succ (T : List Int) (k : Nat) : szN T (k + 1) = szN T k ++ [szAt T k] := by simp [szN, List.range_succ]
theorem topB_succ {T : List Int} {k : Nat} {x : Int} (h : T[k]? = some x) : topB T (k + 1) = x := by simp [topB, h]
/-- what Sizes answers. -/
noncomputable def sizA (t : Tre) : List Int := if treB t = true then szN t.tops t.tops.length else []
theorem fitL_in {K : Nat → List Int} {ok : Nat → Prop} {l : List Int} {a e : Nat} (h : FitL K ok l a e) : ∀ x ∈ l, 0 ≤ x ∧ x < e := by
  induction h with
  | nil nx => intro x hx; simp at hx
  | cons nx k ks e h1 h2 h3 h4 _ ih =>
    intro x hx
    have hle := h4.le
    rcases List.mem_cons.1 hx with rfl | hx
    · omega
    · exact ih x hx
theorem tops_in {t : Tre} (h : treP t) : (∀ x ∈ t.tops, 0 ≤ x ∧ x < 4000) ∧ t.tops.length ≤ 4000 := by
  obtain ⟨h1, h2, _⟩ := h
  refine ⟨fun x hx => ?_, ?_⟩
  · have := fitL_in h2 x hx; omega
  · have := h2.len; omega
theorem topB_in {T : List Int} (h : ∀ x ∈ T, 0 ≤ x ∧ x < 4000) (k : Nat) (hk : k ≤ T.length) : -1 ≤ topB T k ∧ topB T k < 4000 := by
  unfold topB
  split
  · omega
  · have : k - 1 < T.length := by omega
    rw [List.getElem?_eq_getElem this]
    have := h _ (List.getElem_mem this)
    simp only [Option.getD_some]; omega

set_option maxRecDepth 100000 in
set_option maxHeartbeats 4000000 in
theorem specSizes_any (t : Tre) (s1 s2 : Option Addr) (c1 c2 B : Nat) (w : World) (hT : InT w B s1 s2 t) (hkt : kTre t) :
    Calls Tryz.prog 12 #[.agg #[.slice s1 t.nodes.length c1, .slice s2 t.tops.length c2]] w fun e w' => (∃ s c, e = .returned (.slice s (sizA t).length c) ∧ OI w' w.heap.size (.slice s (sizA t).length c) (sizA t)) ∧ Below w.heap.size w w' := by
  have hal := alloc_old
  have haf := alloc_oldf
  have k0 := Blk.new w #[.slice s1 t.nodes.length c1, .slice s2 t.tops.length c2] 29
  have L0 := bl_alloc (Below.refl _ w) (.cells #[.slice s1 t.nodes.length c1, .slice s2 t.tops.length c2] 29)
  obtain ⟨x0, x1, x2⟩ := k0.two
  have HT := hid (hT.later L0)
  have HKT := hid hkt
  clear hT hkt
  go_enter Tryz.func12, Tryz.ntmps12
  go_wp2_with fail
  refine (specTreeOk_any t _ _ _ _ _ _ HT.out HKT.out).mono ?_
  rintro e w1 ⟨rfl, hb1⟩
  have L1 := bl_trans L0 hb1
  have k1 := k0.later hb1
  have HT1 := hid (HT.out.later hb1)
  clear x0 x1 x2 k0 hb1 L0 HT
  obtain ⟨x0, x1, x2⟩ := k1.two
  by_cases hp : treP t
  rotate_left
  · have q1 : treB t = false := treB_false hp
    have HE : Hid (sizA t = []) := by show _ = _; unfold sizA; rw [q1]; rfl
    rw [q1]
    clear hp q1
    go_wp2_with fail
    go_ret
    refine ⟨⟨none, 0, ?_, ?_⟩, L1⟩
    · rw [HE.out]; rfl
    · rw [HE.out]; exact OI.nil _ _
  have q1 : treB t = true := treB_true hp
  obtain ⟨hin, hlen⟩ := tops_in hp
  have HIN := hid hin
  have HE : Hid (sizA t = szN t.tops t.tops.length) := by show _ = _; unfold sizA; rw [q1]; rfl
  rw [q1]
  clear hp q1 hin
  have hw1 : w.heap.size < w1.heap.size := k1.lt
  have kE := Blk.new w1 #[] 3
  have LE := bl_alloc (Below.refl _ w1) (.cells #[] 3)
  have OE : Hid (OI (w1.alloc (.cells #[] 3)) w1.heap.size (.slice (some ⟨w1.heap.size, 0, none⟩) 0 0) []) := OI.empty kE
  have k2 := k1.later LE
  have k1' := k1
  have HT2 := hid (HT1.out.later LE)
  have LE2 := bl_trans L1 LE
  clear x0 x1 x2
  obtain ⟨x0, x1, x2⟩ := k2.two
  have LX := LE
  clear k1 kE
  go_wp2_with fail
  generalize hX : w1.alloc (.cells #[] 3) = X at k2 LE LE2 LX OE HT2 x0 x1 x2 ⊢
  have hXs : X.heap.size = w1.heap.size + 1 := by rw [← hX]; simp
  have KX : Hid (Blk w1 w.heap.size #[.slice s1 t.nodes.length c1, .slice s2 t.tops.length c2] 29) := k1'
  clear hX k2 x0 x1 x2 LE LE2 HT2
  go_loopw [3, 4, 5] (fun v u i wr => ∃ (k : Nat) (s9 : Option Addr) (c9 : Nat) (R : List Int) (z : Int), k ≤ t.tops.length ∧ i = .int .i64 k ∧ u = .int .i64 z ∧ v = .slice s9 R.length c9 ∧ Hid (R = szN t.tops k) ∧ Hid (z = topB t.tops k) ∧ Hid (OI wr w1.heap.size (.slice s9 R.length c9) R) ∧ Hid (Below w1.heap.size w1 wr)) (fun _ _ i _ => t.tops.length - (intOf i).toNat)
  case atStart => exact ⟨0, _, 0, [], -1, Nat.zero_le _, rfl, rfl, rfl, (by simp [Hid, szN]), rfl, OE.out, LX⟩
  case round =>
    obtain ⟨k, s9, c9, R, z, hk, rfl, rfl, rfl, hR, hz, hO, hb⟩ := hrel
    have hRl : R.length = k := by rw [hR.out, szN_len]
    have bl := KX.out.under hb.out hw1
    obtain ⟨x0, x1, x2⟩ := bl.two
    by_cases hlt : k < t.tops.length
    · obtain ⟨x, hx⟩ := get_some hlt
      have hxi := HIN.out x (List.mem_of_getElem? hx)
      have hzi := topB_in HIN.out k hk
      rw [← hz.out] at hzi
      obtain ⟨b, o, rfl, hB, hp, e0⟩ := eInt_cells HT1.out.t hx
      have e5 := (hb.out.cell (p := ⟨b, o + k, none⟩) hp).trans e0
      have hbs := hb.out.size
      have E5 : Hid (Els 1 cInt (wr.alloc (.cells #[.int .i64 (x - z)] 3)) wr.heap.size (some ⟨wr.heap.size, 0, none⟩) [x - z]) := Els.one (Blk.new wr #[.int .i64 (x - z)] 3)
      have O5 : Hid (OI (wr.alloc (.cells #[.int .i64 (x - z)] 3)) w1.heap.size (.slice s9 R.length c9) R) := hO.out.later (bl_alloc (Below.refl _ _) _)
      have B5 : Hid (Below w1.heap.size w1 (wr.alloc (.cells #[.int .i64 (x - z)] 3))) := hb.out.alloc (by omega) _
      obtain ⟨R2, hR2⟩ : ∃ R2, Hid (R ++ [x - z] = R2) := ⟨_, rfl⟩
      have hRn : Hid (R2 = szN t.tops (k + 1)) := by
        show _ = _
        rw [← hR2.out, hR.out, szN_succ, hz.out]; simp [szAt, hx]
      have hzn : Hid (x = topB t.tops (k + 1)) := (topB_succ hx).symm
      have s5 : w1.heap.size ≤ (wr.alloc (.cells #[.int .i64 (x - z)] 3)).heap.size := by simp; omega
      clear hR hz hO hx
      go_wp2_with (at_builtin; refine wpList_append_ints rfl _ _ rfl w1.heap.size s9 c9 R rfl O5.out wr.heap.size _ 1 [x - z] rfl E5.out R2 hR2.out (by simp; omega) s5 ?_; intro s' c' w4 hO4 hg4 hn4; have hb4 := grown_oi B5.out s5 O5.out hg4; obtain ⟨y0, y1, y2⟩ := (KX.out.under hb4 hw1).two; have e6 := (hb4.cell (p := ⟨b, o + k, none⟩) hp).trans e0)
      go_roundw
      case rel => exact ⟨k + 1, s', c', R2, x, by omega, by go_num, rfl, rfl, hRn, hzn, hO4, hb4⟩
      case measure => simp [intOf] <;> omega
    · have hk' : k = t.tops.length := by omega
      subst hk'
      go_wp2_with fail
      go_ret
      refine ⟨⟨s9, c9, ?_, ?_⟩, L1.trans (hb.out.mono (by omega))⟩
      · rw [HE.out, ← hR.out]; rfl
      · rw [HE.out, ← hR.out]; exact hO.out.mono (by omega)
set_option maxRecDepth 100000 in
set_option maxHeartbeats 4000000 in
theorem implSizes_any (t : Tre) (s1 s2 : Option Addr) (c1 c2 B : Nat) (w : World) (hT : InT w B s1 s2 t) (hkt : kTre t) :
    Calls Tryz.prog 13 #[.agg #[.slice s1 t.nodes.length c1, .slice s2 t.tops.length c2]] w fun e w' => (∃ s c, e = .returned (.slice s (sizA t).length c) ∧ OI w' w.heap.size (.slice s (sizA t).length c) (sizA t)) ∧ Below w.heap.size w w' := by
  have hal := alloc_old
  have haf := alloc_oldf
  have k0 := Blk.new w #[.slice s1 t.nodes.length c1, .slice s2 t.tops.length c2] 29
  have L0 := bl_alloc (Below.refl _ w) (.cells #[.slice s1 t.nodes.length c1, .slice s2 t.tops.length c2] 29)
  obtain ⟨x0, x1, x2⟩ := k0.two
  have HT := hid (hT.later L0)
  have HKT := hid hkt
  clear hT hkt
  go_enter Tryz.func13, Tryz.ntmps13
  go_wp2_with fail
  refine (implTreeOk_any t _ _ _ _ _ _ HT.out HKT.out).mono ?_
  rintro e w1 ⟨rfl, hb1⟩
  have L1 := bl_trans L0 hb1
  have k1 := k0.later hb1
  have HT1 := hid (HT.out.later hb1)
  clear x0 x1 x2 k0 hb1 L0 HT
  obtain ⟨x0, x1, x2⟩ := k1.two
  by_cases hp : treP t
  rotate_left
  · have q1 : treB t = false := treB_false hp
    have HE : Hid (sizA t = []) := by show _ = _; unfold sizA; rw [q1]; rfl
    rw [q1]
    clear hp q1
    go_wp2_with fail
    go_ret
    refine ⟨⟨none, 0, ?_, ?_⟩, L1⟩
    · rw [HE.out]; rfl
    · rw [HE.out]; exact OI.nil _ _
  have q1 : treB t = true := treB_true hp
  obtain ⟨hin, hlen⟩ := tops_in hp
  have HIN := hid hin
  have HE : Hid (sizA t = szN t.tops t.tops.length) := by show _ = _; unfold sizA; rw [q1]; rfl
  rw [q1]
  clear hp q1 hin
  have hw1 : w.heap.size < w1.heap.size := k1.lt
  have KX := hid k1
  have sT := HT1
  clear k1
  go_wp2_with fail
  clear x0 x1 x2
  go_loopw [3, 4, 13] (fun v u i wr => ∃ (k : Nat) (s9 : Option Addr) (c9 : Nat) (R : List Int) (z : Int), k ≤ t.tops.length ∧ i = .int .i64 k ∧ u = .int .i64 z ∧ v = .slice s9 R.length c9 ∧ Hid (R = szN t.tops k) ∧ Hid (z = topB t.tops k + 1) ∧ Hid (OI wr w1.heap.size (.slice s9 R.length c9) R) ∧ Hid (Below w1.heap.size w1 wr)) (fun _ _ i _ => t.tops.length - (intOf i).toNat)
  case atStart => exact ⟨0, none, 0, [], 0, Nat.zero_le _, rfl, rfl, rfl, (by simp [Hid, szN]), rfl, OI.nil _ _, Below.refl _ _⟩
  case round =>
    obtain ⟨k, s9, c9, R, z, hk, rfl, rfl, rfl, hR, hz, hO, hb⟩ := hrel
    have hRl : R.length = k := by rw [hR.out, szN_len]
    have bl := KX.out.under hb.out hw1
    obtain ⟨x0, x1, x2⟩ := bl.two
    by_cases hlt : k < t.tops.length
    · obtain ⟨x, hx⟩ := get_some hlt
      have hxi := HIN.out x (List.mem_of_getElem? hx)
      have hzi : 0 ≤ z ∧ z ≤ 4000 := by have := topB_in HIN.out k hk; have := hz.out; omega
      obtain ⟨b, o, rfl, hB, hp, e0⟩ := eInt_cells HT1.out.t hx
      have e5 := (hb.out.cell (p := ⟨b, o + k, none⟩) hp).trans e0
      have hbs := hb.out.size
      have E5 : Hid (Els 1 cInt (wr.alloc (.cells #[.int .i64 (x + 1 - z)] 3)) wr.heap.size (some ⟨wr.heap.size, 0, none⟩) [x + 1 - z]) := Els.one (Blk.new wr #[.int .i64 (x + 1 - z)] 3)
      have O5 : Hid (OI (wr.alloc (.cells #[.int .i64 (x + 1 - z)] 3)) w1.heap.size (.slice s9 R.length c9) R) := hO.out.later (bl_alloc (Below.refl _ _) _)
      have B5 : Hid (Below w1.heap.size w1 (wr.alloc (.cells #[.int .i64 (x + 1 - z)] 3))) := hb.out.alloc (by omega) _
      obtain ⟨R2, hR2⟩ : ∃ R2, Hid (R ++ [x + 1 - z] = R2) := ⟨_, rfl⟩
      have hRn : Hid (R2 = szN t.tops (k + 1)) := by
        show _ = _
        rw [← hR2.out, hR.out, szN_succ, hz.out]; simp [szAt, hx]; omega
      have hzn : Hid (x + 1 = topB t.tops (k + 1) + 1) := by show _ = _; rw [topB_succ hx]
      have s5 : w1.heap.size ≤ (wr.alloc (.cells #[.int .i64 (x + 1 - z)] 3)).heap.size := by simp; omega
      clear hR hz hO hx
      go_wp2_with (at_builtin; refine wpList_append_ints rfl _ _ rfl w1.heap.size s9 c9 R rfl O5.out wr.heap.size _ 1 [x + 1 - z] rfl E5.out R2 hR2.out (by simp; omega) s5 ?_; intro s' c' w4 hO4 hg4 hn4; have hb4 := grown_oi B5.out s5 O5.out hg4; obtain ⟨y0, y1, y2⟩ := (KX.out.under hb4 hw1).two; have e6 := (hb4.cell (p := ⟨b, o + k, none⟩) hp).trans e0)
      go_roundw
      case rel => exact ⟨k + 1, s', c', R2, x + 1, by omega, by go_num, rfl, rfl, hRn, hzn, hO4, hb4⟩
      case measure => simp [intOf] <;> omega
    · have hk' : k = t.tops.length := by omega
      subst hk'
      go_wp2_with fail
      go_ret
      refine ⟨⟨s9, c9, ?_, ?_⟩, L1.trans (hb.out.mono (by omega))⟩
      · rw [HE.out, ← hR.out]; rfl
      · rw [HE.out, ← hR.out]; exact hO.out.mono (by omega)
end Go.Proofs.YtknallkcengbbaaGreatDoor
namespace Go.Proofs.YtknallkcengbbaaGreatDoor
open Go.RowKit
set_option linter.unusedVariables false
set_option linter.unusedSimpArgs false

theorem top_len {t : Tre} (h : treP t) (b : Nat) : (lays (lyA t) t.tops b).1.length ≤ 4000 := by
  have h1 := lays_fit (b := b) h.2.1 (g := lyA t) (fun k nx hk ho hf b' => by
    exact lyA_len k nx ho hf b') ([], [])
  have h2 := h.1
  have h3 : (lays (lyA t) t.tops b).1.length ≤ 0 + (t.nodes.length - 0) := h1
  omega
theorem perm_end {α : Type} (a b c d : α) (K : List α) : ([a, b, c] ++ (K ++ [d])).Perm ([d] ++ ([a, c] ++ (K ++ [b]))) := by
  have h1 : ([a, b, c] ++ (K ++ [d])).Perm (d :: ([a, b, c] ++ K)) := by
    have : [a, b, c] ++ (K ++ [d]) = ([a, b, c] ++ K) ++ [d] := by simp
    rw [this]
    exact List.perm_append_comm
  have h2 : (a :: b :: c :: K).Perm (a :: c :: (K ++ [b])) := by
    have e : (a :: c :: (K ++ [b])) = (a :: c :: K) ++ [b] := by simp
    rw [e]
    exact (List.Perm.swap b a (c :: K)).trans (List.perm_append_comm (l₁ := [b]) (l₂ := a :: c :: K))
  exact h1.trans (h2.cons d)
theorem wpl_rowS {ops : Array Oper} {rest : List Oper} {o : Oper} {a : Act} {w : World} {Q : Exit → Act → World → Prop} {t : TypeId} {n : Nat} (hi : (Tryz.prog.info? t).map (·.size) = some n) (hg : o.guard = none) (x y : Operand) (ho : o.op = .store t x y) (k : Nat) (cells c0 : Array Value) (hx : a.eval x = .pointer (some ⟨k, 0, none⟩)) (hy : a.eval y = .agg cells) (hB : Blk w k c0 t) (hs : cells.size = n) (h0 : c0.size = n) (h1 : cells.all (·.oneCell') = true)
    (hK : ∀ w', w' = w.setRow k cells → wpList Tryz.prog ops Q rest (a.put o.dst undef) w') : wpList Tryz.prog ops Q (o :: rest) a w :=
  wpList_store_row hg t x y ho k cells hx hy t c0 hB (by rw [hi, hs]) (by rw [hs, h0]) h1 (hK _ rfl)
theorem Rs.keep2 {X W : World} {B : Nat} {a b c : OR} {K : List OR} (h : Rs X B W ([a, c] ++ (K ++ [b]))) : Rs X B W ([a, c] ++ (K ++ [])) := by
  have e : [a, c] ++ (K ++ [b]) = ([a, c] ++ (K ++ [])) ++ [b] := by simp
  rw [e] at h
  exact h.left
theorem Tryz.infoTrs : (Tryz.prog.info? 29).map (·.size) = some 2 := by kernel_rfl

set_option maxRecDepth 100000 in
set_option maxHeartbeats 4000000 in
theorem numbered_any (T : Tre) (hT : treP T) (s0 : Option Addr) (c0 : Nat) (ps : List Nat) (R : List OR) (w : World) (hP : PL ps (T.tops.map (fdA T)) R) (hX : RX w w.heap.size (rP (.slice s0 ps.length c0) ps :: R)) :
    Calls Tryz.prog 26 #[.slice s0 ps.length c0] w fun e w' => ∃ v tv Q, e = .returned (.agg #[v, tv]) ∧ Rs w w.heap.size w' ([rI tv (lays (lyA T) T.tops 0).2, rN v Q] ++ (rK Q ++ [])) ∧ Q.map (·.1) = (lays (lyA T) T.tops 0).1 := by
  have hal := alloc_old
  have haf := alloc_oldf
  have HLEN : Hid (ps.length = T.tops.length) := by show _ = _; rw [hP.len]; simp
  have htl := top_len hT 0
  have htn : T.tops.length ≤ 4000 := (tops_in hT).2
  have HT := hid hT
  have HP := hid hP
  have HX := hid hX
  have L1 : Below w.heap.size w (w.alloc (.cells #[.slice none 0 0, .slice none 0 0] 29)) := bl_alloc (Below.refl _ _) _
  have ra := Rs.ins [] [] (r := rB w.heap.size 29 [.slice none 0 0, .slice none 0 0]) (Rs.nil w) L1 (blk_rB (Blk.new w _ _) (Nat.le_refl _))
  have rb := Rs.ins [] _ (r := rB (w.heap.size + 1) 29 [.slice none 0 0, .slice none 0 0]) ra (bl_alloc (Below.refl _ _) (.cells #[.slice none 0 0, .slice none 0 0] 29)) (blk_rB (Blk.in' (by simp)) (by simp))
  have rc := Rs.ins [rB (w.heap.size + 1) 29 [.slice none 0 0, .slice none 0 0]] [rB w.heap.size 29 [.slice none 0 0, .slice none 0 0]] (r := rN (.slice none 0 0) []) rb (Below.refl _ _) (World.ownsRow_nil _ _ _ _)
  have R1 := hid (Rs.ins [] _ (r := rI (.slice none 0 0) []) rc (Below.refl _ _) (World.ownsRow_nil _ _ _ _))
  clear ra rb rc L1 hT hP hX
  go_enter Tryz.func26, Tryz.ntmps26
  go_wp2_with fail
  generalize hW0 : (w.alloc (.cells #[.slice none 0 0, .slice none 0 0] 29)).alloc (.cells #[.slice none 0 0, .slice none 0 0] 29) = W0 at R1 ⊢
  clear hW0 hal haf
  generalize htb : w.heap.size + 1 = tb at R1 ⊢
  obtain ⟨iI, hiI, hzI, hsI, hbI⟩ := info_parts Tryz.infoI
  go_loopw [8] (fun ii wr => ∃ (j : Nat) (nv : Value) (Q : List NK) (ids : List Int) (tv : Value), j ≤ ps.length ∧ ii = .int .i64 j ∧ ids.length = j ∧ Hid (Q.map (·.1) = (lays (lyA T) (T.tops.take j) 0).1) ∧ Hid (ids = (lays (lyA T) (T.tops.take j) 0).2) ∧ Hid (Rs w w.heap.size wr ([rI tv ids, rB tb 29 [nv, tv], rN nv Q] ++ (rK Q ++ [rB w.heap.size 29 [.slice none 0 0, .slice none 0 0]])))) (fun ii _ => ps.length - (intOf ii).toNat)
  case atStart => exact ⟨0, .slice none 0 0, [], [], .slice none 0 0, Nat.zero_le _, rfl, rfl, by simp [Hid, lays], by simp [Hid, lays], R1.out⟩
  case round =>
    obtain ⟨j, nv, Q, ids, tv, hj, rfl, hil, hQm, hid', hRr⟩ := hrel
    clear R1
    by_cases hlt' : j < ps.length
    · have hlen := HLEN.out
      have hlt : j < T.tops.length := by omega
      obtain ⟨x, hx⟩ := get_some hlt
      obtain ⟨kk, m, rfl, hk4, hvk⟩ := top_VN HT.out (List.mem_of_getElem? hx)
      obtain ⟨pj, hpj⟩ := get_some (L := ps) (k := j) (by omega)
      obtain ⟨xj, Rj, ex, hPj, hsub⟩ := HP.out.get hpj
      have ex2 : xj = fdA T (kk : Int) := by rw [List.getElem?_map, hx] at ex; simpa using ex.symm
      subst ex2
      have HPJ := hid hPj
      have HXJ : Hid (RX w w.heap.size Rj) := HX.out.sub fun r hr => by have := hsub r hr; simp [this]
      have hps : (rP (.slice s0 ps.length c0) ps).on wr 0 := (HX.out.rd hRr.out.l) _ (by simp)
      obtain ⟨g0, c1, e9, hg0, d0⟩ := rP_at hps hpj
      simp only [Value.slice.injEq] at e9
      obtain ⟨rfl, _, rfl⟩ := e9
      have hQl : Q.length = (lays (lyA T) (T.tops.take j) 0).1.length := by have := congrArg List.length hQm.out; simpa using this
      have hnx := lays_next (lyA T) 0 hx
      have hm2 := lays_mono (lyA T) 0 T.tops (j + 1)
      have hl2 : (lays (lyA T) (T.tops.take (j + 1)) 0).1.length = (lays (lyA T) (T.tops.take j) 0).1.length + (lyA T (kk : Int) Q.length).length := by rw [hnx, hQl]; simp [layS]
      have hc1 : kk ≤ 4000 := by omega
      have hc2 : Q.length + (lyA T (kk : Int) Q.length).length ≤ 8000 := by omega
      have hRp := hRr.out.perm (perm_rec (rI tv ids) (rB tb 29 [nv, tv]) (rN nv Q) (rK Q) [rB w.heap.size 29 [.slice none 0 0, .slice none 0 0]])
      have HC := hid (laid_any T w w.heap.size kk m pj Rj nv Q (rI tv ids :: rB tb 29 [nv, tv] :: [rB w.heap.size 29 [.slice none 0 0, .slice none 0 0]]) wr hvk hc1 HPJ.out HXJ.out hRp hc2)
      obtain ⟨z0, z1, z2⟩ := Blk.two (hRr.out.box [rI tv ids] ([rN nv Q] ++ (rK Q ++ [rB w.heap.size 29 [.slice none 0 0, .slice none 0 0]])))
      have HNX := hid hnx
      have HQL := hid hQl
      have HIL := hid hil
      have HL2 := hid hl2
      clear hPj hsub ex hpj hps hnx hx hRp hQl hil hl2 hm2 hc2
      have hjp : (j : Int) < (ps.length : Int) := by omega
      clear hlen
      go_wp2_with fail
      refine (HC.out).mono ?_
      rintro e w2 ⟨v2, Q2, rfl, hR2, hm⟩
      clear z0 z1 z2 d0 HC
      have R2 := hid (hR2.perm (perm_rec (rI tv ids) (rB tb 29 [nv, tv]) (rN v2 Q2) (rK Q2) [rB w.heap.size 29 [.slice none 0 0, .slice none 0 0]]).symm)
      obtain ⟨s2, c2, rfl⟩ := rN_shape (R2.out.at [rI tv ids, rB tb 29 [nv, tv]] (rK Q2 ++ [rB w.heap.size 29 [.slice none 0 0, .slice none 0 0]]))
      obtain ⟨sk, ck, rfl⟩ := rI_shape (R2.out.at [] ([rB tb 29 [nv, tv], rN (.slice s2 Q2.length c2) Q2] ++ (rK Q2 ++ [rB w.heap.size 29 [.slice none 0 0, .slice none 0 0]])))
      have hQ2 : Q2.length = Q.length + (lyA T (kk : Int) Q.length).length := by have := congrArg List.length hm; simpa using this
      have HM := hid hm
      have hm2 := lays_mono (lyA T) 0 T.tops (j + 1)
      have hl2 := HL2.out
      have hQl := HQL.out
      have hil := HIL.out
      have hq8 : Q2.length ≤ 8000 := by omega
      have hi8 : ids.length < 4001 := by omega
      have HQ2 := hid hQ2
      clear hR2 hm hRr hm2 hl2 hQl hil hQ2
      have tw : IntKind.i64.wrap ((Q2.length : Int) - 1) = (Q2.length : Int) - 1 := by rw [IntKind.wrap_i64]; omega
      obtain ⟨z0, z1, z2⟩ := Blk.two (R2.out.box [rI (.slice sk ids.length ck) ids] ([rN (.slice s2 Q2.length c2) Q2] ++ (rK Q2 ++ [rB w.heap.size 29 [.slice none 0 0, .slice none 0 0]])))
      have R3 := hid (R2.out.setB [rI (.slice sk ids.length ck) ids] ([rN (.slice s2 Q2.length c2) Q2] ++ (rK Q2 ++ [rB w.heap.size 29 [.slice none 0 0, .slice none 0 0]])) 0 (.slice s2 Q2.length c2))
      have R4 := hid (R3.out.later (bl_alloc (Below.refl _ (w2.setCell ⟨tb, 0, none⟩ (.slice s2 Q2.length c2))) (.cells #[.int .i64 ((Q2.length : Int) - 1)] 3)))
      have B4 := hid (Blk.new (w2.setCell ⟨tb, 0, none⟩ (.slice s2 Q2.length c2)) #[.int .i64 ((Q2.length : Int) - 1)] 3)
      have hws : (w2.setCell ⟨tb, 0, none⟩ (.slice s2 Q2.length c2)).heap.size = w2.heap.size := by simp
      rw [hws] at B4
      go_wp2_with (at_builtin; refine wpl_app [] ([rB tb 29 [.slice s2 Q2.length c2, .slice sk ids.length ck], rN (.slice s2 Q2.length c2) Q2] ++ (rK Q2 ++ [rB w.heap.size 29 [.slice none 0 0, .slice none 0 0]])) (r := rI (.slice sk ids.length ck) ids) R4.out rfl _ _ 23 8 rfl Tryz.underlying23 hiI hzI hsI hbI rfl (Nat.succ_pos _) rfl (some ⟨w2.heap.size, 0, none⟩) 1 1 [.int .i64 ((Q2.length : Int) - 1)] rfl rfl (srcB B4.out) (fun u hu => by simp at hu; subst hu; rfl) (by show ids.length + 1 ≤ _; unfold maxLen; omega) (by show (ids.length + 1) * 8 ≤ _; omega) (ids.length + 1) rfl (fun v => rI v (ids ++ [(Q2.length : Int) - 1])) (fun _ => by simp [rI]) ?_; intro s4 c4 w4 hR5; have R5 := hid hR5; obtain ⟨y0, y1, y2⟩ := Blk.two (hR5.box [rI (.slice s4 (ids.length + 1) c4) (ids ++ [(Q2.length : Int) - 1])] ([rN (.slice s2 Q2.length c2) Q2] ++ (rK Q2 ++ [rB w.heap.size 29 [.slice none 0 0, .slice none 0 0]]))); clear hR5)
      have R6 := hid (R5.out.setB [rI (.slice s4 (ids.length + 1) c4) (ids ++ [(Q2.length : Int) - 1])] ([rN (.slice s2 Q2.length c2) Q2] ++ (rK Q2 ++ [rB w.heap.size 29 [.slice none 0 0, .slice none 0 0]])) 1 (.slice s4 (ids.length + 1) c4))
      go_roundw
      case rel =>
        have hil := HIL.out
        have hQl := HQL.out
        have hnx := HNX.out
        have hQ2 := HQ2.out
        refine ⟨j + 1, .slice s2 Q2.length c2, Q2, ids ++ [(Q2.length : Int) - 1], .slice s4 (ids.length + 1) c4, by omega, by go_num, by simp [hil], ?_, ?_, R6.out⟩
        · show _ = _
          rw [HM.out, hQm.out, hnx, hQl]; simp [layS]
        · show _ = _
          rw [hnx, hQ2, hQl, hid'.out]; simp [layS]
      case measure => simp [intOf] <;> omega
    · have hj' : j = ps.length := by omega
      subst hj'
      have hQm := hQm.out
      have hid' := hid'.out
      rw [HLEN.out, List.take_length] at hQm hid'
      have HIL := hid hil
      clear hil
      have HQm := hid hQm
      have HQi := hid hid'
      have K0 := hid (hRr.out.perm (perm_end _ _ _ _ _))
      obtain ⟨z0, z1, z2⟩ := Blk.two (hRr.out.box [rI tv ids] ([rN nv Q] ++ (rK Q ++ [rB w.heap.size 29 [.slice none 0 0, .slice none 0 0]])))
      have KB : Hid (Blk wr w.heap.size #[.slice none 0 0, .slice none 0 0] 29) := K0.out.box [] _
      obtain ⟨sk, ck, rfl⟩ := rI_shape (hRr.out.at [] ([rB tb 29 [nv, tv], rN nv Q] ++ (rK Q ++ [rB w.heap.size 29 [.slice none 0 0, .slice none 0 0]])))
      obtain ⟨s2, c2, rfl⟩ := rN_shape (hRr.out.at [rI (.slice sk ids.length ck) ids, rB tb 29 [nv, .slice sk ids.length ck]] (rK Q ++ [rB w.heap.size 29 [.slice none 0 0, .slice none 0 0]]))
      clear hQm hid' hRr
      go_wp2_with (refine wpl_rowS Tryz.infoTrs rfl _ _ rfl w.heap.size #[.slice s2 Q.length c2, .slice sk ids.length ck] #[.slice none 0 0, .slice none 0 0] rfl rfl KB.out rfl rfl (by simp [Value.oneCell']) ?_; intro w5 h5)
      have K1 := Rs.putB [] ([rI (.slice sk ids.length ck) ids, rN (.slice s2 Q.length c2) Q] ++ (rK Q ++ [rB tb 29 [.slice s2 Q.length c2, .slice sk ids.length ck]])) (ds := [.slice s2 Q.length c2, .slice sk ids.length ck]) K0.out
      have K1 : Rs w w.heap.size w5 ([] ++ rB w.heap.size 29 [.slice s2 Q.length c2, .slice sk ids.length ck] :: ([rI (.slice sk ids.length ck) ids, rN (.slice s2 Q.length c2) Q] ++ (rK Q ++ [rB tb 29 [.slice s2 Q.length c2, .slice sk ids.length ck]]))) := by rw [h5]; exact K1
      obtain ⟨y0, y1, y2⟩ := Blk.two (K1.box [] _)
      have K2 := hid (Rs.keep2 (K1.less [] _))
      clear K1 h5
      clear z0 z1 z2
      go_wp2_with fail
      refine bodyPost_ret (v := .agg #[.slice s2 Q.length c2, .slice sk ids.length ck]) (by simp [results, Tryz.results26, go_sem, y0, y1]) rfl ⟨_, _, Q, rfl, ?_, HQm.out⟩
      rw [← HQi.out]
      exact K2.out
end Go.Proofs.YtknallkcengbbaaGreatDoor
namespace Go.Proofs.YtknallkcengbbaaGreatDoor
open Go.RowKit
set_option linter.unusedVariables false
set_option linter.unusedSimpArgs false

/-- what Fold leaves: the folded tree, of one's own. -/
def FoldS (t : Tre) (w : World) (e : Ending) (w' : World) : Prop :=
  ∃ v tv Q, e = .returned (.tuple #[.agg #[v, tv], .bool (treB t)]) ∧ Rs w w.heap.size w' ([rI tv (fldA t).tops, rN v Q] ++ (rK Q ++ [])) ∧ Q.map (·.1) = (fldA t).nodes
theorem FoldS.no {t : Tre} {w w' : World} {e : Ending} (ht : treB t = false) (he : e = .returned (.tuple #[.agg #[.slice none 0 0, .slice none 0 0], .bool false])) (hb : Below w.heap.size w w') : FoldS t w e w' := by
  have hf : fldA t = ⟨[], []⟩ := by unfold fldA; rw [ht]; rfl
  refine ⟨_, _, [], by rw [he, ht], ?_, by rw [hf]; rfl⟩
  rw [hf]
  have r0 : Rs w w.heap.size w' ([] ++ []) := ⟨hb, Owns.nil _ _, hb.size⟩
  have r1 := Rs.ins [] [] (r := rN (.slice none 0 0) []) r0 (Below.refl _ _) (World.ownsRow_nil _ _ _ _)
  exact Rs.ins [] _ (r := rI (.slice none 0 0) []) r1 (Below.refl _ _) (World.ownsRow_nil _ _ _ _)
theorem fldA_yes {t : Tre} (h : treB t = true) : fldA t = ⟨(lays (lyA t) t.tops 0).1, (lays (lyA t) t.tops 0).2⟩ := by unfold fldA; rw [if_pos h]
theorem perm_res {α : Type} (a b c : α) (R : List α) : ([a, b, c] ++ R).Perm ([] ++ (c :: ([a, b] ++ R))) := by
  have h1 : (a :: b :: c :: R).Perm (a :: c :: b :: R) := (List.Perm.swap c b R).cons a
  exact h1.trans (List.Perm.swap c a _)
theorem perm_dr {α : Type} (a b c : α) (R S : List α) : ([a, b, c] ++ (R ++ S)).Perm ([a, b, c] ++ (S ++ R)) := List.Perm.append_left _ List.perm_append_comm

set_option maxRecDepth 100000 in
set_option maxHeartbeats 4000000 in
theorem implFold_any (t : Tre) (s1 s2 : Option Addr) (c1 c2 : Nat) (w : World) (hT : InT w 0 s1 s2 t) (hkt : kTre t) :
    Calls Tryz.prog 8 #[.agg #[.slice s1 t.nodes.length c1, .slice s2 t.tops.length c2]] w fun e w' => FoldS t w e w' := by
  have hal := alloc_old
  have haf := alloc_oldf
  have k0 := Blk.new w #[.slice s1 t.nodes.length c1, .slice s2 t.tops.length c2] 29
  have L0 := bl_alloc (Below.refl _ w) (.cells #[.slice s1 t.nodes.length c1, .slice s2 t.tops.length c2] 29)
  have ra := Rs.ins [] [] (r := rB w.heap.size 29 [.slice s1 t.nodes.length c1, .slice s2 t.tops.length c2]) (Rs.nil w) L0 (blk_rB k0 (Nat.le_refl _))
  have rb := Rs.ins [rB w.heap.size 29 [.slice s1 t.nodes.length c1, .slice s2 t.tops.length c2]] [] (r := rB (w.heap.size + 1) 29 [.slice none 0 0, .slice none 0 0]) ra (bl_alloc (Below.refl _ _) (.cells #[.slice none 0 0, .slice none 0 0] 29)) (blk_rB (Blk.in' (by simp)) (by simp))
  have RB := hid rb
  obtain ⟨x0, x1, x2⟩ := Blk.two (rb.box [] [rB (w.heap.size + 1) 29 [.slice none 0 0, .slice none 0 0]])
  have HT := hid hT
  have HKT := hid hkt
  clear ra rb k0 L0 hT hkt
  go_enter Tryz.func8, Tryz.ntmps8
  go_wp2_with fail
  refine (implTreeOk_any t _ _ _ _ 0 _ (HT.out.later (bl_alloc (bl_alloc (Below.refl _ _) _) _)) HKT.out).mono ?_
  rintro e w1 ⟨rfl, hb1⟩
  have R1 := hid (RB.out.later hb1)
  clear x0 x1 x2 hb1 RB
  obtain ⟨x0, x1, x2⟩ := Blk.two (R1.out.box [] [rB (w.heap.size + 1) 29 [.slice none 0 0, .slice none 0 0]])
  obtain ⟨y0, y1, y2⟩ := Blk.two (R1.out.box [rB w.heap.size 29 [.slice s1 t.nodes.length c1, .slice s2 t.tops.length c2]] [])
  by_cases hp : treP t
  rotate_left
  · have q1 : treB t = false := treB_false hp
    have HE := hid q1
    have hbw := hid R1.out.l
    rw [q1]
    clear hp q1
    go_wp2_with fail
    refine bodyPost_ret (v := .tuple #[.agg #[.slice none 0 0, .slice none 0 0], .bool false]) (by simp [results, Tryz.results8, go_sem, y0, y1, y2]) rfl (FoldS.no HE.out rfl ?_)
    exact (hbw.out.setCell (p := ⟨w.heap.size + 1, 0, none⟩) (Nat.le_succ _) _).setCell (p := ⟨w.heap.size + 1, 1, none⟩) (Nat.le_succ _) _
  have q1 : treB t = true := treB_true hp
  have HE := hid q1
  have HP := hid hp
  rw [q1]
  clear q1 y0 y1 y2
  obtain ⟨iP, hiP, hzP, hsP, hbP⟩ := info_parts Tryz.infoP
  have htn : t.tops.length ≤ 4000 := (tops_in hp).2
  have R2 := hid (Rs.ins [] _ (r := rP (.slice none 0 0) []) R1.out (Below.refl _ _) (World.ownsRow_nil _ _ _ _))
  clear hp hal haf R1
  go_wp2_with fail
  clear x0 x1 x2
  go_loopw [4, 14] (fun v4 ii wr => ∃ (j : Nat) (s9 : Option Addr) (c9 : Nat) (ps : List Nat) (RR : List OR), j ≤ t.tops.length ∧ ii = .int .i64 j ∧ v4 = .slice s9 ps.length c9 ∧ ps.length = j ∧ Hid (PL ps ((t.tops.take j).map (fdA t)) RR) ∧ Hid (Rs w w.heap.size wr ([rP (.slice s9 ps.length c9) ps, rB w.heap.size 29 [.slice s1 t.nodes.length c1, .slice s2 t.tops.length c2], rB (w.heap.size + 1) 29 [.slice none 0 0, .slice none 0 0]] ++ RR))) (fun _ ii _ => t.tops.length - (intOf ii).toNat)
  case atStart => exact ⟨0, none, 0, [], [], Nat.zero_le _, rfl, rfl, rfl, PL.nil, R2.out⟩
  case round =>
    obtain ⟨j, s9, c9, ps, RR, hj, rfl, rfl, hps, hPR, hRr⟩ := hrel
    clear R2
    subst hps
    by_cases hlt : ps.length < t.tops.length
    · obtain ⟨x, hx⟩ := get_some hlt
      obtain ⟨kk, m, rfl, hk4, hvk⟩ := top_VN HP.out (List.mem_of_getElem? hx)
      obtain ⟨b2, o2, rfl, _, hp2, d0⟩ := eInt_cells HT.out.t hx
      have e5 := (hRr.out.cell (p := ⟨b2, o2 + ps.length, none⟩) hp2).trans d0
      obtain ⟨x0, x1, x2⟩ := Blk.two (hRr.out.box [rP (.slice s9 ps.length c9) ps] ([rB (w.heap.size + 1) 29 [.slice none 0 0, .slice none 0 0]] ++ RR))
      have PLs : ∀ {q : Nat} {RQ : List OR}, PL [q] [fdA t (kk : Int)] RQ → PL (ps ++ [q]) ((t.tops.take (ps.length + 1)).map (fdA t)) (RR ++ RQ) := by
        intro q RQ h
        have e6 : t.tops.take (ps.length + 1) = t.tops.take ps.length ++ [(kk : Int)] := by
          rw [List.take_succ_eq_append_getElem hlt]
          have : t.tops[ps.length] = (kk : Int) := by rw [List.getElem?_eq_getElem hlt] at hx; simpa using hx
          rw [this]
        rw [e6, List.map_append]
        exact hPR.out.snoc h
      have HC := hid (linked_any t s1 c1 kk m wr hvk ((HT.out.n.later cNode_keeps hRr.out.l)) HKT.out.1.1 HKT.out.1.2)
      clear d0 hx hPR
      go_wp2_with fail
      refine (HC.out).mono ?_
      rintro e w2 ⟨⟨p, Rl, rfl, hPl, hOl⟩, hb2⟩
      have HC2 := hid (folded_any t HKT.out.1.2 kk m p Rl w2 hvk hPl hOl.rd)
      have R3 := hid (hRr.out.later hb2)
      clear x0 x1 x2 e5 hb2 hRr HC hPl hOl
      go_wp2_with fail
      refine (HC2.out).mono ?_
      rintro e w3 ⟨⟨q, RQ, rfl, hPq, hOq⟩, hb3⟩
      have R4 := hid (Rs.insM [rP (.slice s9 ps.length c9) ps, rB w.heap.size 29 [.slice s1 t.nodes.length c1, .slice (some ⟨b2, o2, none⟩) t.tops.length c2], rB (w.heap.size + 1) 29 [.slice none 0 0, .slice none 0 0]] RQ RR R3.out hb3 hOq)
      have R5 := hid (R4.out.later (bl_alloc (Below.refl _ w3) (.cells #[.pointer (some ⟨q, 0, none⟩)] 45)))
      have B5 := hid (Blk.new w3 #[.pointer (some ⟨q, 0, none⟩)] 45)
      clear R3 R4 hb3 hOq HC2
      go_wp2_with (at_builtin; refine wpl_app [] ([rB w.heap.size 29 [.slice s1 t.nodes.length c1, .slice (some ⟨b2, o2, none⟩) t.tops.length c2], rB (w.heap.size + 1) 29 [.slice none 0 0, .slice none 0 0]] ++ (RQ ++ RR)) (r := rP (.slice s9 ps.length c9) ps) R5.out rfl _ _ 44 8 rfl Tryz.underlying44 hiP hzP hsP hbP rfl (Nat.succ_pos _) rfl (some ⟨w3.heap.size, 0, none⟩) 1 1 [.pointer (some ⟨q, 0, none⟩)] rfl rfl (srcB B5.out) (fun u hu => by simp at hu; subst hu; rfl) (by show ps.length + 1 ≤ _; unfold maxLen; omega) (by show (ps.length + 1) * 8 ≤ _; omega) (ps.length + 1) rfl (fun v => rP v (ps ++ [q])) (fun _ => by simp [rP]) ?_; intro s4 c4 w4 hR6; have R6 := hid hR6; clear hR6)
      have hpl : (ps ++ [q]).length = ps.length + 1 := by simp
      go_roundw
      case rel => exact ⟨ps.length + 1, s4, c4, ps ++ [q], RR ++ RQ, by omega, by go_num, by rw [hpl], hpl, PLs hPq, by rw [hpl]; exact R6.out.perm (perm_dr _ _ _ _ _)⟩
      case measure => simp [intOf] <;> omega
    · have hj' : ps.length = t.tops.length := by omega
      have hPF : PL ps (t.tops.map (fdA t)) RR := by
        have := hPR.out
        rw [hj', List.take_length] at this
        exact this
      have hXF : RX wr wr.heap.size (rP (.slice s9 ps.length c9) ps :: RR) := by
        intro r hr
        have hm : r ∈ ([rP (.slice s9 ps.length c9) ps, rB w.heap.size 29 [.slice s1 t.nodes.length c1, .slice s2 t.tops.length c2], rB (w.heap.size + 1) 29 [.slice none 0 0, .slice none 0 0]] ++ RR) := by
          rcases List.mem_cons.1 hr with rfl | h
          · simp
          · simp [h]
        have h1 := hRr.out.o.on r hm
        exact ⟨h1.mono (Nat.zero_le _), fun g hg => (h1.lt g hg).2⟩
      have HC := hid (numbered_any t HP.out s9 c9 ps RR wr hPF hXF)
      have K0 := hid (hRr.out.perm (perm_res (rP (.slice s9 ps.length c9) ps) (rB w.heap.size 29 [.slice s1 t.nodes.length c1, .slice s2 t.tops.length c2]) (rB (w.heap.size + 1) 29 [.slice none 0 0, .slice none 0 0]) RR))
      clear hPF hXF hRr hPR hj'
      go_wp2_with fail
      refine (HC.out).mono ?_
      rintro e w5 ⟨v, tv, Q, rfl, hR5, hQ⟩
      have K5 := hid (Rs.insM [] ([rI tv (lays (lyA t) t.tops 0).2, rN v Q] ++ (rK Q ++ [])) _ K0.out hR5.l hR5.o)
      have KB : Hid (Blk w5 (w.heap.size + 1) #[.slice none 0 0, .slice none 0 0] 29) := K5.out.box ([rI tv (lays (lyA t) t.tops 0).2, rN v Q] ++ (rK Q ++ [])) _
      obtain ⟨sk, ck, rfl⟩ := rI_shape (hR5.at [] _)
      obtain ⟨s6, c6, rfl⟩ := rN_shape (hR5.at [rI (.slice sk (lays (lyA t) t.tops 0).2.length ck) (lays (lyA t) t.tops 0).2] _)
      have HQ := hid hQ
      clear hR5 hQ K0 HC
      go_wp2_with (refine wpl_rowS Tryz.infoTrs rfl _ _ rfl (w.heap.size + 1) #[.slice s6 Q.length c6, .slice sk (lays (lyA t) t.tops 0).2.length ck] #[.slice none 0 0, .slice none 0 0] rfl rfl KB.out rfl rfl (by simp [Value.oneCell']) ?_; intro w6 h6; have H6 := hid h6; clear h6)
      have K6 := Rs.putB ([rI (.slice sk (lays (lyA t) t.tops 0).2.length ck) (lays (lyA t) t.tops 0).2, rN (.slice s6 Q.length c6) Q] ++ (rK Q ++ [])) _ (ds := [.slice s6 Q.length c6, .slice sk (lays (lyA t) t.tops 0).2.length ck]) K5.out
      rw [show w5.setRow (w.heap.size + 1) [.slice s6 Q.length c6, .slice sk (lays (lyA t) t.tops 0).2.length ck].toArray = w6 from H6.out.symm] at K6
      obtain ⟨y0, y1, y2⟩ := Blk.two (K6.box ([rI (.slice sk (lays (lyA t) t.tops 0).2.length ck) (lays (lyA t) t.tops 0).2, rN (.slice s6 Q.length c6) Q] ++ (rK Q ++ [])) _)
      have K7 := hid K6.left
      clear K6 H6 K5
      go_wp2_with fail
      refine bodyPost_ret (v := .tuple #[.agg #[.slice s6 Q.length c6, .slice sk (lays (lyA t) t.tops 0).2.length ck], .bool true]) (by simp [results, Tryz.results8, go_sem, y0, y1]) rfl ⟨_, _, Q, by rw [HE.out], ?_, ?_⟩
      · rw [fldA_yes HE.out]; exact K7.out
      · rw [fldA_yes HE.out]; exact HQ.out
end Go.Proofs.YtknallkcengbbaaGreatDoor
namespace Go.Proofs.YtknallkcengbbaaGreatDoor
open Go.RowKit
set_option linter.unusedVariables false
set_option linter.unusedSimpArgs false

/-- an answer that is right in form. -/
def Fm (o : V × Int) : Prop := (o.1.1 = 4 → o.1.2.1 = 0 ∨ o.1.2.1 = 1) ∧ (o.2 ≠ 0 → o.1 = zV)
theorem Fm.i (n : Int) : Fm (iV n, 0) := ⟨fun h => by simp [iV] at h, fun h => absurd rfl h⟩
theorem Fm.r (n : Option Nat) : Fm (rV n, 0) := ⟨fun h => by simp [rV] at h, fun h => absurd rfl h⟩
theorem Fm.p (n m : Option Nat) : Fm (pV n m, 0) := ⟨fun h => by simp [pV] at h, fun h => absurd rfl h⟩
theorem Fm.b (b : Bool) : Fm (bV b, 0) := ⟨fun _ => by cases b <;> simp [bV, bN], fun h => absurd rfl h⟩
theorem Fm.z (c : Int) : Fm (zV, c) := ⟨fun h => by simp [zV] at h, fun _ => rfl⟩
theorem fm_op (op k i : Int) (x y : Nat) (l j : Int) (u v : Nat) : Fm (opOut op k i x y l j u v) := by
  unfold opOut
  split
  · split
    · unfold intOut; (repeat' split) <;> first | exact Fm.i _ | exact Fm.b _ | exact Fm.z _
    · split
      · unfold realOut; (repeat' split) <;> first | exact Fm.r _ | exact Fm.b _ | exact Fm.z _
      · split
        · unfold pairOut; (repeat' split) <;> first | exact Fm.p _ _ | exact Fm.b _ | exact Fm.z _
        · unfold boolOut; (repeat' split) <;> first | exact Fm.b _ | exact Fm.z _
  · exact Fm.z _
theorem fm_turn (op k i : Int) (x y : Nat) : Fm (turnOut op k i x y) := by
  unfold turnOut
  split
  · split
    · unfold intTurnOut; (repeat' split) <;> first | exact Fm.i _ | exact Fm.r _ | exact Fm.z _
    · split
      · unfold realTurnOut; (repeat' split) <;> first | exact Fm.r _ | exact Fm.z _
      · split
        · unfold pairTurnOut; (repeat' split) <;> first | exact Fm.r _ | exact Fm.p _ _ | exact Fm.z _
        · unfold boolTurnOut; (repeat' split) <;> first | exact Fm.b _ | exact Fm.z _
  · exact Fm.z _
/-- a leaf's number is in its range. -/
def okL (k i : Int) : Prop := (k = 1 → 0 ≤ i ∧ i ≤ 999999999999999) ∧ (k = 3 → i = 0 ∨ i = 1)
theorem vI_at {k i : Int} (h : okL k i) (hk : k = 1 ∨ k = 3) : vI k i = i := by
  rcases hk with rfl | rfl
  · simp [vI]
  · rcases h.2 rfl with rfl | rfl <;> simp [vI]
theorem vI_in {k i : Int} (h : okL k i) : -9223372036854775808 ≤ vI k i ∧ vI k i ≤ 9223372036854775807 := by
  unfold vI
  split
  · rename_i e; have := h.1 e; omega
  · split
    · split <;> omega
    · omega
theorem leaf_ok {v : V} (h : v.1 = 4 → v.2.1 = 0 ∨ v.2.1 = 1) : okL (leafV v).1 (leafV v).2 := by
  unfold leafV
  split
  · rename_i e; exact ⟨fun h => by simp at h, fun _ => h e⟩
  · split
    · rename_i e; exact ⟨fun _ => e.2, fun h => by simp at h⟩
    · exact ⟨fun h => by simp at h, fun h => by simp at h⟩
theorem mdV_ok (k i : Int) (ks : List PT) : (mdV k i ks).1 = 4 → (mdV k i ks).2.1 = 0 ∨ (mdV k i ks).2.1 = 1 := by
  unfold mdV
  split
  · exact (fm_op _ _ _ _ _ _ _ _ _).1
  · split
    · exact (fm_turn _ _ _ _ _).1
    · intro h; simp [zV] at h
theorem fdA_ok {T : Tre} {i : Nat} {n : Nd} (hv : VN T i n) : okL (fdA T (i : Int)).k (fdA T (i : Int)).i := by
  rw [fdA_eq hv]
  unfold mkF
  split
  · have hh := hv.has
    show okL n.kind n.num
    refine ⟨fun h => ?_, fun h => ?_⟩
    · rw [h, has_plain (by omega) (by rfl)] at hh
      simp [numB] at hh
      exact hh.2
    · rw [h, has_plain (by omega) (by rfl)] at hh
      simp [numB] at hh
      exact hh.2
  · exact leaf_ok (mdV_ok _ _ _)

abbrev nz : Array Value := #[.int .i64 0, .string ⟨#[]⟩, .int .i64 0, .slice none 0 0]
set_option maxHeartbeats 1000000 in
theorem specValue_any (k i : Int) (t : ByteArray) (kv : Value) (hkv : kv.oneCell' = true) (w : World) (h : okL k i) :
    Calls Tryz.prog 51 #[.agg #[.int .i64 k, .string t, .int .i64 i, kv]] w fun e w' => e = .returned (.tuple #[.agg #[.int .i64 (vK k), .int .i64 (vI k i), .float .f64 0, .float .f64 0], .bool (decide (k = 1 ∨ k = 3))]) ∧ Below w.heap.size w w' := by
  have hal := alloc_old
  have haf := alloc_oldf
  have k0 := Blk.new w #[.int .i64 k, .string t, .int .i64 i, kv] 57
  obtain ⟨x0, x1, x2, x3, x4⟩ := Blk.four' k0
  have B0 : Below w.heap.size w ((w.alloc (.cells #[.int .i64 k, .string t, .int .i64 i, kv] 57)).alloc (.cells vz 76)) := bl_alloc (bl_alloc (Below.refl _ _) _) _
  have HB0 := hid B0
  by_cases h1 : k = 1
  · subst h1
    have E : Hid (vI 1 i = i) := rfl
    clear B0 h
    go_enter Tryz.func51, Tryz.ntmps51
    go_wp2_with fail
    refine bodyPost_ret (v := .tuple #[.agg #[.int .i64 1, .int .i64 i, .float .f64 0, .float .f64 0], .bool true]) (by simp [results, Tryz.results51, go_sem]) rfl ⟨?_, ?_⟩
    · rw [E.out]; rfl
    · (repeat (first | with_reducible exact Below.refl _ _ | with_reducible refine bl_alloc ?_ _ | with_reducible refine bl_drewN ?_ _ | with_reducible refine bl_drew ?_ | with_reducible refine bl_setCell ?_ (by first | exact Nat.le_refl _ | (dsimp only; omega) | (simp <;> omega)) _ | with_reducible refine bl_trans ?_ (by with_reducible assumption)))
  · have t1 : (k == 1) = false := by simp [h1]
    by_cases h3 : k = 3
    · subst h3
      have E : Hid (vI 3 i = i) := vI_at h (Or.inr rfl)
      clear B0 h
      go_enter Tryz.func51, Tryz.ntmps51
      go_wp2_with fail
      refine bodyPost_ret (v := .tuple #[.agg #[.int .i64 4, .int .i64 i, .float .f64 0, .float .f64 0], .bool true]) (by simp [results, Tryz.results51, go_sem]) rfl ⟨?_, ?_⟩
      · rw [E.out]; rfl
      · (repeat (first | with_reducible exact Below.refl _ _ | with_reducible refine bl_alloc ?_ _ | with_reducible refine bl_drewN ?_ _ | with_reducible refine bl_drew ?_ | with_reducible refine bl_setCell ?_ (by first | exact Nat.le_refl _ | (dsimp only; omega) | (simp <;> omega)) _ | with_reducible refine bl_trans ?_ (by with_reducible assumption)))
    · have t3 : (k == 3) = false := by simp [h3]
      have E : Hid (vK k = 0 ∧ vI k i = 0 ∧ decide (k = 1 ∨ k = 3) = false) := by show _ ∧ _; simp [vK, vI, h1, h3]
      clear B0 h h1 h3
      go_enter Tryz.func51, Tryz.ntmps51
      go_wp2_with fail
      refine bodyPost_ret (v := .tuple #[.agg #[.int .i64 0, .int .i64 0, .float .f64 0, .float .f64 0], .bool false]) (by simp [results, Tryz.results51, go_sem]) rfl ⟨?_, ?_⟩
      · rw [E.out.1, E.out.2.1, E.out.2.2]
      · (repeat (first | with_reducible exact Below.refl _ _ | with_reducible refine bl_alloc ?_ _ | with_reducible refine bl_drewN ?_ _ | with_reducible refine bl_drew ?_ | with_reducible refine bl_setCell ?_ (by first | exact Nat.le_refl _ | (dsimp only; omega) | (simp <;> omega)) _ | with_reducible refine bl_trans ?_ (by with_reducible assumption)))
/-- the leaf that a value is folded into, and whether there is one. -/
def LeafT (l : Int × Int) (e : Ending) : Prop := e = .returned (.tuple #[.agg #[.int .i64 l.1, .string ⟨#[]⟩, .int .i64 l.2, .slice none 0 0], .bool (decide (¬ l.1 = 0))])
set_option maxHeartbeats 1000000 in
theorem specLeaf_any (v : V) (x y : Nat) (w : World) :
    Calls Tryz.prog 54 #[.agg #[.int .i64 v.1, .int .i64 v.2.1, .float .f64 x, .float .f64 y]] w fun e w' => LeafT (leafV v) e ∧ Below w.heap.size w w' := by
  obtain ⟨k, i, vx⟩ := v
  have hal := alloc_old
  have haf := alloc_oldf
  have k0 := Blk.new w #[.int .i64 k, .int .i64 i, .float .f64 x, .float .f64 y] 76
  obtain ⟨x0, x1, x2, x3, x4⟩ := Blk.four' k0
  by_cases h4 : k = 4
  · subst h4
    have E : Hid (leafV (4, i, vx) = (3, i)) := by show _ = _; simp [leafV]
    go_enter Tryz.func54, Tryz.ntmps54
    go_wp2_with fail
    refine bodyPost_ret (v := .tuple #[.agg #[.int .i64 3, .string ⟨#[]⟩, .int .i64 i, .slice none 0 0], .bool true]) (by simp [results, Tryz.results54, go_sem]) rfl ⟨?_, ?_⟩
    · rw [E.out]; rfl
    · (repeat (first | with_reducible exact Below.refl _ _ | with_reducible refine bl_alloc ?_ _ | with_reducible refine bl_drewN ?_ _ | with_reducible refine bl_drew ?_ | with_reducible refine bl_setCell ?_ (by first | exact Nat.le_refl _ | (dsimp only; omega) | (simp <;> omega)) _ | with_reducible refine bl_trans ?_ (by with_reducible assumption)))
  · have t4 : (k == 4) = false := by simp [h4]
    by_cases h1 : k = 1
    · subst h1
      by_cases h2 : 0 ≤ i ∧ i ≤ 999999999999999
      · have E : Hid (leafV (1, i, vx) = (1, i)) := by show _ = _; simp [leafV, h2]
        have tb : (decide (0 ≤ i) && decide (i ≤ 999999999999999)) = true := by simp [h2]
        clear h2
        go_enter Tryz.func54, Tryz.ntmps54
        go_wp2_with (go_at_call 47; refine (l1In_any _ _ _ _).mono ?_; rintro e w' ⟨rfl, rfl⟩; rw [tb])
        refine bodyPost_ret (v := .tuple #[.agg #[.int .i64 1, .string ⟨#[]⟩, .int .i64 i, .slice none 0 0], .bool true]) (by simp [results, Tryz.results54, go_sem]) rfl ⟨?_, ?_⟩
        · rw [E.out]; rfl
        · (repeat (first | with_reducible exact Below.refl _ _ | with_reducible refine bl_alloc ?_ _ | with_reducible refine bl_drewN ?_ _ | with_reducible refine bl_drew ?_ | with_reducible refine bl_setCell ?_ (by first | exact Nat.le_refl _ | (dsimp only; omega) | (simp <;> omega)) _ | with_reducible refine bl_trans ?_ (by with_reducible assumption)))
      · have E : Hid (leafV (1, i, vx) = (0, 0)) := by show _ = _; simp [leafV, h2]
        have tb : (decide (0 ≤ i) && decide (i ≤ 999999999999999)) = false := by rw [Bool.eq_false_iff]; intro h; simp at h; exact h2 h
        clear h2
        go_enter Tryz.func54, Tryz.ntmps54
        go_wp2_with (go_at_call 47; refine (l1In_any _ _ _ _).mono ?_; rintro e w' ⟨rfl, rfl⟩; rw [tb])
        refine bodyPost_ret (v := .tuple #[.agg #[.int .i64 0, .string ⟨#[]⟩, .int .i64 0, .slice none 0 0], .bool false]) (by simp [results, Tryz.results54, go_sem]) rfl ⟨?_, ?_⟩
        · rw [E.out]; rfl
        · (repeat (first | with_reducible exact Below.refl _ _ | with_reducible refine bl_alloc ?_ _ | with_reducible refine bl_drewN ?_ _ | with_reducible refine bl_drew ?_ | with_reducible refine bl_setCell ?_ (by first | exact Nat.le_refl _ | (dsimp only; omega) | (simp <;> omega)) _ | with_reducible refine bl_trans ?_ (by with_reducible assumption)))
    · have t1 : (k == 1) = false := by simp [h1]
      have E : Hid (leafV (k, i, vx) = (0, 0)) := by show _ = _; simp [leafV, h1, h4]
      clear h1 h4
      go_enter Tryz.func54, Tryz.ntmps54
      go_wp2_with fail
      refine bodyPost_ret (v := .tuple #[.agg #[.int .i64 0, .string ⟨#[]⟩, .int .i64 0, .slice none 0 0], .bool false]) (by simp [results, Tryz.results54, go_sem]) rfl ⟨?_, ?_⟩
      · rw [E.out]; rfl
      · (repeat (first | with_reducible exact Below.refl _ _ | with_reducible refine bl_alloc ?_ _ | with_reducible refine bl_drewN ?_ _ | with_reducible refine bl_drew ?_ | with_reducible refine bl_setCell ?_ (by first | exact Nat.le_refl _ | (dsimp only; omega) | (simp <;> omega)) _ | with_reducible refine bl_trans ?_ (by with_reducible assumption)))
end Go.Proofs.YtknallkcengbbaaGreatDoor
