import Derived.Test.YtkkofminndboaaaGreatDoorSb03
namespace Go.Proofs.YtkkofminndboaaaGreatDoor
set_option linter.unusedVariables false
set_option linter.unusedSimpArgs false
section
open Go.RowKit
theorem Blk.same {w w' : World} {n : Nat} {c : Array Value} {t : TypeId} (h : Blk w n c t) (hb : w'.heap[n]? = w.heap[n]?) : Blk w' n c t := by unfold Blk; rw [hb]; exact h
theorem Blk.kept' {w w' : World} {n : Nat} {c : Array Value} {t : TypeId} {r : Option Nat} (h : Blk w n c t) (hg : w.grownBy w' r) (hr : ¬ r = some n) : Blk w' n c t := by
 unfold Blk; rw [hg.block n h.lt (fun e => hr e.symm)]; exact h
theorem Blk.drew {w : World} {n : Nat} {c : Array Value} {t : TypeId} (h : Blk w n c t) : Blk w.drew n c t := h
abbrev Tk := Int × Int × ByteArray × Int × Nat
def tcells (t : Tk) : List Value := [.int .i64 t.1, .int .i64 t.2.1, .string t.2.2.1, .int .i64 t.2.2.2.1, .float .f64 t.2.2.2.2]
theorem tcells_len (v : Tk) : (tcells v).length = 5 := rfl
def TR (w : World) (B g n cap : Nat) (L : List Tk) : Prop := w.ownsRow B 38 5 (.slice (some ⟨g, 0, none⟩) n cap) n (L.flatMap tcells)
theorem TR.lt {w : World} {B g n cap : Nat} {L : List Tk} (h : TR w B g n cap L) : B ≤ g ∧ g < w.heap.size := World.ownsRow.lt h g rfl
theorem TR.cells {w : World} {B g n cap : Nat} {L : List Tk} (h : TR w B g n cap L) (hn : L.length = n) {j : Nat} {a : Tk} (ha : L[j]? = some a) : w.cell? ⟨g, j * 5, none⟩ = some (.int .i64 a.1) ∧ w.cell? ⟨g, j * 5 + 1, none⟩ = some (.int .i64 a.2.1) ∧ w.cell? ⟨g, j * 5 + 2, none⟩ = some (.string a.2.2.1) ∧ w.cell? ⟨g, j * 5 + 3, none⟩ = some (.int .i64 a.2.2.2.1) ∧ w.cell? ⟨g, j * 5 + 4, none⟩ = some (.float .f64 a.2.2.2.2) ∧ ∀ o, w.frozen? ⟨g, o, none⟩ = false := by
 have hj : j < L.length := (List.getElem?_eq_some_iff.1 ha).1
 have e : ∀ i u, (tcells a)[i]? = some u → w.cell? ⟨g, j * 5 + i, none⟩ = some u := by
  intro i u hu
  have hi : i < 5 := (List.getElem?_eq_some_iff.1 hu).1
  rw [World.ownsRow.cellAt h (j * 5 + i) (by omega), flat_get tcells_len L j a ha i hi, hu]
 exact ⟨e 0 _ rfl, e 1 _ rfl, e 2 _ rfl, e 3 _ rfl, e 4 _ rfl, fun o => World.ownsRow.frozenAt h o⟩
theorem tcells_one (L : List Tk) : ∀ u ∈ L.flatMap tcells, u.oneCell' = true := by
 intro u hu
 simp only [List.mem_flatMap] at hu
 obtain ⟨t, _, ht⟩ := hu
 simp only [tcells, List.mem_cons, List.not_mem_nil, or_false] at ht
 rcases ht with rfl | rfl | rfl | rfl | rfl <;> rfl
theorem info_parts {P : Program} {e : TypeId} {z : Value} {s b : Nat} (h : (P.info? e).map (fun i => (i.zero, i.size, i.bytes)) = some (some z, s, b)) : ∃ i, P.info? e = some i ∧ i.zero = some z ∧ i.size = s ∧ i.bytes = b := by
 cases h0 : P.info? e with
 | none => rw [h0] at h; cases h
 | some i =>
  rw [h0] at h
  simp only [Option.map_some, Option.some.injEq, Prod.mk.injEq] at h
  exact ⟨i, rfl, h.1, h.2.1, h.2.2⟩
theorem Tryz.infoTk : (Tryz.prog.info? 38).map (fun i => (i.zero, i.size, i.bytes)) = some (some (.agg #[.int .i64 0, .int .i64 0, .string ByteArray.empty, .int .i64 0, .float .f64 0]), 5, 48) := by kernel_rfl
def OT (w : World) (B : Nat) (v : Value) (L : List Tk) : Prop := w.ownsRow B 38 5 v L.length (L.flatMap tcells)
theorem OT.form {w : World} {B : Nat} {v : Value} {L : List Tk} (h : OT w B v L) : (v = .slice none 0 0 ∧ L = []) ∨ ∃ g cap, v = .slice (some ⟨g, 0, none⟩) L.length cap ∧ B ≤ g ∧ TR w B g L.length cap L := by
 rcases h.2 with ⟨h1, h2⟩ | ⟨g, cap, cur, rfl, hb, r⟩
 ·
  exact Or.inl ⟨h1, List.length_eq_zero_iff.1 h2⟩
 exact Or.inr ⟨g, cap, rfl, hb, h⟩
theorem OT.later {w w' : World} {B : Nat} {v : Value} {L : List Tk} (h : OT w B v L) (hb : Below w.heap.size w w') : OT w' B v L := by
 refine World.ownsRow.kept h (grown_of_below hb) ?_
 cases v.ownBlock with
 | none => exact Or.inl rfl
 | some b => exact Or.inr (by simp)
theorem OT.kept {w w' : World} {B : Nat} {v : Value} {L : List Tk} (h : OT w B v L) (hk : Kept B w w') : OT w' B v L := by
 refine ⟨h.1, ?_⟩
 rcases h.2 with h' | ⟨g, cap', cur, h', hb, hg, r⟩
 ·
  exact Or.inl h'
 exact Or.inr ⟨g, cap', cur, h', hb, (hk.2 g hb (Array.getElem?_eq_some_iff.1 hg).1).trans hg, r⟩
theorem OT.shape {w : World} {B : Nat} {v : Value} {L : List Tk} (h : OT w B v L) : ∃ s c, v = .slice s L.length c := by
 rcases h.form with ⟨rfl, rfl⟩ | ⟨g, cap, rfl, _⟩
 ·
  exact ⟨_, _, rfl⟩
 exact ⟨_, _, rfl⟩
theorem OT.mono {w : World} {B B' : Nat} {v : Value} {L : List Tk} (h : OT w B v L) (hB : B' ≤ B) : OT w B' v L := by
 refine ⟨h.1, ?_⟩
 rcases h.2 with h' | ⟨g, cap', cur, h', hb, r⟩
 ·
  exact Or.inl h'
 exact Or.inr ⟨g, cap', cur, h', Nat.le_trans hB hb, r⟩
def Just (v : Value) (B : Nat) (w w' : World) : Prop := Below B w w' ∧ ∀ k, ¬ v.ownBlock = some k → k < w.heap.size → w'.heap[k]? = w.heap[k]?
theorem Just.refl (v : Value) (B : Nat) (w : World) : Just v B w w := ⟨Below.refl _ _, fun _ _ _ => rfl⟩
theorem OT.same {w w' : World} {B : Nat} {u : Value} {L : List Tk} (h : OT w B u L) (hs : ∀ g, u.ownBlock = some g → g < w.heap.size → w'.heap[g]? = w.heap[g]?) : OT w' B u L := by
 refine ⟨h.1, ?_⟩
 rcases h.2 with h' | ⟨g, cap', cur, h', hb', hg, r⟩
 ·
  exact Or.inl h'
 refine Or.inr ⟨g, cap', cur, h', hb', ?_, r⟩
 subst h'
 exact (hs g rfl (Array.getElem?_eq_some_iff.1 hg).1).trans hg
theorem OT.lt {w : World} {B : Nat} {v : Value} {L : List Tk} (h : OT w B v L) : ∀ g, v.ownBlock = some g → B ≤ g ∧ g < w.heap.size := World.ownsRow.lt h
theorem OT.alloc {w : World} {B : Nat} {v : Value} {G : List Tk} (h : OT w B v G) (o : Obj) : OT (w.alloc o) B v G := h.later (bl_alloc (Below.refl _ w) o)
theorem OT.grown {w w' : World} {B : Nat} {v : Value} {G : List Tk} {r : Option Nat} (h : OT w B v G) (hg : w.grownBy w' r) (hn : ∀ k, v.ownBlock = some k → ¬ r = some k) : OT w' B v G :=
 h.same fun g hg' hl => hg.block g hl (fun e => hn g hg' e.symm)
theorem OT.other {w : World} {B : Nat} {v : Value} {G : List Tk} (h : OT w B v G) {n : Nat} (hn : ¬ v.ownBlock = some n) (o : Nat) (u : Value) : OT (w.setCell ⟨n, o, none⟩ u) B v G :=
 h.grown (grown_setCell w n o u) (fun k hk e => hn (by cases e; exact hk))
theorem OT.cap {w : World} {B : Nat} {s : Option Addr} {n c : Nat} {L : List Tk} (h : OT w B (.slice s n c) L) : n ≤ c := by
 rcases h.2 with ⟨h1, _⟩ | ⟨g, cap, cur, h1, _, _, h2, _⟩
 ·
  simp only [Value.slice.injEq] at h1; omega
 simp only [Value.slice.injEq] at h1
 obtain ⟨_, rfl, rfl⟩ := h1
 exact h2
def Near (w : World) (v v' : Value) : Prop := ∀ g, v'.ownBlock = some g → v.ownBlock = some g ∨ g = w.heap.size
theorem OT.one {w : World} {b : Nat} {t : Tk} (h : Blk w b #[.int .i64 t.1, .int .i64 t.2.1, .string t.2.2.1, .int .i64 t.2.2.2.1, .float .f64 t.2.2.2.2] 38) : OT w b (.slice (some ⟨b, 0, none⟩) 1 1) [t] :=
 ⟨rfl, Or.inr ⟨b, 1, _, rfl, Nat.le_refl _, h, Nat.le_refl _, by unfold maxLen; omega, rfl, rfl⟩⟩
theorem append_tok (w : World) (ty : TypeId) (Bs : Nat) (s : Option Addr) (c : Nat) (L : List Tk) (hv : OT w Bs (.slice s L.length c) L) (b : Nat) (t : Tk) (hb : Blk w b #[.int .i64 t.1, .int .i64 t.2.1, .string t.2.2.1, .int .i64 t.2.2.2.1, .float .f64 t.2.2.2.2] 38) (hl : L.length ≤ 4194304) (hB : Bs ≤ w.heap.size) :
  ∃ s' c' w', (Builtin.append_ #[32, 32] ty #[.slice s L.length c, .slice (some ⟨b, 0, none⟩) 1 1]).run Tryz.prog w = .ok (.slice s' (L ++ [t]).length c') w' ∧ OT w' Bs (.slice s' (L ++ [t]).length c') (L ++ [t]) ∧ w.grownBy w' (Value.slice s L.length c).ownBlock ∧ Near w (.slice s L.length c) (.slice s' (L ++ [t]).length c') := by
 obtain ⟨i0, hi, hz0, hz1, hz2⟩ := info_parts Tryz.infoTk
 have hnews : ∀ j u, (tcells t)[j]? = some u → w.cell? ((⟨b, 0, none⟩ : Addr).add j) = some u := by
  intro j u hu
  have hj : j < 5 := (List.getElem?_eq_some_iff.1 hu).1
  have e : ((⟨b, 0, none⟩ : Addr).add j) = ⟨b, j, none⟩ := by rw [Go.WideShapes.add_plain, Nat.zero_add]
  rw [e]
  match j, hj with
  | 0, _ => exact (hb.cell 0).trans hu
  | 1, _ => exact (hb.cell 1).trans hu
  | 2, _ => exact (hb.cell 2).trans hu
  | 3, _ => exact (hb.cell 3).trans hu
  | 4, _ => exact (hb.cell 4).trans hu
 obtain ⟨v', w', hrun, h2, h3, _, h5⟩ := run_append_own_at (P := Tryz.prog) w Bs 32 ty 38 i0 (.agg #[.int .i64 0, .int .i64 0, .string ByteArray.empty, .int .i64 0, .float .f64 0]) 5 48 Tryz.underlying32 hi hz0 hz1 hz2 rfl (by decide) (.slice s L.length c) L.length (L.flatMap tcells) hv ⟨b, 0, none⟩ 1 1 (tcells t) rfl hnews (by intro u hu; exact tcells_one [t] u (by simpa using hu)) (by unfold maxLen; omega) (by omega) hB
 have hO : OT w' Bs v' (L ++ [t]) := by
  unfold OT
  rw [List.length_append, List.flatMap_append]
  simpa using h2
 obtain ⟨s', c', rfl⟩ := hO.shape
 refine ⟨s', c', w', hrun, hO, h3, ?_⟩
 intro q hq
 rcases h5 with h5 | h5
 ·
  left; rw [← h5]; exact hq
 right; rw [h5] at hq; cases hq; rfl
end
section
open Go.RowKit
def kd (T : List Tk) (i : Nat) : Int := (T[i]?).elim 0 (·.1)
def tx (T : List Tk) (i : Nat) : ByteArray := (T[i]?).elim ⟨#[]⟩ (·.2.2.1)
def ta (T : List Tk) (E : Int) (i : Nat) : Int := (T[i]?).elim E (·.2.1)
def ti (T : List Tk) (i : Nat) : Int := (T[i]?).elim 0 (·.2.2.2.1)
abbrev PRes := Except (Int × Int) (List Int × Nat × List Nd)
def PRes.then (r : PRes) (k : List Int → Nat → List Nd → PRes) : PRes :=
 match r with
 | .error e => .error e
 | .ok (x, i, N) => k x i N
def pNode (n : Nd) (i : Nat) (N : List Nd) : PRes := .ok ([(N.length : Int)], i, N ++ [n])
def pWant (T : List Tk) (E : Int) (s : ByteArray) (i : Nat) (k : Nat → PRes) : PRes := if tx T i = s then k (i + 1) else .error (2, ta T E i)
def pName (T : List Tk) (E : Int) (i : Nat) (k : ByteArray → Nat → PRes) : PRes := if kd T i = 1 then k (tx T i) (i + 1) else .error (2, ta T E i)
def bLp : ByteArray := ⟨#[40]⟩
def bRp : ByteArray := ⟨#[41]⟩
def bComma : ByteArray := ⟨#[44]⟩
def bSemi : ByteArray := ⟨#[59]⟩
def bEq : ByteArray := ⟨#[61]⟩
def bLb : ByteArray := ⟨#[123]⟩
def bRb : ByteArray := ⟨#[125]⟩
def bDot : ByteArray := ⟨#[46]⟩
def bDol : ByteArray := ⟨#[36]⟩
def bMinus : ByteArray := ⟨#[45]⟩
def bPlus : ByteArray := ⟨#[43]⟩
def bStar : ByteArray := ⟨#[42]⟩
def bSlash : ByteArray := ⟨#[47]⟩
def bPerc : ByteArray := ⟨#[37]⟩
def bLess : ByteArray := ⟨#[60]⟩
def bSame : ByteArray := ⟨#[61, 61]⟩
def bAnd : ByteArray := ⟨#[97, 110, 100]⟩
def bOr : ByteArray := ⟨#[111, 114]⟩
def bNot : ByteArray := ⟨#[110, 111, 116]⟩
def bYes : ByteArray := ⟨#[121, 101, 115]⟩
def bNo : ByteArray := ⟨#[110, 111]⟩
def bRe : ByteArray := ⟨#[114, 101]⟩
def bIm : ByteArray := ⟨#[105, 109]⟩
def bReal : ByteArray := ⟨#[114, 101, 97, 108]⟩
def bSize : ByteArray := ⟨#[115, 105, 122, 101]⟩
def bPair : ByteArray := ⟨#[112, 97, 105, 114]⟩
def bPick : ByteArray := ⟨#[112, 105, 99, 107]⟩
def bOf : ByteArray := ⟨#[111, 102]⟩
def bLet : ByteArray := ⟨#[108, 101, 116]⟩
def bPut : ByteArray := ⟨#[112, 117, 116]⟩
def bIf : ByteArray := ⟨#[105, 102]⟩
def bElse : ByteArray := ⟨#[101, 108, 115, 101]⟩
def bLoop : ByteArray := ⟨#[108, 111, 111, 112]⟩
def bEach : ByteArray := ⟨#[101, 97, 99, 104]⟩
def bWith : ByteArray := ⟨#[119, 105, 116, 104]⟩
def bWithout : ByteArray := ⟨#[119, 105, 116, 104, 111, 117, 116]⟩
def bEmit : ByteArray := ⟨#[101, 109, 105, 116]⟩
def bHear : ByteArray := ⟨#[104, 101, 97, 114]⟩
def bAs : ByteArray := ⟨#[97, 115]⟩
def bSpawn : ByteArray := ⟨#[115, 112, 97, 119, 110]⟩
def bKill : ByteArray := ⟨#[107, 105, 108, 108]⟩
def bDrop : ByteArray := ⟨#[100, 114, 111, 112]⟩
def bDo : ByteArray := ⟨#[100, 111]⟩
def bReturn : ByteArray := ⟨#[114, 101, 116, 117, 114, 110]⟩
def bFn : ByteArray := ⟨#[102, 110]⟩
def bSystem : ByteArray := ⟨#[115, 121, 115, 116, 101, 109]⟩
def bInt : ByteArray := ⟨#[105, 110, 116]⟩
def bBool : ByteArray := ⟨#[98, 111, 111, 108]⟩
def opOf (s : ByteArray) : Int :=
 if s = bPlus then 1 else if s = bMinus then 2 else if s = bStar then 3 else if s = bSlash then 4 else if s = bPerc then 5 else if s = bLess then 6 else if s = bSame then 7 else if s = bAnd then 8 else if s = bOr then 9 else 0
def levOf (op : Int) : Nat :=
 if op = 3 ∨ op = 4 ∨ op = 5 then 5 else if op = 1 ∨ op = 2 then 4 else if op = 6 ∨ op = 7 then 3 else if op = 8 then 2 else if op = 9 then 1 else 0
def turnOf (s : ByteArray) : Int :=
 if s = bMinus then 1 else if s = bNot then 2 else if s = bRe then 3 else if s = bIm then 4 else if s = bReal then 5 else if s = bSize then 6 else 0
def kindOf (s : ByteArray) : Int := if s = bInt then 1 else if s = bReal then 2 else if s = bPair then 3 else if s = bBool then 4 else 0
def pKind (T : List Tk) (E : Int) (i : Nat) (k : Int → Nat → PRes) : PRes := if kindOf (tx T i) = 0 then .error (2, ta T E i) else k (kindOf (tx T i)) (i + 1)
def nd (kind : Int) (text : ByteArray) (num : Int) (kids : List Int) : Nd := ⟨kind, text, num, kids⟩
def nil : ByteArray := ⟨#[]⟩
inductive Pf where
 | expr (d : Nat)
 | lvl (d l : Nat)
 | loop (d l : Nat) (a : Int)
 | prim (d : Nat)
 | listed (k d : Nat)
 | items (k d : Nat) (acc : List Int)
 | item (k d : Nat)
 | block (d : Nat)
 | stmts (d : Nat) (acc : List Int)
 | stmt (d : Nat)
 | top
 | tops (acc : List Int)
def par (T : List Tk) (E : Int) : Nat → Pf → Nat → List Nd → PRes
 | 0, _, _, _ => .error (99, 0)
 | f + 1, .expr d, i, N => if d = 40 ∧ i < T.length then .error (3, ta T E i) else par T E f (.lvl (d + 1) 1) i N
 | f + 1, .lvl d l, i, N => if 6 ≤ l then par T E f (.prim d) i N else (par T E f (.lvl d (l + 1)) i N).then fun x i N => par T E f (.loop d l (x.headD 0)) i N
 | f + 1, .loop d l a, i, N =>
  if levOf (opOf (tx T i)) = l then
   (par T E f (.lvl d (l + 1)) (i + 1) N).then fun x i2 N =>
    if l = 3 then pNode (nd 8 nil (opOf (tx T i)) [a, x.headD 0]) i2 N
    else (pNode (nd 8 nil (opOf (tx T i)) [a, x.headD 0]) i2 N).then fun y i3 N => par T E f (.loop d l (y.headD 0)) i3 N
  else .ok ([a], i, N)
 | f + 1, .prim d, i, N =>
  if kd T i = 3 then pNode (nd 1 nil (ti T i) []) (i + 1) N
  else if kd T i = 4 then pNode (nd 2 (tx T i) 0 []) (i + 1) N
  else if kd T i = 1 then
   (if tx T (i + 1) = bLp then (par T E f (.listed 0 d) (i + 1) N).then fun x j N => pNode (nd 7 (tx T i) 0 x) j N
   else pNode (nd 4 (tx T i) 0 []) (i + 1) N)
  else if tx T i = bYes then pNode (nd 3 nil 1 []) (i + 1) N
  else if tx T i = bNo then pNode (nd 3 nil 0 []) (i + 1) N
  else if tx T i = bDot then pName T E (i + 1) fun s j => pNode (nd 5 s 0 []) j N
  else if tx T i = bDol then pName T E (i + 1) fun s j => pNode (nd 6 s 0 []) j N
  else if tx T i = bLp then (par T E f (.expr d) (i + 1) N).then fun x j N => pWant T E bRp j fun j => .ok (x, j, N)
  else if tx T i = bMinus ∨ tx T i = bNot then
   (if d = 40 then .error (3, ta T E i) else (par T E f (.prim (d + 1)) (i + 1) N).then fun x j N => pNode (nd 9 nil (turnOf (tx T i)) [x.headD 0]) j N)
  else if tx T i = bRe ∨ tx T i = bIm ∨ tx T i = bReal ∨ tx T i = bSize then
   pWant T E bLp (i + 1) fun j => (par T E f (.expr d) j N).then fun x j N => pWant T E bRp j fun j => pNode (nd 9 nil (turnOf (tx T i)) [x.headD 0]) j N
  else if tx T i = bPair then
   pWant T E bLp (i + 1) fun j => (par T E f (.expr d) j N).then fun x j N => pWant T E bComma j fun j => (par T E f (.expr d) j N).then fun y j N => pWant T E bRp j fun j => pNode (nd 10 nil 0 [x.headD 0, y.headD 0]) j N
  else if tx T i = bPick then
   pWant T E bLp (i + 1) fun j => (par T E f (.expr d) j N).then fun x j N => pWant T E bOf j fun j => (par T E f (.items 1 d []) j N).then fun y j N => pWant T E bRp j fun j => pNode (nd 11 nil 0 (x.headD 0 :: y)) j N
  else .error (2, ta T E i)
 | f + 1, .listed k d, i, N => pWant T E bLp i fun j => if tx T j = bRp then .ok ([], j + 1, N) else (par T E f (.items k d []) j N).then fun x j N => pWant T E bRp j fun j => .ok (x, j, N)
 | f + 1, .items k d acc, i, N => (par T E f (.item k d) i N).then fun x j N => if tx T j = bComma then par T E f (.items k d (acc ++ [x.headD 0])) (j + 1) N else .ok (acc ++ [x.headD 0], j, N)
 | f + 1, .item k d, i, N =>
  if k = 0 then par T E f (.expr d) i N
  else if k = 1 then pName T E i fun s j => pNode (nd 31 s 0 []) j N
  else if k = 2 then pName T E i fun s j => pWant T E bEq j fun j => (par T E f (.expr d) j N).then fun x j N => pNode (nd 28 s 0 [x.headD 0]) j N
  else pName T E i fun s j => pKind T E j fun q j => pNode (nd 32 s q []) j N
 | f + 1, .block d, i, N => if d = 40 ∧ i < T.length then .error (3, ta T E i) else pWant T E bLb i fun j => (par T E f (.stmts (d + 1) []) j N).then fun x j N => pNode (nd 27 nil 0 x) j N
 | f + 1, .stmts d acc, i, N => if tx T i = bRb then .ok (acc, i + 1, N) else (par T E f (.stmt d) i N).then fun x j N => par T E f (.stmts d (acc ++ [x.headD 0])) j N
 | f + 1, .stmt d, i, N =>
  let put := fun (kind : Int) (i : Nat) => pName T E i fun s j => pWant T E bEq j fun j => (par T E f (.expr d) j N).then fun x j N => pWant T E bSemi j fun j => pNode (nd kind s 0 [x.headD 0]) j N
  if kd T i = 1 then put 13 i
  else if tx T i = bLet then put 12 (i + 1)
  else if tx T i = bDot then put 14 (i + 1)
  else if tx T i = bDol then put 15 (i + 1)
  else if tx T i = bPut then put 23 (i + 1)
  else if tx T i = bIf then (par T E f (.expr d) (i + 1) N).then fun x j N => (par T E f (.block d) j N).then fun y j N =>
   (if tx T j = bElse then (par T E f (.block d) (j + 1) N).then fun z j N => pNode (nd 16 nil 0 [x.headD 0, y.headD 0, z.headD 0]) j N else pNode (nd 16 nil 0 [x.headD 0, y.headD 0]) j N)
  else if tx T i = bLoop then (par T E f (.expr d) (i + 1) N).then fun x j N => (par T E f (.block d) j N).then fun y j N => pNode (nd 17 nil 0 [x.headD 0, y.headD 0]) j N
  else if tx T i = bEach then pWant T E bWith (i + 1) fun j => (par T E f (.items 1 d []) j N).then fun x j N => (pNode (nd 29 nil 0 x) j N).then fun a j N =>
   (if tx T j = bWithout then par T E f (.items 1 d []) (j + 1) N else .ok ([], j, N)).then fun y j N => (pNode (nd 30 nil 0 y) j N).then fun b j N => (par T E f (.block d) j N).then fun c j N => pNode (nd 18 nil 0 [a.headD 0, b.headD 0, c.headD 0]) j N
  else if tx T i = bEmit then pName T E (i + 1) fun s j => (par T E f (.expr d) j N).then fun x j N => pWant T E bSemi j fun j => pNode (nd 19 s 0 [x.headD 0]) j N
  else if tx T i = bHear then pName T E (i + 1) fun s j => pWant T E bAs j fun j => pName T E j fun v j => (pNode (nd 31 v 0 []) j N).then fun x j N => (par T E f (.block d) j N).then fun y j N => pNode (nd 20 s 0 [x.headD 0, y.headD 0]) j N
  else if tx T i = bSpawn then (par T E f (.listed 2 d) (i + 1) N).then fun x j N => pWant T E bSemi j fun j => pNode (nd 21 nil 0 x) j N
  else if tx T i = bKill then pWant T E bSemi (i + 1) fun j => pNode (nd 22 nil 0 []) j N
  else if tx T i = bDrop then pName T E (i + 1) fun s j => pWant T E bSemi j fun j => pNode (nd 24 s 0 []) j N
  else if tx T i = bDo then pName T E (i + 1) fun s j => (par T E f (.listed 0 d) j N).then fun x j N => (pNode (nd 7 s 0 x) j N).then fun y j N => pWant T E bSemi j fun j => pNode (nd 25 nil 0 [y.headD 0]) j N
  else if tx T i = bReturn then (par T E f (.expr d) (i + 1) N).then fun x j N => pWant T E bSemi j fun j => pNode (nd 26 nil 0 [x.headD 0]) j N
  else .error (2, ta T E i)
 | f + 1, .top, i, N =>
  if tx T i = bFn then pName T E (i + 1) fun s j => (par T E f (.listed 3 0) j N).then fun x j N => pKind T E j fun q j => (par T E f (.block 0) j N).then fun y j N => pNode (nd 33 s q (x ++ [y.headD 0])) j N
  else if tx T i = bSystem then pName T E (i + 1) fun s j => (par T E f (.block 0) j N).then fun y j N => pNode (nd 34 s 0 [y.headD 0]) j N
  else .error (2, ta T E i)
 | f + 1, .tops acc, i, N => if T.length ≤ i then .ok (acc, i, N) else (par T E f .top i N).then fun x j N => par T E f (.tops (acc ++ [x.headD 0])) j N
end
end Go.Proofs.YtkkofminndboaaaGreatDoor
