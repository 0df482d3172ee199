import Derived.Test.YtkkofminndboaaaGreatDoorSb08
namespace Go.Proofs.YtkkofminndboaaaGreatDoor
set_option linter.unusedVariables false
set_option linter.unusedSimpArgs false
section
open Go.RowKit
def Sing (r : PRes) : Prop :=
 match r with
 | .ok (x, _, _) => ∃ b, x = [b]
 | .error _ => True
def Pf.one : Pf → Prop
 | .listed _ _ => False
 | .items _ _ _ => False
 | .stmts _ _ => False
 | .tops _ => False
 | _ => True
theorem one_expr (d : Nat) : (Pf.expr d).one := trivial
theorem one_err {e : Int × Int} : Sing (.error e) := trivial
theorem one_node {n : Nd} {i : Nat} {N : List Nd} : Sing (pNode n i N) := ⟨_, rfl⟩
theorem one_ok {a : Int} {i : Nat} {N : List Nd} : Sing (.ok ([a], i, N)) := ⟨_, rfl⟩
theorem one_if {c : Prop} [Decidable c] {a b : PRes} (ha : Sing a) (hb : Sing b) : Sing (if c then a else b) := by
 split
 ·
  exact ha
 exact hb
theorem one_thenS {r : PRes} {k : List Int → Nat → List Nd → PRes} (h : Sing r) (hk : ∀ b j N, Sing (k [b] j N)) : Sing (r.then k) := by
 cases r with
 | error e => trivial
 | ok y =>
  obtain ⟨x, j, N⟩ := y
  obtain ⟨b, rfl⟩ := h
  exact hk b j N
theorem one_then {r : PRes} {k : List Int → Nat → List Nd → PRes} (hk : ∀ x j N, Sing (k x j N)) : Sing (r.then k) := by
 cases r with
 | error e => trivial
 | ok y => exact hk _ _ _
theorem one_want {T : List Tk} {E : Int} {s : ByteArray} {i : Nat} {k : Nat → PRes} (h : ∀ j, Sing (k j)) : Sing (pWant T E s i k) := one_if (h _) one_err
theorem one_name {T : List Tk} {E : Int} {i : Nat} {k : ByteArray → Nat → PRes} (h : ∀ s j, Sing (k s j)) : Sing (pName T E i k) := one_if (h _ _) one_err
theorem one_kind {T : List Tk} {E : Int} {i : Nat} {k : Int → Nat → PRes} (h : ∀ q j, Sing (k q j)) : Sing (pKind T E i k) := one_if one_err (h _ _)
theorem stp_one {T : List Tk} {E : Int} {F : Pf → Nat → List Nd → PRes} (h : ∀ p i N, p.one → Sing (F p i N)) (p : Pf) (i : Nat) (N : List Nd) (hp : p.one) : Sing (stp1 T E F p i N) := by
 cases p <;> (try exact absurd hp id) <;> unfold stp1 <;> (try dsimp only) <;> repeat' (first
  | with_reducible exact one_err
  | with_reducible exact one_node
  | with_reducible exact one_ok
  | exact h _ _ _ trivial
  | with_reducible refine one_want (fun _ => ?_)
  | with_reducible refine one_name (fun _ _ => ?_)
  | with_reducible refine one_kind (fun _ _ => ?_)
  | with_reducible refine one_thenS (h (.expr _) _ _ (one_expr _)) (fun _ _ _ => ?_)
  | with_reducible refine one_then (fun _ _ _ => ?_)
  | with_reducible refine one_if ?_ ?_)
theorem par_one (T : List Tk) (E : Int) : ∀ (f : Nat) (p : Pf) (i : Nat) (N : List Nd), p.one → Sing (par T E f p i N)
 | 0, p, i, N, _ => trivial
 | f + 1, p, i, N, hp => by
  rw [par_step]
  exact stp_one (par_one T E f) p i N hp
theorem PAR_one {T : List Tk} {E : Int} {p : Pf} {i : Nat} {N : List Nd} (hp : p.one) : Sing (PAR T E p i N) := par_one T E _ p i N hp
theorem then_assoc (r : PRes) (k k2 : List Int → Nat → List Nd → PRes) : (r.then k).then k2 = r.then fun x j N => (k x j N).then k2 := by
 cases r with
 | error e => rfl
 | ok y => rfl
theorem then_ok (x : List Int) (j : Nat) (N : List Nd) (k : List Int → Nat → List Nd → PRes) : PRes.then (.ok (x, j, N)) k = k x j N := rfl
theorem then_congr {r : PRes} {k k' : List Int → Nat → List Nd → PRes} (h : ∀ x j N, r = .ok (x, j, N) → k x j N = k' x j N) : r.then k = r.then k' := by
 cases r with
 | error e => rfl
 | ok y => exact h y.1 y.2.1 y.2.2 rfl
def rest (T : List Tk) (E : Int) (d least : Nat) : Nat → Int → Nat → List Nd → PRes
 | 0, a, i, N => .ok ([a], i, N)
 | m + 1, a, i, N => if m + 1 < least then .ok ([a], i, N) else (PAR T E (.loop d (m + 1) a) i N).then fun x j M => rest T E d least m (x.headD 0) j M
theorem rest_succ (T : List Tk) (E : Int) (d least m : Nat) (a : Int) (i : Nat) (N : List Nd) : rest T E d least (m + 1) a i N = if m + 1 < least then .ok ([a], i, N) else (PAR T E (.loop d (m + 1) a) i N).then fun x j M => rest T E d least m (x.headD 0) j M := rfl
theorem loop_no {T : List Tk} {E : Int} {d l i : Nat} {a : Int} {N : List Nd} (h1 : 1 ≤ l) (h5 : l ≤ 5) (hi : i ≤ T.length) (h : ¬ levOf (opOf (tx T i)) = l) : PAR T E (.loop d l a) i N = .ok ([a], i, N) := by
 rw [PAR_eq (p := .loop d l a) ⟨h1, h5⟩ hi]
 show (if levOf (opOf (tx T i)) = l then _ else _) = _
 rw [if_neg h]
theorem loop_yes {T : List Tk} {E : Int} {d l i : Nat} {a : Int} {N : List Nd} (h1 : 1 ≤ l) (h5 : l ≤ 5) (hi : i ≤ T.length) (h : levOf (opOf (tx T i)) = l) :
  PAR T E (.loop d l a) i N = (PAR T E (.lvl d (l + 1)) (i + 1) N).then fun x j M => if l = 3 then .ok ([(M.length : Int)], j, M ++ [nd 8 nil (opOf (tx T i)) [a, x.headD 0]]) else PAR T E (.loop d l (M.length : Int)) j (M ++ [nd 8 nil (opOf (tx T i)) [a, x.headD 0]]) := by
 rw [PAR_eq (p := .loop d l a) ⟨h1, h5⟩ hi]
 show (if levOf (opOf (tx T i)) = l then _ else _) = _
 rw [if_pos h]
 rfl
theorem rest_stop {T : List Tk} {E : Int} {d least i : Nat} {N : List Nd} (hl : 1 ≤ least) (hi : i ≤ T.length) : ∀ (m : Nat) (a : Int), m ≤ 5 → (levOf (opOf (tx T i)) < least ∨ m < levOf (opOf (tx T i))) → rest T E d least m a i N = .ok ([a], i, N)
 | 0, a, _, _ => rfl
 | m + 1, a, hm, h => by
  unfold rest
  split
  ·
   rfl
  rw [loop_no (by omega) hm hi (by omega), then_ok]
  exact rest_stop hl hi m a (by omega) (by omega)
theorem rest_go {T : List Tk} {E : Int} {d least i lv : Nat} {N : List Nd} (hl : 1 ≤ least) (hi : i ≤ T.length) (hv : levOf (opOf (tx T i)) = lv) (hle : least ≤ lv) : ∀ (m : Nat) (a : Int), m ≤ 5 → lv ≤ m →
  rest T E d least m a i N = (PAR T E (.lvl d (lv + 1)) (i + 1) N).then fun x j M => rest T E d least (if lv = 3 then 2 else lv) (M.length : Int) j (M ++ [nd 8 nil (opOf (tx T i)) [a, x.headD 0]])
 | 0, a, _, h => by omega
 | m + 1, a, hm, h => by
  by_cases e : lv = m + 1
  ·
   subst e
   rw [rest_succ, if_neg (by omega), loop_yes (by omega) hm hi hv, then_assoc]
   refine then_congr fun x j M _ => ?_
   by_cases h3 : m + 1 = 3
   ·
    rw [if_pos h3, if_pos h3, then_ok]
    have : m = 2 := by omega
    subst this
    rfl
   rw [if_neg h3, if_neg h3, rest_succ, if_neg (by omega)]
  rw [rest_succ, if_neg (by omega), loop_no (by omega) hm hi (by omega), then_ok]
  exact rest_go hl hi hv hle m a (by omega) (by omega)
theorem rest_less {T : List Tk} {E : Int} {d l : Nat} : ∀ (q : Nat) (b : Int) (j : Nat) (M : List Nd), q < l → rest T E d l q b j M = .ok ([b], j, M)
 | 0, b, j, M, _ => rfl
 | q + 1, b, j, M, h => by rw [rest_succ, if_pos h]
theorem rest_more {T : List Tk} {E : Int} {d l : Nat} (hl : 1 ≤ l) : ∀ (m : Nat) (a : Int) (i : Nat) (N : List Nd), m ≤ 5 → l ≤ m → rest T E d l m a i N = (rest T E d (l + 1) m a i N).then fun x j M => PAR T E (.loop d l (x.headD 0)) j M
 | 0, a, i, N, _, h => by omega
 | m + 1, a, i, N, hm, h => by
  rw [rest_succ, if_neg (by omega)]
  by_cases e : l = m + 1
  ·
   subst e
   rw [rest_less (l := m + 1 + 1) (m + 1) a i N (by omega), then_ok]
   show _ = PAR T E (.loop d (m + 1) a) i N
   have h1 := PAR_one (T := T) (E := E) (p := .loop d (m + 1) a) (i := i) (N := N) trivial
   cases hr : PAR T E (.loop d (m + 1) a) i N with
   | error e => rfl
   | ok y =>
    obtain ⟨x, j, M⟩ := y
    rw [hr] at h1
    obtain ⟨b, rfl⟩ := h1
    rw [then_ok, rest_less m _ j M (by omega)]
    rfl
  rw [rest_succ, if_neg (by omega), then_assoc]
  refine then_congr fun x j M _ => ?_
  exact rest_more hl m (x.headD 0) j M (by omega) (by omega)
theorem lvl_is {T : List Tk} {E : Int} {d i : Nat} {N : List Nd} (hi : i ≤ T.length) : ∀ (q l : Nat), 1 ≤ l → l + q = 6 → PAR T E (.lvl d l) i N = (PAR T E (.prim d) i N).then fun x j M => rest T E d l 5 (x.headD 0) j M
 | 0, l, h1, h6 => by
  have hl6 : l = 6 := by omega
  subst hl6
  rw [PAR_eq (p := .lvl d 6) ⟨by omega, by omega⟩ hi]
  show (if 6 ≤ 6 then PAR T E (.prim d) i N else (PAR T E (.lvl d (6 + 1)) i N).then fun x i N => PAR T E (.loop d 6 (x.headD 0)) i N) = _
  rw [if_pos (Nat.le_refl _)]
  have h1 := PAR_one (T := T) (E := E) (p := .prim d) (i := i) (N := N) trivial
  cases hr : PAR T E (.prim d) i N with
  | error e => rfl
  | ok y =>
   obtain ⟨x, j, M⟩ := y
   rw [hr] at h1
   obtain ⟨b, rfl⟩ := h1
   rw [then_ok, rest_less 5 _ j M (by omega)]
   rfl
 | q + 1, l, h1, h6 => by
  rw [PAR_eq (p := .lvl d l) ⟨h1, by omega⟩ hi]
  show (if 6 ≤ l then PAR T E (.prim d) i N else (PAR T E (.lvl d (l + 1)) i N).then fun x i N => PAR T E (.loop d l (x.headD 0)) i N) = _
  rw [if_neg (by omega), lvl_is hi q (l + 1) (by omega) (by omega), then_assoc]
  refine then_congr fun x j M _ => ?_
  exact (rest_more h1 5 (x.headD 0) j M (by omega) (by omega)).symm
end
section
open Go.RowKit
set_option maxRecDepth 100000
def idx (w : World) (k : Nat) : Nat := ((w.cell? ⟨k, 1, none⟩).map fun v => (intOf v).toNat).getD 0
theorem idx_rs {X w : World} {B k g n cp i d : Nat} {v : Value} {Q : List NK} {P : List OR} (h : Rs X B w (rR k g n cp i d v Q P)) : idx w k = i := by
 have := (h.box [] (rN v Q :: (rK Q ++ P))).cell 1
 unfold idx
 rw [this]
 simp [intOf]
theorem lev_le (op : Int) : levOf op ≤ 5 := by
 unfold levOf
 (repeat' split) <;> omega
theorem lev_three (op : Int) : levOf op = 3 ↔ op = 6 ∨ op = 7 := by
 unfold levOf
 (repeat' split) <;> omega
theorem rR_kids {X w : World} {B k g n cp i d : Nat} {v : Value} {Q : List NK} {P : List OR} (h : Rs X B w (rR k g n cp i d v Q P)) (L : List Int) (hl : L.length ≤ 1000000) : Rs X B (w.alloc (.cells (L.map (Value.int .i64)).toArray 3)) (rR k g n cp i d v Q (rI (.slice (some ⟨w.heap.size, 0, none⟩) L.length L.length) L :: P)) :=
 h.ins (rB k 55 [.slice (some ⟨g, 0, none⟩) n cp, .int .i64 i, .int .i64 d, v] :: rN v Q :: rK Q) P (bl_alloc (Below.refl _ _) _) (World.ownsRow_lit (base := w.heap.size) (e := 3) (size := 1) w (L.map (Value.int .i64)).toArray L.length (Nat.le_refl _) (by unfold maxLen; omega) (by simp))
def Says (T : List Tk) (E : Int) (X : World) (B k g cp D : Nat) (fn : FuncId) (args : Array Value) (p : Nat → Pf) (i : Nat) : Prop :=
 ∀ (d : Nat) (v : Value) (Q : List NK) (P : List OR) (w : World), Rs X B w (rR k g (T.length + 1) cp i d v Q P) → Q.length ≤ 2 * i → d ≤ D → (d = 41 → i = T.length) → Calls Tryz.prog fn args w (Ok1 T X B k g cp d P (PAR T E (p d) i (Q.map (·.1))))
theorem Gd2.okv {T : List Tk} {lo i0 n0 : Nat} {r : PRes} (h : Gd2 T lo i0 n0 r) {x : List Int} {j : Nat} {M : List Nd} (hr : r = .ok (x, j, M)) : lo ≤ j ∧ j ≤ T.length ∧ M.length + 2 * i0 ≤ n0 + 2 * j := by
 subst hr; exact h
set_option maxHeartbeats 8000000 in
theorem operation_of (T : List Tk) (E : Int) (X : World) (B k g cp i : Nat) (EV : Env T E X B g) (hi : i ≤ T.length)
  (hprim : Says T E X B k g cp 41 83 #[.pointer (some ⟨k, 0, none⟩)] .prim i) (hop : ∀ j l : Nat, i < j → j ≤ T.length → 1 ≤ l → l ≤ 6 → Says T E X B k g cp 41 74 #[.pointer (some ⟨k, 0, none⟩), .int .i64 l] (fun d => .lvl d l) j) :
  ∀ l : Nat, 1 ≤ l → l ≤ 6 → Says T E X B k g cp 41 74 #[.pointer (some ⟨k, 0, none⟩), .int .i64 l] (fun d => .lvl d l) i := by
 intro l hl1 hl6 d v Q P w hR hq hd hd1
 have HP := hid hprim
 have HO := hid hop
 have hal := alloc_old
 have haf := alloc_oldf
 have h0 := hid hR
 clear hprim hop hR; dsimp only
 have hlv := lvl_is (T := T) (E := E) (d := d) (N := Q.map (·.1)) hi (6 - l) l hl1 (by omega)
 obtain ⟨Res, hRes⟩ : ∃ r, Hid (PAR T E (.lvl d l) i (Q.map (·.1)) = r) := ⟨_, rfl⟩
 rw [hRes.out] at hlv ⊢
 have HLV := hid hlv
 clear hlv; go_enter Tryz.func74, Tryz.ntmps74
 go_wp2_with fail; refine (HP.out d v Q P _ h0.out hq hd hd1).mono ?_
 have hgd := PAR_good (T := T) (E := E) (p := .prim d) (i := i) (N := Q.map (·.1)) trivial hi
 cases hr : PAR T E (.prim d) i (Q.map (·.1)) with
 | error ca =>
  obtain ⟨c, a⟩ := ca
  rintro e w1 ⟨rfl, r1⟩
  have hlv := HLV.out
  rw [hr] at hlv
  have hlv : Res = .error (c, a) := hlv
  clear HLV hRes; subst hlv
  clear hr hgd HO HP hq hd hd1 hl1 hl6 hi h0 EV; dsimp only
  exact ⟨rfl, rfl, r1⟩
 | ok y =>
  obtain ⟨x, j, M⟩ := y
  have hlt := hgd.okv hr
  have hlv := HLV.out
  rw [hr] at hlv
  rintro e w1 ⟨rfl, v1, Q1, rfl, r1⟩
  have h1 := hid r1
  have hlv := hid (show Res = rest T E d l 5 (x.headD 0) j (Q1.map (·.1)) from hlv)
  obtain ⟨a, ha⟩ : ∃ a, x.headD 0 = a := ⟨_, rfl⟩
  rw [ha] at hlv ⊢
  simp only [List.length_map] at hlt
  have hlo : i + 1 ≤ j := hlt.1
  have hj1 := hlt.2.1
  have hq1 : Q1.length ≤ 2 * j := by omega
  clear r1 hgd hr ha h0 hlt HLV; go_wp2_with fail; refine (levelOf_any 3 _).mono ?_
  rintro e w2 ⟨rfl, hw2⟩
  subst hw2
  have hm5 : ((levOf 3 : Nat) : Int) = 5 := by decide
  rw [hm5]
  clear hm5; go_wp2_with fail; go_loopw [5, 6] (fun lv mv wr => ∃ (b : Int) (m q : Nat) (v2 : Value) (Q2 : List NK), lv = .int .i64 b ∧ mv = .int .i64 m ∧ m ≤ 5 ∧ i < q ∧ q ≤ T.length ∧ Q2.length ≤ 2 * q ∧ Hid (Res = rest T E d l m b q (Q2.map (·.1))) ∧ Hid (Rs X B wr (rR k g (T.length + 1) cp q d v2 Q2 P))) (fun _ _ wr => T.length - idx wr k)
  case atStart => exact ⟨a, 5, j, v1, Q1, rfl, rfl, Nat.le_refl _, by omega, hj1, hq1, hlv, h1⟩
  obtain ⟨b, m, q, v2, Q2, rfl, rfl, hm, hiq, hqT, hq2, HR, h2⟩ := hrel
  clear h1 hlv hj1 hq1; have hix := idx_rs h2.out
  have hf := tok_text (kd T q) (ta T E q) (ti T q) (tx T q)
  obtain ⟨op, hop⟩ : ∃ op, Hid (opOf (tx T q) = op) := ⟨_, rfl⟩
  obtain ⟨lv, hlv'⟩ : ∃ lv, Hid (levOf op = lv) := ⟨_, rfl⟩
  have hlv5 : lv ≤ 5 := by rw [← hlv'.out]; exact lev_le op
  have hlvq : Hid (levOf (opOf (tx T q)) = lv) := by show _ = _; rw [hop.out]; exact hlv'.out
  have HIX := hid hix
  clear hix; go_wp2_with fail; refine (here_any T E k g cp q d v2 _ (h2.out.box [] (rN v2 Q2 :: (rK Q2 ++ P))) (EV.t.rs h2.out EV.g) hqT EV.l).mono ?_
  rintro e w3 ⟨⟨x3, rfl⟩, b3⟩
  have h3 := hid (h2.out.later b3)
  clear h2 b3; go_wp2_with fail; refine (opNamed_any (tx T q) _ (EV.y.rs h3.out EV.b)).mono ?_
  rintro e w4 ⟨rfl, hw4⟩
  subst hw4
  rw [hop.out]
  go_wp2_with fail; refine (levelOf_any op _).mono ?_
  rintro e w5 ⟨rfl, hw5⟩
  subst hw5
  rw [hlv'.out]
  by_cases h1 : lv < l
  ·
   have hs := rest_stop (T := T) (E := E) (d := d) (least := l) (N := Q2.map (·.1)) hl1 hqT m b hm (Or.inl (by rw [hlvq.out]; exact h1))
   have hR2 : Res = .ok ([b], q, Q2.map (·.1)) := HR.out.trans hs
   have e1 : decide ((lv : Int) < (l : Int)) = true := by simp; omega
   clear hs HR hlvq hlv' hop HO HP; go_wp2_with fail; go_ret; rw [hR2]
   exact ⟨rfl, v2, Q2, rfl, h3.out⟩
  have e1 : decide ((lv : Int) < (l : Int)) = false := by simp; omega
  by_cases h2' : m < lv
  ·
   have hs := rest_stop (T := T) (E := E) (d := d) (least := l) (N := Q2.map (·.1)) hl1 hqT m b hm (Or.inr (by rw [hlvq.out]; exact h2'))
   have hR2 : Res = .ok ([b], q, Q2.map (·.1)) := HR.out.trans hs
   have e2 : decide ((m : Int) < (lv : Int)) = true := by simp; omega
   clear hs HR hlvq hlv' hop HO HP; go_wp2_with fail; go_ret; rw [hR2]
   exact ⟨rfl, v2, Q2, rfl, h3.out⟩
  have e2 : decide ((m : Int) < (lv : Int)) = false := by simp; omega
  have hgo := hid (HR.out.trans (rest_go (T := T) (E := E) (d := d) (least := l) (N := Q2.map (·.1)) hl1 hqT hlvq.out (by omega) m b hm (by omega)))
  have hqlt : q < T.length := lev_lt hlvq.out (by omega)
  clear HR; go_wp2_with fail; refine (next_any T E k g cp q d v2 Q2 P X B _ h3.out EV.t EV.g hqT EV.l).mono ?_
  rintro e w6 ⟨⟨x6, rfl⟩, r6⟩
  have h6 := hid r6
  clear h3 r6; have tw : IntKind.i64.wrap ((lv : Int) + 1) = (lv : Int) + 1 := by rw [IntKind.wrap_i64]; omega
  have hgd2 := PAR_good (T := T) (E := E) (p := .lvl d (lv + 1)) (i := q + 1) (N := Q2.map (·.1)) ⟨by omega, by omega⟩ hqlt
  go_wp2_with fail; refine (HO.out (q + 1) (lv + 1) (by omega) hqlt (by omega) (by omega) d v2 Q2 P _ h6.out (by omega) hd (fun h => by have := hd1 h; omega)).mono ?_
  cases hr : PAR T E (.lvl d (lv + 1)) (q + 1) (Q2.map (·.1)) with
  | error ca =>
   obtain ⟨c, a'⟩ := ca
   rintro e w7 ⟨rfl, r7⟩
   have hlv := hgo.out
   rw [hr] at hlv
   have hlv : Res = .error (c, a') := hlv
   clear hgo hRes; subst hlv
   dsimp only
   dsimp +zetaDelta only [Exit.then, Exit.inBlock]
   exact ⟨rfl, rfl, r7⟩
  | ok y =>
   obtain ⟨x, j, M⟩ := y
   have hlt := hgd2.okv hr
   have hgo2 := hgo.out
   rw [hr] at hgo2
   rintro e w7 ⟨rfl, v7, Q7, rfl, r7⟩
   have h7 := hid r7
   have hgo3 := hid (show Res = rest T E d l (if lv = 3 then 2 else lv) ((Q7.map (·.1)).length : Int) j (Q7.map (·.1) ++ [nd 8 nil (opOf (tx T q)) [b, x.headD 0]]) from hgo2)
   obtain ⟨c, hc⟩ : ∃ c, x.headD 0 = c := ⟨_, rfl⟩
   rw [hc] at hgo3 ⊢
   simp only [List.length_map] at hlt
   have hlo7 : q + 1 + 1 ≤ j := hlt.1
   have hj7 := hlt.2.1
   have hq7 : Q7.length + 1 ≤ 2 * j := by omega
   clear r7 hgd2 hr hc h6 hlt hgo hgo2; have h8 := hid (rR_kids h7.out [b, c] (by simp))
   go_wp2_with fail; refine (add_any T E k g cp j d v7 Q7 P X B 8 op ⟨#[]⟩ [b, c] (some ⟨w7.heap.size, 0, none⟩) 2 _ h8.out (by have := EV.l; omega)).mono ?_
   rintro e w9 ⟨rfl, v9, r9⟩
   have h9 := hid r9
   have hidx := idx_rs r9
   have hgo4 : Hid (Res = rest T E d l (if lv = 3 then 2 else lv) (Q7.length : Int) j ((Q7 ++ [(nd 8 ⟨#[]⟩ op [b, c], Value.slice (some ⟨w7.heap.size, 0, none⟩) 2 2)]).map (·.1))) := by
    show _ = _
    rw [hgo3.out, hop.out, List.length_map, List.map_append]
    rfl
   clear r9 h8 h7 hgo3; by_cases h3 : lv = 3
   ·
    have h67 := (lev_three op).1 (by rw [hlv'.out]; exact h3)
    rw [if_pos h3] at hgo4
    subst h3
    rcases h67 with h67 | h67
    ·
     have e6 : (op == 6) = true := by rw [h67]; rfl
     clear h67; go_wp2_with fail; go_roundw
     case rel => exact ⟨_, 2, j, v9, _, rfl, rfl, by omega, by omega, hj7, by simp; omega, hgo4, h9⟩
     rw [hidx, HIX.out]
     omega
    have e6 : (op == 6) = false := by rw [h67]; rfl
    have e7 : (op == 7) = true := by rw [h67]; rfl
    clear h67; go_wp2_with fail; go_roundw
    case rel => exact ⟨_, 2, j, v9, _, rfl, rfl, by omega, by omega, hj7, by simp; omega, hgo4, h9⟩
    rw [hidx, HIX.out]
    omega
   have h6 : ¬ op = 6 := fun h => h3 (by rw [← hlv'.out]; exact (lev_three op).2 (Or.inl h))
   have h7 : ¬ op = 7 := fun h => h3 (by rw [← hlv'.out]; exact (lev_three op).2 (Or.inr h))
   have e6 : (op == 6) = false := by simpa using h6
   have e7 : (op == 7) = false := by simpa using h7
   rw [if_neg h3] at hgo4
   go_wp2_with fail; go_roundw
   case rel => exact ⟨_, lv, j, v9, _, rfl, rfl, hlv5, by omega, hj7, by simp; omega, hgo4, h9⟩
   rw [hidx, HIX.out]
   omega
end
section
open Go.RowKit
set_option maxRecDepth 100000
theorem PAR_expr {T : List Tk} {E : Int} {d i : Nat} {N : List Nd} (hi : i ≤ T.length) : PAR T E (.expr d) i N = if d = 40 ∧ i < T.length then .error (3, ta T E i) else PAR T E (.lvl (d + 1) 1) i N := by
 rw [PAR_eq (p := .expr d) trivial hi]
 rfl
set_option maxHeartbeats 8000000 in
theorem whole_of (T : List Tk) (E : Int) (X : World) (B k g cp i : Nat) (EV : Env T E X B g) (hi : i ≤ T.length)
  (hop : Says T E X B k g cp 41 74 #[.pointer (some ⟨k, 0, none⟩), .int .i64 ((1 : Nat) : Int)] (fun d => .lvl d 1) i) :
  Says T E X B k g cp 40 62 #[.pointer (some ⟨k, 0, none⟩)] .expr i := by
 intro d v Q P w hR hq hd hd1
 have HO := hid hop
 have hal := alloc_old
 have haf := alloc_oldf
 have h0 := hid hR
 clear hop hR; rw [PAR_expr hi]
 by_cases hb : d = 40 ∧ i < T.length
 ·
  rw [if_pos hb]
  have hk := EV.z i hb.2
  have hd40 := hid hb.1
  clear hb; go_enter Tryz.func62, Tryz.ntmps62
  go_wp2_with fail; refine (here_any T E k g cp i d v _ (h0.out.box [] (rN v Q :: (rK Q ++ P))) (EV.t.rs h0.out EV.g) hi EV.l).mono ?_
  rintro e w1 ⟨⟨x, rfl⟩, b1⟩
  have h1 := hid (h0.out.later b1)
  clear h0 b1; go_wp2_with fail; refine (enter_bad T E k g cp i d v Q P X B (kd T i) (ta T E i) (ti T i) (tx T i) x _ h1.out hd40.out hk).mono ?_
  rintro e w2 ⟨rfl, r2⟩
  dsimp only
  exact ⟨rfl, rfl, r2⟩
 rw [if_neg hb]
 have hk := hid (show ¬ d = 40 ∨ kd T i = 0 by
  by_cases e : d = 40
  ·
   exact Or.inr (kd_none fun h => hb ⟨e, h⟩)
  exact Or.inl e)
 have HB := hid (show d + 1 = 41 → i = T.length by
  intro h
  apply Classical.byContradiction
  intro g
  exact hb ⟨by omega, by omega⟩)
 clear hb; obtain ⟨Res, hRes⟩ : ∃ r, Hid (PAR T E (.lvl (d + 1) 1) i (Q.map (·.1)) = r) := ⟨_, rfl⟩
 rw [hRes.out]
 go_enter Tryz.func62, Tryz.ntmps62
 go_wp2_with fail; refine (here_any T E k g cp i d v _ (h0.out.box [] (rN v Q :: (rK Q ++ P))) (EV.t.rs h0.out EV.g) hi EV.l).mono ?_
 rintro e w1 ⟨⟨x, rfl⟩, b1⟩
 have h1 := hid (h0.out.later b1)
 clear h0 b1; go_wp2_with fail; refine (enter_ok T E k g cp i d v Q P X B (kd T i) (ta T E i) (ti T i) (tx T i) x _ h1.out hk.out hd).mono ?_
 rintro e w2 ⟨rfl, r2⟩
 have h2 := hid r2
 clear h1 r2; go_wp2_with fail; refine (HO.out (d + 1) v Q P _ h2.out hq (by omega) HB.out).mono ?_
 dsimp only
 rw [hRes.out]
 clear hRes HO; cases Res with
 | error ca =>
  obtain ⟨c, a⟩ := ca
  rintro e w3 ⟨rfl, r3⟩
  dsimp only
  exact ⟨rfl, rfl, r3⟩
 | ok y =>
  obtain ⟨y, j, M⟩ := y
  obtain ⟨c, hc⟩ : ∃ c, y.headD 0 = c := ⟨_, rfl⟩
  rintro e w3 ⟨rfl, v3, Q3, hM, r3⟩
  rw [hc]
  have HC := hid hc
  have h3 := hid r3
  have HM := hid hM
  clear h2 r3 hM hc; go_wp2_with fail; refine (leave_any T E k g cp j d v3 Q3 P X B _ h3.out hd).mono ?_
  rintro e w4 ⟨rfl, r4⟩
  go_wp2_with fail; go_ret; exact ⟨by rw [HC.out]; rfl, v3, Q3, HM.out, r4⟩
end
end Go.Proofs.YtkkofminndboaaaGreatDoor
