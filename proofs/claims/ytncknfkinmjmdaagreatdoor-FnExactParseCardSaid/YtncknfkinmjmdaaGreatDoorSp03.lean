import Derived.Test.YtncknfkinmjmdaaGreatDoorSp02
import Derived.Deep.AppendLies
import Derived.Great.BuildSlice
import Derived.Lib.IndexLaws
import Derived.Shelf.Strings.Search2
import Derived.Shelf.Strconv.Atoi
import Derived.Shelf.Lay
import Derived.Ground.NamesProg
namespace Go.Proofs
open Go.Shelf
shelf_lay Lays.n219 Nm 219 at Tryz as Tryz.laysIndex
shelf_lay Lays.n172 Nm 172 at Tryz as Tryz.laysAtoi
end Go.Proofs
namespace Go.Proofs.YtncknfkinmjmdaaGreatDoor
set_option linter.unusedVariables false
set_option linter.unusedSimpArgs false
section
open Go.RowKit
def rB (k : Nat) (T : TypeId) (cs : List Value) : OR := ⟨T, cs.length, .slice (some ⟨k, 0, none⟩) 1 1, 1, cs⟩
theorem rB_blk {w : World} {B k : Nat} {T : TypeId} {cs : List Value} (h : (rB k T cs).on w B) : Blk w k cs.toArray T := by
 rcases h.2 with ⟨e, _⟩ | ⟨g, cap, cur, e, hb, hg, h1, h2, h3, h4⟩
 ·
  cases e
 simp only [rB, Value.slice.injEq, Option.some.injEq, Addr.mk.injEq] at e
 obtain ⟨⟨rfl, _⟩, _, rfl⟩ := e
 have e : cur = cs.toArray := by
  apply Array.toList_inj.1
  have h4 : cur.toList.take (1 * cs.length) = cs := h4
  have h3 : cur.size = 1 * cs.length := h3
  rw [← h4, List.take_of_length_le (by rw [Array.length_toList, h3]; exact Nat.le_refl _)]
 rw [← e]; exact hg
theorem blk_rB {w : World} {B k : Nat} {T : TypeId} {cs : List Value} (h : Blk w k cs.toArray T) (hB : B ≤ k) : (rB k T cs).on w B :=
 ⟨by simp [rB], Or.inr ⟨k, 1, cs.toArray, rfl, hB, h, Nat.le_refl _, by unfold maxLen; omega, by simp [rB], by simp [rB, List.take_of_length_le]⟩⟩
structure Rs (X : World) (B : Nat) (W : World) (R : List OR) : Prop where
 l : Below B X W
 o : Owns W B R
 s : B ≤ W.heap.size
theorem Rs.nil (X : World) : Rs X X.heap.size X [] := ⟨Below.refl _ _, Owns.nil _ _, Nat.le_refl _⟩
theorem Rs.drew {X W : World} {B : Nat} {R : List OR} (h : Rs X B W R) : Rs X B W.drew R := ⟨h.l.drew, h.o.same fun _ _ => rfl, h.s⟩
theorem Rs.perm {X W : World} {B : Nat} {R S : List OR} (h : Rs X B W R) (hp : R.Perm S) : Rs X B W S := ⟨h.l, h.o.perm hp, h.s⟩
theorem perm_ins {α : Type} (P S : List α) (r : α) : (P ++ S ++ [r]).Perm (P ++ r :: S) := by
 rw [List.append_assoc]
 exact List.Perm.append_left P List.perm_append_comm
theorem perm_mid {α : Type} (P S : List α) (r : α) : (P ++ r :: S).Perm (r :: (P ++ S)) := List.perm_middle
theorem Rs.later {X W W' : World} {B : Nat} {R : List OR} (h : Rs X B W R) (hb : Below W.heap.size W W') : Rs X B W' R :=
 ⟨h.l.trans (hb.mono h.s), h.o.later hb, Nat.le_trans h.s hb.size⟩
theorem Rs.ins {X W W' : World} {B : Nat} (P S : List OR) {r : OR} (h : Rs X B W (P ++ S)) (hb : Below W.heap.size W W') (hr : r.on W' W.heap.size) : Rs X B W' (P ++ r :: S) :=
 ⟨h.l.trans (hb.mono h.s), (h.o.add hb (Owns.one hr) h.s).perm (perm_ins P S r), Nat.le_trans h.s hb.size⟩
theorem Rs.turn {X W W' : World} {B : Nat} (P S : List OR) {r r' : OR} (h : Rs X B W (P ++ r :: S)) (hg : W.grownBy W' r.v.ownBlock) (hr : r'.on W' B) (hn : ∀ g, r'.v.ownBlock = some g → r.v.ownBlock = some g ∨ W.heap.size ≤ g) : Rs X B W' (P ++ r' :: S) := by
 have ho := h.o.perm (perm_mid P S r)
 refine ⟨h.l.grown hg h.s (fun k e => (ho.head.lt k e).1), (ho.turn hg hr hn).perm (perm_mid P S r').symm, Nat.le_trans h.s hg.size⟩
theorem Rs.less {X W : World} {B : Nat} (P S : List OR) {r : OR} (h : Rs X B W (P ++ r :: S)) : Rs X B W (P ++ S) := ⟨h.l, (h.o.perm (perm_mid P S r)).tail, h.s⟩
theorem Rs.at {X W : World} {B : Nat} (P S : List OR) {r : OR} (h : Rs X B W (P ++ r :: S)) : r.on W B := h.o.on r (by simp)
theorem Rs.box {X W : World} {B : Nat} (P S : List OR) {k : Nat} {T : TypeId} {cs : List Value} (h : Rs X B W (P ++ rB k T cs :: S)) : Blk W k cs.toArray T := rB_blk (h.at P S)
theorem Rs.putB {X W : World} {B : Nat} (P S : List OR) {k : Nat} {T : TypeId} {cs ds : List Value} (h : Rs X B W (P ++ rB k T cs :: S)) : Rs X B (W.setRow k ds.toArray) (P ++ rB k T ds :: S) := by
 have hb := h.box P S
 have hB : B ≤ k := ((h.at P S).lt k rfl).1
 refine h.turn P S ⟨rfl, rfl, rfl, by simp [World.setRow], fun q hq hne => setRow_other W k q _ (fun e => hne (by rw [e]; rfl))⟩ (blk_rB (setRow_heap W k _ _ _ _ hb) hB) (fun g hg => Or.inl hg)
theorem Rs.setB {X W : World} {B : Nat} (P S : List OR) {k : Nat} {T : TypeId} {cs : List Value} (i : Nat) (u : Value) (h : Rs X B W (P ++ rB k T cs :: S)) : Rs X B (W.setCell ⟨k, i, none⟩ u) (P ++ rB k T (cs.set i u) :: S) := by
 have hb := h.box P S
 have hB : B ≤ k := ((h.at P S).lt k rfl).1
 refine h.turn P S ⟨rfl, rfl, rfl, by simp, fun q hq hne => Below.heap_setCell W ⟨k, i, none⟩ u q (fun e => hne (by dsimp only at e; rw [e]; rfl))⟩ (blk_rB ?_ hB) (fun g hg => Or.inl hg)
 have := hb.set i u
 rw [List.setIfInBounds_toArray] at this
 exact this
theorem step_exec {P : Program} {ops : Array Oper} {o : Oper} {a : Act} {w w' : World} {K : Act → World → Prop} {Q : Exit → Act → World → Prop} {E : Prop} {v : Value} (hg : o.guard = none) {d0 : Option Nat} (hd : o.dst = d0) (hr : (execOp a.eval o).run P w = .ok (.value v) w') (hK : K (a.put d0 v) w') :
  if Region.wanted o (yielded ops a.tmps) = true then Oper.wp P o a w K Q else E := by
 have hw : Region.wanted o (yielded ops a.tmps) = true := by simp [Region.wanted, hg]
 rw [if_pos hw]
 unfold Oper.wp
 rw [← hd] at hK
 simp [hr]
 exact hK
theorem run_append_zeroK {P : Program} {t e : TypeId} {i : TypeInfo} (hu : P.underlying t = some (.slice e)) (hi : P.info? e = some i) (w : World) (ty : TypeId) (s x : Option Addr) (n c d : Nat) (h : n ≤ c) : (Builtin.append_ #[t, t] ty #[.slice s n c, .slice x 0 d]).run P w = .ok (.slice s n c) w := by
 cases x with
 | none => cases s <;> simp [Builtin.append_, run_underlying hu, sizeOf, typeInfo, hi, Builtin.lenOf, Builtin.firstCells, storeCells, h]
 | some a =>
  have hl := run_loadCells_list (P := P) w a [] (by simp)
  simp only [List.length_nil] at hl
  cases s <;> simp [Builtin.append_, run_underlying hu, sizeOf, typeInfo, hi, Builtin.lenOf, Builtin.firstCells, hl, storeCells, h]
section
variable {P : Program} {md : Region.Mode} {ops : Array Oper} {Q : Exit → Act → World → Prop} {S : World → Prop} {n n' : Nat} {l l' : Array Bool} {a a' : Act} {w : World}
end
section
variable {X : World} {B : Nat} {ops : Array Oper} {o : Oper} {a : Act} {w : World} {K : Act → World → Prop} {Q : Exit → Act → World → Prop} {E : Prop}
theorem step_app (P S : List OR) {r : OR} (hR : Rs X B w (P ++ r :: S)) (hg : o.guard = none) {d0 : Option Nat} (hd : o.dst = d0) (s x : Operand) (t : TypeId) {i : TypeInfo} {z : Value} (bytes : Nat) (ho : o.op = .call { callee := .builtin .append, args := #[s, x], argTypes := #[t, t] })
  (hu : Tryz.prog.underlying t = some (.slice r.T)) (hi : Tryz.prog.info? r.T = some i) (hz : i.zero = some z) (hsize : i.size = r.k) (hby : i.bytes = bytes) (hzs : z.cells.size = r.k) (hsz : 0 < r.k) (hs : a.eval s = r.v)
  (xs : Option Addr) (m d : Nat) (news : List Value) (hx : a.eval x = .slice xs m d) (hl : news.length = m * r.k) (hnews : m = 0 ∨ ∃ ad, xs = some ad ∧ ∀ j u, news[j]? = some u → w.cell? (ad.add j) = some u) (h1 : ∀ u ∈ news, u.oneCell' = true)
  (h63 : r.n + m ≤ maxLen) (hbytes : (r.n + m) * bytes ≤ 140737488355328) (N : Nat) (hN : r.n + m = N) (f : Value → OR) (hf : ∀ v, f v = ⟨r.T, r.k, v, N, r.cs ++ news⟩)
  (hK : ∀ s' c' w', Rs X B w' (P ++ f (.slice s' N c') :: S) → K (a.put d0 (.slice s' N c')) w') :
  if Region.wanted o (yielded ops a.tmps) = true then Oper.wp Tryz.prog o a w K Q else E := by
 subst hN
 have hr := hR.at P S
 have exec : ∀ (v' : Value) (w' : World), (Builtin.append_ #[t, t] o.type #[r.v, .slice xs m d]).run Tryz.prog w = .ok v' w' → (execOp a.eval o).run Tryz.prog w = .ok (.value v') w' := by
  intro v' w' h
  simp [execOp, ho, resolve, invoke, builtin, hs, hx, h, Result.andThen]
 rcases hnews with rfl | ⟨ad, rfl, hnews⟩
 ·
  obtain ⟨s', c', e'⟩ := hr.shape
  have hc : r.n ≤ c' := by
   rcases hr.2 with ⟨q, _⟩ | ⟨g, cap, cur, q, _, _, h, _⟩
   ·
    rw [e'] at q; simp only [Value.slice.injEq] at q; omega
   rw [e'] at q; simp only [Value.slice.injEq] at q; obtain ⟨_, _, rfl⟩ := q; exact h
  have e0 : news = [] := List.eq_nil_of_length_eq_zero (by simpa using hl)
  have hrun := run_append_zeroK (P := Tryz.prog) hu hi w o.type s' xs r.n c' d hc
  rw [← e'] at hrun
  refine step_exec hg hd (exec _ _ hrun) ?_
  rw [e']
  refine hK s' c' w ?_
  have e1 : f (.slice s' (r.n + 0) c') = r := by rw [hf, e0, List.append_nil]; show (⟨r.T, r.k, .slice s' r.n c', r.n, r.cs⟩ : OR) = r; rw [← e']
  rw [e1]; exact hR
 obtain ⟨v', w', hrun, h2, h3, _, h5⟩ := run_append_own_at (P := Tryz.prog) w B t o.type r.T i z r.k bytes hu hi hz hsize hby hzs hsz r.v r.n r.cs hr ad m d news hl hnews h1 h63 hbytes hR.s
 have hO : (⟨r.T, r.k, v', r.n + m, r.cs ++ news⟩ : OR).on w' B := h2
 obtain ⟨s', c', e'⟩ := hO.shape
 have e' : v' = .slice s' (r.n + m) c' := e'
 subst e'
 refine step_exec hg hd (exec _ _ hrun) (hK s' c' w' (hR.turn P S h3 (by rw [hf]; exact hO) ?_))
 rw [hf]
 intro g hg
 have hg : (Value.slice s' (r.n + m) c').ownBlock = some g := hg
 rcases h5 with h5 | h5
 ·
  left; rw [← h5]; exact hg
 right; rw [h5] at hg; cases hg; exact Nat.le_refl _
end
end
section
open Go.RowKit
def dgB (c : Nat) : Bool := decide ((48 : Int) ≤ c) && decide ((c : Int) ≤ 57)
def dgAt (s : ByteArray) (k : Nat) : Bool := dgB (s.data[k]?.getD 0).toNat
def RunIs (s : ByteArray) (k b : Nat) : Prop := k ≤ b ∧ b ≤ s.size ∧ (∀ j, k ≤ j → j < b → dgAt s j = true) ∧ (b < s.size → dgAt s b = false)
theorem dgB_iff (c : Nat) : dgB c = true ↔ 48 ≤ c ∧ c ≤ 57 := by simp [dgB]; omega
theorem dgAt_eq {s : ByteArray} {k : Nat} (h : k < s.size) : dgB (s[k]'h).toNat = dgAt s k := by
 unfold dgAt
 have : s.data[k]? = some (s[k]'h) := Array.getElem?_eq_getElem h
 rw [this]; rfl
theorem run_index_at (s : ByteArray) (k : Nat) (h : k < s.size) (w : World) : (Instr.index 9 (.string s) (.int .i64 (k : Int))).run Tryz.prog w = .ok (.int .u8 ((s[k]'h).toNat : Int)) w := by
 rw [run_index_string w 9 s .i64 k Tryz.underlying9]
 have h' : 0 ≤ (k : Int) ∧ (k : Int) < s.size := by omega
 rw [dif_pos h']
 simp
set_option maxHeartbeats 1000000 in
theorem l7Digit_any (c : Nat) (w : World) :
  Calls Tryz.prog 39 #[.int .u8 (c : Int)] w fun e w' => e = .returned (.bool (dgB c)) ∧ w' = w := by
 cases h1 : decide ((48 : Int) ≤ c) <;> cases h2 : decide ((c : Int) ≤ 57)
 all_goals
  have E : Hid (_ = dgB c) := (by unfold Hid dgB; rw [h1, h2])
  go_enter Tryz.func39, Tryz.ntmps39
  go_wp2
  go_ret; exact ⟨ret_bool E.out, rfl⟩
set_option maxHeartbeats 1000000 in
theorem isDigit_any (c : Nat) (w : World) :
  Calls Tryz.prog 54 #[.int .i32 (c : Int)] w fun e w' => e = .returned (.bool (dgB c)) ∧ w' = w := by
 cases h1 : decide ((48 : Int) ≤ c) <;> cases h2 : decide ((c : Int) ≤ 57)
 all_goals
  have E : Hid (_ = dgB c) := (by unfold Hid dgB; rw [h1, h2])
  go_enter Tryz.func54, Tryz.ntmps54
  go_wp2
  go_ret; exact ⟨ret_bool E.out, rfl⟩
set_option maxHeartbeats 2000000 in
theorem l7Run_any (s : ByteArray) (k : Nat) (hk : k ≤ s.size) (hs : s.size ≤ 1048576) (w : World) :
  Calls Tryz.prog 40 #[.string s, .int .i64 (k : Int)] w fun e w' => (∃ b : Nat, e = .returned (.int .i64 (b : Int)) ∧ RunIs s k b) ∧ w' = w := by
 go_enter Tryz.func40, Tryz.ntmps40
 go_wp2_with fail; go_loop [1] (fun i => ∃ q : Nat, k ≤ q ∧ q ≤ s.size ∧ i = .int .i64 q ∧ Hid (∀ j, k ≤ j → j < q → dgAt s j = true)) (fun i => s.size - (intOf i).toNat)
 case atStart => exact ⟨k, Nat.le_refl _, hk, rfl, fun j h1 h2 => absurd h1 (by omega)⟩
 obtain ⟨q, kq, hq, rfl, hall⟩ := hrel
 by_cases hlt : q < s.size
 ·
  have hi := run_index_at s q hlt
  have hltI : (q : Int) < (s.size : Int) := by omega
  cases hb : dgAt s q
  ·
   go_wp2_with (go_at_call 39; refine (l7Digit_any _ _).mono ?_; rintro e w' ⟨rfl, rfl⟩; rw [dgAt_eq hlt, hb])
   go_ret; exact ⟨⟨q, rfl, kq, hq, hall.out, fun _ => hb⟩, rfl⟩
  go_wp2_with (go_at_call 39; refine (l7Digit_any _ _).mono ?_; rintro e w' ⟨rfl, rfl⟩; rw [dgAt_eq hlt, hb])
  go_round
  case rel => exact ⟨q + 1, by omega, by omega, by go_num, fun j h1 h2 => by
   by_cases h : j = q
   ·
    subst h; exact hb
   exact hall.out j h1 (by omega)⟩
  case measure => simp [intOf]; omega
 have hltI : ¬ (q : Int) < (s.size : Int) := by omega
 go_wp2_with fail; go_ret; exact ⟨⟨q, rfl, kq, hq, hall.out, fun h => absurd h hlt⟩, rfl⟩
def numIs (s : ByteArray) (n : Nat) : Prop := Lib.decFrom 0 s.data.toList = some n
theorem toList_at {s : ByteArray} {k : Nat} (h : k < s.size) : s.data.toList[k]? = some (s[k]'h) := by
 rw [Array.getElem?_toList]; exact Array.getElem?_eq_getElem h
theorem digit_val {s : ByteArray} {k : Nat} (h : k < s.size) (hd : dgAt s k = true) : Lib.digitVal (s[k]'h) = some ((s[k]'h).toNat - 48) ∧ 48 ≤ (s[k]'h).toNat ∧ (s[k]'h).toNat ≤ 57 := by
 rw [← dgAt_eq h, dgB_iff] at hd
 refine ⟨?_, hd⟩
 unfold Lib.digitVal
 rw [if_pos hd]
set_option maxHeartbeats 2000000 in
theorem l7Number_any (s : ByteArray) (hd : ∀ j, j < s.size → dgAt s j = true) (hs : s.size ≤ 15) (w : World) :
  Calls Tryz.prog 42 #[.string s] w fun e w' => (∃ n : Nat, e = .returned (.int .i64 (n : Int)) ∧ numIs s n ∧ n < 1000000000000000) ∧ w' = w := by
 go_enter Tryz.func42, Tryz.ntmps42
 go_wp2_with fail; go_loop [3, 4] (fun nv i => ∃ q n : Nat, q ≤ s.size ∧ i = .int .i64 q ∧ nv = .int .i64 n ∧ Hid (Lib.decFrom 0 (s.data.toList.take q) = some n)) (fun _ i => s.size - (intOf i).toNat)
 case atStart => exact ⟨0, 0, Nat.zero_le _, rfl, rfl, rfl⟩
 obtain ⟨q, n, hq, rfl, rfl, hn⟩ := hrel
 have hb : n < 1000000000000000 := by
  have h1 := Lib.decFrom_lt _ _ _ hn.out
  have h2 : (s.data.toList.take q).length ≤ 15 := by simp; have : s.data.size = s.size := rfl; omega
  have h3 : 10 ^ (s.data.toList.take q).length ≤ 10 ^ 15 := Nat.pow_le_pow_right (by omega) h2
  simp only [Nat.zero_add, Nat.one_mul] at h1
  exact Nat.lt_of_lt_of_le h1 (by simpa using h3)
 by_cases hlt : q < s.size
 ·
  have hi := run_index_at s q hlt
  have hltI : (q : Int) < (s.size : Int) := by omega
  obtain ⟨d1, d2, d3⟩ := digit_val hlt (hd q hlt)
  have hn' := Lib.decFrom_take _ q 0 n _ _ hn.out (toList_at hlt) d1
  obtain ⟨c, hc⟩ : ∃ c, (s[q]'hlt).toNat = c := ⟨_, rfl⟩
  rw [hc] at d2 d3 hn'
  simp only [hc] at hi
  clear hc d1; have HN : Hid (Lib.decFrom 0 (s.data.toList.take (q + 1)) = some (n * 10 + (c - 48))) := hn'
  have w1 : IntKind.i64.wrap ((n : Int) * 10) = (n : Int) * 10 := by rw [IntKind.wrap_i64]; omega
  have w2 : IntKind.u8.wrap ((c : Int) - 48) = (c : Int) - 48 := by rw [IntKind.wrap_u8]; omega
  have w3 : IntKind.i64.wrap ((c : Int) - 48) = (c : Int) - 48 := by rw [IntKind.wrap_i64]; omega
  have w4 : IntKind.i64.wrap ((n : Int) * 10 + ((c : Int) - 48)) = (n : Int) * 10 + ((c : Int) - 48) := by rw [IntKind.wrap_i64]; omega
  clear hn'; go_wp2_with fail; go_round
  case rel => exact ⟨q + 1, n * 10 + (c - 48), by omega, by go_num, by congr 1; omega, HN⟩
  case measure => simp [intOf]; omega
 have hltI : ¬ (q : Int) < (s.size : Int) := by omega
 go_wp2_with fail; go_ret; refine ⟨⟨n, rfl, ?_, hb⟩, rfl⟩
 have e : s.data.toList.take q = s.data.toList := List.take_of_length_le (by simp; have : s.data.size = s.size := rfl; omega)
 unfold numIs
 rw [← e]; exact hn.out
end
section
open Go.RowKit
theorem dgB_high {c : Nat} (h : 128 ≤ c) : dgB c = false := by
 cases e : dgB c
 ·
  rfl
 rw [dgB_iff] at e; omega
def byA (s : ByteArray) (k : Nat) : Nat := (s.data[k]?.getD 0).toNat
theorem byA_eq {s : ByteArray} {k : Nat} (h : k < s.size) : (s[k]'h).toNat = byA s k := by
 unfold byA
 have : s.data[k]? = some (s[k]'h) := Array.getElem?_eq_getElem h
 rw [this]; rfl
def RunP (p : Nat → Bool) (s : ByteArray) (b : Nat) : Prop := b ≤ s.size ∧ (∀ j, j < b → p (byA s j) = true) ∧ (b < s.size → p (byA s b) = false)
theorem rune_p {p : Nat → Bool} (hp : ∀ c, 128 ≤ c → p c = false) {s : ByteArray} {k : Nat} (h : k < s.size) : p (Utf8.decode s k).1 = p (byA s k) ∧ (p (byA s k) = true → (Utf8.decode s k).2 = 1) := by
 by_cases ha : (s[k]'h).toNat < 128
 ·
  rw [decode_ascii s k h ha]
  exact ⟨by rw [byA_eq h], fun _ => rfl⟩
 have hh := (decode_high s k h (by omega)).1
 have e : p (byA s k) = false := by rw [← byA_eq h]; exact hp _ (by omega)
 rw [hp _ hh, e]
 exact ⟨rfl, fun q => by cases q⟩
set_option maxHeartbeats 2000000 in
theorem runOf_any (p : Nat → Bool) (f : FuncId) (hf : ∀ (c : Nat) (w : World), Calls Tryz.prog f #[.int .i32 (c : Int)] w fun e w' => e = .returned (.bool (p c)) ∧ w' = w) (hp : ∀ c, 128 ≤ c → p c = false) (s : ByteArray) (w : World) (hent : ∀ args w, (callFunc f args).run Tryz.prog w = .ok (.enter f args) w) :
  Calls Tryz.prog 69 #[.string s, .func (.func f) #[] #[]] w fun e w' => (∃ b : Nat, e = .returned (.int .i64 (b : Int)) ∧ RunP p s b) ∧ Below w.heap.size w w' := by
 go_enter Tryz.func69, Tryz.ntmps69
 go_wp2_with fail; go_loopw [] (fun wr => ∃ k : Nat, k ≤ s.size ∧ wr = w.iter s k ∧ Hid (∀ j, j < k → p (byA s j) = true)) (fun wr => s.size - wr.iterPos w.heap.size)
 case atStart => exact ⟨0, Nat.zero_le _, rfl, fun j hj => absurd hj (by omega)⟩
 obtain ⟨k, hk, rfl, hall⟩ := hrel
 by_cases hlt : k < s.size
 ·
  have hnx := fun ty => run_next_any (P := Tryz.prog) w s k ty hlt
  obtain ⟨r1, r2⟩ := rune_p hp hlt
  obtain ⟨c, hc⟩ : ∃ c, (Utf8.decode s k).1 = c := ⟨_, rfl⟩
  obtain ⟨d, hd⟩ : ∃ d, (Utf8.decode s k).2 = d := ⟨_, rfl⟩
  rw [hc] at r1
  rw [hd] at r2
  simp only [hc, hd] at hnx
  clear hc hd; cases hb : p (byA s k)
  ·
   rw [hb] at r1
   clear r2; go_wp2_with fail; refine (hf c _).mono ?_
   rintro e w' ⟨rfl, rfl⟩
   rw [r1]
   go_wp2_with fail; go_ret; exact ⟨⟨k, rfl, hk, hall.out, fun _ => hb⟩, bl_alloc (Below.refl _ _) _⟩
  have hs' : Hid (∀ j, j < k + 1 → p (byA s j) = true) := by
   intro j hj
   by_cases h : j = k
   ·
    subst h; exact hb
   exact hall.out j (by omega)
  have hd1 := r2 hb
  rw [hd1] at hnx
  rw [hb] at r1
  clear r2 hd1; go_wp2_with fail; refine (hf c _).mono ?_
  rintro e w' ⟨rfl, rfl⟩
  rw [r1]
  go_wp2_with fail; go_roundw
  case rel => exact ⟨k + 1, by omega, rfl, hs'⟩
  case measure => simp; omega
 have hnx := fun ty => run_next_end (P := Tryz.prog) w s k ty hlt
 go_wp2_with fail; go_ret; exact ⟨⟨s.size, rfl, Nat.le_refl _, fun j hj => hall.out j (by omega), fun h => absurd h (by omega)⟩, bl_alloc (Below.refl _ _) _⟩
def onlyB (s : ByteArray) (most : Int) : Bool := decide (1 ≤ s.size) && decide ((s.size : Int) ≤ most) && decide (∀ j, j < s.size → dgAt s j = true)
def wholeB (s : ByteArray) (most : Int) : Bool := onlyB s most && (decide (s.size = 1) || !decide (byA s 0 = 48))
theorem enters_isDigit : ∀ args w, (callFunc 54 args).run Tryz.prog w = .ok (.enter 54 args) w := enters_of Tryz.func54 (by kernel_rfl) rfl
set_option maxHeartbeats 2000000 in
theorem onlyDigits_any (s : ByteArray) (most : Int) (w : World) :
  Calls Tryz.prog 93 #[.string s, .int .i64 most] w fun e w' => e = .returned (.bool (onlyB s most)) ∧ Below w.heap.size w w' := by
 by_cases h1 : (1 : Int) ≤ (s.size : Int)
 ·
  by_cases h2 : (s.size : Int) ≤ most
  ·
   go_enter Tryz.func93, Tryz.ntmps93
   go_wp2_with fail; refine (runOf_any dgB 54 isDigit_any (fun c h => dgB_high h) s _ enters_isDigit).mono ?_
   rintro e w1 ⟨⟨b, rfl, r1, r2, r3⟩, hb1⟩
   cases hq : ((b : Int) == (s.size : Int))
   ·
    have E : Hid (false = onlyB s most) := by
     have hne : ¬ b = s.size := by intro e; subst e; simp at hq
     have hx := r3 (by omega)
     unfold onlyB
     have : decide (∀ j, j < s.size → dgAt s j = true) = false := by
      rw [decide_eq_false_iff_not]
      intro h
      have h9 : dgAt s b = true := h b (by omega)
      have h8 : dgAt s b = false := hx
      rw [h9] at h8; cases h8
     show _ = _
     rw [this]; simp
    clear r2 r3; go_wp2_with fail; go_ret; exact ⟨ret_bool E.out, hb1⟩
   have E : Hid (true = onlyB s most) := by
    have he : b = s.size := by simp at hq; omega
    subst he
    unfold onlyB
    have : decide (∀ j, j < s.size → dgAt s j = true) = true := by
     rw [decide_eq_true_eq]
     exact fun j hj => r2 j hj
    show _ = _
    rw [this]; simp; omega
   clear r2 r3; go_wp2_with fail; go_ret; exact ⟨ret_bool E.out, hb1⟩
  have E : Hid (false = onlyB s most) := by
   show _ = _
   unfold onlyB
   rw [decide_eq_false h2]; simp
  go_enter Tryz.func93, Tryz.ntmps93
  go_wp2_with fail; go_ret; exact ⟨ret_bool E.out, Below.refl _ _⟩
 have E : Hid (false = onlyB s most) := by
  show _ = _
  unfold onlyB
  have : decide (1 ≤ s.size) = false := decide_eq_false (by omega)
  rw [this]; simp
 go_enter Tryz.func93, Tryz.ntmps93
 go_wp2_with fail; go_ret; exact ⟨ret_bool E.out, Below.refl _ _⟩
set_option maxHeartbeats 2000000 in
theorem wholeDigits_any (s : ByteArray) (most : Int) (w : World) :
  Calls Tryz.prog 74 #[.string s, .int .i64 most] w fun e w' => e = .returned (.bool (wholeB s most)) ∧ Below w.heap.size w w' := by
 go_enter Tryz.func74, Tryz.ntmps74
 go_wp2_with fail; refine (onlyDigits_any s most _).mono ?_
 rintro e w1 ⟨rfl, hb1⟩
 cases h0 : onlyB s most
 ·
  have E : Hid (false = wholeB s most) := by show _ = _; unfold wholeB; rw [h0]; rfl
  go_wp2_with fail; go_ret; exact ⟨ret_bool E.out, hb1⟩
 have hpos : 0 < s.size := by
  unfold onlyB at h0
  simp at h0; omega
 have hc := byA_eq hpos
 cases h1 : ((s.size : Int) == 1)
 ·
  cases h2 : (((s[0]'hpos).toNat : Int) != 48)
  ·
   have E : Hid (false = wholeB s most) := by
    show _ = _; unfold wholeB; rw [h0, ← hc]
    have e1 : decide (s.size = 1) = false := by simp at h1 ⊢; omega
    have e2 : decide ((s[0]'hpos).toNat = 48) = true := by simp at h2 ⊢; omega
    rw [e1, e2]; rfl
   clear hc; go_wp2_with fail; go_ret; exact ⟨ret_bool E.out, hb1⟩
  have E : Hid (true = wholeB s most) := by
   show _ = _; unfold wholeB; rw [h0, ← hc]
   have e2 : decide ((s[0]'hpos).toNat = 48) = false := by simp at h2 ⊢; omega
   rw [e2]; simp
  clear hc; go_wp2_with fail; go_ret; exact ⟨ret_bool E.out, hb1⟩
 have E : Hid (true = wholeB s most) := by
  show _ = _; unfold wholeB; rw [h0]
  have e1 : decide (s.size = 1) = true := by simp at h1 ⊢; omega
  rw [e1]; rfl
 clear hc; go_wp2_with fail; go_ret; exact ⟨ret_bool E.out, hb1⟩
def CutAt (s a b : ByteArray) : Prop := (∃ i, i < s.size ∧ byA s i = 46 ∧ (∀ j, j < i → ¬ byA s j = 46) ∧ a = s.extract 0 i ∧ b = s.extract (i + 1) s.size) ∨ ((∀ j, j < s.size → ¬ byA s j = 46) ∧ a = s ∧ b = ByteArray.empty)
theorem toList_by {s : ByteArray} {k : Nat} {c : UInt8} (h : s.data.toList[k]? = some c) : k < s.size ∧ byA s k = c.toNat := by
 rw [Array.getElem?_toList] at h
 refine ⟨?_, ?_⟩
 ·
  obtain ⟨h1, _⟩ := Array.getElem?_eq_some_iff.1 h
  exact h1
 unfold byA; rw [h]; rfl
theorem by_toList {s : ByteArray} {k : Nat} (h : k < s.size) (e : byA s k = 46) : s.data.toList[k]? = some 46 := by
 rw [toList_at h]
 rw [← byA_eq h] at e
 congr 1
 exact UInt8.toNat_inj.1 e
set_option maxHeartbeats 2000000 in
theorem strCut_any (s : ByteArray) (hs : s.size ≤ 1048576) (w : World) :
  Calls Tryz.prog 109 #[.string s, .string ⟨#[46]⟩] w fun e w' => (∃ (a b : ByteArray) (f : Bool), e = .returned (.tuple #[.string a, .string b, .bool f]) ∧ CutAt s a b) ∧ Below w.heap.size w w' := by
 obtain ⟨ix, hix⟩ : ∃ ix, Lib.indexByte s.data.toList 46 = ix := ⟨_, rfl⟩
 have hge := Lib.indexByte_ge s.data.toList 46
 rw [hix] at hge
 by_cases h0 : ix = -1
 ·
  have HC : Hid (CutAt s s ByteArray.empty) := by
   refine Or.inr ⟨fun j hj e => ?_, rfl, rfl⟩
   rw [h0] at hix
   exact Lib.indexByte_none hix j (by_toList hj e)
  subst h0
  go_enter Tryz.func109, Tryz.ntmps109
  go_wp2_with (go_at_call 117; refine (Any.stringslite_Index_one Tryz.laysIndex s 46 _).mono ?_; rintro e w' ⟨rfl, rfl⟩; rw [hix])
  go_ret3
  exact ⟨⟨_, _, _, rfl, HC.out⟩, Below.refl _ _⟩
 obtain ⟨i, rfl⟩ : ∃ i : Nat, ix = i := ⟨ix.toNat, by omega⟩
 obtain ⟨f1, f2⟩ := Lib.indexByte_some hix
 obtain ⟨f3, f4⟩ := toList_by f1
 have HC : Hid (CutAt s (s.extract 0 i) (s.extract (i + 1) s.size)) := by
  refine Or.inl ⟨i, f3, f4, fun j hj e => ?_, rfl, rfl⟩
  exact f2 j hj (by_toList (by omega) e)
 clear f1 f2 f4; have c1 : (0 : Int) ≤ ↑i := by omega
 have c2 : (↑i : Int) ≤ ↑s.size := by omega
 have c3 : (0 : Int) ≤ ↑i + 1 := by omega
 have c4 : (↑i + 1 : Int) ≤ ↑s.size := by omega
 have c5 : IntKind.i64.wrap ((i : Int) + 1) = (i : Int) + 1 := by rw [IntKind.wrap_i64]; omega
 go_enter Tryz.func109, Tryz.ntmps109
 go_wp2_with (go_at_call 117; refine (Any.stringslite_Index_one Tryz.laysIndex s 46 _).mono ?_; rintro e w' ⟨rfl, rfl⟩; rw [hix])
 go_region
 go_wp2
 go_ret3
 refine ⟨⟨_, _, _, rfl, ?_⟩, bl_drew (Below.refl _ _)⟩
 have e1 : ((i : Int) + 1).toNat = i + 1 := by omega
 simpa [e1] using HC.out
set_option maxHeartbeats 2000000 in
theorem cut_any (s : ByteArray) (hs : s.size ≤ 1048576) (w : World) :
  Calls Tryz.prog 92 #[.string s, .string ⟨#[46]⟩] w fun e w' => (∃ (a b : ByteArray) (f : Bool), e = .returned (.tuple #[.string a, .string b, .bool f]) ∧ CutAt s a b) ∧ Below w.heap.size w w' := by
 go_enter Tryz.func92, Tryz.ntmps92
 go_wp2_with (go_at_call 109; refine (strCut_any s hs _).mono ?_; rintro e w' ⟨⟨a, b, f, rfl, hc⟩, hb⟩)
 go_ret3
 exact ⟨⟨a, b, f, rfl, hc⟩, hb⟩
set_option maxHeartbeats 2000000 in
theorem numberOf_any (s : ByteArray) (n : Nat) (h0 : 1 ≤ s.size) (hs : s.size ≤ 18) (hn : numIs s n) (w : World) :
  Calls Tryz.prog 75 #[.string s] w fun e w' => e = .returned (.int .i64 (n : Int)) ∧ Below w.heap.size w w' := by
 have ha : Lib.atoi s.data.toList = some (n : Int) := by
  unfold numIs at hn
  have hl : s.data.toList.length = s.size := by simp
  cases hL : s.data.toList with
  | nil => rw [hL] at hl; simp at hl; omega
  | cons b r =>
   rw [hL] at hn
   obtain ⟨d, hd⟩ := Lib.digit_of_decFrom _ _ _ hn 0 b rfl
   obtain ⟨d1, d2, -⟩ := Lib.digitVal_eq hd
   unfold Lib.atoi
   have e1 : (b == 45) = false := by
    rw [beq_eq_false_iff_ne]; intro e; subst e; simp at d1
   have e2 : (b == 43) = false := by
    rw [beq_eq_false_iff_ne]; intro e; subst e; simp at d1
   dsimp only
   rw [e1, e2]
   simp only [Bool.false_eq_true, if_false, Lib.decNat, List.isEmpty_cons]
   rw [hn]; rfl
 go_enter Tryz.func75, Tryz.ntmps75
 go_wp2_with fail; refine (Any.strconv_Atoi Tryz.laysAtoi s n hs ha _).mono ?_
 rintro e w1 ⟨rfl, t, rfl⟩
 go_wp2_with fail; go_ret; refine ⟨rfl, ?_⟩
 exact ⟨rfl, rfl, rfl, by rw [Lib.bytesWorld_size]; omega, fun k hk => Lib.bytesWorld_at_old _ _ _ k hk⟩
end
end Go.Proofs.YtncknfkinmjmdaaGreatDoor
