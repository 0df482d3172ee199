import Derived.Test.YtjfpflejnbnhnaaSl25
import Derived.RangeFuncNested
import Derived.RangeFuncBound
import Derived.RangeFuncCalls
import Derived.RangeFuncLeaves
import Derived.Shelf.Abstract
import Derived.Shelf.RegionOpen
import Derived.WalkKit
import Derived.OwnWalkIn
import Derived.TacticsInMore
import Derived.LoopNIn
import Derived.LoopIn
import Derived.RangeFuncBox
import Derived.Maps.AppendAt
namespace Go.Proofs.Ytjfpflejnbnhnaa
section
open Go.RowKit Go.Shelf
set_option linter.unusedVariables false
set_option linter.unusedSimpArgs false
attribute [local go_sem] Oper.semAt_some
def came (cur f : Int) (A : List V4) (k : Nat) : List V4 := (A.take k).drop (cur - f).toNat
theorem came_zero (cur f : Int) (A : List V4) : came cur f A 0 = [] := by simp [came]
theorem came_in {cur f : Int} {A : List V4} {k : Nat} {x : V4} (hx : A[k]? = some x) (h : cur ≤ f + (k : Int)) : came cur f A (k + 1) = came cur f A k ++ [x] := by
 have hk : k < A.length := (List.getElem?_eq_some_iff.1 hx).1
 unfold came
 rw [List.take_add_one, hx, Option.toList_some, List.drop_append_of_le_length (by simp; omega)]
theorem came_out {cur f : Int} {A : List V4} {k : Nat} (h : ¬ cur ≤ f + (k : Int)) : came cur f A (k + 1) = came cur f A k := by
 unfold came
 rw [List.drop_eq_nil_of_le (by simp; omega), List.drop_eq_nil_of_le (by simp; omega)]
theorem came_all (cur f : Int) (A : List V4) : came cur f A A.length = A.drop (cur - f).toNat := by unfold came; rw [List.take_length]
theorem came_pre (cur f : Int) (A : List V4) (k : Nat) : came cur f A k <+: A.drop (cur - f).toNat := by
 unfold came
 rw [List.drop_take]
 exact List.take_prefix _ _
theorem came_len {cur f : Int} {A : List V4} {k : Nat} (h : k < A.length) : (came cur f A k).length < A.length := by
 unfold came; simp; omega
def Lo (n : Nat) (W : World) (s : Option Addr) (L : List V4) : Prop :=
 L = [] ∨ ∃ b o, s = some ⟨b, o, none⟩ ∧ b < n ∧ ∀ j a, L[j]? = some a → W.cell? ⟨b, o + j * 4, none⟩ = some (.int .i64 a.1) ∧ W.cell? ⟨b, o + j * 4 + 1, none⟩ = some (.int .i64 a.2.1) ∧ W.cell? ⟨b, o + j * 4 + 2, none⟩ = some (.float .f64 a.2.2.1) ∧ W.cell? ⟨b, o + j * 4 + 3, none⟩ = some (.float .f64 a.2.2.2)
theorem Lo.below {n : Nat} {W W' : World} {s : Option Addr} {L : List V4} (h : Lo n W s L) (hb : Below n W W') : Lo n W' s L := by
 rcases h with h | ⟨b, o, e, h1, h2⟩
 ·
  exact Or.inl h
 ·
  refine Or.inr ⟨b, o, e, h1, fun j a ha => ?_⟩
  obtain ⟨q1, q2, q3, q4⟩ := h2 j a ha
  exact ⟨(hb.cell (p := ⟨b, _, none⟩) h1).trans q1, (hb.cell (p := ⟨b, _, none⟩) h1).trans q2, (hb.cell (p := ⟨b, _, none⟩) h1).trans q3, (hb.cell (p := ⟨b, _, none⟩) h1).trans q4⟩
theorem Lo.of {w : World} {B : Nat} {s : Option Addr} {L : List V4} (h : Els 4 cVal w B s L) : Lo w.heap.size w s L := by
 by_cases h0 : L = []
 ·
  exact Or.inl h0
 ·
  rcases h with h | ⟨b, o, e, h1, h2, h3⟩
  ·
   exact Or.inl h
  ·
   refine Or.inr ⟨b, o, e, h2, fun j a ha => ?_⟩
   obtain ⟨cs, e1, e2, e3, e4⟩ := (by first | exact h3 j a ha | exact h3.1 j a ha : ∃ cs : List Value, cs.length = 4 ∧ (∀ (i : Nat) (u : Value), cs[i]? = some u → w.cell? ⟨b, o + j * 4 + i, none⟩ = some u) ∧ cVal w B cs a)
   subst e3
   exact ⟨e2 0 _ rfl, e2 1 _ rfl, e2 2 _ rfl, e2 3 _ rfl⟩
theorem Lo.at {n : Nat} {W : World} {s : Option Addr} {L : List V4} (h : Lo n W s L) {j : Nat} {a : V4} (ha : L[j]? = some a) : ∃ b o, s = some ⟨b, o, none⟩ ∧ b < n ∧ W.cell? ⟨b, o + j * 4, none⟩ = some (.int .i64 a.1) ∧ W.cell? ⟨b, o + j * 4 + 1, none⟩ = some (.int .i64 a.2.1) ∧ W.cell? ⟨b, o + j * 4 + 2, none⟩ = some (.float .f64 a.2.2.1) ∧ W.cell? ⟨b, o + j * 4 + 3, none⟩ = some (.float .f64 a.2.2.2) := by
 rcases h with rfl | ⟨b, o, e, h1, h2⟩
 ·
  simp at ha
 ·
  exact ⟨b, o, e, h1, h2 j a ha⟩
def Kq (n : Nat) (W W' : World) : Prop := Below n W W' ∧ ∀ (k : Nat) (c : Array Value) (t : TypeId), W.heap[k]? = some (Obj.cells c t (0, 0)) → ¬ t = 85 → ¬ (t = 44 ∧ c.size = 1) → W'.heap[k]? = some (Obj.cells c t (0, 0))
theorem Kq.refl (n : Nat) (W : World) : Kq n W W := ⟨Below.refl _ _, fun _ _ _ h _ _ => h⟩
theorem Kq.trans {n : Nat} {A B C : World} (h : Kq n A B) (g : Kq n B C) : Kq n A C := ⟨h.1.trans g.1, fun k c t e1 e2 e3 => g.2 k c t (h.2 k c t e1 e2 e3) e2 e3⟩
theorem Kq.of {n : Nat} {A B : World} (h : Below A.heap.size A B) (hn : n ≤ A.heap.size) : Kq n A B := ⟨h.mono hn, fun k c t e1 _ _ => (h.block k (Array.getElem?_eq_some_iff.1 e1).1).trans e1⟩
theorem Kq.blk {n : Nat} {A B : World} (h : Kq n A B) {k : Nat} {c : Array Value} {t : TypeId} (hb : Blk A k c t) (h1 : ¬ t = 85) (h2 : ¬ (t = 44 ∧ c.size = 1)) : Blk B k c t := h.2 k c t hb h1 h2
theorem kq_b {n : Nat} {w : World} (hn : n ≤ w.heap.size) : ∀ (W : World) (l : Nat) (o o' : Obj), w.heap.size ≤ l → W.heap[l]? = some o → o.isCells = false → o.isWalk = false → Kq n W (W.putObj l o') := by
 intro W l o o' hl ho hc hw
 refine ⟨belowK_b hn W l o o' hl ho hc hw, fun k c t e1 e2 e3 => ?_⟩
 have hne : ¬ k = l := by
  intro e
  subst e
  rw [e1] at ho
  cases ho
  cases hc
 have := (grownBy_putObj' W l o').block k (Array.getElem?_eq_some_iff.1 e1).1 (by simpa using hne)
 exact this.trans e1
theorem abides_alloc {J : List V4 → World → Prop} {B : Nat} (hJ : AbidesFrom B J) {s : List V4} {W : World} (h : J s W) (o : Obj) : J s (W.alloc o) :=
 hJ s W _ none h (grown_of_below (bl_alloc (Below.refl _ _) o)) (fun r e => by cases e)
abbrev vAgg (x : V4) : Value := .agg #[.int .i64 x.1, .int .i64 x.2.1, .float .f64 x.2.2.1, .float .f64 x.2.2.2]
def posB (O N : List V4) (q : Nat) : Nat := if q = 0 then 0 else if q = 1 then O.length else (O ++ N).length
theorem two_lists {n₀ p q : Nat} {W V : World} {s1 s2 : Option Addr} {c1 c2 : Nat} {O N : List V4} (hq : q < 2) (hp : Blk V p #[.slice s1 O.length c1, .slice s2 N.length c2] 44) (h1 : Lo n₀ W s1 O) (h2 : Lo n₀ W s2 N) (l1 : O.length ≤ 1048576) (l2 : N.length ≤ 1048576) :
  ∃ s c L, V.cell? ⟨p, q, none⟩ = some (.slice s (List.length (α := V4) L) c) ∧ Lo n₀ W s L ∧ (∀ j a, L[j]? = some a → (O ++ N)[posB O N q + j]? = some a) ∧ posB O N (q + 1) = posB O N q + L.length ∧ L.length ≤ 1048576 := by
 match q, hq with
 | 0, _ =>
  refine ⟨s1, c1, O, hp.cell 0, h1, fun j a ha => ?_, by simp [posB], l1⟩
  have hj : j < O.length := (List.getElem?_eq_some_iff.1 ha).1
  simp only [posB, if_true]
  rw [Nat.zero_add, List.getElem?_append_left hj]; exact ha
 | 1, _ =>
  refine ⟨s2, c2, N, hp.cell 1, h2, fun j a ha => ?_, by simp [posB], l2⟩
  show (O ++ N)[O.length + j]? = some a
  rw [List.getElem?_append_right (by omega), show O.length + j - O.length = j by omega]; exact ha
theorem posB_le {O N : List V4} {q : Nat} (l1 : O.length ≤ 1048576) (l2 : N.length ≤ 1048576) : posB O N q ≤ 2097152 := by
 unfold posB; split
 ·
  omega
 ·
  split
  ·
   omega
  ·
   simp; omega
set_option maxRecDepth 100000 in
set_option maxHeartbeats 4000000 in
theorem unread1_in (F : Fence) (n : Nat) (hf : F.fn 84) (hro : F.round = none) (hn : 1 ≤ n) (l Bs Bc n₀ B0 : Nat) (f cur : Int) (s1 s2 : Option Addr) (c1 c2 : Nat) (O N : List V4) (J Jx : List V4 → World → Prop) (hJ : AbidesFrom B0 J)
  (hY : ∀ pre x W, J pre W → pre.length < (O ++ N).length → YieldAt F (n - 1) Try.prog l #[vAgg x] W fun e W' =>
   (e = .returned (.bool true) ∧ J (pre ++ [x]) W' ∧ Kq n₀ W W') ∨ (e = .returned (.bool false) ∧ Jx (pre ++ [x]) W'))
  (W : World) (hn0 : n₀ ≤ W.heap.size) (hs : Blk W Bs #[.int .i64 f, .slice s1 O.length c1, .slice s2 N.length c2] 63) (hc : Blk W Bc #[.int .i64 cur] 3) (h1 : Lo n₀ W s1 O) (h2 : Lo n₀ W s2 N) (f0 : 0 ≤ f) (f1 : f ≤ 1000000000000) (l1 : O.length ≤ 1048576) (l2 : N.length ≤ 1048576) (h0 : J [] W) :
  CallsIn F n Try.prog 84 #[.func (.yield l) #[] #[], .pointer (some ⟨Bs, 0, none⟩), .pointer (some ⟨Bc, 0, none⟩)] W fun e W' => (∃ v, e = .returned v) ∧
   ((∃ ys, ys = (O ++ N).drop (cur - f).toNat ∧ J ys W') ∨ (∃ pre, pre <+: (O ++ N).drop (cur - f).toNat ∧ Jx pre W')) := by
 refine callsIn_of_wp Try.func84 rfl hf ?_ hro
 simp only [Try.ntmps84, List.size_toArray, List.length_cons, List.length_nil, Nat.reduceAdd, Nat.reduceSub, Array.replicate_succ, Array.replicate_zero, List.push_toArray, List.append_toArray, List.nil_append, List.cons_append]
 obtain ⟨x0, x1, x2, x3⟩ := hs.three'
 gi_wp2
 have hpr := Blk.new W #[.slice s1 O.length c1, .slice s2 N.length c2] 44
 have LW : Below W.heap.size W (W.alloc (.cells #[.slice s1 O.length c1, .slice s2 N.length c2] 44)) := bl_alloc (Below.refl _ _) _
 have hc1 := hc.later LW
 have hJ1 := abides_alloc hJ h0 (.cells #[.slice s1 O.length c1, .slice s2 N.length c2] 44)
 have g1 := h1.below (LW.mono hn0)
 have g2 := h2.below (LW.mono hn0)
 have hn1 := Nat.le_trans hn0 LW.size
 clear x0 x1 x2 x3 hs hc h0 h1 h2
 generalize hV : W.alloc (.cells #[.slice s1 O.length c1, .slice s2 N.length c2] 44) = V at *
 generalize hP : W.heap.size = p at *
 clear hV LW hn0 hP
 gi_loopw [4, 17] (fun num i wr => ∃ q : Nat, q ≤ 2 ∧ i = .int .i64 q ∧ num = .int .i64 (f + (posB O N q : Int)) ∧ J (came cur f (O ++ N) (posB O N q)) wr ∧ Kq n₀ V wr) (fun _ i _ => 2 - (intOf i).toNat)
 case atStart => exact ⟨0, by omega, rfl, by simp [posB], by rw [show posB O N 0 = 0 from rfl, came_zero]; exact hJ1, Kq.refl _ _⟩
 case round =>
  obtain ⟨q, hq, rfl, rfl, hJs, hK⟩ := hrel
  clear hJ1
  by_cases hlt : q < 2
  ·
   have hprr := hK.blk hpr (by decide) (fun e => by cases e.2)
   have hcr := hK.blk hc1 (by decide) (fun e => by cases e.1)
   obtain ⟨s, c, L, hcell, hL, hA, hpos, hll⟩ := two_lists (O := O) (N := N) hlt hprr g1 g2 l1 l2
   have hps := posB_le (O := O) (N := N) (q := q) l1 l2
   have HA : Hid (∀ j a, L[j]? = some a → (O ++ N)[posB O N q + j]? = some a) := hA
   have HP : Hid (posB O N (q + 1) = posB O N q + L.length) := hpos
   clear hA hpos
   have hq2 : (q : Int) < 2 := by omega
   generalize hB : posB O N q = base at *
   gi_wp2
   clear hcell hprr
   gi_loopw [4, 23] (fun num i wr => ∃ j : Nat, j ≤ L.length ∧ i = .int .i64 j ∧ num = .int .i64 (f + ((base + j : Nat) : Int)) ∧ J (came cur f (O ++ N) (base + j)) wr ∧ Kq n₀ V wr) (fun _ i _ => L.length - (intOf i).toNat)
   case atStart => exact ⟨0, by omega, rfl, by simp, hJs, hK⟩
   case round =>
    clear hcr hJs hK
    obtain ⟨j, hj, rfl, rfl, hJs, hK⟩ := hrel
    have hcr : wr.cell? ⟨Bc, 0, none⟩ = some (.int .i64 cur) := (hK.blk hc1 (by decide) (fun e => by cases e.1)).cell 0
    by_cases hjl : j < L.length
    ·
     obtain ⟨x, hx⟩ := get_some hjl
     obtain ⟨b, o, rfl, hb, e1, e2, e3, e4⟩ := (hL.below hK.1).at hx
     have hAx := HA.out j x hx
     have hlen : base + j < (O ++ N).length := (List.getElem?_eq_some_iff.1 hAx).1
     have hJa := abides_alloc hJ hJs (.cells #[.int .i64 x.1, .int .i64 x.2.1, .float .f64 x.2.2.1, .float .f64 x.2.2.2] 85)
     have hKa : Kq n₀ V (wr.alloc (.cells #[.int .i64 x.1, .int .i64 x.2.1, .float .f64 x.2.2.1, .float .f64 x.2.2.2] 85)) := hK.trans (Kq.of (bl_alloc (Below.refl _ _) _) (Nat.le_trans hn1 hK.1.size))
     have hca := (alloc_old wr (.cells #[.int .i64 x.1, .int .i64 x.2.1, .float .f64 x.2.2.1, .float .f64 x.2.2.2] 85) Bc 0 (by rw [hcr]; rfl)).trans hcr
     have tw : IntKind.i64.wrap (f + ((base + j : Nat) : Int) + 1) = f + ((base + j + 1 : Nat) : Int) := by rw [IntKind.wrap_i64]; omega
     have jw : (j : Int) < (L.length : Int) := by omega
     by_cases hcu : cur ≤ f + ((base + j : Nat) : Int)
     ·
      obtain ⟨fn, tmps, assign, body, hy, hR⟩ := hY (came cur f (O ++ N) (base + j)) x _ hJa (came_len hlen)
      dsimp only [vAgg] at hy
      rw [← came_in hAx hcu] at hR
      clear hY
      gi_wp2
      refine hR.mono ?_
      rintro e W3 (⟨rfl, hJ3, hk3⟩ | ⟨rfl, hJx3⟩)
      ·
       gi_wp2
       go_roundw
       case rel => exact ⟨j + 1, by omega, by go_num, by congr 1; push_cast; omega, hJ3, hKa.trans hk3⟩
       case measure => simp [intOf]; omega
      ·
       gi_wp2
       refine bodyPost_ret (results_none rfl _ _ _) rfl ?_
       exact ⟨⟨_, rfl⟩, .inr ⟨_, came_pre cur f (O ++ N) (base + j + 1), hJx3⟩⟩
     ·
      have hcu' : ¬ cur ≤ f + ((base + j : Nat) : Int) := hcu
      rw [← came_out hcu] at hJa
      gi_wp2
      refine ⟨fun _ h => (by cases h), ?_⟩
      gi_wp2
      go_roundw
      case rel => exact ⟨j + 1, by omega, by go_num, by congr 1; push_cast; omega, hJa, hKa⟩
      case measure => simp [intOf]; omega
    ·
     obtain rfl : j = L.length := by omega
     rw [← HP.out] at hJs
     gi_wp2
     go_roundw
     case rel => exact ⟨q + 1, by omega, by go_num, by rw [HP.out], hJs, hK⟩
     case measure => simp [intOf]; omega
  ·
   obtain rfl : q = 2 := by omega
   rw [show posB O N 2 = (O ++ N).length from rfl, came_all] at hJs
   gi_wp2
   go_end0
   exact ⟨⟨_, rfl⟩, .inl ⟨_, rfl, hJs⟩⟩
set_option maxHeartbeats 1000000 in
theorem unreadOf_in (F : Fence) (n : Nat) (h33 : F.fn 68) (hro : F.round = none) (A : Array Value) (cur : Int) (w : World) (hA : A.size = 3) :
  CallsIn F n Try.prog 68 #[.agg A, .int .i64 cur] w fun e w' => e = .returned (.func (.func 84) #[] #[.pointer (some ⟨w.heap.size, 0, none⟩), .pointer (some ⟨w.heap.size + 1, 0, none⟩)]) ∧ w' = (w.alloc (.cells A 63)).alloc (.cells #[.int .i64 cur] 3) := by
 obtain ⟨x0, x1, x2, rfl⟩ : ∃ x0 x1 x2, A = #[x0, x1, x2] := by
  obtain ⟨l⟩ := A
  match l, hA with
  | [a, b, c], _ => exact ⟨a, b, c, rfl⟩
 refine callsIn_of_wp Try.func68 rfl h33 ?_ hro
 simp only [Try.ntmps68, List.size_toArray, List.length_cons, List.length_nil, Nat.reduceAdd, Nat.reduceSub, Array.replicate_succ, Array.replicate_zero, List.push_toArray, List.append_toArray, List.nil_append, List.cons_append]
 gi_wp2
 go_ret
 exact ⟨rfl, rfl⟩
theorem unread_stops (F : Fence) (n : Nat) (hf : F.fn 84) (hro : F.round = none) (hn : 1 ≤ n) (Bs Bc n₀ : Nat) (f cur : Int) (s1 s2 : Option Addr) (c1 c2 : Nat) (O N : List V4) (w : World) (hn₀ : n₀ ≤ w.heap.size)
  (hs : Blk w Bs #[.int .i64 f, .slice s1 O.length c1, .slice s2 N.length c2] 63) (hc : Blk w Bc #[.int .i64 cur] 3) (h1 : Lo n₀ w s1 O) (h2 : Lo n₀ w s2 N) (f0 : 0 ≤ f) (f1 : f ≤ 1000000000000) (l1 : O.length ≤ 1048576) (l2 : N.length ≤ 1048576) :
  SeqStopsK F n Try.prog 84 #[.pointer (some ⟨Bs, 0, none⟩), .pointer (some ⟨Bc, 0, none⟩)] (fun x : V4 => #[vAgg x]) (Kq n₀) (fun ys => ys = (O ++ N).drop (cur - f).toNat) (fun pre => pre <+: (O ++ N).drop (cur - f).toNat) (O ++ N).length w :=
 fun l J Jx W hW hJ _ hY h0 =>
  unread1_in F n hf hro hn l Bs Bc n₀ W.heap.size f cur s1 s2 c1 c2 O N J Jx hJ hY W (Nat.le_trans hn₀ hW.size) (hs.later hW) (hc.later hW) (h1.below (hW.mono hn₀)) (h2.below (hW.mono hn₀)) f0 f1 l1 l2 h0
end
section
open Go.RowKit Go.Shelf
set_option linter.unusedVariables false
set_option linter.unusedSimpArgs false
attribute [local go_sem] Oper.semAt_some
theorem firstOk_any (f : Int) (w : World) :
  Calls Try.prog 67 #[.int .i64 f] w fun e w' => e = .returned (.bool (decide (0 ≤ f) && decide (f ≤ 1000000000000))) ∧ w' = w := by
 by_cases h : 0 ≤ f
 ·
  have h' : decide (0 ≤ f) = true := by simpa using h
  go_enter Try.func67, Try.ntmps67
  go_wp2_with fail
  go_ret
  exact ⟨by first | rfl | (rw [h']; simp), rfl⟩
 ·
  have h' : decide (0 ≤ f) = false := by simpa using h
  go_enter Try.func67, Try.ntmps67
  go_wp2_with fail
  go_ret
  exact ⟨by first | rfl | (rw [h']; simp), rfl⟩
def stB (k f : Int) (O N : List V4) : Bool := decide (0 ≤ f) && decide (f ≤ 1000000000000) && decide (O.length ≤ 200) && decide (N.length ≤ 200) && (O ++ N).all (vofB k)
theorem blk_own {β : Type} (B0 k : Nat) (c : Array Value) (t : TypeId) : OwnFrom B0 (fun (_ : β) W => Blk W k c t) := by
 intro s W W' row h hg hr
 unfold Blk at h ⊢
 rw [hg.block k (Array.getElem?_eq_some_iff.1 h).1 ?_]
 ·
  exact h
 ·
  intro e
  obtain ⟨_, o, ho, hc⟩ := hr k e.symm
  rw [h] at ho
  cases ho
  cases hc
theorem blk3v (w : World) (c d e : Array Value) (t u v : TypeId) : Blk (((w.alloc (.cells c t)).alloc (.cells d u)).alloc (.cells e v)) w.heap.size c t ∧ Blk (((w.alloc (.cells c t)).alloc (.cells d u)).alloc (.cells e v)) (w.heap.size + 1) d u ∧ Blk (((w.alloc (.cells c t)).alloc (.cells d u)).alloc (.cells e v)) (w.heap.size + 1 + 1) e v ∧ Below w.heap.size w (((w.alloc (.cells c t)).alloc (.cells d u)).alloc (.cells e v)) :=
 ⟨((blk2 w c d t u).1).alloc _, ((blk2 w c d t u).2).alloc _, Blk.new' _ _ _ (by simp), bl_alloc (bl_alloc (bl_alloc (Below.refl _ _) _) _) _⟩
set_option maxRecDepth 100000 in
set_option maxHeartbeats 4000000 in
theorem implStreamOk_loop (k f : Int) (s1 s2 : Option Addr) (c1 c2 : Nat) (O N : List V4) (B : Nat) (w : World) (hO : Els 4 cVal w B s1 O) (hN : Els 4 cVal w B s2 N) (f0 : 0 ≤ f) (f1 : f ≤ 1000000000000) (l1 : O.length ≤ 200) (l2 : N.length ≤ 200) :
  Calls Try.prog 47 #[.int .i64 k, .agg #[.int .i64 f, .slice s1 O.length c1, .slice s2 N.length c2]] w fun e w' => e = .returned (.bool ((O ++ N).all (vofB k))) ∧ Below w.heap.size w w' := by
 refine (callsIn_wide (n := 6)).1 ?_
 obtain ⟨k0, k1, k2, L0⟩ := blk3v w #[.int .i64 k] #[.int .i64 f, .slice s1 O.length c1, .slice s2 N.length c2] #[.bool false] 3 63 4
 refine callsIn_of_wp_marks Try.func47 rfl trivial ?_ rfl
 simp only [Try.ntmps47, List.size_toArray, List.length_cons, List.length_nil, Nat.reduceAdd, Nat.reduceSub, Array.replicate_succ, Array.replicate_zero, List.push_toArray, List.append_toArray, List.nil_append, List.cons_append]
 obtain ⟨x0, x1, x2, x3⟩ := k1.three'
 have hfo : (decide (0 ≤ f) && decide (f ≤ 1000000000000)) = true := by simp; omega
 have t1 : decide ((200 : Int) < (O.length : Int)) = false := by simp; omega
 have t2 : decide ((200 : Int) < (N.length : Int)) = false := by simp; omega
 gi_wp2_with (first
  | (refine ⟨trivial, ?_⟩; gi_at_call 67; refine (callsIn_wide.2 (firstOk_any f _)).mono ?_; rintro e w' ⟨rfl, rfl⟩; rw [hfo])
  | (refine ⟨trivial, ?_⟩; gi_at_call 68; refine (unreadOf_in Fence.wide _ trivial rfl _ f _ rfl).mono ?_; rintro e w' ⟨rfl, rfl⟩))
 have a0 := (k0.alloc (.cells #[.int .i64 f, .slice s1 O.length c1, .slice s2 N.length c2] 63)).alloc (.cells #[.int .i64 f] 3)
 have a2 := (k2.alloc (.cells #[.int .i64 f, .slice s1 O.length c1, .slice s2 N.length c2] 63)).alloc (.cells #[.int .i64 f] 3)
 have a3 := (Blk.new (((w.alloc (.cells #[.int .i64 k] 3)).alloc (.cells #[.int .i64 f, .slice s1 O.length c1, .slice s2 N.length c2] 63)).alloc (.cells #[.bool false] 4)) #[.int .i64 f, .slice s1 O.length c1, .slice s2 N.length c2] 63).alloc (.cells #[.int .i64 f] 3)
 have a4 := Blk.new ((((w.alloc (.cells #[.int .i64 k] 3)).alloc (.cells #[.int .i64 f, .slice s1 O.length c1, .slice s2 N.length c2] 63)).alloc (.cells #[.bool false] 4)).alloc (.cells #[.int .i64 f, .slice s1 O.length c1, .slice s2 N.length c2] 63)) #[.int .i64 f] 3
 simp only [World.size_alloc] at a3 a4
 have hB0 : Below w.heap.size w (((((w.alloc (.cells #[.int .i64 k] 3)).alloc (.cells #[.int .i64 f, .slice s1 O.length c1, .slice s2 N.length c2] 63)).alloc (.cells #[.bool false] 4)).alloc (.cells #[.int .i64 f, .slice s1 O.length c1, .slice s2 N.length c2] 63)).alloc (.cells #[.int .i64 f] 3)) := bl_alloc (bl_alloc L0 _) _
 have hsz : (((((w.alloc (.cells #[.int .i64 k] 3)).alloc (.cells #[.int .i64 f, .slice s1 O.length c1, .slice s2 N.length c2] 63)).alloc (.cells #[.bool false] 4)).alloc (.cells #[.int .i64 f, .slice s1 O.length c1, .slice s2 N.length c2] 63)).alloc (.cells #[.int .i64 f] 3)).heap.size = w.heap.size + 5 := by simp
 clear k0 k1 k2 x0 x1 x2 x3 L0 t1 t2 hfo
 generalize ((((w.alloc (.cells #[.int .i64 k] 3)).alloc (.cells #[.int .i64 f, .slice s1 O.length c1, .slice s2 N.length c2] 63)).alloc (.cells #[.bool false] 4)).alloc (.cells #[.int .i64 f, .slice s1 O.length c1, .slice s2 N.length c2] 63)).alloc (.cells #[.int .i64 f] 3) = W0 at a0 a2 a3 a4 hB0 hsz ⊢
 refine wpIn_rangeFunc_ownH rfl (by omega) (gf := 84) (lb := #[.pointer (some ⟨w.heap.size + 1 + 1 + 1, 0, none⟩), .pointer (some ⟨w.heap.size + 1 + 1 + 1 + 1, 0, none⟩)]) rfl trivial (enters_of Try.func84 (by kernel_rfl) rfl)
  (unread_stops Fence.wide _ trivial rfl (by omega) (w.heap.size + 1 + 1 + 1) (w.heap.size + 1 + 1 + 1 + 1) w.heap.size f f s1 s2 c1 c2 O N W0 (by omega) a3 a4 ((Lo.of hO).below hB0) ((Lo.of hN).below hB0) f0 f1 (by omega) (by omega)) (fun h g => h.trans g) (kq_b (by omega)) (Below.refl _ _) (fun _ => rfl)
  (fun pre W => ((∀ y ∈ pre, vofB k y = true) ∧ Blk W w.heap.size #[.int .i64 k] 3 ∧ Blk W (w.heap.size + 1 + 1) #[.bool false] 4) ∧ Below w.heap.size w W)
  (fun c pre W => (c = .ret ∧ (∃ y ∈ pre, vofB k y = false) ∧ Blk W (w.heap.size + 1 + 1) #[.bool false] 4) ∧ Below w.heap.size w W)
  (OwnFrom.and (fun s A B row hs hg hr => ⟨hs.1, blk_own W0.heap.size _ _ _ s A B row hs.2.1 hg hr, blk_own W0.heap.size _ _ _ s A B row hs.2.2 hg hr⟩) (ownFrom_below (Nat.le_refl _) (by omega)))
  (fun c => OwnFrom.and (fun s A B row hs hg hr => ⟨hs.1, hs.2.1, blk_own W0.heap.size _ _ _ s A B row hs.2.2 hg hr⟩) (ownFrom_below (Nat.le_refl _) (by omega)))
  ⟨⟨by simp, a0, a2⟩, hB0⟩
  (fun x a' W => ∃ Bx, Blk W Bx #[.int .i64 x.1, .int .i64 x.2.1, .float .f64 x.2.2.1, .float .f64 x.2.2.2] 85 ∧ a' = { tmps := #[.int .i64 k, .agg #[.int .i64 f, .slice s1 O.length c1, .slice s2 N.length c2], .pointer (some ⟨w.heap.size, 0, none⟩), .pointer (some ⟨w.heap.size + 1, 0, none⟩), .pointer (some ⟨w.heap.size + 1 + 1, 0, none⟩), .pointer (some ⟨Bx, 0, none⟩), .pointer (some ⟨w.heap.size + 1, 0, none⟩), .int .i64 f, .bool true, .bool false, .bool false, .pointer (some ⟨w.heap.size + 1, 1, none⟩), .slice s1 O.length c1, .int .i64 O.length, .bool false, .bool false, .bool false, .pointer (some ⟨w.heap.size + 1, 2, none⟩), .slice s2 N.length c2, .int .i64 N.length, .bool false, .bool false, .agg #[.int .i64 f, .slice s1 O.length c1, .slice s2 N.length c2], .pointer (some ⟨w.heap.size + 1, 0, none⟩), .int .i64 f, .func (.func 84) #[] #[.pointer (some ⟨w.heap.size + 1 + 1 + 1, 0, none⟩), .pointer (some ⟨w.heap.size + 1 + 1 + 1 + 1, 0, none⟩)], vAgg x, undef, undef, undef, undef], defers := [] })
  (fun x a' s A B row hs hg hr => by obtain ⟨Bx, h2, h3⟩ := hs; exact ⟨Bx, blk_own (β := Unit) W0.heap.size _ _ _ s A B row h2 hg hr, h3⟩)
  ?assign ?body ?done ?stop
 case assign =>
  rintro l pre x W K ⟨⟨hi1, hi2, hi3⟩, hB⟩ hK
  gi_wp2
  exact hK _ _ ((KeepsOthers.alloc _ _).from _) (Kq.of (bl_alloc (Below.refl _ _) _) hB.size) ⟨⟨hi1, hi2.alloc _, hi3.alloc _⟩, bl_alloc hB _⟩ ⟨W.heap.size, Blk.new _ _ _, rfl⟩
 case body =>
  rintro l pre x a' W hl ⟨r, hr⟩ ⟨⟨hi1, hi2, hi3⟩, hB⟩ ⟨Bx, bX, rfl⟩ hlt
  have kc : W.cell? ⟨w.heap.size, 0, none⟩ = some (.int .i64 k) := hi2.cell 0
  obtain ⟨y0, y1, y2, y3, y4⟩ := bX.four'
  have rc : W.cell? ⟨w.heap.size + 1 + 1, 0, none⟩ = some (.bool false) := hi3.cell 0
  cases hv : vofB k x
  ·
   gi_wp2_with (refine ⟨trivial, ?_⟩; gi_at_call 69; refine (CallsIn.inRound l (callsIn_wide.2 (valOf_any k x _))).mono ?_; rintro e w' ⟨rfl, hbw⟩; rw [hv]; have rc' := kcell hbw rc; have rf' := (hi3.later hbw).frozen 0)
   exact ⟨(KeepsFrom.of_grownBy (grown_of_below hbw) (fun j e => by cases e)).trans ((KeepsOthers.setCell _ _ _).from _), ⟨rfl, ⟨x, by simp, hv⟩, (hi3.later hbw).set 0 _⟩, (bl_trans hB hbw).setCell (p := ⟨w.heap.size + 1 + 1, 0, none⟩) (by simp <;> omega) _⟩
  ·
   gi_wp2_with (refine ⟨trivial, ?_⟩; gi_at_call 69; refine (CallsIn.inRound l (callsIn_wide.2 (valOf_any k x _))).mono ?_; rintro e w' ⟨rfl, hbw⟩; rw [hv])
   exact ⟨KeepsFrom.of_grownBy (grown_of_below hbw) (fun j e => by cases e), Kq.of hbw hB.size, ⟨fun y hy => (List.mem_append.1 hy).elim (hi1 y) (fun e => by simp at e; subst e; exact hv), hi2.later hbw, hi3.later hbw⟩, bl_trans hB hbw⟩
 case done =>
  rintro D ys W hD rfl ⟨⟨hi1, hi2, hi3⟩, hB⟩ hK
  have rc : W.cell? ⟨w.heap.size + 1 + 1, 0, none⟩ = some (.bool false) := hi3.cell 0
  have rf := hi3.frozen 0
  gi_wp2
  have hK' := (KeepsOthers.setCell W ⟨w.heap.size + 1 + 1, 0, none⟩ (.bool true)).same D _ hK rfl
  refine ⟨by simp, .inl ⟨_, _, rfl, run_takeDeferred hK', ?_⟩⟩
  have hc5 := cell_kept (World.cell?_setCell_same' W ⟨w.heap.size + 1 + 1, 0, none⟩ (.bool true) (by rw [rc]; rfl)) (grownBy_putObj' _ D (.deferred none)) (fun r e => by cases e; exact ⟨_, hK', rfl⟩)
  have hall : (O ++ N).all (vofB k) = true := by
   rw [List.all_eq_true]
   intro y hy
   exact hi1 y (by simpa using hy)
  refine ⟨.bool true, ?_, by rw [hall], (hB.setCell (p := ⟨w.heap.size + 1 + 1, 0, none⟩) (by simp <;> omega) _).trans (belowK_b (w := w) (Nat.le_refl _) _ D _ _ (by omega) hK' rfl rfl)⟩
  simp [results, Try.f47, go_sem, hc5]
 case stop =>
  rintro D c pre W hD hpre ⟨⟨rfl, ⟨y, hy, hv⟩, hi3⟩, hB⟩ hK
  have rc : W.cell? ⟨w.heap.size + 1 + 1, 0, none⟩ = some (.bool false) := hi3.cell 0
  gi_wp2
  refine ⟨by simp, .inl ⟨_, _, rfl, run_takeDeferred hK, ?_⟩⟩
  have hc5 := cell_kept rc (grownBy_putObj' _ D (.deferred none)) (fun r e => by cases e; exact ⟨_, hK, rfl⟩)
  have hall : (O ++ N).all (vofB k) = false := by
   rw [List.all_eq_false]
   exact ⟨y, by have := hpre.subset hy; simpa using this, by rw [hv]; simp⟩
  refine ⟨.bool false, ?_, by rw [hall], hB.trans (belowK_b (w := w) (Nat.le_refl _) W D _ _ (by omega) hK rfl rfl)⟩
  simp [results, Try.f47, go_sem, hc5]
end
end Go.Proofs.Ytjfpflejnbnhnaa
