import Derived.Test.YtpfamdpgcbpiaaaSj
import Derived.RangeFuncNested
import Derived.RangeFuncBound
import Derived.RangeFuncCalls
import Derived.RangeFuncLeaves
import Derived.Shelf.Abstract
import Derived.Shelf.RegionOpen
import Derived.WalkKit
import Derived.OwnWalkIn
import Derived.TacticsInMore
import Derived.LoopNIn
import Derived.LoopIn
import Derived.RangeFuncBox
import Derived.Maps.AppendAt
namespace Go.Proofs.Ytpfamdpgcbpiaaa
open Go.RowKit Go.Shelf
set_option linter.unusedVariables false
set_option linter.unusedSimpArgs false
attribute [local go_sem] Oper.semAt_some

/-- what has come when k events have been looked at. -/
def came (cur f : Int) (A : List V4) (k : Nat) : List V4 := (A.take k).drop (cur - f).toNat
theorem came_zero (cur f : Int) (A : List V4) : came cur f A 0 = [] := by simp [came]
theorem came_in {cur f : Int} {A : List V4} {k : Nat} {x : V4} (hx : A[k]? = some x) (h : cur ≤ f + (k : Int)) : came cur f A (k + 1) = came cur f A k ++ [x] := by
  have hk : k < A.length := (List.getElem?_eq_some_iff.1 hx).1
  unfold came
  rw [List.take_add_one, hx, Option.toList_some, List.drop_append_of_le_length (by simp; omega)]
theorem came_out {cur f : Int} {A : List V4} {k : Nat} (h : ¬ cur ≤ f + (k : Int)) : came cur f A (k + 1) = came cur f A k := by
  unfold came
  rw [List.drop_eq_nil_of_le (by simp; omega), List.drop_eq_nil_of_le (by simp; omega)]
theorem came_all (cur f : Int) (A : List V4) : came cur f A A.length = A.drop (cur - f).toNat := by unfold came; rw [List.take_length]
theorem came_pre (cur f : Int) (A : List V4) (k : Nat) : came cur f A k <+: A.drop (cur - f).toNat := by
  unfold came
  rw [List.drop_take]
  exact List.take_prefix _ _
theorem came_len {cur f : Int} {A : List V4} {k : Nat} (h : k < A.length) : (came cur f A k).length < A.length := by
  unfold came; simp; omega

/-- values in memory, in a block below n. -/
def Lo (n : Nat) (W : World) (s : Option Addr) (L : List V4) : Prop :=
  L = [] ∨ ∃ b o, s = some ⟨b, o, none⟩ ∧ b < n ∧ ∀ j a, L[j]? = some a → W.cell? ⟨b, o + j * 4, none⟩ = some (.int .i64 a.1) ∧ W.cell? ⟨b, o + j * 4 + 1, none⟩ = some (.int .i64 a.2.1) ∧ W.cell? ⟨b, o + j * 4 + 2, none⟩ = some (.float .f64 a.2.2.1) ∧ W.cell? ⟨b, o + j * 4 + 3, none⟩ = some (.float .f64 a.2.2.2)
theorem Lo.below {n : Nat} {W W' : World} {s : Option Addr} {L : List V4} (h : Lo n W s L) (hb : Below n W W') : Lo n W' s L := by
  rcases h with h | ⟨b, o, e, h1, h2⟩
  · exact Or.inl h
  · refine Or.inr ⟨b, o, e, h1, fun j a ha => ?_⟩
    obtain ⟨q1, q2, q3, q4⟩ := h2 j a ha
    exact ⟨(hb.cell (p := ⟨b, _, none⟩) h1).trans q1, (hb.cell (p := ⟨b, _, none⟩) h1).trans q2, (hb.cell (p := ⟨b, _, none⟩) h1).trans q3, (hb.cell (p := ⟨b, _, none⟩) h1).trans q4⟩
theorem Lo.of {w : World} {B : Nat} {s : Option Addr} {L : List V4} (h : Els 4 cVal w B s L) : Lo w.heap.size w s L := by
  by_cases h0 : L = []
  · exact Or.inl h0
  · rcases h with h | ⟨b, o, e, h1, h2, h3⟩
    · exact Or.inl h
    · refine Or.inr ⟨b, o, e, h2, fun j a ha => ?_⟩
      obtain ⟨cs, e1, e2, e3, e4⟩ := h3 j a ha
      subst e3
      exact ⟨e2 0 _ rfl, e2 1 _ rfl, e2 2 _ rfl, e2 3 _ rfl⟩
theorem Lo.at {n : Nat} {W : World} {s : Option Addr} {L : List V4} (h : Lo n W s L) {j : Nat} {a : V4} (ha : L[j]? = some a) : ∃ b o, s = some ⟨b, o, none⟩ ∧ b < n ∧ W.cell? ⟨b, o + j * 4, none⟩ = some (.int .i64 a.1) ∧ W.cell? ⟨b, o + j * 4 + 1, none⟩ = some (.int .i64 a.2.1) ∧ W.cell? ⟨b, o + j * 4 + 2, none⟩ = some (.float .f64 a.2.2.1) ∧ W.cell? ⟨b, o + j * 4 + 3, none⟩ = some (.float .f64 a.2.2.2) := by
  rcases h with rfl | ⟨b, o, e, h1, h2⟩
  · simp at ha
  · exact ⟨b, o, e, h1, h2 j a ha⟩

/-- what a round keeps: all below n, and of the other cells whatever is no value and no list's box. -/
def Kq (n : Nat) (W W' : World) : Prop := Below n W W' ∧ ∀ (k : Nat) (c : Array Value) (t : TypeId), W.heap[k]? = some (Obj.cells c t (0, 0)) → ¬ t = 64 → ¬ (t = 24 ∧ c.size = 1) → W'.heap[k]? = some (Obj.cells c t (0, 0))
theorem Kq.refl (n : Nat) (W : World) : Kq n W W := ⟨Below.refl _ _, fun _ _ _ h _ _ => h⟩
theorem Kq.trans {n : Nat} {A B C : World} (h : Kq n A B) (g : Kq n B C) : Kq n A C := ⟨h.1.trans g.1, fun k c t e1 e2 e3 => g.2 k c t (h.2 k c t e1 e2 e3) e2 e3⟩
theorem Kq.of {n : Nat} {A B : World} (h : Below A.heap.size A B) (hn : n ≤ A.heap.size) : Kq n A B := ⟨h.mono hn, fun k c t e1 _ _ => (h.block k (Array.getElem?_eq_some_iff.1 e1).1).trans e1⟩
theorem Kq.blk {n : Nat} {A B : World} (h : Kq n A B) {k : Nat} {c : Array Value} {t : TypeId} (hb : Blk A k c t) (h1 : ¬ t = 64) (h2 : ¬ (t = 24 ∧ c.size = 1)) : Blk B k c t := h.2 k c t hb h1 h2
theorem kq_b {n : Nat} {w : World} (hn : n ≤ w.heap.size) : ∀ (W : World) (l : Nat) (o o' : Obj), w.heap.size ≤ l → W.heap[l]? = some o → o.isCells = false → o.isWalk = false → Kq n W (W.putObj l o') := by
  intro W l o o' hl ho hc hw
  refine ⟨belowK_b hn W l o o' hl ho hc hw, fun k c t e1 e2 e3 => ?_⟩
  have hne : ¬ k = l := by
    intro e
    subst e
    rw [e1] at ho
    cases ho
    cases hc
  have := (grownBy_putObj' W l o').block k (Array.getElem?_eq_some_iff.1 e1).1 (by simpa using hne)
  exact this.trans e1
theorem abides_alloc {J : List V4 → World → Prop} {B : Nat} (hJ : AbidesFrom B J) {s : List V4} {W : World} (h : J s W) (o : Obj) : J s (W.alloc o) :=
  hJ s W _ none h (grown_of_below (bl_alloc (Below.refl _ _) o)) (fun r e => by cases e)

abbrev vAgg (x : V4) : Value := .agg #[.int .i64 x.1, .int .i64 x.2.1, .float .f64 x.2.2.1, .float .f64 x.2.2.2]

/-- where a list's events begin among all. -/
def posB (O N : List V4) (q : Nat) : Nat := if q = 0 then 0 else if q = 1 then O.length else (O ++ N).length
theorem two_lists {n₀ p q : Nat} {W V : World} {s1 s2 : Option Addr} {c1 c2 : Nat} {O N : List V4} (hq : q < 2) (hp : Blk V p #[.slice s1 O.length c1, .slice s2 N.length c2] 24) (h1 : Lo n₀ W s1 O) (h2 : Lo n₀ W s2 N) (l1 : O.length ≤ 1048576) (l2 : N.length ≤ 1048576) :
    ∃ s c L, V.cell? ⟨p, q, none⟩ = some (.slice s (List.length (α := V4) L) c) ∧ Lo n₀ W s L ∧ (∀ j a, L[j]? = some a → (O ++ N)[posB O N q + j]? = some a) ∧ posB O N (q + 1) = posB O N q + L.length ∧ L.length ≤ 1048576 := by
  match q, hq with
  | 0, _ =>
    refine ⟨s1, c1, O, hp.cell 0, h1, fun j a ha => ?_, by simp [posB], l1⟩
    have hj : j < O.length := (List.getElem?_eq_some_iff.1 ha).1
    simp only [posB, if_true]
    rw [Nat.zero_add, List.getElem?_append_left hj]; exact ha
  | 1, _ =>
    refine ⟨s2, c2, N, hp.cell 1, h2, fun j a ha => ?_, by simp [posB], l2⟩
    show (O ++ N)[O.length + j]? = some a
    rw [List.getElem?_append_right (by omega), show O.length + j - O.length = j by omega]; exact ha
theorem posB_le {O N : List V4} {q : Nat} (l1 : O.length ≤ 1048576) (l2 : N.length ≤ 1048576) : posB O N q ≤ 2097152 := by
  unfold posB; split
  · omega
  · split
    · omega
    · simp; omega

set_option maxRecDepth 100000 in
set_option maxHeartbeats 4000000 in
theorem unread1_in (F : Fence) (n : Nat) (hf : F.fn 49) (hro : F.round = none) (hn : 1 ≤ n) (l Bs Bc n₀ B0 : Nat) (f cur : Int) (s1 s2 : Option Addr) (c1 c2 : Nat) (O N : List V4) (J Jx : List V4 → World → Prop) (hJ : AbidesFrom B0 J)
    (hY : ∀ pre x W, J pre W → pre.length < (O ++ N).length → YieldAt F (n - 1) Try.prog l #[vAgg x] W fun e W' =>
      (e = .returned (.bool true) ∧ J (pre ++ [x]) W' ∧ Kq n₀ W W') ∨ (e = .returned (.bool false) ∧ Jx (pre ++ [x]) W'))
    (W : World) (hn0 : n₀ ≤ W.heap.size) (hs : Blk W Bs #[.int .i64 f, .slice s1 O.length c1, .slice s2 N.length c2] 26) (hc : Blk W Bc #[.int .i64 cur] 3) (h1 : Lo n₀ W s1 O) (h2 : Lo n₀ W s2 N) (f0 : 0 ≤ f) (f1 : f ≤ 1000000000000) (l1 : O.length ≤ 1048576) (l2 : N.length ≤ 1048576) (h0 : J [] W) :
    CallsIn F n Try.prog 49 #[.func (.yield l) #[] #[], .pointer (some ⟨Bs, 0, none⟩), .pointer (some ⟨Bc, 0, none⟩)] W fun e W' => (∃ v, e = .returned v) ∧
      ((∃ ys, ys = (O ++ N).drop (cur - f).toNat ∧ J ys W') ∨ (∃ pre, pre <+: (O ++ N).drop (cur - f).toNat ∧ Jx pre W')) := by
  refine callsIn_of_wp Try.func49 rfl hf ?_ hro
  simp only [Try.ntmps49, List.size_toArray, List.length_cons, List.length_nil, Nat.reduceAdd, Nat.reduceSub, Array.replicate_succ, Array.replicate_zero, List.push_toArray, List.append_toArray, List.nil_append, List.cons_append]
  obtain ⟨x0, x1, x2, x3⟩ := hs.three'
  gi_wp2
  have hpr := Blk.new W #[.slice s1 O.length c1, .slice s2 N.length c2] 24
  have LW : Below W.heap.size W (W.alloc (.cells #[.slice s1 O.length c1, .slice s2 N.length c2] 24)) := bl_alloc (Below.refl _ _) _
  have hc1 := hc.later LW
  have hJ1 := abides_alloc hJ h0 (.cells #[.slice s1 O.length c1, .slice s2 N.length c2] 24)
  have g1 := h1.below (LW.mono hn0)
  have g2 := h2.below (LW.mono hn0)
  have hn1 := Nat.le_trans hn0 LW.size
  clear x0 x1 x2 x3 hs hc h0 h1 h2
  generalize hV : W.alloc (.cells #[.slice s1 O.length c1, .slice s2 N.length c2] 24) = V at *
  generalize hP : W.heap.size = p at *
  clear hV LW hn0 hP
  gi_loopw [4, 17] (fun num i wr => ∃ q : Nat, q ≤ 2 ∧ i = .int .i64 q ∧ num = .int .i64 (f + (posB O N q : Int)) ∧ J (came cur f (O ++ N) (posB O N q)) wr ∧ Kq n₀ V wr) (fun _ i _ => 2 - (intOf i).toNat)
  case atStart => exact ⟨0, by omega, rfl, by simp [posB], by rw [show posB O N 0 = 0 from rfl, came_zero]; exact hJ1, Kq.refl _ _⟩
  case round =>
    obtain ⟨q, hq, rfl, rfl, hJs, hK⟩ := hrel
    clear hJ1
    by_cases hlt : q < 2
    · have hprr := hK.blk hpr (by decide) (fun e => by cases e.2)
      have hcr := hK.blk hc1 (by decide) (fun e => by cases e.1)
      obtain ⟨s, c, L, hcell, hL, hA, hpos, hll⟩ := two_lists (O := O) (N := N) hlt hprr g1 g2 l1 l2
      have hps := posB_le (O := O) (N := N) (q := q) l1 l2
      have HA : Hid (∀ j a, L[j]? = some a → (O ++ N)[posB O N q + j]? = some a) := hA
      have HP : Hid (posB O N (q + 1) = posB O N q + L.length) := hpos
      clear hA hpos
      have hq2 : (q : Int) < 2 := by omega
      generalize hB : posB O N q = base at *
      gi_wp2
      clear hcell hprr
      gi_loopw [4, 23] (fun num i wr => ∃ j : Nat, j ≤ L.length ∧ i = .int .i64 j ∧ num = .int .i64 (f + ((base + j : Nat) : Int)) ∧ J (came cur f (O ++ N) (base + j)) wr ∧ Kq n₀ V wr) (fun _ i _ => L.length - (intOf i).toNat)
      case atStart => exact ⟨0, by omega, rfl, by simp, hJs, hK⟩
      case round =>
        clear hcr hJs hK
        obtain ⟨j, hj, rfl, rfl, hJs, hK⟩ := hrel
        have hcr : wr.cell? ⟨Bc, 0, none⟩ = some (.int .i64 cur) := (hK.blk hc1 (by decide) (fun e => by cases e.1)).cell 0
        by_cases hjl : j < L.length
        · obtain ⟨x, hx⟩ := get_some hjl
          obtain ⟨b, o, rfl, hb, e1, e2, e3, e4⟩ := (hL.below hK.1).at hx
          have hAx := HA.out j x hx
          have hlen : base + j < (O ++ N).length := (List.getElem?_eq_some_iff.1 hAx).1
          have hJa := abides_alloc hJ hJs (.cells #[.int .i64 x.1, .int .i64 x.2.1, .float .f64 x.2.2.1, .float .f64 x.2.2.2] 64)
          have hKa : Kq n₀ V (wr.alloc (.cells #[.int .i64 x.1, .int .i64 x.2.1, .float .f64 x.2.2.1, .float .f64 x.2.2.2] 64)) := hK.trans (Kq.of (bl_alloc (Below.refl _ _) _) (Nat.le_trans hn1 hK.1.size))
          have hca := (alloc_old wr (.cells #[.int .i64 x.1, .int .i64 x.2.1, .float .f64 x.2.2.1, .float .f64 x.2.2.2] 64) Bc 0 (by rw [hcr]; rfl)).trans hcr
          have tw : IntKind.i64.wrap (f + ((base + j : Nat) : Int) + 1) = f + ((base + j + 1 : Nat) : Int) := by rw [IntKind.wrap_i64]; omega
          have jw : (j : Int) < (L.length : Int) := by omega
          by_cases hcu : cur ≤ f + ((base + j : Nat) : Int)
          · obtain ⟨fn, tmps, assign, body, hy, hR⟩ := hY (came cur f (O ++ N) (base + j)) x _ hJa (came_len hlen)
            dsimp only [vAgg] at hy
            rw [← came_in hAx hcu] at hR
            clear hY
            gi_wp2
            refine hR.mono ?_
            rintro e W3 (⟨rfl, hJ3, hk3⟩ | ⟨rfl, hJx3⟩)
            · gi_wp2
              go_roundw
              case rel => exact ⟨j + 1, by omega, by go_num, by congr 1; push_cast; omega, hJ3, hKa.trans hk3⟩
              case measure => simp [intOf]; omega
            · gi_wp2
              refine bodyPost_ret (results_none rfl _ _ _) rfl ?_
              exact ⟨⟨_, rfl⟩, .inr ⟨_, came_pre cur f (O ++ N) (base + j + 1), hJx3⟩⟩
          · have hcu' : ¬ cur ≤ f + ((base + j : Nat) : Int) := hcu
            rw [← came_out hcu] at hJa
            gi_wp2
            refine ⟨fun _ h => (by cases h), ?_⟩
            gi_wp2
            go_roundw
            case rel => exact ⟨j + 1, by omega, by go_num, by congr 1; push_cast; omega, hJa, hKa⟩
            case measure => simp [intOf]; omega
        · obtain rfl : j = L.length := by omega
          rw [← HP.out] at hJs
          gi_wp2
          go_roundw
          case rel => exact ⟨q + 1, by omega, by go_num, by rw [HP.out], hJs, hK⟩
          case measure => simp [intOf]; omega
    · obtain rfl : q = 2 := by omega
      rw [show posB O N 2 = (O ++ N).length from rfl, came_all] at hJs
      gi_wp2
      go_end0
      exact ⟨⟨_, rfl⟩, .inl ⟨_, rfl, hJs⟩⟩

set_option maxHeartbeats 1000000 in
/-- the iterator's maker: both arguments are boxed. -/
theorem unreadOf_in (F : Fence) (n : Nat) (h33 : F.fn 31) (hro : F.round = none) (A : Array Value) (cur : Int) (w : World) (hA : A.size = 3) :
    CallsIn F n Try.prog 31 #[.agg A, .int .i64 cur] w fun e w' => e = .returned (.func (.func 49) #[] #[.pointer (some ⟨w.heap.size, 0, none⟩), .pointer (some ⟨w.heap.size + 1, 0, none⟩)]) ∧ w' = (w.alloc (.cells A 26)).alloc (.cells #[.int .i64 cur] 3) := by
  obtain ⟨x0, x1, x2, rfl⟩ : ∃ x0 x1 x2, A = #[x0, x1, x2] := by
    obtain ⟨l⟩ := A
    match l, hA with
    | [a, b, c], _ => exact ⟨a, b, c, rfl⟩
  refine callsIn_of_wp Try.func31 rfl h33 ?_ hro
  simp only [Try.ntmps31, List.size_toArray, List.length_cons, List.length_nil, Nat.reduceAdd, Nat.reduceSub, Array.replicate_succ, Array.replicate_zero, List.push_toArray, List.append_toArray, List.nil_append, List.cons_append]
  gi_wp2
  go_ret
  exact ⟨rfl, rfl⟩

/-- what unreadOf hands back tells the unread events, all or a beginning of them. -/
theorem unread_stops (F : Fence) (n : Nat) (hf : F.fn 49) (hro : F.round = none) (hn : 1 ≤ n) (Bs Bc n₀ : Nat) (f cur : Int) (s1 s2 : Option Addr) (c1 c2 : Nat) (O N : List V4) (w : World) (hn₀ : n₀ ≤ w.heap.size)
    (hs : Blk w Bs #[.int .i64 f, .slice s1 O.length c1, .slice s2 N.length c2] 26) (hc : Blk w Bc #[.int .i64 cur] 3) (h1 : Lo n₀ w s1 O) (h2 : Lo n₀ w s2 N) (f0 : 0 ≤ f) (f1 : f ≤ 1000000000000) (l1 : O.length ≤ 1048576) (l2 : N.length ≤ 1048576) :
    SeqStopsK F n Try.prog 49 #[.pointer (some ⟨Bs, 0, none⟩), .pointer (some ⟨Bc, 0, none⟩)] (fun x : V4 => #[vAgg x]) (Kq n₀) (fun ys => ys = (O ++ N).drop (cur - f).toNat) (fun pre => pre <+: (O ++ N).drop (cur - f).toNat) (O ++ N).length w :=
  fun l J Jx W hW hJ _ hY h0 =>
    unread1_in F n hf hro hn l Bs Bc n₀ W.heap.size f cur s1 s2 c1 c2 O N J Jx hJ hY W (Nat.le_trans hn₀ hW.size) (hs.later hW) (hc.later hW) (h1.below (hW.mono hn₀)) (h2.below (hW.mono hn₀)) f0 f1 l1 l2 h0
end Go.Proofs.Ytpfamdpgcbpiaaa
