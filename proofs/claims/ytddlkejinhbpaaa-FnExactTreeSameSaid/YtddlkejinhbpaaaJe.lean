import Derived.Test.YtddlkejinhbpaaaJc
import Derived.Test.YtddlkejinhbpaaaTz
namespace Go.Proofs.Ytddlkejinhbpaaa
open Go.RowKit
set_option linter.unusedVariables false
set_option linter.unusedSimpArgs false

def sNode (a b : Nd) : Bool := (a.kind == b.kind) && (a.text.toList == b.text.toList) && (a.num == b.num) && sl eqI a.kids b.kids
def sTre (a b : Tre) : Bool := sl eqI a.tops b.tops && sl sNode a.nodes b.nodes

set_option maxHeartbeats 4000000 in
theorem sameNode_any (s1 t1 : Option Addr) (c1 d1 : Nat) (a b : Nd) (B C : Nat) (w : World) (h1 : Els 1 cInt w B s1 a.kids) (g1 : Els 1 cInt w C t1 b.kids) (ka : kNode a) (kb : kNode b) :
    Calls Try.prog 16 #[.agg #[.int .i64 a.kind, .string a.text, .int .i64 a.num, .slice s1 a.kids.length c1], .agg #[.int .i64 b.kind, .string b.text, .int .i64 b.num, .slice t1 b.kids.length d1]] w fun e w' => e = .returned (.bool (sNode a b)) ∧ Below w.heap.size w w' := by
  obtain ⟨KA, KB, LX⟩ := blkTwo w #[.int .i64 a.kind, .string a.text, .int .i64 a.num, .slice s1 a.kids.length c1] #[.int .i64 b.kind, .string b.text, .int .i64 b.num, .slice t1 b.kids.length d1] 37 37
  have HS : Hid (sNode a b = ((a.kind == b.kind) && (a.text.toList == b.text.toList) && (a.num == b.num) && sl eqI a.kids b.kids)) := (rfl : sNode a b = _)
  obtain ⟨x0, x1, x2, x3, x4⟩ := KA.four'
  obtain ⟨y0, y1, y2, y3, y4⟩ := KB.four'
  have h1 := h1.later cInt_keeps LX
  have g1 := g1.later cInt_keeps LX
  cases q1 : (a.kind == b.kind)
  · rw [q1] at HS
    go_enter Try.func16, Try.ntmps16
    go_wp2_with fail
    go_ret
    exact ⟨ret_bool' (by rw [HS.out]; rfl), LX⟩
  cases q2 : (a.text.toList == b.text.toList)
  · rw [q1, q2] at HS
    go_enter Try.func16, Try.ntmps16
    go_wp2_with fail
    go_ret
    exact ⟨ret_bool' (by rw [HS.out]; rfl), LX⟩
  cases q3 : (a.num == b.num)
  · rw [q1, q2, q3] at HS
    go_enter Try.func16, Try.ntmps16
    go_wp2_with fail
    go_ret
    exact ⟨ret_bool' (by rw [HS.out]; rfl), LX⟩
  rw [q1, q2, q3] at HS
  go_enter Try.func16, Try.ntmps16
  go_wp2_with fail
  refine (equalI_any s1 t1 c1 d1 a.kids b.kids B C _ h1 g1 ka.2 kb.2).mono ?_
  rintro e w1 ⟨rfl, hw1⟩
  have L1 := bl_trans LX hw1
  go_wp2_with fail
  go_ret
  exact ⟨ret_bool' (by rw [HS.out]; rfl), L1⟩

set_option maxHeartbeats 4000000 in
theorem equalFN_any (s t : Option Addr) (c d : Nat) (L M : List Nd) (B C : Nat) (w : World) (hs : Els 4 cNode w B s L) (ht : Els 4 cNode w C t M) (hl : L.length ≤ 1048576) (hl2 : M.length ≤ 1048576) (hk1 : ∀ l ∈ L, kNode l) (hk2 : ∀ l ∈ M, kNode l) :
    Calls Try.prog 15 #[.slice s L.length c, .slice t M.length d, .func (Fn.func 16) #[] #[]] w fun e w' => e = .returned (.bool (sl sNode L M)) ∧ Below w.heap.size w w' := by
  have hal := alloc_old
  have haf := alloc_oldf
  have HL1 : Hid (∀ l ∈ L, kNode l) := hk1
  have HL2 : Hid (∀ l ∈ M, kNode l) := hk2
  clear hk1 hk2
  by_cases hn : L.length = M.length
  · have t0 : ((L.length : Int) != (M.length : Int)) = false := by simp [hn]
    have HN : Hid (L.length = M.length) := hn
    clear hn
    go_enter Try.func15, Try.ntmps15
    go_wp2_with fail
    clear t0
    go_loopw [17] (fun i wr => ∃ k : Nat, k ≤ L.length ∧ i = .int .i64 k ∧ Hid (∀ (j : Nat) a b, j < k → L[j]? = some a → M[j]? = some b → sNode a b = true) ∧ Below w.heap.size w wr) (fun i _ => L.length - (intOf i).toNat)
    case atStart => exact ⟨0, Nat.zero_le _, rfl, fun j a b hj => by omega, Below.refl _ _⟩
    case round =>
      obtain ⟨k, hk, rfl, hall, hb⟩ := hrel
      by_cases hlt : k < L.length
      · have hltM : k < M.length := by have := HN.out; omega
        obtain ⟨a, ha⟩ := get_some hlt
        obtain ⟨b, hb0⟩ := get_some hltM
        obtain ⟨b1, o1, rfl, _, hpb1, s1, c1, e1, e2, e3, e4, h1⟩ := eNode_cells (hs.later cNode_keeps hb) ha
        have ka := HL1.out _ (List.mem_of_getElem? ha)
        obtain ⟨b2, o2, rfl, _, hpb2, t1, d1, f1, f2, f3, f4, g1⟩ := eNode_cells (ht.later cNode_keeps hb) hb0
        have kb := HL2.out _ (List.mem_of_getElem? hb0)
        have HA : Hid (L[k]? = some a) := ha
        have HB : Hid (M[k]? = some b) := hb0
        clear hs ht ha hb0
        obtain ⟨KA, KB, LX⟩ := blkTwo wr #[.int .i64 a.kind, .string a.text, .int .i64 a.num, .slice s1 a.kids.length c1] #[.int .i64 b.kind, .string b.text, .int .i64 b.num, .slice t1 b.kids.length d1] 37 37
        go_wp2_with fail
        have h1 := h1.later cInt_keeps LX
        have g1 := g1.later cInt_keeps LX
        generalize hX : (wr.alloc (.cells #[.int .i64 a.kind, .string a.text, .int .i64 a.num, .slice s1 a.kids.length c1] 37)).alloc (.cells #[.int .i64 b.kind, .string b.text, .int .i64 b.num, .slice t1 b.kids.length d1] 37) = X at KA KB LX h1 g1 ⊢
        clear hX
        refine (sameNode_any s1 t1 c1 d1 a b B C _ h1 g1 ka kb).mono ?_
        rintro e w2 ⟨rfl, hb2⟩
        have LZ := bl_trans (bl_trans hb LX) hb2
        clear h1 g1 hb2 LX KA KB
        cases hf : sNode a b
        · have E0 : Hid (false = sl sNode L M) := sl_at HA.out HB.out hf
          go_wp2_with fail
          go_ret
          exact ⟨ret_bool' E0.out, LZ⟩
        · have hst : Hid (∀ (j : Nat) a b, j < k + 1 → L[j]? = some a → M[j]? = some b → sNode a b = true) := by
            intro j a' b' hj ha' hb'
            by_cases e : j = k
            · subst e
              rw [HA.out] at ha'
              rw [HB.out] at hb'
              cases ha'
              cases hb'
              exact hf
            · exact hall.out j a' b' (by omega) ha' hb'
          go_wp2_with fail
          go_roundw
          case rel => exact ⟨k + 1, by omega, by go_num, hst, LZ⟩
          case measure => simp [intOf]; omega
      · have E0 : Hid (true = sl sNode L M) := sl_all HN.out (fun j a b hj ha hb => hall.out j a b (by omega) ha hb)
        go_wp2_with fail
        go_ret
        exact ⟨ret_bool' E0.out, hb⟩
  · have t0 : ((L.length : Int) != (M.length : Int)) = true := by simp; omega
    go_enter Try.func15, Try.ntmps15
    go_wp2_with fail
    go_ret
    exact ⟨ret_bool' (sl_len hn), Below.refl _ _⟩

set_option maxHeartbeats 4000000 in
theorem implTreeSame_any (a1 a2 b1 b2 : Option Addr) (c1 c2 d1 d2 : Nat) (V U : Tre) (B C : Nat) (w : World) (hV : InT w B a1 a2 V) (hU : InT w C b1 b2 U) (kv : kTre V) (ku : kTre U) :
    Calls Try.prog 7 #[.agg #[.slice a1 V.nodes.length c1, .slice a2 V.tops.length c2], .agg #[.slice b1 U.nodes.length d1, .slice b2 U.tops.length d2]] w fun e w' => e = .returned (.bool (sTre V U)) ∧ Below w.heap.size w w' := by
  obtain ⟨⟨v1, v2⟩, v3⟩ := kv
  obtain ⟨⟨u1, u2⟩, u3⟩ := ku
  obtain ⟨KA, KB, LX⟩ := blkTwo w #[.slice a1 V.nodes.length c1, .slice a2 V.tops.length c2] #[.slice b1 U.nodes.length d1, .slice b2 U.tops.length d2] 30 30
  obtain ⟨x0, x1, x2⟩ := KA.two
  obtain ⟨y0, y1, y2⟩ := KB.two
  have hV := hV.later LX
  have hU := hU.later LX
  go_enter Try.func7, Try.ntmps7
  go_wp2_with fail
  refine (equalI_any a2 b2 c2 d2 V.tops U.tops B C _ hV.t hU.t v3 u3).mono ?_
  rintro e w1 ⟨rfl, hw1⟩
  have L1 := bl_trans LX hw1
  have KA := KA.later hw1
  have KB := KB.later hw1
  have hV := hV.later hw1
  have hU := hU.later hw1
  clear x0 x1 x2 y0 y1 y2 LX hw1
  cases q : sl eqI V.tops U.tops
  · have E0 : Hid (false = sTre V U) := by show false = sTre V U; simp [sTre, q]
    go_wp2_with fail
    go_ret
    exact ⟨ret_bool' E0.out, L1⟩
  · have E0 : Hid (sl sNode V.nodes U.nodes = sTre V U) := by show _ = sTre V U; simp [sTre, q]
    obtain ⟨x0, x1, x2⟩ := KA.two
    obtain ⟨y0, y1, y2⟩ := KB.two
    go_wp2_with fail
    refine (equalFN_any a1 b1 c1 d1 V.nodes U.nodes B C _ hV.n hU.n v1 u1 v2 u2).mono ?_
    rintro e w2 ⟨rfl, hw2⟩
    have L2 := bl_trans L1 hw2
    clear L1 hw2
    go_wp2_with fail
    go_ret
    exact ⟨ret_bool' E0.out, L2⟩
end Go.Proofs.Ytddlkejinhbpaaa
