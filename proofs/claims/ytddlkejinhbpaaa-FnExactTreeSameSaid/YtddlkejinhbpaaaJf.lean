import Derived.Test.YtddlkejinhbpaaaJe
namespace Go.Proofs.Ytddlkejinhbpaaa
open Go.RowKit
set_option linter.unusedVariables false
set_option linter.unusedSimpArgs false

theorem boxVVd (w : World) (c d : Array Value) (t u : TypeId) : Blk ((w.alloc (.cells c t)).alloc (.cells d u)).drew w.heap.size c t ∧ Blk ((w.alloc (.cells c t)).alloc (.cells d u)).drew (w.heap.size + 1) d u ∧ Below w.heap.size w ((w.alloc (.cells c t)).alloc (.cells d u)).drew :=
  ⟨(blkTwo w c d t u).1, (blkTwo w c d t u).2.1, bl_drew (bl_alloc (bl_alloc (Below.refl _ _) _) _)⟩
theorem sTre_at {V U : Tre} {j : Nat} {a b : Nd} (hq : sl eqI V.tops U.tops = true) (ha : V.nodes[j]? = some a) (hb : U.nodes[j]? = some b) (h : sNode a b = false) : false = sTre V U := by
  have := sl_at (f := sNode) ha hb h
  simp [sTre, ← this]

set_option maxRecDepth 100000 in
set_option maxHeartbeats 4000000 in
theorem specTreeSame_any (a1 a2 b1 b2 : Option Addr) (c1 c2 d1 d2 : Nat) (V U : Tre) (B C : Nat) (w : World) (hV : InT w B a1 a2 V) (hU : InT w C b1 b2 U) (kv : kTre V) (ku : kTre U) :
    Calls Try.prog 5 #[.agg #[.slice a1 V.nodes.length c1, .slice a2 V.tops.length c2], .agg #[.slice b1 U.nodes.length d1, .slice b2 U.tops.length d2]] w fun e w' => e = .returned (.bool (sTre V U)) ∧ Below w.heap.size w w' := by
  have hal := alloc_old
  have haf := alloc_oldf
  obtain ⟨⟨v1, v2⟩, v3⟩ := kv
  obtain ⟨⟨u1, u2⟩, u3⟩ := ku
  obtain ⟨KA, KB, LX⟩ := blkTwo w #[.slice a1 V.nodes.length c1, .slice a2 V.tops.length c2] #[.slice b1 U.nodes.length d1, .slice b2 U.tops.length d2] 30 30
  obtain ⟨x0, x1, x2⟩ := KA.two
  obtain ⟨y0, y1, y2⟩ := KB.two
  by_cases hn : V.nodes.length = U.nodes.length
  · have t0 : ((V.nodes.length : Int) != (U.nodes.length : Int)) = false := by simp [hn]
    have HN : Hid (V.nodes.length = U.nodes.length) := hn
    clear hn
    go_enter Try.func5, Try.ntmps5
    go_wp2_with fail
    refine (l4Equal_any a2 b2 c2 d2 V.tops U.tops B C _ (hV.later LX).t (hU.later LX).t v3 u3).mono ?_
    rintro e w3 ⟨rfl, hw3⟩
    have L3 := bl_trans LX hw3
    have KA := KA.later hw3
    have KB := KB.later hw3
    have hI := hV.later L3
    have hJ := hU.later L3
    clear x0 x1 x2 y0 y1 y2 LX hw3 hV hU t0
    cases qt : sl eqI V.tops U.tops
    · have E0 : Hid (false = sTre V U) := by show false = sTre V U; simp [sTre, qt]
      go_wp2_with fail
      go_ret
      exact ⟨ret_bool' E0.out, L3⟩
    · go_wp2_with fail
      have HV : Hid (∀ t ∈ V.nodes, kNode t) := v2
      have HU : Hid (∀ t ∈ U.nodes, kNode t) := u2
      clear v2 u2
      go_loopw [5] (fun i wr => ∃ k : Nat, k ≤ V.nodes.length ∧ i = .int .i64 k ∧ Hid (∀ (j : Nat) a b, j < k → V.nodes[j]? = some a → U.nodes[j]? = some b → sNode a b = true) ∧ Below w3.heap.size w3 wr) (fun i _ => V.nodes.length - (intOf i).toNat)
      case atStart => exact ⟨0, Nat.zero_le _, rfl, fun j a b hj => by omega, Below.refl _ _⟩
      case round =>
        obtain ⟨k, hk, rfl, hall, hb⟩ := hrel
        obtain ⟨x0, x1, x2⟩ := (KA.later hb).two
        obtain ⟨y0, y1, y2⟩ := (KB.later hb).two
        by_cases hlt : k < V.nodes.length
        · have hltM : k < U.nodes.length := by have := HN.out; omega
          obtain ⟨a, ha⟩ := get_some hlt
          obtain ⟨b, hb0⟩ := get_some hltM
          obtain ⟨p1, o1, rfl, _, hp1, s1, e1, z0, z1, z2, z3, h1⟩ := eNode_cells (hI.n.later cNode_keeps hb) ha
          obtain ⟨p2, o2, rfl, _, hp2, t1, f1, v0, v1, v2, v3, g1⟩ := eNode_cells (hJ.n.later cNode_keeps hb) hb0
          have ka := HV.out _ (List.mem_of_getElem? ha)
          have kb := HU.out _ (List.mem_of_getElem? hb0)
          have HA : Hid (V.nodes[k]? = some a) := ha
          have HB : Hid (U.nodes[k]? = some b) := hb0
          clear ha hb0
          go_wp2_with fail
          go_region
          · obtain ⟨KX, KY, LB⟩ := boxVVd wr #[.int .i64 a.kind, .string a.text, .int .i64 a.num, .slice s1 a.kids.length e1] #[.int .i64 b.kind, .string b.text, .int .i64 b.num, .slice t1 b.kids.length f1] 37 37
            have A1 : Hid (Els 1 cInt _ B s1 a.kids) := h1.later cInt_keeps LB
            have B1 : Hid (Els 1 cInt _ C t1 b.kids) := g1.later cInt_keeps LB
            generalize hX2 : ((wr.alloc (.cells #[.int .i64 a.kind, .string a.text, .int .i64 a.num, .slice s1 a.kids.length e1] 37)).alloc (.cells #[.int .i64 b.kind, .string b.text, .int .i64 b.num, .slice t1 b.kids.length f1] 37)).drew = X2 at KX KY LB A1 B1 ⊢
            clear hal haf hX2 h1 g1 z0 z1 z2 z3 v0 v1 v2 v3 x0 x1 x2 y0 y1 y2
            have LZ := bl_trans hb LB
            generalize hn9 : wr.heap.size = n9 at KX KY ⊢
            clear hn9 LB
            have KXH : Hid (Blk X2 n9 #[.int .i64 a.kind, .string a.text, .int .i64 a.num, .slice s1 a.kids.length e1] 37) := KX
            have KYH : Hid (Blk X2 (n9 + 1) #[.int .i64 b.kind, .string b.text, .int .i64 b.num, .slice t1 b.kids.length f1] 37) := KY
            obtain ⟨m0, m1, m2, m3, m4⟩ := KX.four'
            obtain ⟨n0, n1, n2, n3, n4⟩ := KY.four'
            clear KX KY
            cases r1 : (a.kind == b.kind)
            · have q1 : (a.kind != b.kind) = true := by rw [bne, r1]; rfl
              have E0 : Hid (false = sTre V U) := sTre_at qt HA.out HB.out (by simp [sNode, r1])
              clear r1
              go_wp2_with fail
              go_ret
              exact ⟨ret_bool' E0.out, bl_trans L3 LZ⟩
            have q1 : (a.kind != b.kind) = false := by rw [bne, r1]; rfl
            cases r2 : (a.text.toList == b.text.toList)
            · have E0 : Hid (false = sTre V U) := sTre_at qt HA.out HB.out (by simp [sNode, r2])
              clear r1
              go_wp2_with fail
              go_ret
              exact ⟨ret_bool' E0.out, bl_trans L3 LZ⟩
            cases r3 : (a.num == b.num)
            · have q3 : (a.num != b.num) = true := by rw [bne, r3]; rfl
              have E0 : Hid (false = sTre V U) := sTre_at qt HA.out HB.out (by simp [sNode, r3])
              clear r1 r3
              go_wp2_with fail
              go_ret
              exact ⟨ret_bool' E0.out, bl_trans L3 LZ⟩
            have q3 : (a.num != b.num) = false := by rw [bne, r3]; rfl
            have R123 : Hid (sNode a b = sl eqI a.kids b.kids) := by show sNode a b = _; simp [sNode, r1, r2, r3]
            clear r1 r3
            go_wp2_with fail
            refine (l4Equal_any s1 t1 e1 f1 a.kids b.kids B C _ A1.out B1.out ka.2 kb.2).mono ?_
            rintro e w5 ⟨rfl, hw5⟩
            have LW := bl_trans LZ hw5
            clear m0 m1 m2 m3 m4 n0 n1 n2 n3 n4
            cases r4 : sl eqI a.kids b.kids
            · have E0 : Hid (false = sTre V U) := sTre_at qt HA.out HB.out (by rw [R123.out, r4])
              go_wp2_with fail
              go_ret
              exact ⟨ret_bool' E0.out, bl_trans L3 LW⟩
            · have hst : Hid (∀ (j : Nat) a b, j < k + 1 → V.nodes[j]? = some a → U.nodes[j]? = some b → sNode a b = true) := by
                intro j a' b' hj ha' hb'
                by_cases e : j = k
                · subst e
                  rw [HA.out] at ha'
                  rw [HB.out] at hb'
                  cases ha'
                  cases hb'
                  rw [R123.out, r4]
                · exact hall.out j a' b' (by omega) ha' hb'
              go_wp2_with fail
              go_roundw
              case rel => exact ⟨k + 1, by omega, by go_num, hst, LW⟩
              case measure => simp [intOf]; omega
          · obtain ⟨KY, KX, LB⟩ := boxVVd wr #[.int .i64 b.kind, .string b.text, .int .i64 b.num, .slice t1 b.kids.length f1] #[.int .i64 a.kind, .string a.text, .int .i64 a.num, .slice s1 a.kids.length e1] 37 37
            have A1 : Hid (Els 1 cInt _ B s1 a.kids) := h1.later cInt_keeps LB
            have B1 : Hid (Els 1 cInt _ C t1 b.kids) := g1.later cInt_keeps LB
            generalize hX2 : ((wr.alloc (.cells #[.int .i64 b.kind, .string b.text, .int .i64 b.num, .slice t1 b.kids.length f1] 37)).alloc (.cells #[.int .i64 a.kind, .string a.text, .int .i64 a.num, .slice s1 a.kids.length e1] 37)).drew = X2 at KX KY LB A1 B1 ⊢
            clear hal haf hX2 h1 g1 z0 z1 z2 z3 v0 v1 v2 v3 x0 x1 x2 y0 y1 y2
            have LZ := bl_trans hb LB
            generalize hn9 : wr.heap.size = n9 at KX KY ⊢
            clear hn9 LB
            have KXH : Hid (Blk X2 (n9 + 1) #[.int .i64 a.kind, .string a.text, .int .i64 a.num, .slice s1 a.kids.length e1] 37) := KX
            have KYH : Hid (Blk X2 n9 #[.int .i64 b.kind, .string b.text, .int .i64 b.num, .slice t1 b.kids.length f1] 37) := KY
            obtain ⟨m0, m1, m2, m3, m4⟩ := KX.four'
            obtain ⟨n0, n1, n2, n3, n4⟩ := KY.four'
            clear KX KY
            cases r1 : (a.kind == b.kind)
            · have q1 : (a.kind != b.kind) = true := by rw [bne, r1]; rfl
              have E0 : Hid (false = sTre V U) := sTre_at qt HA.out HB.out (by simp [sNode, r1])
              clear r1
              go_wp2_with fail
              go_ret
              exact ⟨ret_bool' E0.out, bl_trans L3 LZ⟩
            have q1 : (a.kind != b.kind) = false := by rw [bne, r1]; rfl
            cases r2 : (a.text.toList == b.text.toList)
            · have E0 : Hid (false = sTre V U) := sTre_at qt HA.out HB.out (by simp [sNode, r2])
              clear r1
              go_wp2_with fail
              go_ret
              exact ⟨ret_bool' E0.out, bl_trans L3 LZ⟩
            cases r3 : (a.num == b.num)
            · have q3 : (a.num != b.num) = true := by rw [bne, r3]; rfl
              have E0 : Hid (false = sTre V U) := sTre_at qt HA.out HB.out (by simp [sNode, r3])
              clear r1 r3
              go_wp2_with fail
              go_ret
              exact ⟨ret_bool' E0.out, bl_trans L3 LZ⟩
            have q3 : (a.num != b.num) = false := by rw [bne, r3]; rfl
            have R123 : Hid (sNode a b = sl eqI a.kids b.kids) := by show sNode a b = _; simp [sNode, r1, r2, r3]
            clear r1 r3
            go_wp2_with fail
            refine (l4Equal_any s1 t1 e1 f1 a.kids b.kids B C _ A1.out B1.out ka.2 kb.2).mono ?_
            rintro e w5 ⟨rfl, hw5⟩
            have LW := bl_trans LZ hw5
            clear m0 m1 m2 m3 m4 n0 n1 n2 n3 n4
            cases r4 : sl eqI a.kids b.kids
            · have E0 : Hid (false = sTre V U) := sTre_at qt HA.out HB.out (by rw [R123.out, r4])
              go_wp2_with fail
              go_ret
              exact ⟨ret_bool' E0.out, bl_trans L3 LW⟩
            · have hst : Hid (∀ (j : Nat) a b, j < k + 1 → V.nodes[j]? = some a → U.nodes[j]? = some b → sNode a b = true) := by
                intro j a' b' hj ha' hb'
                by_cases e : j = k
                · subst e
                  rw [HA.out] at ha'
                  rw [HB.out] at hb'
                  cases ha'
                  cases hb'
                  rw [R123.out, r4]
                · exact hall.out j a' b' (by omega) ha' hb'
              go_wp2_with fail
              go_roundw
              case rel => exact ⟨k + 1, by omega, by go_num, hst, LW⟩
              case measure => simp [intOf]; omega
        · have E0 : Hid (true = sTre V U) := by
            have := sl_all (f := sNode) HN.out (fun j a b hj ha hb => hall.out j a b (by omega) ha hb)
            show true = sTre V U
            simp [sTre, qt, ← this]
          go_wp2_with fail
          go_ret
          exact ⟨ret_bool' E0.out, bl_trans L3 hb⟩
  · have t0 : ((V.nodes.length : Int) != (U.nodes.length : Int)) = true := by simp; omega
    have E0 : Hid (false = sTre V U) := by
      have := sl_len (f := sNode) hn
      show false = sTre V U
      simp [sTre, ← this]
    go_enter Try.func5, Try.ntmps5
    go_wp2_with fail
    go_ret
    exact ⟨ret_bool' E0.out, LX⟩
end Go.Proofs.Ytddlkejinhbpaaa
