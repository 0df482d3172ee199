import Derived.Test.YtmhiddepddgfgabTi
import Derived.Deep.RegionHeld3
namespace Go.Proofs.Ytmhiddepddgfgab
open Go.RowKit
set_option linter.unusedVariables false
set_option linter.unusedSimpArgs false

set_option maxHeartbeats 4000000 in
theorem tableSame_any (s1 s2 s3 t1 t2 t3 : Option Addr) (c1 c2 c3 d1 d2 d3 : Nat) (a b : Tab) (B C : Nat) (w : World) (h1 : Els 1 cInt w B s1 a.cols) (h2 : Els 2 cEnt w B s2 a.rows) (h3 : Els 1 cVals w B s3 a.cells) (g1 : Els 1 cInt w C t1 b.cols) (g2 : Els 2 cEnt w C t2 b.rows) (g3 : Els 1 cVals w C t3 b.cells) (ka : kTab a) (kb : kTab b) :
    Calls Try.prog 73 #[.agg #[.slice s1 a.cols.length c1, .slice s2 a.rows.length c2, .slice s3 a.cells.length c3], .agg #[.slice t1 b.cols.length d1, .slice t2 b.rows.length d2, .slice t3 b.cells.length d3]] w fun e w' => e = .returned (.bool (sTab a b)) ∧ Below w.heap.size w w' := by
  have hal := alloc_old
  have haf := alloc_oldf
  obtain ⟨KA, KB, LX⟩ := boxVV w #[.slice s1 a.cols.length c1, .slice s2 a.rows.length c2, .slice s3 a.cells.length c3] #[.slice t1 b.cols.length d1, .slice t2 b.rows.length d2, .slice t3 b.cells.length d3] 100 100
  go_enter Try.func73, Try.ntmps73
  go_wp2_with fail
  generalize hX : (w.alloc (.cells #[.slice s1 a.cols.length c1, .slice s2 a.rows.length c2, .slice s3 a.cells.length c3] 100)).alloc (.cells #[.slice t1 b.cols.length d1, .slice t2 b.rows.length d2, .slice t3 b.cells.length d3] 100) = X at KA KB LX ⊢
  clear hX
  obtain ⟨x0, x1, x2, x3⟩ := KA.three'
  obtain ⟨y0, y1, y2, y3⟩ := KB.three'
  have KAH : Hid (Blk X w.heap.size #[.slice s1 a.cols.length c1, .slice s2 a.rows.length c2, .slice s3 a.cells.length c3] 100) := KA
  have KBH : Hid (Blk X (w.heap.size + 1) #[.slice t1 b.cols.length d1, .slice t2 b.rows.length d2, .slice t3 b.cells.length d3] 100) := KB
  have A1 : Hid (Els 1 cInt X B s1 a.cols) := h1.later cInt_keeps LX
  have A2 : Hid (Els 2 cEnt X B s2 a.rows) := h2.later cEnt_keeps LX
  have A3 : Hid (Els 1 cVals X B s3 a.cells) := h3.later cVals_keeps LX
  have B1 : Hid (Els 1 cInt X C t1 b.cols) := g1.later cInt_keeps LX
  have B2 : Hid (Els 2 cEnt X C t2 b.rows) := g2.later cEnt_keeps LX
  have B3 : Hid (Els 1 cVals X C t3 b.cells) := g3.later cVals_keeps LX
  clear KA KB h1 h2 h3 g1 g2 g3
  cases q1 : sl eqI a.cols b.cols
  · refine (equalI_any s1 t1 c1 d1 a.cols b.cols B C _ A1.out B1.out ka.1 kb.1).mono ?_
    rintro e w1 ⟨rfl, hw1⟩
    rw [q1]
    obtain ⟨x0, x1, x2, x3⟩ := (KAH.out.later hw1).three'
    obtain ⟨y0, y1, y2, y3⟩ := (KBH.out.later hw1).three'
    go_wp2_with fail
    go_ret
    exact ⟨ret_bool' (by simp [sTab, q1]), bl_trans LX hw1⟩
  · cases q2 : sl eqE a.rows b.rows
    · refine (equalI_any s1 t1 c1 d1 a.cols b.cols B C _ A1.out B1.out ka.1 kb.1).mono ?_
      rintro e w1 ⟨rfl, hw1⟩
      rw [q1]
      obtain ⟨x0, x1, x2, x3⟩ := (KAH.out.later hw1).three'
      obtain ⟨y0, y1, y2, y3⟩ := (KBH.out.later hw1).three'
      go_wp2_with fail
      refine (equalE_any s2 t2 c2 d2 a.rows b.rows B C _ (A2.out.later cEnt_keeps hw1) (B2.out.later cEnt_keeps hw1) ka.2.1 kb.2.1).mono ?_
      rintro e w2 ⟨rfl, hq2⟩
      rw [q2]
      have hw2 := bl_trans hw1 hq2
      obtain ⟨x0, x1, x2, x3⟩ := (KAH.out.later hw2).three'
      obtain ⟨y0, y1, y2, y3⟩ := (KBH.out.later hw2).three'
      go_wp2_with fail
      go_ret
      exact ⟨ret_bool' (by simp [sTab, q1, q2]), bl_trans LX hw2⟩
    · cases q3 : sl sVals a.cells b.cells
      · refine (equalI_any s1 t1 c1 d1 a.cols b.cols B C _ A1.out B1.out ka.1 kb.1).mono ?_
        rintro e w1 ⟨rfl, hw1⟩
        rw [q1]
        obtain ⟨x0, x1, x2, x3⟩ := (KAH.out.later hw1).three'
        obtain ⟨y0, y1, y2, y3⟩ := (KBH.out.later hw1).three'
        go_wp2_with fail
        refine (equalE_any s2 t2 c2 d2 a.rows b.rows B C _ (A2.out.later cEnt_keeps hw1) (B2.out.later cEnt_keeps hw1) ka.2.1 kb.2.1).mono ?_
        rintro e w2 ⟨rfl, hq2⟩
        rw [q2]
        have hw2 := bl_trans hw1 hq2
        obtain ⟨x0, x1, x2, x3⟩ := (KAH.out.later hw2).three'
        obtain ⟨y0, y1, y2, y3⟩ := (KBH.out.later hw2).three'
        go_wp2_with fail
        refine (equalFVS_any s3 t3 c3 d3 a.cells b.cells B C _ (A3.out.later cVals_keeps hw2) (B3.out.later cVals_keeps hw2) ka.2.2.1 kb.2.2.1 ka.2.2.2 kb.2.2.2).mono ?_
        rintro e w3 ⟨rfl, hq3⟩
        rw [q3]
        have hw3 := bl_trans hw2 hq3
        go_wp2_with fail
        go_ret
        exact ⟨ret_bool' (by simp [sTab, q1, q2, q3]), bl_trans LX hw3⟩
      · refine (equalI_any s1 t1 c1 d1 a.cols b.cols B C _ A1.out B1.out ka.1 kb.1).mono ?_
        rintro e w1 ⟨rfl, hw1⟩
        rw [q1]
        obtain ⟨x0, x1, x2, x3⟩ := (KAH.out.later hw1).three'
        obtain ⟨y0, y1, y2, y3⟩ := (KBH.out.later hw1).three'
        go_wp2_with fail
        refine (equalE_any s2 t2 c2 d2 a.rows b.rows B C _ (A2.out.later cEnt_keeps hw1) (B2.out.later cEnt_keeps hw1) ka.2.1 kb.2.1).mono ?_
        rintro e w2 ⟨rfl, hq2⟩
        rw [q2]
        have hw2 := bl_trans hw1 hq2
        obtain ⟨x0, x1, x2, x3⟩ := (KAH.out.later hw2).three'
        obtain ⟨y0, y1, y2, y3⟩ := (KBH.out.later hw2).three'
        go_wp2_with fail
        refine (equalFVS_any s3 t3 c3 d3 a.cells b.cells B C _ (A3.out.later cVals_keeps hw2) (B3.out.later cVals_keeps hw2) ka.2.2.1 kb.2.2.1 ka.2.2.2 kb.2.2.2).mono ?_
        rintro e w3 ⟨rfl, hq3⟩
        rw [q3]
        have hw3 := bl_trans hw2 hq3
        go_wp2_with fail
        go_ret
        exact ⟨ret_bool' (by simp [sTab, q1, q2, q3]), bl_trans LX hw3⟩

set_option maxHeartbeats 4000000 in
theorem equalFT_any (s t : Option Addr) (c d : Nat) (L M : List Tab) (B C : Nat) (w : World) (hs : Els 3 cTab w B s L) (ht : Els 3 cTab w C t M) (hl : L.length ≤ 1048576) (hl2 : M.length ≤ 1048576) (hk1 : ∀ l ∈ L, kTab l) (hk2 : ∀ l ∈ M, kTab l) :
    Calls Try.prog 72 #[.slice s L.length c, .slice t M.length d, .func (Fn.func 73) #[] #[]] w fun e w' => e = .returned (.bool (sl sTab L M)) ∧ Below w.heap.size w w' := by
  have hal := alloc_old
  have haf := alloc_oldf
  have HL1 : Hid (∀ l ∈ L, kTab l) := hk1
  have HL2 : Hid (∀ l ∈ M, kTab l) := hk2
  clear hk1 hk2
  by_cases hn : L.length = M.length
  · have t0 : ((L.length : Int) != (M.length : Int)) = false := by simp [hn]
    have HN : Hid (L.length = M.length) := hn
    clear hn
    go_enter Try.func72, Try.ntmps72
    go_wp2_with fail
    clear t0
    go_loopw [17] (fun i wr => ∃ k : Nat, k ≤ L.length ∧ i = .int .i64 k ∧ Hid (∀ (j : Nat) a b, j < k → L[j]? = some a → M[j]? = some b → sTab a b = true) ∧ Below w.heap.size w wr) (fun i _ => L.length - (intOf i).toNat)
    case atStart => exact ⟨0, Nat.zero_le _, rfl, fun j a b hj => by omega, Below.refl _ _⟩
    case round =>
      obtain ⟨k, hk, rfl, hall, hb⟩ := hrel
      by_cases hlt : k < L.length
      · have hltM : k < M.length := by have := HN.out; omega
        obtain ⟨a, ha⟩ := get_some hlt
        obtain ⟨b, hb0⟩ := get_some hltM
        obtain ⟨b1, o1, rfl, _, hpb1, s1, c1, s2, c2, s3, c3, e1, e2, e3, h1, h2, h3⟩ := eTab_cells (hs.later cTab_keeps hb) ha
        have ka := HL1.out _ (List.mem_of_getElem? ha)
        obtain ⟨b2, o2, rfl, _, hpb2, t1, d1, t2, d2, t3, d3, f1, f2, f3, g1, g2, g3⟩ := eTab_cells (ht.later cTab_keeps hb) hb0
        have kb := HL2.out _ (List.mem_of_getElem? hb0)
        have HA : Hid (L[k]? = some a) := ha
        have HB : Hid (M[k]? = some b) := hb0
        clear hs ht ha hb0
        cases hf : sTab a b
        · have E0 : Hid (false = sl sTab L M) := sl_at HA.out HB.out hf
          obtain ⟨KA, KB, LX⟩ := boxVV wr #[.slice s1 a.cols.length c1, .slice s2 a.rows.length c2, .slice s3 a.cells.length c3] #[.slice t1 b.cols.length d1, .slice t2 b.rows.length d2, .slice t3 b.cells.length d3] 100 100
          go_wp2_with fail
          have h1 := h1.later cInt_keeps LX
          have h2 := h2.later cEnt_keeps LX
          have h3 := h3.later cVals_keeps LX
          have g1 := g1.later cInt_keeps LX
          have g2 := g2.later cEnt_keeps LX
          have g3 := g3.later cVals_keeps LX
          generalize hX : (wr.alloc (.cells #[.slice s1 a.cols.length c1, .slice s2 a.rows.length c2, .slice s3 a.cells.length c3] 100)).alloc (.cells #[.slice t1 b.cols.length d1, .slice t2 b.rows.length d2, .slice t3 b.cells.length d3] 100) = X at KA KB LX h1 h2 h3 g1 g2 g3 ⊢
          clear hX
          refine (tableSame_any s1 s2 s3 t1 t2 t3 c1 c2 c3 d1 d2 d3 a b B C _ h1 h2 h3 g1 g2 g3 ka kb).mono ?_
          rintro e w2 ⟨rfl, hb2⟩
          rw [hf]
          have LZ := bl_trans (bl_trans hb LX) hb2
          clear h1 h2 h3 g1 g2 g3 hb2 LX
          go_wp2_with fail
          go_ret
          exact ⟨ret_bool' E0.out, LZ⟩
        · have hst : Hid (∀ (j : Nat) a b, j < k + 1 → L[j]? = some a → M[j]? = some b → sTab a b = true) := by
            intro j a' b' hj ha' hb'
            by_cases e : j = k
            · subst e
              rw [HA.out] at ha'
              rw [HB.out] at hb'
              cases ha'
              cases hb'
              exact hf
            · exact hall.out j a' b' (by omega) ha' hb'
          obtain ⟨KA, KB, LX⟩ := boxVV wr #[.slice s1 a.cols.length c1, .slice s2 a.rows.length c2, .slice s3 a.cells.length c3] #[.slice t1 b.cols.length d1, .slice t2 b.rows.length d2, .slice t3 b.cells.length d3] 100 100
          go_wp2_with fail
          have h1 := h1.later cInt_keeps LX
          have h2 := h2.later cEnt_keeps LX
          have h3 := h3.later cVals_keeps LX
          have g1 := g1.later cInt_keeps LX
          have g2 := g2.later cEnt_keeps LX
          have g3 := g3.later cVals_keeps LX
          generalize hX : (wr.alloc (.cells #[.slice s1 a.cols.length c1, .slice s2 a.rows.length c2, .slice s3 a.cells.length c3] 100)).alloc (.cells #[.slice t1 b.cols.length d1, .slice t2 b.rows.length d2, .slice t3 b.cells.length d3] 100) = X at KA KB LX h1 h2 h3 g1 g2 g3 ⊢
          clear hX
          refine (tableSame_any s1 s2 s3 t1 t2 t3 c1 c2 c3 d1 d2 d3 a b B C _ h1 h2 h3 g1 g2 g3 ka kb).mono ?_
          rintro e w2 ⟨rfl, hb2⟩
          rw [hf]
          have LZ := bl_trans (bl_trans hb LX) hb2
          clear h1 h2 h3 g1 g2 g3 hb2 LX
          go_wp2_with fail
          go_roundw
          case rel => exact ⟨k + 1, by omega, by go_num, hst, LZ⟩
          case measure => simp [intOf]; omega
      · have E0 : Hid (true = sl sTab L M) := sl_all HN.out (fun j a b hj ha hb => hall.out j a b (by omega) ha hb)
        go_wp2_with fail
        go_ret
        exact ⟨ret_bool' E0.out, hb⟩
  · have t0 : ((L.length : Int) != (M.length : Int)) = true := by simp; omega
    go_enter Try.func72, Try.ntmps72
    go_wp2_with fail
    go_ret
    exact ⟨ret_bool' (sl_len hn), Below.refl _ _⟩

set_option maxHeartbeats 4000000 in
theorem implWorldSame_any (a1 a2 a3 a4 b1 b2 b3 b4 : Option Addr) (c1 c2 c3 c4 d1 d2 d3 d4 : Nat) (V U : Wd) (B C : Nat) (w : World) (hV : InW w B a1 a2 a3 a4 V) (hU : InW w C b1 b2 b3 b4 U) (kv : kW V) (ku : kW U) :
    Calls Try.prog 30 #[.agg #[.slice a1 V.gens.length c1, .slice a2 V.free.length c2, .slice a3 V.tabs.length c3, .slice a4 V.res.length c4], .agg #[.slice b1 U.gens.length d1, .slice b2 U.free.length d2, .slice b3 U.tabs.length d3, .slice b4 U.res.length d4]] w fun e w' => e = .returned (.bool (sWd V U)) ∧ Below w.heap.size w w' := by
  have hal := alloc_old
  have haf := alloc_oldf
  obtain ⟨KA, KB, LX⟩ := boxVV w #[.slice a1 V.gens.length c1, .slice a2 V.free.length c2, .slice a3 V.tabs.length c3, .slice a4 V.res.length c4] #[.slice b1 U.gens.length d1, .slice b2 U.free.length d2, .slice b3 U.tabs.length d3, .slice b4 U.res.length d4] 52 52
  go_enter Try.func30, Try.ntmps30
  obtain ⟨x0, x1, x2, x3, x4⟩ := KA.four'
  obtain ⟨y0, y1, y2, y3, y4⟩ := KB.four'
  go_wp2_with fail
  clear x0 x1 x2 x3 x4 y0 y1 y2 y3 y4
  generalize hX : (w.alloc (.cells #[.slice a1 V.gens.length c1, .slice a2 V.free.length c2, .slice a3 V.tabs.length c3, .slice a4 V.res.length c4] 52)).alloc (.cells #[.slice b1 U.gens.length d1, .slice b2 U.free.length d2, .slice b3 U.tabs.length d3, .slice b4 U.res.length d4] 52) = X at KA KB LX ⊢
  clear hX
  have KAH : Hid (Blk X w.heap.size #[.slice a1 V.gens.length c1, .slice a2 V.free.length c2, .slice a3 V.tabs.length c3, .slice a4 V.res.length c4] 52) := KA
  have KBH : Hid (Blk X (w.heap.size + 1) #[.slice b1 U.gens.length d1, .slice b2 U.free.length d2, .slice b3 U.tabs.length d3, .slice b4 U.res.length d4] 52) := KB
  have hA : Hid (InW X B a1 a2 a3 a4 V) := hV.later LX
  have hB : Hid (InW X C b1 b2 b3 b4 U) := hU.later LX
  clear KA KB hV hU
  cases q1 : sl eqI V.gens U.gens
  · refine (equalI_any a1 b1 c1 d1 V.gens U.gens B C _ hA.out.g hB.out.g kv.1 ku.1).mono ?_
    rintro e w1 ⟨rfl, hw1⟩
    rw [q1]
    obtain ⟨x0, x1, x2, x3, x4⟩ := (KAH.out.later hw1).four'
    obtain ⟨y0, y1, y2, y3, y4⟩ := (KBH.out.later hw1).four'
    go_wp2_with fail
    go_ret
    exact ⟨ret_bool' (by simp [sWd, q1]), bl_trans LX hw1⟩
  · cases q2 : sl eqI V.free U.free
    · refine (equalI_any a1 b1 c1 d1 V.gens U.gens B C _ hA.out.g hB.out.g kv.1 ku.1).mono ?_
      rintro e w1 ⟨rfl, hw1⟩
      rw [q1]
      obtain ⟨x0, x1, x2, x3, x4⟩ := (KAH.out.later hw1).four'
      obtain ⟨y0, y1, y2, y3, y4⟩ := (KBH.out.later hw1).four'
      go_wp2_with fail
      refine (equalI_any a2 b2 c2 d2 V.free U.free B C _ (hA.out.later hw1).f (hB.out.later hw1).f kv.2.1 ku.2.1).mono ?_
      rintro e w2 ⟨rfl, hq2⟩
      rw [q2]
      have hw2 := bl_trans hw1 hq2
      obtain ⟨x0, x1, x2, x3, x4⟩ := (KAH.out.later hw2).four'
      obtain ⟨y0, y1, y2, y3, y4⟩ := (KBH.out.later hw2).four'
      go_wp2_with fail
      go_ret
      exact ⟨ret_bool' (by simp [sWd, q1, q2]), bl_trans LX hw2⟩
    · cases q3 : sl sTab V.tabs U.tabs
      · refine (equalI_any a1 b1 c1 d1 V.gens U.gens B C _ hA.out.g hB.out.g kv.1 ku.1).mono ?_
        rintro e w1 ⟨rfl, hw1⟩
        rw [q1]
        obtain ⟨x0, x1, x2, x3, x4⟩ := (KAH.out.later hw1).four'
        obtain ⟨y0, y1, y2, y3, y4⟩ := (KBH.out.later hw1).four'
        go_wp2_with fail
        refine (equalI_any a2 b2 c2 d2 V.free U.free B C _ (hA.out.later hw1).f (hB.out.later hw1).f kv.2.1 ku.2.1).mono ?_
        rintro e w2 ⟨rfl, hq2⟩
        rw [q2]
        have hw2 := bl_trans hw1 hq2
        obtain ⟨x0, x1, x2, x3, x4⟩ := (KAH.out.later hw2).four'
        obtain ⟨y0, y1, y2, y3, y4⟩ := (KBH.out.later hw2).four'
        go_wp2_with fail
        refine (equalFT_any a3 b3 c3 d3 V.tabs U.tabs B C _ (hA.out.later hw2).t (hB.out.later hw2).t kv.2.2.1.1 ku.2.2.1.1 kv.2.2.1.2 ku.2.2.1.2).mono ?_
        rintro e w3 ⟨rfl, hq3⟩
        rw [q3]
        have hw3 := bl_trans hw2 hq3
        obtain ⟨x0, x1, x2, x3, x4⟩ := (KAH.out.later hw3).four'
        obtain ⟨y0, y1, y2, y3, y4⟩ := (KBH.out.later hw3).four'
        go_wp2_with fail
        go_ret
        exact ⟨ret_bool' (by simp [sWd, q1, q2, q3]), bl_trans LX hw3⟩
      · cases q4 : sVals V.res U.res
        · refine (equalI_any a1 b1 c1 d1 V.gens U.gens B C _ hA.out.g hB.out.g kv.1 ku.1).mono ?_
          rintro e w1 ⟨rfl, hw1⟩
          rw [q1]
          obtain ⟨x0, x1, x2, x3, x4⟩ := (KAH.out.later hw1).four'
          obtain ⟨y0, y1, y2, y3, y4⟩ := (KBH.out.later hw1).four'
          go_wp2_with fail
          refine (equalI_any a2 b2 c2 d2 V.free U.free B C _ (hA.out.later hw1).f (hB.out.later hw1).f kv.2.1 ku.2.1).mono ?_
          rintro e w2 ⟨rfl, hq2⟩
          rw [q2]
          have hw2 := bl_trans hw1 hq2
          obtain ⟨x0, x1, x2, x3, x4⟩ := (KAH.out.later hw2).four'
          obtain ⟨y0, y1, y2, y3, y4⟩ := (KBH.out.later hw2).four'
          go_wp2_with fail
          refine (equalFT_any a3 b3 c3 d3 V.tabs U.tabs B C _ (hA.out.later hw2).t (hB.out.later hw2).t kv.2.2.1.1 ku.2.2.1.1 kv.2.2.1.2 ku.2.2.1.2).mono ?_
          rintro e w3 ⟨rfl, hq3⟩
          rw [q3]
          have hw3 := bl_trans hw2 hq3
          obtain ⟨x0, x1, x2, x3, x4⟩ := (KAH.out.later hw3).four'
          obtain ⟨y0, y1, y2, y3, y4⟩ := (KBH.out.later hw3).four'
          go_wp2_with fail
          refine (valsSame_any a4 b4 c4 d4 V.res U.res B C _ (hA.out.later hw3).r (hB.out.later hw3).r kv.2.2.2 ku.2.2.2).mono ?_
          rintro e w4 ⟨rfl, hq4⟩
          rw [q4]
          have hw4 := bl_trans hw3 hq4
          go_wp2_with fail
          go_ret
          exact ⟨ret_bool' (by simp [sWd, q1, q2, q3, q4]), bl_trans LX hw4⟩
        · refine (equalI_any a1 b1 c1 d1 V.gens U.gens B C _ hA.out.g hB.out.g kv.1 ku.1).mono ?_
          rintro e w1 ⟨rfl, hw1⟩
          rw [q1]
          obtain ⟨x0, x1, x2, x3, x4⟩ := (KAH.out.later hw1).four'
          obtain ⟨y0, y1, y2, y3, y4⟩ := (KBH.out.later hw1).four'
          go_wp2_with fail
          refine (equalI_any a2 b2 c2 d2 V.free U.free B C _ (hA.out.later hw1).f (hB.out.later hw1).f kv.2.1 ku.2.1).mono ?_
          rintro e w2 ⟨rfl, hq2⟩
          rw [q2]
          have hw2 := bl_trans hw1 hq2
          obtain ⟨x0, x1, x2, x3, x4⟩ := (KAH.out.later hw2).four'
          obtain ⟨y0, y1, y2, y3, y4⟩ := (KBH.out.later hw2).four'
          go_wp2_with fail
          refine (equalFT_any a3 b3 c3 d3 V.tabs U.tabs B C _ (hA.out.later hw2).t (hB.out.later hw2).t kv.2.2.1.1 ku.2.2.1.1 kv.2.2.1.2 ku.2.2.1.2).mono ?_
          rintro e w3 ⟨rfl, hq3⟩
          rw [q3]
          have hw3 := bl_trans hw2 hq3
          obtain ⟨x0, x1, x2, x3, x4⟩ := (KAH.out.later hw3).four'
          obtain ⟨y0, y1, y2, y3, y4⟩ := (KBH.out.later hw3).four'
          go_wp2_with fail
          refine (valsSame_any a4 b4 c4 d4 V.res U.res B C _ (hA.out.later hw3).r (hB.out.later hw3).r kv.2.2.2 ku.2.2.2).mono ?_
          rintro e w4 ⟨rfl, hq4⟩
          rw [q4]
          have hw4 := bl_trans hw3 hq4
          go_wp2_with fail
          go_ret
          exact ⟨ret_bool' (by simp [sWd, q1, q2, q3, q4]), bl_trans LX hw4⟩
end Go.Proofs.Ytmhiddepddgfgab
