import Derived.Test.YtmhiddepddgfgabTj
namespace Go.Proofs.Ytmhiddepddgfgab
open Go.RowKit
set_option linter.unusedVariables false
set_option linter.unusedSimpArgs false

theorem boxVVd (w : World) (c d : Array Value) (t u : TypeId) : Blk ((w.alloc (.cells c t)).alloc (.cells d u)).drew w.heap.size c t ∧ Blk ((w.alloc (.cells c t)).alloc (.cells d u)).drew (w.heap.size + 1) d u ∧ Below w.heap.size w ((w.alloc (.cells c t)).alloc (.cells d u)).drew :=
  ⟨(blk2 w c d t u).1, (blk2 w c d t u).2, bl_drew (bl_alloc (bl_alloc (Below.refl _ _) _) _)⟩
theorem sTab_cols {a b : Tab} (h : sl eqI a.cols b.cols = false) : sTab a b = false := by simp [sTab, h]
theorem sTab_rows {a b : Tab} (h : sl eqE a.rows b.rows = false) : sTab a b = false := by simp [sTab, h]
theorem sTab_cells {a b : Tab} (h : false = sl sVals a.cells b.cells) : sTab a b = false := by simp [sTab, ← h]

set_option maxRecDepth 100000 in
set_option maxHeartbeats 4000000 in
theorem specWorldSame_any (a1 a2 a3 a4 b1 b2 b3 b4 : Option Addr) (c1 c2 c3 c4 d1 d2 d3 d4 : Nat) (V U : Wd) (B C : Nat) (w : World) (hV : InW w B a1 a2 a3 a4 V) (hU : InW w C b1 b2 b3 b4 U) (kv : kW V) (ku : kW U) :
    Calls Try.prog 29 #[.agg #[.slice a1 V.gens.length c1, .slice a2 V.free.length c2, .slice a3 V.tabs.length c3, .slice a4 V.res.length c4], .agg #[.slice b1 U.gens.length d1, .slice b2 U.free.length d2, .slice b3 U.tabs.length d3, .slice b4 U.res.length d4]] w fun e w' => e = .returned (.bool (sWd V U)) ∧ Below w.heap.size w w' := by
  have hal := alloc_old
  have haf := alloc_oldf
  obtain ⟨KA, KB, LX⟩ := boxVV w #[.slice a1 V.gens.length c1, .slice a2 V.free.length c2, .slice a3 V.tabs.length c3, .slice a4 V.res.length c4] #[.slice b1 U.gens.length d1, .slice b2 U.free.length d2, .slice b3 U.tabs.length d3, .slice b4 U.res.length d4] 52 52
  go_enter Try.func29, Try.ntmps29
  obtain ⟨x0, x1, x2, x3, x4⟩ := KA.four'
  obtain ⟨y0, y1, y2, y3, y4⟩ := KB.four'
  go_wp2_with fail
  clear x0 x1 x2 x3 x4 y0 y1 y2 y3 y4
  generalize hX : (w.alloc (.cells #[.slice a1 V.gens.length c1, .slice a2 V.free.length c2, .slice a3 V.tabs.length c3, .slice a4 V.res.length c4] 52)).alloc (.cells #[.slice b1 U.gens.length d1, .slice b2 U.free.length d2, .slice b3 U.tabs.length d3, .slice b4 U.res.length d4] 52) = X at KA KB LX ⊢
  clear hX
  have KAH : Hid (Blk X w.heap.size #[.slice a1 V.gens.length c1, .slice a2 V.free.length c2, .slice a3 V.tabs.length c3, .slice a4 V.res.length c4] 52) := KA
  have KBH : Hid (Blk X (w.heap.size + 1) #[.slice b1 U.gens.length d1, .slice b2 U.free.length d2, .slice b3 U.tabs.length d3, .slice b4 U.res.length d4] 52) := KB
  have hA : Hid (InW X B a1 a2 a3 a4 V) := hV.later LX
  have hB : Hid (InW X C b1 b2 b3 b4 U) := hU.later LX
  clear KA KB hV hU
  cases q1 : sl eqI V.gens U.gens
  · refine (l4Equal_any a1 b1 c1 d1 V.gens U.gens B C _ hA.out.g hB.out.g kv.1 ku.1).mono ?_
    rintro e w1 ⟨rfl, hw1⟩
    rw [q1]
    obtain ⟨x0, x1, x2, x3, x4⟩ := (KAH.out.later hw1).four'
    obtain ⟨y0, y1, y2, y3, y4⟩ := (KBH.out.later hw1).four'
    go_wp2_with fail
    go_ret
    exact ⟨ret_bool' (by simp [sWd, q1]), bl_trans LX hw1⟩
  · cases q2 : sl eqI V.free U.free
    · refine (l4Equal_any a1 b1 c1 d1 V.gens U.gens B C _ hA.out.g hB.out.g kv.1 ku.1).mono ?_
      rintro e w1 ⟨rfl, hw1⟩
      rw [q1]
      obtain ⟨x0, x1, x2, x3, x4⟩ := (KAH.out.later hw1).four'
      obtain ⟨y0, y1, y2, y3, y4⟩ := (KBH.out.later hw1).four'
      go_wp2_with fail
      refine (l4Equal_any a2 b2 c2 d2 V.free U.free B C _ (hA.out.later hw1).f (hB.out.later hw1).f kv.2.1 ku.2.1).mono ?_
      rintro e w2 ⟨rfl, hq2⟩
      rw [q2]
      have hw2 := bl_trans hw1 hq2
      clear x0 x1 x2 x3 x4 y0 y1 y2 y3 y4
      obtain ⟨x0, x1, x2, x3, x4⟩ := (KAH.out.later hw2).four'
      obtain ⟨y0, y1, y2, y3, y4⟩ := (KBH.out.later hw2).four'
      go_wp2_with fail
      go_ret
      exact ⟨ret_bool' (by simp [sWd, q1, q2]), bl_trans LX hw2⟩
    · cases q3 : sVals V.res U.res
      · refine (l4Equal_any a1 b1 c1 d1 V.gens U.gens B C _ hA.out.g hB.out.g kv.1 ku.1).mono ?_
        rintro e w1 ⟨rfl, hw1⟩
        rw [q1]
        obtain ⟨x0, x1, x2, x3, x4⟩ := (KAH.out.later hw1).four'
        obtain ⟨y0, y1, y2, y3, y4⟩ := (KBH.out.later hw1).four'
        go_wp2_with fail
        refine (l4Equal_any a2 b2 c2 d2 V.free U.free B C _ (hA.out.later hw1).f (hB.out.later hw1).f kv.2.1 ku.2.1).mono ?_
        rintro e w2 ⟨rfl, hq2⟩
        rw [q2]
        have hw2 := bl_trans hw1 hq2
        clear x0 x1 x2 x3 x4 y0 y1 y2 y3 y4
        obtain ⟨x0, x1, x2, x3, x4⟩ := (KAH.out.later hw2).four'
        obtain ⟨y0, y1, y2, y3, y4⟩ := (KBH.out.later hw2).four'
        go_wp2_with fail
        refine (l4SameVals_any a4 b4 c4 d4 V.res U.res B C _ (hA.out.later hw2).r (hB.out.later hw2).r kv.2.2.2 ku.2.2.2).mono ?_
        rintro e w3 ⟨rfl, hq3⟩
        rw [show sl eqV V.res U.res = false from q3]
        have hw3 := bl_trans hw2 hq3
        clear x0 x1 x2 x3 x4 y0 y1 y2 y3 y4
        obtain ⟨x0, x1, x2, x3, x4⟩ := (KAH.out.later hw3).four'
        obtain ⟨y0, y1, y2, y3, y4⟩ := (KBH.out.later hw3).four'
        go_wp2_with fail
        go_ret
        exact ⟨ret_bool' (by simp [sWd, q1, q2, q3]), bl_trans LX hw3⟩
      · by_cases hn : V.tabs.length = U.tabs.length
        · have t0 : ((V.tabs.length : Int) != (U.tabs.length : Int)) = false := by simp [hn]
          have HN : Hid (V.tabs.length = U.tabs.length) := hn
          clear hn
          refine (l4Equal_any a1 b1 c1 d1 V.gens U.gens B C _ hA.out.g hB.out.g kv.1 ku.1).mono ?_
          rintro e w1 ⟨rfl, hw1⟩
          rw [q1]
          obtain ⟨x0, x1, x2, x3, x4⟩ := (KAH.out.later hw1).four'
          obtain ⟨y0, y1, y2, y3, y4⟩ := (KBH.out.later hw1).four'
          go_wp2_with fail
          refine (l4Equal_any a2 b2 c2 d2 V.free U.free B C _ (hA.out.later hw1).f (hB.out.later hw1).f kv.2.1 ku.2.1).mono ?_
          rintro e w2 ⟨rfl, hq2⟩
          rw [q2]
          have hw2 := bl_trans hw1 hq2
          clear x0 x1 x2 x3 x4 y0 y1 y2 y3 y4
          obtain ⟨x0, x1, x2, x3, x4⟩ := (KAH.out.later hw2).four'
          obtain ⟨y0, y1, y2, y3, y4⟩ := (KBH.out.later hw2).four'
          go_wp2_with fail
          refine (l4SameVals_any a4 b4 c4 d4 V.res U.res B C _ (hA.out.later hw2).r (hB.out.later hw2).r kv.2.2.2 ku.2.2.2).mono ?_
          rintro e w3 ⟨rfl, hq3⟩
          rw [show sl eqV V.res U.res = true from q3]
          have hw3 := bl_trans hw2 hq3
          clear x0 x1 x2 x3 x4 y0 y1 y2 y3 y4
          obtain ⟨x0, x1, x2, x3, x4⟩ := (KAH.out.later hw3).four'
          obtain ⟨y0, y1, y2, y3, y4⟩ := (KBH.out.later hw3).four'
          go_wp2_with fail
          clear t0 x0 x1 x2 x3 x4 y0 y1 y2 y3 y4
          have hI := hA.out.later hw3
          have hJ := hB.out.later hw3
          have KA := KAH.out.later hw3
          have KB := KBH.out.later hw3
          have L3 := bl_trans LX hw3
          clear KAH KBH hA hB LX hw1 hw2 hw3 hq2 hq3
          obtain ⟨kvl, kvt⟩ := kv.2.2.1
          obtain ⟨kul, kut⟩ := ku.2.2.1
          have HV : Hid (∀ t ∈ V.tabs, kTab t) := kvt
          have HU : Hid (∀ t ∈ U.tabs, kTab t) := kut
          clear kvt kut kv ku
          go_loopw [5] (fun i wr => ∃ k : Nat, k ≤ V.tabs.length ∧ i = .int .i64 k ∧ Hid (∀ (j : Nat) a b, j < k → V.tabs[j]? = some a → U.tabs[j]? = some b → sTab a b = true) ∧ Below w3.heap.size w3 wr) (fun i _ => V.tabs.length - (intOf i).toNat)
          case atStart => exact ⟨0, Nat.zero_le _, rfl, fun j a b hj => by omega, Below.refl _ _⟩
          case round =>
            obtain ⟨k, hk, rfl, hall, hb⟩ := hrel
            obtain ⟨x0, x1, x2, x3, x4⟩ := (KA.later hb).four'
            obtain ⟨y0, y1, y2, y3, y4⟩ := (KB.later hb).four'
            by_cases hlt : k < V.tabs.length
            · have hltM : k < U.tabs.length := by have := HN.out; omega
              obtain ⟨a, ha⟩ := get_some hlt
              obtain ⟨b, hb0⟩ := get_some hltM
              obtain ⟨p1, o1, rfl, _, hp1, s1, e1, s2, e2, s3, e3, z1, z2, z3, h1, h2, h3⟩ := eTab_cells (hI.t.later cTab_keeps hb) ha
              obtain ⟨p2, o2, rfl, _, hp2, t1, f1, t2, f2, t3, f3, v1, v2, v3, g1, g2, g3⟩ := eTab_cells (hJ.t.later cTab_keeps hb) hb0
              have ka := HV.out _ (List.mem_of_getElem? ha)
              have kb := HU.out _ (List.mem_of_getElem? hb0)
              have HA : Hid (V.tabs[k]? = some a) := ha
              have HB : Hid (U.tabs[k]? = some b) := hb0
              clear ha hb0
              go_wp2_with fail
              go_region
              · obtain ⟨KX, KY, LB⟩ := boxVVd wr #[.slice s1 a.cols.length e1, .slice s2 a.rows.length e2, .slice s3 a.cells.length e3] #[.slice t1 b.cols.length f1, .slice t2 b.rows.length f2, .slice t3 b.cells.length f3] 100 100
                have A1 : Hid (Els 1 cInt _ B s1 a.cols) := h1.later cInt_keeps LB
                have A2 : Hid (Els 2 cEnt _ B s2 a.rows) := h2.later cEnt_keeps LB
                have A3 : Hid (Els 1 cVals _ B s3 a.cells) := h3.later cVals_keeps LB
                have B1 : Hid (Els 1 cInt _ C t1 b.cols) := g1.later cInt_keeps LB
                have B2 : Hid (Els 2 cEnt _ C t2 b.rows) := g2.later cEnt_keeps LB
                have B3 : Hid (Els 1 cVals _ C t3 b.cells) := g3.later cVals_keeps LB
                generalize hX2 : ((wr.alloc (.cells #[.slice s1 a.cols.length e1, .slice s2 a.rows.length e2, .slice s3 a.cells.length e3] 100)).alloc (.cells #[.slice t1 b.cols.length f1, .slice t2 b.rows.length f2, .slice t3 b.cells.length f3] 100)).drew = X2 at KX KY LB A1 A2 A3 B1 B2 B3 ⊢
                clear hal haf hX2 h1 h2 h3 g1 g2 g3 z1 z2 z3 v1 v2 v3 x0 x1 x2 x3 x4 y0 y1 y2 y3 y4
                have LZ := bl_trans hb LB
                generalize hn9 : wr.heap.size = n9 at KX KY ⊢
                clear hn9
                have KXH : Hid (Blk X2 n9 #[.slice s1 a.cols.length e1, .slice s2 a.rows.length e2, .slice s3 a.cells.length e3] 100) := KX
                have KYH : Hid (Blk X2 (n9 + 1) #[.slice t1 b.cols.length f1, .slice t2 b.rows.length f2, .slice t3 b.cells.length f3] 100) := KY
                obtain ⟨m0, m1, m2, m3⟩ := KX.three'
                obtain ⟨n0, n1, n2, n3⟩ := KY.three'
                clear KX KY
                cases r1 : sl eqI a.cols b.cols
                · have E0 : Hid (false = sWd V U) := by
                    have := sl_at (f := sTab) HA.out HB.out (sTab_cols r1)
                    simp [Hid, sWd, ← this]
                  go_wp2_with fail
                  refine (l4Equal_any s1 t1 e1 f1 a.cols b.cols B C _ A1.out B1.out ka.1 kb.1).mono ?_
                  rintro e w5 ⟨rfl, hw5⟩
                  rw [r1]
                  clear m0 m1 m2 m3 n0 n1 n2 n3
                  obtain ⟨m0, m1, m2, m3⟩ := (KXH.out.later hw5).three'
                  obtain ⟨n0, n1, n2, n3⟩ := (KYH.out.later hw5).three'
                  go_wp2_with fail

                  go_ret
                  exact ⟨ret_bool' E0.out, bl_trans L3 (bl_trans LZ hw5)⟩
                · cases r2 : sl eqE a.rows b.rows
                  · have E0 : Hid (false = sWd V U) := by
                      have := sl_at (f := sTab) HA.out HB.out (sTab_rows r2)
                      simp [Hid, sWd, ← this]
                    go_wp2_with fail
                    refine (l4Equal_any s1 t1 e1 f1 a.cols b.cols B C _ A1.out B1.out ka.1 kb.1).mono ?_
                    rintro e w5 ⟨rfl, hw5⟩
                    rw [r1]
                    clear m0 m1 m2 m3 n0 n1 n2 n3
                    obtain ⟨m0, m1, m2, m3⟩ := (KXH.out.later hw5).three'
                    obtain ⟨n0, n1, n2, n3⟩ := (KYH.out.later hw5).three'
                    go_wp2_with fail
                    refine (l4SameEnts_any s2 t2 e2 f2 a.rows b.rows B C _ (A2.out.later cEnt_keeps hw5) (B2.out.later cEnt_keeps hw5) ka.2.1 kb.2.1).mono ?_
                    rintro e w6 ⟨rfl, hq6⟩
                    rw [r2]
                    have hw6 := bl_trans hw5 hq6
                    clear m0 m1 m2 m3 n0 n1 n2 n3
                    obtain ⟨m0, m1, m2, m3⟩ := (KXH.out.later hw6).three'
                    obtain ⟨n0, n1, n2, n3⟩ := (KYH.out.later hw6).three'
                    go_wp2_with fail

                    go_ret
                    exact ⟨ret_bool' E0.out, bl_trans L3 (bl_trans LZ hw6)⟩
                  · by_cases hc : a.cells.length = b.cells.length
                    · have u0 : ((a.cells.length : Int) != (b.cells.length : Int)) = false := by simp [hc]
                      have HC : Hid (a.cells.length = b.cells.length) := hc
                      have hac := ka.2.2.1
                      clear hc
                      go_wp2_with fail
                      refine (l4Equal_any s1 t1 e1 f1 a.cols b.cols B C _ A1.out B1.out ka.1 kb.1).mono ?_
                      rintro e w5 ⟨rfl, hw5⟩
                      rw [r1]
                      clear m0 m1 m2 m3 n0 n1 n2 n3
                      obtain ⟨m0, m1, m2, m3⟩ := (KXH.out.later hw5).three'
                      obtain ⟨n0, n1, n2, n3⟩ := (KYH.out.later hw5).three'
                      go_wp2_with fail
                      refine (l4SameEnts_any s2 t2 e2 f2 a.rows b.rows B C _ (A2.out.later cEnt_keeps hw5) (B2.out.later cEnt_keeps hw5) ka.2.1 kb.2.1).mono ?_
                      rintro e w6 ⟨rfl, hq6⟩
                      rw [r2]
                      have hw6 := bl_trans hw5 hq6
                      clear m0 m1 m2 m3 n0 n1 n2 n3
                      obtain ⟨m0, m1, m2, m3⟩ := (KXH.out.later hw6).three'
                      obtain ⟨n0, n1, n2, n3⟩ := (KYH.out.later hw6).three'
                      go_wp2_with fail

                      clear u0 m0 m1 m2 m3 n0 n1 n2 n3
                      have KX := KXH.out.later hw6
                      have KY := KYH.out.later hw6
                      have A3 := A3.out.later cVals_keeps hw6
                      have B3 := B3.out.later cVals_keeps hw6
                      have LZ := bl_trans LZ hw6
                      clear KXH KYH A1 A2 B1 B2 hw5 hw6 hq6 LB
                      go_loopw [8] (fun i w7 => ∃ m : Nat, m ≤ a.cells.length ∧ i = .int .i64 m ∧ Hid (∀ (j : Nat) x y, j < m → a.cells[j]? = some x → b.cells[j]? = some y → sVals x y = true) ∧ Below w6.heap.size w6 w7) (fun i _ => a.cells.length - (intOf i).toNat)
                      case atStart => exact ⟨0, Nat.zero_le _, rfl, fun j a b hj => by omega, Below.refl _ _⟩
                      case round =>
                        obtain ⟨m, hm, rfl, hal2, hb7⟩ := hrel
                        obtain ⟨m0, m1, m2, m3⟩ := (KX.later hb7).three'
                        obtain ⟨n0, n1, n2, n3⟩ := (KY.later hb7).three'
                        by_cases hlt2 : m < a.cells.length
                        · have hltM2 : m < b.cells.length := by have := HC.out; omega
                          obtain ⟨x, hx⟩ := get_some hlt2
                          obtain ⟨y, hy⟩ := get_some hltM2
                          obtain ⟨i1, j1, rfl, _, hi1, sx, cx, ex, fx⟩ := eVals_cells (A3.later cVals_keeps hb7) hx
                          obtain ⟨i2, j2, rfl, _, hi2, sy, cy, ey, fy⟩ := eVals_cells (B3.later cVals_keeps hb7) hy
                          have kx := ka.2.2.2 _ (List.mem_of_getElem? hx)
                          have ky := kb.2.2.2 _ (List.mem_of_getElem? hy)
                          have HX : Hid (a.cells[m]? = some x) := hx
                          have HY : Hid (b.cells[m]? = some y) := hy
                          have FX : Hid (Els 4 cVal wr B sx x) := fx
                          have FY : Hid (Els 4 cVal wr C sy y) := fy
                          clear hx hy fx fy
                          cases hf : sVals x y
                          · have E0 : Hid (false = sWd V U) := by
                              have := sl_at (f := sTab) HA.out HB.out (sTab_cells (sl_at (f := sVals) HX.out HY.out hf))
                              simp [Hid, sWd, ← this]
                            go_wp2_with fail
                            have ex' : wr.cell? ⟨i1, j1 + m, none⟩ = some (.slice sx x.length cx) := ex
                            have ey' : wr.cell? ⟨i2, j2 + m, none⟩ = some (.slice sy y.length cy) := ey
                            have KX7 := KX.later hb7
                            have KY7 := KY.later hb7
                            go_region_held3 (fun w' => w'.cell? ⟨n9, 2, none⟩ = some (.slice (some ⟨i1, j1, none⟩) a.cells.length e3) ∧ w'.cell? ⟨(n9 + 1), 2, none⟩ = some (.slice (some ⟨i2, j2, none⟩) b.cells.length f3) ∧ w'.cell? ⟨i1, j1 + m, none⟩ = some (.slice sx x.length cx) ∧ w'.cell? ⟨i2, j2 + m, none⟩ = some (.slice sy y.length cy)) (simp [m2, n2, ex, ey])
                              (first
                                | (go_at_call 69; refine (l4SameVals_any sx sy cx cy x y B C _ (FX.out.later cVal_keeps (bl_drew (Below.refl _ _))) (FY.out.later cVal_keeps (bl_drew (Below.refl _ _))) kx ky).mono ?_; rintro e w8 ⟨rfl, hq8⟩; have hw8 : Below wr.heap.size wr w8 := bl_trans (bl_drew (Below.refl _ _)) hq8; clear hq8; rw [show sl eqV x y = false from hf]; obtain ⟨m0, m1, m2, m3⟩ := (KX7.later hw8).three'; obtain ⟨n0, n1, n2, n3⟩ := (KY7.later hw8).three'; have ex := (hw8.cell (p := ⟨i1, j1 + m, none⟩) hi1).trans ex'; have ey := (hw8.cell (p := ⟨i2, j2 + m, none⟩) hi2).trans ey'))
                            all_goals
                              have LQ := bl_trans hb7 hw8
                              clear KX7 KY7 ex' ey' FX FY
                              go_wp2_with fail
                              go_ret
                              exact ⟨ret_bool' E0.out, bl_trans L3 (bl_trans LZ LQ)⟩
                          · have hst : Hid (∀ (j : Nat) x y, j < m + 1 → a.cells[j]? = some x → b.cells[j]? = some y → sVals x y = true) := by
                              intro j x' y' hj hx' hy'
                              by_cases e : j = m
                              · subst e
                                rw [HX.out] at hx'
                                rw [HY.out] at hy'
                                cases hx'
                                cases hy'
                                exact hf
                              · exact hal2.out j x' y' (by omega) hx' hy'
                            go_wp2_with fail
                            have ex' : wr.cell? ⟨i1, j1 + m, none⟩ = some (.slice sx x.length cx) := ex
                            have ey' : wr.cell? ⟨i2, j2 + m, none⟩ = some (.slice sy y.length cy) := ey
                            have KX7 := KX.later hb7
                            have KY7 := KY.later hb7
                            go_region_held3 (fun w' => w'.cell? ⟨n9, 2, none⟩ = some (.slice (some ⟨i1, j1, none⟩) a.cells.length e3) ∧ w'.cell? ⟨(n9 + 1), 2, none⟩ = some (.slice (some ⟨i2, j2, none⟩) b.cells.length f3) ∧ w'.cell? ⟨i1, j1 + m, none⟩ = some (.slice sx x.length cx) ∧ w'.cell? ⟨i2, j2 + m, none⟩ = some (.slice sy y.length cy)) (simp [m2, n2, ex, ey])
                              (first
                                | (go_at_call 69; refine (l4SameVals_any sx sy cx cy x y B C _ (FX.out.later cVal_keeps (bl_drew (Below.refl _ _))) (FY.out.later cVal_keeps (bl_drew (Below.refl _ _))) kx ky).mono ?_; rintro e w8 ⟨rfl, hq8⟩; have hw8 : Below wr.heap.size wr w8 := bl_trans (bl_drew (Below.refl _ _)) hq8; clear hq8; rw [show sl eqV x y = true from hf]; obtain ⟨m0, m1, m2, m3⟩ := (KX7.later hw8).three'; obtain ⟨n0, n1, n2, n3⟩ := (KY7.later hw8).three'; have ex := (hw8.cell (p := ⟨i1, j1 + m, none⟩) hi1).trans ex'; have ey := (hw8.cell (p := ⟨i2, j2 + m, none⟩) hi2).trans ey'))
                            all_goals
                              have LQ := bl_trans hb7 hw8
                              clear KX7 KY7 ex' ey' FX FY
                              go_wp2_with fail
                              go_roundw
                              case rel => exact ⟨m + 1, by omega, by go_num, hst, LQ⟩
                              case measure => simp [intOf]; omega
                        · have hst : Hid (∀ (j : Nat) a b, j < k + 1 → V.tabs[j]? = some a → U.tabs[j]? = some b → sTab a b = true) := by
                            intro j a' b' hj ha' hb'
                            by_cases e : j = k
                            · subst e
                              rw [HA.out] at ha'
                              rw [HB.out] at hb'
                              cases ha'
                              cases hb'
                              have := sl_all (f := sVals) HC.out (fun j x y hj hx hy => hal2.out j x y (by omega) hx hy)
                              have r3 := this.symm
                              clear this
                              unfold sTab
                              rw [r1, r2, r3]
                              rfl
                            · exact hall.out j a' b' (by omega) ha' hb'
                          have LQ := bl_trans LZ hb7
                          go_wp2_with fail
                          go_roundw
                          case rel => exact ⟨k + 1, by omega, by go_num, hst, LQ⟩
                          case measure => simp [intOf]; omega
                    · have u0 : ((a.cells.length : Int) != (b.cells.length : Int)) = true := by simp; omega
                      have E0 : Hid (false = sWd V U) := by
                        have := sl_at (f := sTab) HA.out HB.out (sTab_cells (sl_len hc))
                        simp [Hid, sWd, ← this]
                      go_wp2_with fail
                      refine (l4Equal_any s1 t1 e1 f1 a.cols b.cols B C _ A1.out B1.out ka.1 kb.1).mono ?_
                      rintro e w5 ⟨rfl, hw5⟩
                      rw [r1]
                      clear m0 m1 m2 m3 n0 n1 n2 n3
                      obtain ⟨m0, m1, m2, m3⟩ := (KXH.out.later hw5).three'
                      obtain ⟨n0, n1, n2, n3⟩ := (KYH.out.later hw5).three'
                      go_wp2_with fail
                      refine (l4SameEnts_any s2 t2 e2 f2 a.rows b.rows B C _ (A2.out.later cEnt_keeps hw5) (B2.out.later cEnt_keeps hw5) ka.2.1 kb.2.1).mono ?_
                      rintro e w6 ⟨rfl, hq6⟩
                      rw [r2]
                      have hw6 := bl_trans hw5 hq6
                      clear m0 m1 m2 m3 n0 n1 n2 n3
                      obtain ⟨m0, m1, m2, m3⟩ := (KXH.out.later hw6).three'
                      obtain ⟨n0, n1, n2, n3⟩ := (KYH.out.later hw6).three'
                      go_wp2_with fail

                      go_ret
                      exact ⟨ret_bool' E0.out, bl_trans L3 (bl_trans LZ hw6)⟩

              · obtain ⟨KY, KX, LB⟩ := boxVVd wr #[.slice t1 b.cols.length f1, .slice t2 b.rows.length f2, .slice t3 b.cells.length f3] #[.slice s1 a.cols.length e1, .slice s2 a.rows.length e2, .slice s3 a.cells.length e3] 100 100
                have A1 : Hid (Els 1 cInt _ B s1 a.cols) := h1.later cInt_keeps LB
                have A2 : Hid (Els 2 cEnt _ B s2 a.rows) := h2.later cEnt_keeps LB
                have A3 : Hid (Els 1 cVals _ B s3 a.cells) := h3.later cVals_keeps LB
                have B1 : Hid (Els 1 cInt _ C t1 b.cols) := g1.later cInt_keeps LB
                have B2 : Hid (Els 2 cEnt _ C t2 b.rows) := g2.later cEnt_keeps LB
                have B3 : Hid (Els 1 cVals _ C t3 b.cells) := g3.later cVals_keeps LB
                generalize hX2 : ((wr.alloc (.cells #[.slice t1 b.cols.length f1, .slice t2 b.rows.length f2, .slice t3 b.cells.length f3] 100)).alloc (.cells #[.slice s1 a.cols.length e1, .slice s2 a.rows.length e2, .slice s3 a.cells.length e3] 100)).drew = X2 at KX KY LB A1 A2 A3 B1 B2 B3 ⊢
                clear hal haf hX2 h1 h2 h3 g1 g2 g3 z1 z2 z3 v1 v2 v3 x0 x1 x2 x3 x4 y0 y1 y2 y3 y4
                have LZ := bl_trans hb LB
                generalize hn9 : wr.heap.size = n9 at KX KY ⊢
                clear hn9
                have KXH : Hid (Blk X2 (n9 + 1) #[.slice s1 a.cols.length e1, .slice s2 a.rows.length e2, .slice s3 a.cells.length e3] 100) := KX
                have KYH : Hid (Blk X2 n9 #[.slice t1 b.cols.length f1, .slice t2 b.rows.length f2, .slice t3 b.cells.length f3] 100) := KY
                obtain ⟨m0, m1, m2, m3⟩ := KX.three'
                obtain ⟨n0, n1, n2, n3⟩ := KY.three'
                clear KX KY
                cases r1 : sl eqI a.cols b.cols
                · have E0 : Hid (false = sWd V U) := by
                    have := sl_at (f := sTab) HA.out HB.out (sTab_cols r1)
                    simp [Hid, sWd, ← this]
                  go_wp2_with fail
                  refine (l4Equal_any s1 t1 e1 f1 a.cols b.cols B C _ A1.out B1.out ka.1 kb.1).mono ?_
                  rintro e w5 ⟨rfl, hw5⟩
                  rw [r1]
                  clear m0 m1 m2 m3 n0 n1 n2 n3
                  obtain ⟨m0, m1, m2, m3⟩ := (KXH.out.later hw5).three'
                  obtain ⟨n0, n1, n2, n3⟩ := (KYH.out.later hw5).three'
                  go_wp2_with fail

                  go_ret
                  exact ⟨ret_bool' E0.out, bl_trans L3 (bl_trans LZ hw5)⟩
                · cases r2 : sl eqE a.rows b.rows
                  · have E0 : Hid (false = sWd V U) := by
                      have := sl_at (f := sTab) HA.out HB.out (sTab_rows r2)
                      simp [Hid, sWd, ← this]
                    go_wp2_with fail
                    refine (l4Equal_any s1 t1 e1 f1 a.cols b.cols B C _ A1.out B1.out ka.1 kb.1).mono ?_
                    rintro e w5 ⟨rfl, hw5⟩
                    rw [r1]
                    clear m0 m1 m2 m3 n0 n1 n2 n3
                    obtain ⟨m0, m1, m2, m3⟩ := (KXH.out.later hw5).three'
                    obtain ⟨n0, n1, n2, n3⟩ := (KYH.out.later hw5).three'
                    go_wp2_with fail
                    refine (l4SameEnts_any s2 t2 e2 f2 a.rows b.rows B C _ (A2.out.later cEnt_keeps hw5) (B2.out.later cEnt_keeps hw5) ka.2.1 kb.2.1).mono ?_
                    rintro e w6 ⟨rfl, hq6⟩
                    rw [r2]
                    have hw6 := bl_trans hw5 hq6
                    clear m0 m1 m2 m3 n0 n1 n2 n3
                    obtain ⟨m0, m1, m2, m3⟩ := (KXH.out.later hw6).three'
                    obtain ⟨n0, n1, n2, n3⟩ := (KYH.out.later hw6).three'
                    go_wp2_with fail

                    go_ret
                    exact ⟨ret_bool' E0.out, bl_trans L3 (bl_trans LZ hw6)⟩
                  · by_cases hc : a.cells.length = b.cells.length
                    · have u0 : ((a.cells.length : Int) != (b.cells.length : Int)) = false := by simp [hc]
                      have HC : Hid (a.cells.length = b.cells.length) := hc
                      have hac := ka.2.2.1
                      clear hc
                      go_wp2_with fail
                      refine (l4Equal_any s1 t1 e1 f1 a.cols b.cols B C _ A1.out B1.out ka.1 kb.1).mono ?_
                      rintro e w5 ⟨rfl, hw5⟩
                      rw [r1]
                      clear m0 m1 m2 m3 n0 n1 n2 n3
                      obtain ⟨m0, m1, m2, m3⟩ := (KXH.out.later hw5).three'
                      obtain ⟨n0, n1, n2, n3⟩ := (KYH.out.later hw5).three'
                      go_wp2_with fail
                      refine (l4SameEnts_any s2 t2 e2 f2 a.rows b.rows B C _ (A2.out.later cEnt_keeps hw5) (B2.out.later cEnt_keeps hw5) ka.2.1 kb.2.1).mono ?_
                      rintro e w6 ⟨rfl, hq6⟩
                      rw [r2]
                      have hw6 := bl_trans hw5 hq6
                      clear m0 m1 m2 m3 n0 n1 n2 n3
                      obtain ⟨m0, m1, m2, m3⟩ := (KXH.out.later hw6).three'
                      obtain ⟨n0, n1, n2, n3⟩ := (KYH.out.later hw6).three'
                      go_wp2_with fail

                      clear u0 m0 m1 m2 m3 n0 n1 n2 n3
                      have KX := KXH.out.later hw6
                      have KY := KYH.out.later hw6
                      have A3 := A3.out.later cVals_keeps hw6
                      have B3 := B3.out.later cVals_keeps hw6
                      have LZ := bl_trans LZ hw6
                      clear KXH KYH A1 A2 B1 B2 hw5 hw6 hq6 LB
                      go_loopw [8] (fun i w7 => ∃ m : Nat, m ≤ a.cells.length ∧ i = .int .i64 m ∧ Hid (∀ (j : Nat) x y, j < m → a.cells[j]? = some x → b.cells[j]? = some y → sVals x y = true) ∧ Below w6.heap.size w6 w7) (fun i _ => a.cells.length - (intOf i).toNat)
                      case atStart => exact ⟨0, Nat.zero_le _, rfl, fun j a b hj => by omega, Below.refl _ _⟩
                      case round =>
                        obtain ⟨m, hm, rfl, hal2, hb7⟩ := hrel
                        obtain ⟨m0, m1, m2, m3⟩ := (KX.later hb7).three'
                        obtain ⟨n0, n1, n2, n3⟩ := (KY.later hb7).three'
                        by_cases hlt2 : m < a.cells.length
                        · have hltM2 : m < b.cells.length := by have := HC.out; omega
                          obtain ⟨x, hx⟩ := get_some hlt2
                          obtain ⟨y, hy⟩ := get_some hltM2
                          obtain ⟨i1, j1, rfl, _, hi1, sx, cx, ex, fx⟩ := eVals_cells (A3.later cVals_keeps hb7) hx
                          obtain ⟨i2, j2, rfl, _, hi2, sy, cy, ey, fy⟩ := eVals_cells (B3.later cVals_keeps hb7) hy
                          have kx := ka.2.2.2 _ (List.mem_of_getElem? hx)
                          have ky := kb.2.2.2 _ (List.mem_of_getElem? hy)
                          have HX : Hid (a.cells[m]? = some x) := hx
                          have HY : Hid (b.cells[m]? = some y) := hy
                          have FX : Hid (Els 4 cVal wr B sx x) := fx
                          have FY : Hid (Els 4 cVal wr C sy y) := fy
                          clear hx hy fx fy
                          cases hf : sVals x y
                          · have E0 : Hid (false = sWd V U) := by
                              have := sl_at (f := sTab) HA.out HB.out (sTab_cells (sl_at (f := sVals) HX.out HY.out hf))
                              simp [Hid, sWd, ← this]
                            go_wp2_with fail
                            have ex' : wr.cell? ⟨i1, j1 + m, none⟩ = some (.slice sx x.length cx) := ex
                            have ey' : wr.cell? ⟨i2, j2 + m, none⟩ = some (.slice sy y.length cy) := ey
                            have KX7 := KX.later hb7
                            have KY7 := KY.later hb7
                            go_region_held3 (fun w' => w'.cell? ⟨(n9 + 1), 2, none⟩ = some (.slice (some ⟨i1, j1, none⟩) a.cells.length e3) ∧ w'.cell? ⟨n9, 2, none⟩ = some (.slice (some ⟨i2, j2, none⟩) b.cells.length f3) ∧ w'.cell? ⟨i1, j1 + m, none⟩ = some (.slice sx x.length cx) ∧ w'.cell? ⟨i2, j2 + m, none⟩ = some (.slice sy y.length cy)) (simp [m2, n2, ex, ey])
                              (first
                                | (go_at_call 69; refine (l4SameVals_any sx sy cx cy x y B C _ (FX.out.later cVal_keeps (bl_drew (Below.refl _ _))) (FY.out.later cVal_keeps (bl_drew (Below.refl _ _))) kx ky).mono ?_; rintro e w8 ⟨rfl, hq8⟩; have hw8 : Below wr.heap.size wr w8 := bl_trans (bl_drew (Below.refl _ _)) hq8; clear hq8; rw [show sl eqV x y = false from hf]; obtain ⟨m0, m1, m2, m3⟩ := (KX7.later hw8).three'; obtain ⟨n0, n1, n2, n3⟩ := (KY7.later hw8).three'; have ex := (hw8.cell (p := ⟨i1, j1 + m, none⟩) hi1).trans ex'; have ey := (hw8.cell (p := ⟨i2, j2 + m, none⟩) hi2).trans ey'))
                            all_goals
                              have LQ := bl_trans hb7 hw8
                              clear KX7 KY7 ex' ey' FX FY
                              go_wp2_with fail
                              go_ret
                              exact ⟨ret_bool' E0.out, bl_trans L3 (bl_trans LZ LQ)⟩
                          · have hst : Hid (∀ (j : Nat) x y, j < m + 1 → a.cells[j]? = some x → b.cells[j]? = some y → sVals x y = true) := by
                              intro j x' y' hj hx' hy'
                              by_cases e : j = m
                              · subst e
                                rw [HX.out] at hx'
                                rw [HY.out] at hy'
                                cases hx'
                                cases hy'
                                exact hf
                              · exact hal2.out j x' y' (by omega) hx' hy'
                            go_wp2_with fail
                            have ex' : wr.cell? ⟨i1, j1 + m, none⟩ = some (.slice sx x.length cx) := ex
                            have ey' : wr.cell? ⟨i2, j2 + m, none⟩ = some (.slice sy y.length cy) := ey
                            have KX7 := KX.later hb7
                            have KY7 := KY.later hb7
                            go_region_held3 (fun w' => w'.cell? ⟨(n9 + 1), 2, none⟩ = some (.slice (some ⟨i1, j1, none⟩) a.cells.length e3) ∧ w'.cell? ⟨n9, 2, none⟩ = some (.slice (some ⟨i2, j2, none⟩) b.cells.length f3) ∧ w'.cell? ⟨i1, j1 + m, none⟩ = some (.slice sx x.length cx) ∧ w'.cell? ⟨i2, j2 + m, none⟩ = some (.slice sy y.length cy)) (simp [m2, n2, ex, ey])
                              (first
                                | (go_at_call 69; refine (l4SameVals_any sx sy cx cy x y B C _ (FX.out.later cVal_keeps (bl_drew (Below.refl _ _))) (FY.out.later cVal_keeps (bl_drew (Below.refl _ _))) kx ky).mono ?_; rintro e w8 ⟨rfl, hq8⟩; have hw8 : Below wr.heap.size wr w8 := bl_trans (bl_drew (Below.refl _ _)) hq8; clear hq8; rw [show sl eqV x y = true from hf]; obtain ⟨m0, m1, m2, m3⟩ := (KX7.later hw8).three'; obtain ⟨n0, n1, n2, n3⟩ := (KY7.later hw8).three'; have ex := (hw8.cell (p := ⟨i1, j1 + m, none⟩) hi1).trans ex'; have ey := (hw8.cell (p := ⟨i2, j2 + m, none⟩) hi2).trans ey'))
                            all_goals
                              have LQ := bl_trans hb7 hw8
                              clear KX7 KY7 ex' ey' FX FY
                              go_wp2_with fail
                              go_roundw
                              case rel => exact ⟨m + 1, by omega, by go_num, hst, LQ⟩
                              case measure => simp [intOf]; omega
                        · have hst : Hid (∀ (j : Nat) a b, j < k + 1 → V.tabs[j]? = some a → U.tabs[j]? = some b → sTab a b = true) := by
                            intro j a' b' hj ha' hb'
                            by_cases e : j = k
                            · subst e
                              rw [HA.out] at ha'
                              rw [HB.out] at hb'
                              cases ha'
                              cases hb'
                              have := sl_all (f := sVals) HC.out (fun j x y hj hx hy => hal2.out j x y (by omega) hx hy)
                              have r3 := this.symm
                              clear this
                              unfold sTab
                              rw [r1, r2, r3]
                              rfl
                            · exact hall.out j a' b' (by omega) ha' hb'
                          have LQ := bl_trans LZ hb7
                          go_wp2_with fail
                          go_roundw
                          case rel => exact ⟨k + 1, by omega, by go_num, hst, LQ⟩
                          case measure => simp [intOf]; omega
                    · have u0 : ((a.cells.length : Int) != (b.cells.length : Int)) = true := by simp; omega
                      have E0 : Hid (false = sWd V U) := by
                        have := sl_at (f := sTab) HA.out HB.out (sTab_cells (sl_len hc))
                        simp [Hid, sWd, ← this]
                      go_wp2_with fail
                      refine (l4Equal_any s1 t1 e1 f1 a.cols b.cols B C _ A1.out B1.out ka.1 kb.1).mono ?_
                      rintro e w5 ⟨rfl, hw5⟩
                      rw [r1]
                      clear m0 m1 m2 m3 n0 n1 n2 n3
                      obtain ⟨m0, m1, m2, m3⟩ := (KXH.out.later hw5).three'
                      obtain ⟨n0, n1, n2, n3⟩ := (KYH.out.later hw5).three'
                      go_wp2_with fail
                      refine (l4SameEnts_any s2 t2 e2 f2 a.rows b.rows B C _ (A2.out.later cEnt_keeps hw5) (B2.out.later cEnt_keeps hw5) ka.2.1 kb.2.1).mono ?_
                      rintro e w6 ⟨rfl, hq6⟩
                      rw [r2]
                      have hw6 := bl_trans hw5 hq6
                      clear m0 m1 m2 m3 n0 n1 n2 n3
                      obtain ⟨m0, m1, m2, m3⟩ := (KXH.out.later hw6).three'
                      obtain ⟨n0, n1, n2, n3⟩ := (KYH.out.later hw6).three'
                      go_wp2_with fail

                      go_ret
                      exact ⟨ret_bool' E0.out, bl_trans L3 (bl_trans LZ hw6)⟩

            · have E0 : Hid (true = sWd V U) := by
                have := sl_all (f := sTab) HN.out (fun j a b hj ha hb => hall.out j a b (by omega) ha hb)
                simp [Hid, sWd, q1, q2, q3, ← this]
              go_wp2_with fail
              go_ret
              exact ⟨ret_bool' E0.out, bl_trans L3 hb⟩
        · have t0 : ((V.tabs.length : Int) != (U.tabs.length : Int)) = true := by simp; omega
          refine (l4Equal_any a1 b1 c1 d1 V.gens U.gens B C _ hA.out.g hB.out.g kv.1 ku.1).mono ?_
          rintro e w1 ⟨rfl, hw1⟩
          rw [q1]
          obtain ⟨x0, x1, x2, x3, x4⟩ := (KAH.out.later hw1).four'
          obtain ⟨y0, y1, y2, y3, y4⟩ := (KBH.out.later hw1).four'
          go_wp2_with fail
          refine (l4Equal_any a2 b2 c2 d2 V.free U.free B C _ (hA.out.later hw1).f (hB.out.later hw1).f kv.2.1 ku.2.1).mono ?_
          rintro e w2 ⟨rfl, hq2⟩
          rw [q2]
          have hw2 := bl_trans hw1 hq2
          clear x0 x1 x2 x3 x4 y0 y1 y2 y3 y4
          obtain ⟨x0, x1, x2, x3, x4⟩ := (KAH.out.later hw2).four'
          obtain ⟨y0, y1, y2, y3, y4⟩ := (KBH.out.later hw2).four'
          go_wp2_with fail
          refine (l4SameVals_any a4 b4 c4 d4 V.res U.res B C _ (hA.out.later hw2).r (hB.out.later hw2).r kv.2.2.2 ku.2.2.2).mono ?_
          rintro e w3 ⟨rfl, hq3⟩
          rw [show sl eqV V.res U.res = true from q3]
          have hw3 := bl_trans hw2 hq3
          clear x0 x1 x2 x3 x4 y0 y1 y2 y3 y4
          obtain ⟨x0, x1, x2, x3, x4⟩ := (KAH.out.later hw3).four'
          obtain ⟨y0, y1, y2, y3, y4⟩ := (KBH.out.later hw3).four'
          go_wp2_with fail
          go_ret
          exact ⟨ret_bool' (by simp [sWd, q1, q2, q3, ← sl_len (f := sTab) hn]), bl_trans LX hw3⟩
end Go.Proofs.Ytmhiddepddgfgab
