import Derived.Test.YtgcfhoojjgcpiaaBg
import Derived.Test.YtgcfhoojjgcpiaaSk
namespace Go.Proofs.Ytgcfhoojjgcpiaa
open Go.RowKit
set_option linter.unusedVariables false
set_option linter.unusedSimpArgs false

/-- short lists. -/
def sEf (e : Ef) : Prop := e.l0.length ≤ 6 ∧ e.l1.length ≤ 6 ∧ e.l2.length ≤ 6 ∧ e.l3.length ≤ 6 ∧ e.l4.length ≤ 6 ∧ e.l5.length ≤ 6 ∧ e.l6.length ≤ 6 ∧ e.l7.length ≤ 6
theorem OE.keep {n : Nat} {w w' : World} {B : Nat} {p0 p1 p2 p3 p4 p5 p6 p7 : Option Addr} {n0 n1 n2 n3 n4 n5 n6 n7 : Nat} {J : Ef} (h : OE w B p0 p1 p2 p3 p4 p5 p6 p7 n0 n1 n2 n3 n4 n5 n6 n7 J) (hK : Keep n w w') (hn : n < B) : OE w' B p0 p1 p2 p3 p4 p5 p6 p7 n0 n1 n2 n3 n4 n5 n6 n7 J := ⟨h.o0.keep hK hn, h.o1.keep hK hn, h.o2.keep hK hn, h.o3.keep hK hn, h.o4.keep hK hn, h.o5.keep hK hn, h.o6.keep hK hn, h.o7.keep hK hn⟩
set_option maxRecDepth 100000 in
set_option maxHeartbeats 8000000 in
theorem l10Effect_any (n : Nat) (w : World) (hC : Cur n w) :
    Calls Try.prog 35 #[.pointer (some ⟨n, 0, none⟩)] w fun e w' => ∃ (p0 p1 p2 p3 p4 p5 p6 p7 : Option Addr) (n0 n1 n2 n3 n4 n5 n6 n7 : Nat) (J : Ef), e = .returned (.agg #[.slice p0 J.l0.length n0, .slice p1 J.l1.length n1, .slice p2 J.l2.length n2, .slice p3 J.l3.length n3, .slice p4 J.l4.length n4, .slice p5 J.l5.length n5, .slice p6 J.l6.length n6, .slice p7 J.l7.length n7, .bool J.sp, .bool J.kl]) ∧ OE w' w.heap.size p0 p1 p2 p3 p4 p5 p6 p7 n0 n1 n2 n3 n4 n5 n6 n7 J ∧ sEf J ∧ Keep n w w' ∧ Cur n w' := by
  have hn := hC.lt
  have K2 : Hid (Blk (w.alloc (.cells #[.slice none 0 0, .slice none 0 0, .slice none 0 0, .slice none 0 0, .slice none 0 0, .slice none 0 0, .slice none 0 0, .slice none 0 0, .bool false, .bool false] 27)) w.heap.size #[.slice none 0 0, .slice none 0 0, .slice none 0 0, .slice none 0 0, .slice none 0 0, .slice none 0 0, .slice none 0 0, .slice none 0 0, .bool false, .bool false] 27) := Blk.new _ _ _
  have KK : Hid (Keep n w (w.alloc (.cells #[.slice none 0 0, .slice none 0 0, .slice none 0 0, .slice none 0 0, .slice none 0 0, .slice none 0 0, .slice none 0 0, .slice none 0 0, .bool false, .bool false] 27))) := (Keep.refl n w).alloc (by omega) _
  have CC : Hid (Cur n (w.alloc (.cells #[.slice none 0 0, .slice none 0 0, .slice none 0 0, .slice none 0 0, .slice none 0 0, .slice none 0 0, .slice none 0 0, .slice none 0 0, .bool false, .bool false] 27))) := hC.alloc _
  clear hC
  go_enter Try.func35, Try.ntmps35
  go_wp2_with fail
  generalize hX : w.alloc (.cells #[.slice none 0 0, .slice none 0 0, .slice none 0 0, .slice none 0 0, .slice none 0 0, .slice none 0 0, .slice none 0 0, .slice none 0 0, .bool false, .bool false] 27) = X at K2 KK CC ⊢
  clear hX
  refine (l10List_any n 5 _ CC.out (by omega)).mono ?_
  rintro e w0 ⟨p0, n0, R0, rfl, o0, m0, kk, cc⟩
  have hsz := K2.out.lt
  have O0 : Hid (OI w0 (w.heap.size + 1) (.slice p0 R0.length n0) R0) := o0.mono hsz
  replace K2 : Hid (Blk w0 w.heap.size #[.slice none 0 0, .slice none 0 0, .slice none 0 0, .slice none 0 0, .slice none 0 0, .slice none 0 0, .slice none 0 0, .slice none 0 0, .bool false, .bool false] 27) := K2.out.keep kk (by omega)
  replace KK : Hid (Keep n w w0) := KK.out.trans kk
  replace CC : Hid (Cur n w0) := cc
  clear kk cc hsz o0
  go_wp2_with fail
  refine (l10List_any n 5 _ CC.out (by omega)).mono ?_
  rintro e w1 ⟨p1, n1, R1, rfl, o1, m1, kk, cc⟩
  have hsz := K2.out.lt
  have O1 : Hid (OI w1 (w.heap.size + 1) (.slice p1 R1.length n1) R1) := o1.mono hsz
  replace O0 : Hid (OI w1 (w.heap.size + 1) (.slice p0 R0.length n0) R0) := O0.out.keep kk (by omega)
  replace K2 : Hid (Blk w1 w.heap.size #[.slice none 0 0, .slice none 0 0, .slice none 0 0, .slice none 0 0, .slice none 0 0, .slice none 0 0, .slice none 0 0, .slice none 0 0, .bool false, .bool false] 27) := K2.out.keep kk (by omega)
  replace KK : Hid (Keep n w w1) := KK.out.trans kk
  replace CC : Hid (Cur n w1) := cc
  clear kk cc hsz o1
  go_wp2_with fail
  refine (l10List_any n 5 _ CC.out (by omega)).mono ?_
  rintro e w2 ⟨p2, n2, R2, rfl, o2, m2, kk, cc⟩
  have hsz := K2.out.lt
  have O2 : Hid (OI w2 (w.heap.size + 1) (.slice p2 R2.length n2) R2) := o2.mono hsz
  replace O0 : Hid (OI w2 (w.heap.size + 1) (.slice p0 R0.length n0) R0) := O0.out.keep kk (by omega)
  replace O1 : Hid (OI w2 (w.heap.size + 1) (.slice p1 R1.length n1) R1) := O1.out.keep kk (by omega)
  replace K2 : Hid (Blk w2 w.heap.size #[.slice none 0 0, .slice none 0 0, .slice none 0 0, .slice none 0 0, .slice none 0 0, .slice none 0 0, .slice none 0 0, .slice none 0 0, .bool false, .bool false] 27) := K2.out.keep kk (by omega)
  replace KK : Hid (Keep n w w2) := KK.out.trans kk
  replace CC : Hid (Cur n w2) := cc
  clear kk cc hsz o2
  go_wp2_with fail
  refine (l10List_any n 4 _ CC.out (by omega)).mono ?_
  rintro e w3 ⟨p3, n3, R3, rfl, o3, m3, kk, cc⟩
  have hsz := K2.out.lt
  have O3 : Hid (OI w3 (w.heap.size + 1) (.slice p3 R3.length n3) R3) := o3.mono hsz
  replace O0 : Hid (OI w3 (w.heap.size + 1) (.slice p0 R0.length n0) R0) := O0.out.keep kk (by omega)
  replace O1 : Hid (OI w3 (w.heap.size + 1) (.slice p1 R1.length n1) R1) := O1.out.keep kk (by omega)
  replace O2 : Hid (OI w3 (w.heap.size + 1) (.slice p2 R2.length n2) R2) := O2.out.keep kk (by omega)
  replace K2 : Hid (Blk w3 w.heap.size #[.slice none 0 0, .slice none 0 0, .slice none 0 0, .slice none 0 0, .slice none 0 0, .slice none 0 0, .slice none 0 0, .slice none 0 0, .bool false, .bool false] 27) := K2.out.keep kk (by omega)
  replace KK : Hid (Keep n w w3) := KK.out.trans kk
  replace CC : Hid (Cur n w3) := cc
  clear kk cc hsz o3
  go_wp2_with fail
  refine (l10List_any n 4 _ CC.out (by omega)).mono ?_
  rintro e w4 ⟨p4, n4, R4, rfl, o4, m4, kk, cc⟩
  have hsz := K2.out.lt
  have O4 : Hid (OI w4 (w.heap.size + 1) (.slice p4 R4.length n4) R4) := o4.mono hsz
  replace O0 : Hid (OI w4 (w.heap.size + 1) (.slice p0 R0.length n0) R0) := O0.out.keep kk (by omega)
  replace O1 : Hid (OI w4 (w.heap.size + 1) (.slice p1 R1.length n1) R1) := O1.out.keep kk (by omega)
  replace O2 : Hid (OI w4 (w.heap.size + 1) (.slice p2 R2.length n2) R2) := O2.out.keep kk (by omega)
  replace O3 : Hid (OI w4 (w.heap.size + 1) (.slice p3 R3.length n3) R3) := O3.out.keep kk (by omega)
  replace K2 : Hid (Blk w4 w.heap.size #[.slice none 0 0, .slice none 0 0, .slice none 0 0, .slice none 0 0, .slice none 0 0, .slice none 0 0, .slice none 0 0, .slice none 0 0, .bool false, .bool false] 27) := K2.out.keep kk (by omega)
  replace KK : Hid (Keep n w w4) := KK.out.trans kk
  replace CC : Hid (Cur n w4) := cc
  clear kk cc hsz o4
  go_wp2_with fail
  refine (l10List_any n 2 _ CC.out (by omega)).mono ?_
  rintro e w5 ⟨p5, n5, R5, rfl, o5, m5, kk, cc⟩
  have hsz := K2.out.lt
  have O5 : Hid (OI w5 (w.heap.size + 1) (.slice p5 R5.length n5) R5) := o5.mono hsz
  replace O0 : Hid (OI w5 (w.heap.size + 1) (.slice p0 R0.length n0) R0) := O0.out.keep kk (by omega)
  replace O1 : Hid (OI w5 (w.heap.size + 1) (.slice p1 R1.length n1) R1) := O1.out.keep kk (by omega)
  replace O2 : Hid (OI w5 (w.heap.size + 1) (.slice p2 R2.length n2) R2) := O2.out.keep kk (by omega)
  replace O3 : Hid (OI w5 (w.heap.size + 1) (.slice p3 R3.length n3) R3) := O3.out.keep kk (by omega)
  replace O4 : Hid (OI w5 (w.heap.size + 1) (.slice p4 R4.length n4) R4) := O4.out.keep kk (by omega)
  replace K2 : Hid (Blk w5 w.heap.size #[.slice none 0 0, .slice none 0 0, .slice none 0 0, .slice none 0 0, .slice none 0 0, .slice none 0 0, .slice none 0 0, .slice none 0 0, .bool false, .bool false] 27) := K2.out.keep kk (by omega)
  replace KK : Hid (Keep n w w5) := KK.out.trans kk
  replace CC : Hid (Cur n w5) := cc
  clear kk cc hsz o5
  go_wp2_with fail
  refine (l10List_any n 2 _ CC.out (by omega)).mono ?_
  rintro e w6 ⟨p6, n6, R6, rfl, o6, m6, kk, cc⟩
  have hsz := K2.out.lt
  have O6 : Hid (OI w6 (w.heap.size + 1) (.slice p6 R6.length n6) R6) := o6.mono hsz
  replace O0 : Hid (OI w6 (w.heap.size + 1) (.slice p0 R0.length n0) R0) := O0.out.keep kk (by omega)
  replace O1 : Hid (OI w6 (w.heap.size + 1) (.slice p1 R1.length n1) R1) := O1.out.keep kk (by omega)
  replace O2 : Hid (OI w6 (w.heap.size + 1) (.slice p2 R2.length n2) R2) := O2.out.keep kk (by omega)
  replace O3 : Hid (OI w6 (w.heap.size + 1) (.slice p3 R3.length n3) R3) := O3.out.keep kk (by omega)
  replace O4 : Hid (OI w6 (w.heap.size + 1) (.slice p4 R4.length n4) R4) := O4.out.keep kk (by omega)
  replace O5 : Hid (OI w6 (w.heap.size + 1) (.slice p5 R5.length n5) R5) := O5.out.keep kk (by omega)
  replace K2 : Hid (Blk w6 w.heap.size #[.slice none 0 0, .slice none 0 0, .slice none 0 0, .slice none 0 0, .slice none 0 0, .slice none 0 0, .slice none 0 0, .slice none 0 0, .bool false, .bool false] 27) := K2.out.keep kk (by omega)
  replace KK : Hid (Keep n w w6) := KK.out.trans kk
  replace CC : Hid (Cur n w6) := cc
  clear kk cc hsz o6
  go_wp2_with fail
  refine (l10List_any n 5 _ CC.out (by omega)).mono ?_
  rintro e w7 ⟨p7, n7, R7, rfl, o7, m7, kk, cc⟩
  have hsz := K2.out.lt
  have O7 : Hid (OI w7 (w.heap.size + 1) (.slice p7 R7.length n7) R7) := o7.mono hsz
  replace O0 : Hid (OI w7 (w.heap.size + 1) (.slice p0 R0.length n0) R0) := O0.out.keep kk (by omega)
  replace O1 : Hid (OI w7 (w.heap.size + 1) (.slice p1 R1.length n1) R1) := O1.out.keep kk (by omega)
  replace O2 : Hid (OI w7 (w.heap.size + 1) (.slice p2 R2.length n2) R2) := O2.out.keep kk (by omega)
  replace O3 : Hid (OI w7 (w.heap.size + 1) (.slice p3 R3.length n3) R3) := O3.out.keep kk (by omega)
  replace O4 : Hid (OI w7 (w.heap.size + 1) (.slice p4 R4.length n4) R4) := O4.out.keep kk (by omega)
  replace O5 : Hid (OI w7 (w.heap.size + 1) (.slice p5 R5.length n5) R5) := O5.out.keep kk (by omega)
  replace O6 : Hid (OI w7 (w.heap.size + 1) (.slice p6 R6.length n6) R6) := O6.out.keep kk (by omega)
  replace K2 : Hid (Blk w7 w.heap.size #[.slice none 0 0, .slice none 0 0, .slice none 0 0, .slice none 0 0, .slice none 0 0, .slice none 0 0, .slice none 0 0, .slice none 0 0, .bool false, .bool false] 27) := K2.out.keep kk (by omega)
  replace KK : Hid (Keep n w w7) := KK.out.trans kk
  replace CC : Hid (Cur n w7) := cc
  clear kk cc hsz o7
  go_wp2_with fail
  refine (l1Once_any n 3 _ CC.out (by omega)).mono ?_
  rintro e w8 ⟨x, rfl, kk, cc⟩
  replace O0 : Hid (OI w8 (w.heap.size + 1) (.slice p0 R0.length n0) R0) := O0.out.keep kk (by omega)
  replace O1 : Hid (OI w8 (w.heap.size + 1) (.slice p1 R1.length n1) R1) := O1.out.keep kk (by omega)
  replace O2 : Hid (OI w8 (w.heap.size + 1) (.slice p2 R2.length n2) R2) := O2.out.keep kk (by omega)
  replace O3 : Hid (OI w8 (w.heap.size + 1) (.slice p3 R3.length n3) R3) := O3.out.keep kk (by omega)
  replace O4 : Hid (OI w8 (w.heap.size + 1) (.slice p4 R4.length n4) R4) := O4.out.keep kk (by omega)
  replace O5 : Hid (OI w8 (w.heap.size + 1) (.slice p5 R5.length n5) R5) := O5.out.keep kk (by omega)
  replace O6 : Hid (OI w8 (w.heap.size + 1) (.slice p6 R6.length n6) R6) := O6.out.keep kk (by omega)
  replace O7 : Hid (OI w8 (w.heap.size + 1) (.slice p7 R7.length n7) R7) := O7.out.keep kk (by omega)
  replace K2 : Hid (Blk w8 w.heap.size #[.slice none 0 0, .slice none 0 0, .slice none 0 0, .slice none 0 0, .slice none 0 0, .slice none 0 0, .slice none 0 0, .slice none 0 0, .bool false, .bool false] 27) := K2.out.keep kk (by omega)
  replace KK : Hid (Keep n w w8) := KK.out.trans kk
  replace CC : Hid (Cur n w8) := cc
  clear kk cc
  go_wp2_with fail
  refine (l1Once_any n 4 _ CC.out (by omega)).mono ?_
  rintro e w9 ⟨y, rfl, kk, cc⟩
  replace O0 : Hid (OI w9 (w.heap.size + 1) (.slice p0 R0.length n0) R0) := O0.out.keep kk (by omega)
  replace O1 : Hid (OI w9 (w.heap.size + 1) (.slice p1 R1.length n1) R1) := O1.out.keep kk (by omega)
  replace O2 : Hid (OI w9 (w.heap.size + 1) (.slice p2 R2.length n2) R2) := O2.out.keep kk (by omega)
  replace O3 : Hid (OI w9 (w.heap.size + 1) (.slice p3 R3.length n3) R3) := O3.out.keep kk (by omega)
  replace O4 : Hid (OI w9 (w.heap.size + 1) (.slice p4 R4.length n4) R4) := O4.out.keep kk (by omega)
  replace O5 : Hid (OI w9 (w.heap.size + 1) (.slice p5 R5.length n5) R5) := O5.out.keep kk (by omega)
  replace O6 : Hid (OI w9 (w.heap.size + 1) (.slice p6 R6.length n6) R6) := O6.out.keep kk (by omega)
  replace O7 : Hid (OI w9 (w.heap.size + 1) (.slice p7 R7.length n7) R7) := O7.out.keep kk (by omega)
  replace K2 : Hid (Blk w9 w.heap.size #[.slice none 0 0, .slice none 0 0, .slice none 0 0, .slice none 0 0, .slice none 0 0, .slice none 0 0, .slice none 0 0, .slice none 0 0, .bool false, .bool false] 27) := K2.out.keep kk (by omega)
  replace KK : Hid (Keep n w w9) := KK.out.trans kk
  replace CC : Hid (Cur n w9) := cc
  clear kk cc
  go_wp2_with (refine wpList_store_row rfl 27 (.tmp 2) (.tmp 23) rfl _ #[.slice p0 R0.length n0, .slice p1 R1.length n1, .slice p2 R2.length n2, .slice p3 R3.length n3, .slice p4 R4.length n4, .slice p5 R5.length n5, .slice p6 R6.length n6, .slice p7 R7.length n7, .bool x, .bool y] rfl rfl _ _ K2.out (by rw [Try.infoEf]; rfl) rfl one10 ?_)
  have hk := setRow_heap w9 w.heap.size _ #[.slice p0 R0.length n0, .slice p1 R1.length n1, .slice p2 R2.length n2, .slice p3 R3.length n3, .slice p4 R4.length n4, .slice p5 R5.length n5, .slice p6 R6.length n6, .slice p7 R7.length n7, .bool x, .bool y] _ _ K2.out
  have hKK : Keep n w (w9.setRow w.heap.size #[.slice p0 R0.length n0, .slice p1 R1.length n1, .slice p2 R2.length n2, .slice p3 R3.length n3, .slice p4 R4.length n4, .slice p5 R5.length n5, .slice p6 R6.length n6, .slice p7 R7.length n7, .bool x, .bool y]) := ⟨below_setRow KK.out.1 (by omega) _, fun k h1 h2 => (setRow_other _ _ _ _ (by omega)).trans (KK.out.2 k h1 h2)⟩
  have hCC : Cur n (w9.setRow w.heap.size #[.slice p0 R0.length n0, .slice p1 R1.length n1, .slice p2 R2.length n2, .slice p3 R3.length n3, .slice p4 R4.length n4, .slice p5 R5.length n5, .slice p6 R6.length n6, .slice p7 R7.length n7, .bool x, .bool y]) := CC.out.below (below_setRow (Below.refl _ _) (by omega) _)
  refine bodyPost_ret (v := .agg #[.slice p0 R0.length n0, .slice p1 R1.length n1, .slice p2 R2.length n2, .slice p3 R3.length n3, .slice p4 R4.length n4, .slice p5 R5.length n5, .slice p6 R6.length n6, .slice p7 R7.length n7, .bool x, .bool y]) (results_cell_row (P := Try.prog) Try.results35 _ _ w.heap.size _ _ _ _ rfl hk Try.underlying27 rfl (by rw [Try.infoEf]; rfl)) rfl ⟨p0, p1, p2, p3, p4, p5, p6, p7, n0, n1, n2, n3, n4, n5, n6, n7, ⟨R0, R1, R2, R3, R4, R5, R6, R7, x, y⟩, rfl, ⟨(O0.out.same (fun g hg => setRow_other _ _ _ _ (by have := (O0.out.lt g hg).1; omega))).mono (by omega), (O1.out.same (fun g hg => setRow_other _ _ _ _ (by have := (O1.out.lt g hg).1; omega))).mono (by omega), (O2.out.same (fun g hg => setRow_other _ _ _ _ (by have := (O2.out.lt g hg).1; omega))).mono (by omega), (O3.out.same (fun g hg => setRow_other _ _ _ _ (by have := (O3.out.lt g hg).1; omega))).mono (by omega), (O4.out.same (fun g hg => setRow_other _ _ _ _ (by have := (O4.out.lt g hg).1; omega))).mono (by omega), (O5.out.same (fun g hg => setRow_other _ _ _ _ (by have := (O5.out.lt g hg).1; omega))).mono (by omega), (O6.out.same (fun g hg => setRow_other _ _ _ _ (by have := (O6.out.lt g hg).1; omega))).mono (by omega), (O7.out.same (fun g hg => setRow_other _ _ _ _ (by have := (O7.out.lt g hg).1; omega))).mono (by omega)⟩, ⟨m0, m1, m2, m3, m4, m5, m6, m7⟩, hKK, hCC⟩
theorem OE.caps {w : World} {B : Nat} {p0 p1 p2 p3 p4 p5 p6 p7 : Option Addr} {n0 n1 n2 n3 n4 n5 n6 n7 : Nat} {J : Ef} (h : OE w B p0 p1 p2 p3 p4 p5 p6 p7 n0 n1 n2 n3 n4 n5 n6 n7 J) : J.l0.length ≤ n0 ∧ J.l1.length ≤ n1 ∧ J.l2.length ≤ n2 ∧ J.l3.length ≤ n3 ∧ J.l4.length ≤ n4 ∧ J.l5.length ≤ n5 ∧ J.l6.length ≤ n6 ∧ J.l7.length ≤ n7 := ⟨h.o0.cap, h.o1.cap, h.o2.cap, h.o3.cap, h.o4.cap, h.o5.cap, h.o6.cap, h.o7.cap⟩
theorem InE.keep {n : Nat} {w w' : World} {B : Nat} {p0 p1 p2 p3 p4 p5 p6 p7 : Option Addr} {J : Ef} (h : InE w B p0 p1 p2 p3 p4 p5 p6 p7 J) (hK : Keep n w w') (hn : n < B) : InE w' B p0 p1 p2 p3 p4 p5 p6 p7 J := h.kept ⟨hK.1.size, fun k h1 h2 => hK.heap (by omega) h2⟩
set_option maxRecDepth 100000 in
set_option maxHeartbeats 8000000 in
theorem drawJoin_any (sl : Option Addr) (len cap : Nat) (w : World) (hl : len ≤ 1048576) (hc : Code w sl len) :
    Calls Try.prog 19 #[.slice sl len cap] w fun e w' => (∃ (p0 p1 p2 p3 p4 p5 p6 p7 : Option Addr) (n0 n1 n2 n3 n4 n5 n6 n7 : Nat) (A : Ef) (r0 r1 r2 r3 r4 r5 r6 r7 : Option Addr) (m0 m1 m2 m3 m4 m5 m6 m7 : Nat) (Bf : Ef), e = .returned (.tuple #[.agg #[.slice p0 A.l0.length n0, .slice p1 A.l1.length n1, .slice p2 A.l2.length n2, .slice p3 A.l3.length n3, .slice p4 A.l4.length n4, .slice p5 A.l5.length n5, .slice p6 A.l6.length n6, .slice p7 A.l7.length n7, .bool A.sp, .bool A.kl], .agg #[.slice r0 Bf.l0.length m0, .slice r1 Bf.l1.length m1, .slice r2 Bf.l2.length m2, .slice r3 Bf.l3.length m3, .slice r4 Bf.l4.length m4, .slice r5 Bf.l5.length m5, .slice r6 Bf.l6.length m6, .slice r7 Bf.l7.length m7, .bool Bf.sp, .bool Bf.kl]]) ∧ InE w' 0 p0 p1 p2 p3 p4 p5 p6 p7 A ∧ InE w' 0 r0 r1 r2 r3 r4 r5 r6 r7 Bf ∧ sEf A ∧ sEf Bf) ∧ Below w.heap.size w w' := by
  obtain ⟨K2, K3, L0⟩ := blkTwoE w #[.slice none 0 0, .slice none 0 0, .slice none 0 0, .slice none 0 0, .slice none 0 0, .slice none 0 0, .slice none 0 0, .slice none 0 0, .bool false, .bool false] #[.slice none 0 0, .slice none 0 0, .slice none 0 0, .slice none 0 0, .slice none 0 0, .slice none 0 0, .slice none 0 0, .slice none 0 0, .bool false, .bool false] 27 27
  have hc2 : Hid (Code ((w.alloc (.cells #[.slice none 0 0, .slice none 0 0, .slice none 0 0, .slice none 0 0, .slice none 0 0, .slice none 0 0, .slice none 0 0, .slice none 0 0, .bool false, .bool false] 27)).alloc (.cells #[.slice none 0 0, .slice none 0 0, .slice none 0 0, .slice none 0 0, .slice none 0 0, .slice none 0 0, .slice none 0 0, .slice none 0 0, .bool false, .bool false] 27)) sl len) := (hc.alloc _).alloc _
  have K2 := Hid.mk' K2
  have K3 := Hid.mk' K3
  clear hc
  go_enter Try.func19, Try.ntmps19
  go_wp2_with fail
  generalize hX : (w.alloc (.cells #[.slice none 0 0, .slice none 0 0, .slice none 0 0, .slice none 0 0, .slice none 0 0, .slice none 0 0, .slice none 0 0, .slice none 0 0, .bool false, .bool false] 27)).alloc (.cells #[.slice none 0 0, .slice none 0 0, .slice none 0 0, .slice none 0 0, .slice none 0 0, .slice none 0 0, .slice none 0 0, .slice none 0 0, .bool false, .bool false] 27) = X at K2 K3 L0 hc2 ⊢
  clear hX
  refine (l1New_any sl len cap _ hl hc2.out).mono ?_
  rintro e w1 ⟨n, rfl, hn, hb1, hC1⟩
  have ltX := K3.out.lt
  have K2 : Hid (Blk w1 w.heap.size #[.slice none 0 0, .slice none 0 0, .slice none 0 0, .slice none 0 0, .slice none 0 0, .slice none 0 0, .slice none 0 0, .slice none 0 0, .bool false, .bool false] 27) := K2.out.later hb1
  have K3 : Hid (Blk w1 (w.heap.size + 1) #[.slice none 0 0, .slice none 0 0, .slice none 0 0, .slice none 0 0, .slice none 0 0, .slice none 0 0, .slice none 0 0, .slice none 0 0, .bool false, .bool false] 27) := K3.out.later hb1
  have L1 := Hid.mk' (bl_trans L0 hb1)
  clear hb1 L0 hc2
  go_wp2_with fail
  refine (l10Effect_any n _ hC1).mono ?_
  rintro e w2 ⟨p0, p1, p2, p3, p4, p5, p6, p7, n0, n1, n2, n3, n4, n5, n6, n7, A, rfl, hA, sA, hK, hC2⟩
  have IA := hA.inE
  have lt1 := hC1.lt
  have KA := Blk.new w2 #[.slice p0 A.l0.length n0, .slice p1 A.l1.length n1, .slice p2 A.l2.length n2, .slice p3 A.l3.length n3, .slice p4 A.l4.length n4, .slice p5 A.l5.length n5, .slice p6 A.l6.length n6, .slice p7 A.l7.length n7, .bool A.sp, .bool A.kl] 27
  have hg : Below w2.heap.size w2 (w2.alloc (.cells #[.slice p0 A.l0.length n0, .slice p1 A.l1.length n1, .slice p2 A.l2.length n2, .slice p3 A.l3.length n3, .slice p4 A.l4.length n4, .slice p5 A.l5.length n5, .slice p6 A.l6.length n6, .slice p7 A.l7.length n7, .bool A.sp, .bool A.kl] 27)) := bl_alloc (Below.refl _ _) _
  have K2 := Hid.mk' ((K2.out.keep hK (by omega)).later hg)
  have K3 := Hid.mk' ((K3.out.keep hK (by omega)).later hg)
  have L2 : Hid (Below w.heap.size w (w2.alloc (.cells #[.slice p0 A.l0.length n0, .slice p1 A.l1.length n1, .slice p2 A.l2.length n2, .slice p3 A.l3.length n3, .slice p4 A.l4.length n4, .slice p5 A.l5.length n5, .slice p6 A.l6.length n6, .slice p7 A.l7.length n7, .bool A.sp, .bool A.kl] 27))) := bl_trans (L1.out.trans (hK.1.mono (by omega))) hg
  have C2 : Hid (Cur n (w2.alloc (.cells #[.slice p0 A.l0.length n0, .slice p1 A.l1.length n1, .slice p2 A.l2.length n2, .slice p3 A.l3.length n3, .slice p4 A.l4.length n4, .slice p5 A.l5.length n5, .slice p6 A.l6.length n6, .slice p7 A.l7.length n7, .bool A.sp, .bool A.kl] 27))) := hC2.alloc _
  have IA := Hid.mk' (IA.later hg)
  have na : Hid (n < w2.heap.size) := hC2.lt
  have KA := Hid.mk' KA
  have SA := Hid.mk' sA
  clear hg hK hC2 hC1 hA sA L1
  go_wp2_with fail
  generalize hX : w2.alloc (.cells #[.slice p0 A.l0.length n0, .slice p1 A.l1.length n1, .slice p2 A.l2.length n2, .slice p3 A.l3.length n3, .slice p4 A.l4.length n4, .slice p5 A.l5.length n5, .slice p6 A.l6.length n6, .slice p7 A.l7.length n7, .bool A.sp, .bool A.kl] 27) = Y at K2 K3 L2 C2 IA KA ⊢
  clear hX
  generalize hka : w2.heap.size = ka at KA na ⊢
  clear hka
  refine wp_region_held_drew (S := fun w' => Blk w' ka #[.slice p0 A.l0.length n0, .slice p1 A.l1.length n1, .slice p2 A.l2.length n2, .slice p3 A.l3.length n3, .slice p4 A.l4.length n4, .slice p5 A.l5.length n5, .slice p6 A.l6.length n6, .slice p7 A.l7.length n7, .bool A.sp, .bool A.kl] 27) (by kernel_rfl) ?_ (fun hHeld => ?_)
  · exact KA.out
  refine wpAnyH_one (i := 0) (d := 10) (v := ?_) rfl rfl (by kernel_rfl) (by kernel_rfl) (by kernel_rfl) (fun _ _ _ h => h) (by rfl) (by assumption) ?_ ?_
  rotate_left 1
  · intro w hSw; (try dsimp only at hSw); obtain ⟨x0, x1, x2, x3, x4, x5, x6, x7, x8, x9, xf⟩ := hSw.ten; go_simp <;> with_reducible rfl
  simp only [List.foldl, Act.put, List.setIfInBounds_toArray, List.set_cons_zero, List.set_cons_succ]
  refine wpAnyH_one (i := 1) (d := 11) (v := ?_) rfl rfl (by kernel_rfl) (by kernel_rfl) (by kernel_rfl) (fun _ _ _ h => h) (by rfl) (by assumption) ?_ ?_
  rotate_left 1
  · intro w hSw; (try dsimp only at hSw); go_simp <;> with_reducible rfl
  simp only [List.foldl, Act.put, List.setIfInBounds_toArray, List.set_cons_zero, List.set_cons_succ]
  refine wpAnyH_ready (rs := [2]) (by kernel_rfl) (by simp) ?_
  refine AllReadyH.cons rfl (fun K hK => ?_) AllReadyH.nil
  go_simp
  refine (l10Effect_any n _ C2.out.drew).mono ?_
  rintro z g1 ⟨r0, r1, r2, r3, r4, r5, r6, r7, m0, m1, m2, m3, m4, m5, m6, m7, Bf, rfl, hB, sB, hK2, hC3⟩
  have hK2 : Keep n Y g1 := ((Keep.refl n Y).drew).trans hK2
  have KA := Hid.mk' (KA.out.keep hK2 (by have := na.out; omega))
  have K2 := Hid.mk' (K2.out.keep hK2 (by omega))
  have K3 := Hid.mk' (K3.out.keep hK2 (by omega))
  have IA := Hid.mk' (IA.out.keep hK2 (by omega))
  have IB := Hid.mk' hB.inE
  have SB := Hid.mk' sB
  have L3 : Hid (Below w.heap.size w g1) := L2.out.trans (hK2.1.mono (by omega))
  have lY : w.heap.size + 1 < Y.heap.size := by have := C2.out.lt; omega
  clear hB sB hK2 hC3
  refine hK.out _ _ ?_ (fun hHeld => ?_)
  · exact KA.out
  clear hK K
  try simp only [List.foldl, Act.put, List.setIfInBounds_toArray, List.set_cons_zero, List.set_cons_succ]
  have IB := Hid.mk' (show InE g1 Y.heap.size r0 r1 r2 r3 r4 r5 r6 r7 Bf from IB.out)
  refine wpAnyH_ready (rs := [3]) (by kernel_rfl) (by simp) ?_
  refine AllReadyH.cons rfl (fun K hK => ?_) AllReadyH.nil
  refine wp_store_row 27 (.tmp 2) (.tmp 10) rfl (w.heap.size) #[.slice p0 A.l0.length n0, .slice p1 A.l1.length n1, .slice p2 A.l2.length n2, .slice p3 A.l3.length n3, .slice p4 A.l4.length n4, .slice p5 A.l5.length n5, .slice p6 A.l6.length n6, .slice p7 A.l7.length n7, .bool A.sp, .bool A.kl] rfl rfl 27 _ K2.out (by rw [Try.infoEf]; rfl) rfl one10 ?_
  have K2 := Hid.mk' (show Blk (g1.setRow (w.heap.size) #[.slice p0 A.l0.length n0, .slice p1 A.l1.length n1, .slice p2 A.l2.length n2, .slice p3 A.l3.length n3, .slice p4 A.l4.length n4, .slice p5 A.l5.length n5, .slice p6 A.l6.length n6, .slice p7 A.l7.length n7, .bool A.sp, .bool A.kl]) (w.heap.size) #[.slice p0 A.l0.length n0, .slice p1 A.l1.length n1, .slice p2 A.l2.length n2, .slice p3 A.l3.length n3, .slice p4 A.l4.length n4, .slice p5 A.l5.length n5, .slice p6 A.l6.length n6, .slice p7 A.l7.length n7, .bool A.sp, .bool A.kl] 27 from setRow_heap _ _ _ _ _ _ K2.out)
  have K3 := Hid.mk' (show Blk (g1.setRow (w.heap.size) #[.slice p0 A.l0.length n0, .slice p1 A.l1.length n1, .slice p2 A.l2.length n2, .slice p3 A.l3.length n3, .slice p4 A.l4.length n4, .slice p5 A.l5.length n5, .slice p6 A.l6.length n6, .slice p7 A.l7.length n7, .bool A.sp, .bool A.kl]) (w.heap.size + 1) #[.slice none 0 0, .slice none 0 0, .slice none 0 0, .slice none 0 0, .slice none 0 0, .slice none 0 0, .slice none 0 0, .slice none 0 0, .bool false, .bool false] 27 from (setRow_other _ _ _ _ (by omega)).trans K3.out)
  have KA := Hid.mk' (show Blk (g1.setRow (w.heap.size) #[.slice p0 A.l0.length n0, .slice p1 A.l1.length n1, .slice p2 A.l2.length n2, .slice p3 A.l3.length n3, .slice p4 A.l4.length n4, .slice p5 A.l5.length n5, .slice p6 A.l6.length n6, .slice p7 A.l7.length n7, .bool A.sp, .bool A.kl]) ka #[.slice p0 A.l0.length n0, .slice p1 A.l1.length n1, .slice p2 A.l2.length n2, .slice p3 A.l3.length n3, .slice p4 A.l4.length n4, .slice p5 A.l5.length n5, .slice p6 A.l6.length n6, .slice p7 A.l7.length n7, .bool A.sp, .bool A.kl] 27 from (setRow_other _ _ _ _ (by have := na.out; omega)).trans KA.out)
  have IA := Hid.mk' (show InE (g1.setRow (w.heap.size) #[.slice p0 A.l0.length n0, .slice p1 A.l1.length n1, .slice p2 A.l2.length n2, .slice p3 A.l3.length n3, .slice p4 A.l4.length n4, .slice p5 A.l5.length n5, .slice p6 A.l6.length n6, .slice p7 A.l7.length n7, .bool A.sp, .bool A.kl]) (w1.heap.size) p0 p1 p2 p3 p4 p5 p6 p7 A from IA.out.kept ⟨by simp, fun k h1 h2 => setRow_other _ _ _ _ (by omega)⟩)
  have IB := Hid.mk' (show InE (g1.setRow (w.heap.size) #[.slice p0 A.l0.length n0, .slice p1 A.l1.length n1, .slice p2 A.l2.length n2, .slice p3 A.l3.length n3, .slice p4 A.l4.length n4, .slice p5 A.l5.length n5, .slice p6 A.l6.length n6, .slice p7 A.l7.length n7, .bool A.sp, .bool A.kl]) (Y.heap.size) r0 r1 r2 r3 r4 r5 r6 r7 Bf from IB.out.kept ⟨by simp, fun k h1 h2 => setRow_other _ _ _ _ (by omega)⟩)
  have L3 : Hid (Below w.heap.size w (g1.setRow (w.heap.size) #[.slice p0 A.l0.length n0, .slice p1 A.l1.length n1, .slice p2 A.l2.length n2, .slice p3 A.l3.length n3, .slice p4 A.l4.length n4, .slice p5 A.l5.length n5, .slice p6 A.l6.length n6, .slice p7 A.l7.length n7, .bool A.sp, .bool A.kl])) := below_setRow L3.out (by omega) _
  refine hK.out _ _ ?_ (fun hHeld => ?_)
  · exact KA.out
  clear hK K
  try simp only [List.foldl, Act.put, List.setIfInBounds_toArray, List.set_cons_zero, List.set_cons_succ]
  generalize hGe : (g1.setRow (w.heap.size) #[.slice p0 A.l0.length n0, .slice p1 A.l1.length n1, .slice p2 A.l2.length n2, .slice p3 A.l3.length n3, .slice p4 A.l4.length n4, .slice p5 A.l5.length n5, .slice p6 A.l6.length n6, .slice p7 A.l7.length n7, .bool A.sp, .bool A.kl]) = g2 at K2 K3 KA IA IB L3 hHeld ⊢
  clear hGe
  refine wpAnyH_ready (rs := [4]) (by kernel_rfl) (by simp) ?_
  refine AllReadyH.cons rfl (fun K hK => ?_) AllReadyH.nil
  refine wp_store_row 27 (.tmp 3) (.tmp 12) rfl (w.heap.size + 1) #[.slice r0 Bf.l0.length m0, .slice r1 Bf.l1.length m1, .slice r2 Bf.l2.length m2, .slice r3 Bf.l3.length m3, .slice r4 Bf.l4.length m4, .slice r5 Bf.l5.length m5, .slice r6 Bf.l6.length m6, .slice r7 Bf.l7.length m7, .bool Bf.sp, .bool Bf.kl] rfl rfl 27 _ K3.out (by rw [Try.infoEf]; rfl) rfl one10 ?_
  have K3 := Hid.mk' (show Blk (g2.setRow (w.heap.size + 1) #[.slice r0 Bf.l0.length m0, .slice r1 Bf.l1.length m1, .slice r2 Bf.l2.length m2, .slice r3 Bf.l3.length m3, .slice r4 Bf.l4.length m4, .slice r5 Bf.l5.length m5, .slice r6 Bf.l6.length m6, .slice r7 Bf.l7.length m7, .bool Bf.sp, .bool Bf.kl]) (w.heap.size + 1) #[.slice r0 Bf.l0.length m0, .slice r1 Bf.l1.length m1, .slice r2 Bf.l2.length m2, .slice r3 Bf.l3.length m3, .slice r4 Bf.l4.length m4, .slice r5 Bf.l5.length m5, .slice r6 Bf.l6.length m6, .slice r7 Bf.l7.length m7, .bool Bf.sp, .bool Bf.kl] 27 from setRow_heap _ _ _ _ _ _ K3.out)
  have K2 := Hid.mk' (show Blk (g2.setRow (w.heap.size + 1) #[.slice r0 Bf.l0.length m0, .slice r1 Bf.l1.length m1, .slice r2 Bf.l2.length m2, .slice r3 Bf.l3.length m3, .slice r4 Bf.l4.length m4, .slice r5 Bf.l5.length m5, .slice r6 Bf.l6.length m6, .slice r7 Bf.l7.length m7, .bool Bf.sp, .bool Bf.kl]) (w.heap.size) #[.slice p0 A.l0.length n0, .slice p1 A.l1.length n1, .slice p2 A.l2.length n2, .slice p3 A.l3.length n3, .slice p4 A.l4.length n4, .slice p5 A.l5.length n5, .slice p6 A.l6.length n6, .slice p7 A.l7.length n7, .bool A.sp, .bool A.kl] 27 from (setRow_other _ _ _ _ (by omega)).trans K2.out)
  have KA := Hid.mk' (show Blk (g2.setRow (w.heap.size + 1) #[.slice r0 Bf.l0.length m0, .slice r1 Bf.l1.length m1, .slice r2 Bf.l2.length m2, .slice r3 Bf.l3.length m3, .slice r4 Bf.l4.length m4, .slice r5 Bf.l5.length m5, .slice r6 Bf.l6.length m6, .slice r7 Bf.l7.length m7, .bool Bf.sp, .bool Bf.kl]) ka #[.slice p0 A.l0.length n0, .slice p1 A.l1.length n1, .slice p2 A.l2.length n2, .slice p3 A.l3.length n3, .slice p4 A.l4.length n4, .slice p5 A.l5.length n5, .slice p6 A.l6.length n6, .slice p7 A.l7.length n7, .bool A.sp, .bool A.kl] 27 from (setRow_other _ _ _ _ (by have := na.out; omega)).trans KA.out)
  have IA := Hid.mk' (show InE (g2.setRow (w.heap.size + 1) #[.slice r0 Bf.l0.length m0, .slice r1 Bf.l1.length m1, .slice r2 Bf.l2.length m2, .slice r3 Bf.l3.length m3, .slice r4 Bf.l4.length m4, .slice r5 Bf.l5.length m5, .slice r6 Bf.l6.length m6, .slice r7 Bf.l7.length m7, .bool Bf.sp, .bool Bf.kl]) (w1.heap.size) p0 p1 p2 p3 p4 p5 p6 p7 A from IA.out.kept ⟨by simp, fun k h1 h2 => setRow_other _ _ _ _ (by omega)⟩)
  have IB := Hid.mk' (show InE (g2.setRow (w.heap.size + 1) #[.slice r0 Bf.l0.length m0, .slice r1 Bf.l1.length m1, .slice r2 Bf.l2.length m2, .slice r3 Bf.l3.length m3, .slice r4 Bf.l4.length m4, .slice r5 Bf.l5.length m5, .slice r6 Bf.l6.length m6, .slice r7 Bf.l7.length m7, .bool Bf.sp, .bool Bf.kl]) (Y.heap.size) r0 r1 r2 r3 r4 r5 r6 r7 Bf from IB.out.kept ⟨by simp, fun k h1 h2 => setRow_other _ _ _ _ (by omega)⟩)
  have L3 : Hid (Below w.heap.size w (g2.setRow (w.heap.size + 1) #[.slice r0 Bf.l0.length m0, .slice r1 Bf.l1.length m1, .slice r2 Bf.l2.length m2, .slice r3 Bf.l3.length m3, .slice r4 Bf.l4.length m4, .slice r5 Bf.l5.length m5, .slice r6 Bf.l6.length m6, .slice r7 Bf.l7.length m7, .bool Bf.sp, .bool Bf.kl])) := below_setRow L3.out (by omega) _
  refine hK.out _ _ ?_ (fun hHeld => ?_)
  · exact KA.out
  clear hK K
  try simp only [List.foldl, Act.put, List.setIfInBounds_toArray, List.set_cons_zero, List.set_cons_succ]
  generalize hGe : (g2.setRow (w.heap.size + 1) #[.slice r0 Bf.l0.length m0, .slice r1 Bf.l1.length m1, .slice r2 Bf.l2.length m2, .slice r3 Bf.l3.length m3, .slice r4 Bf.l4.length m4, .slice r5 Bf.l5.length m5, .slice r6 Bf.l6.length m6, .slice r7 Bf.l7.length m7, .bool Bf.sp, .bool Bf.kl]) = g3 at K2 K3 KA IA IB L3 hHeld ⊢
  clear hGe
  refine wpAnyH_done (by kernel_rfl) ?_ _
  go_wp2_with fail
  obtain ⟨x0, x1, x2, x3, x4, x5, x6, x7, x8, x9, xf⟩ := K2.out.ten
  obtain ⟨y0, y1, y2, y3, y4, y5, y6, y7, y8, y9, yf⟩ := K3.out.ten
  refine bodyPost_ret (v := .tuple #[.agg #[.slice p0 A.l0.length n0, .slice p1 A.l1.length n1, .slice p2 A.l2.length n2, .slice p3 A.l3.length n3, .slice p4 A.l4.length n4, .slice p5 A.l5.length n5, .slice p6 A.l6.length n6, .slice p7 A.l7.length n7, .bool A.sp, .bool A.kl], .agg #[.slice r0 Bf.l0.length m0, .slice r1 Bf.l1.length m1, .slice r2 Bf.l2.length m2, .slice r3 Bf.l3.length m3, .slice r4 Bf.l4.length m4, .slice r5 Bf.l5.length m5, .slice r6 Bf.l6.length m6, .slice r7 Bf.l7.length m7, .bool Bf.sp, .bool Bf.kl]]) (by simp [results, Try.results19, go_sem, x0, x1, x2, x3, x4, x5, x6, x7, x8, x9, y0, y1, y2, y3, y4, y5, y6, y7, y8, y9]) rfl ⟨⟨p0, p1, p2, p3, p4, p5, p6, p7, n0, n1, n2, n3, n4, n5, n6, n7, A, r0, r1, r2, r3, r4, r5, r6, r7, m0, m1, m2, m3, m4, m5, m6, m7, Bf, rfl, IA.out.drop (Nat.zero_le _), IB.out.drop (Nat.zero_le _), SA.out, SB.out⟩, L3.out⟩
end Go.Proofs.Ytgcfhoojjgcpiaa
