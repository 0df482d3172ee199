import Derived.Test.YtgfchpbdoebmbaaBg
import Derived.Test.YtgfchpbdoebmbaaSk
namespace Go.Proofs.Ytgfchpbdoebmbaa
open Go.RowKit
set_option linter.unusedVariables false
set_option linter.unusedSimpArgs false

/-- short lists. -/
def sEf (e : Ef) : Prop := e.l0.length ≤ 6 ∧ e.l1.length ≤ 6 ∧ e.l2.length ≤ 6 ∧ e.l3.length ≤ 6 ∧ e.l4.length ≤ 6 ∧ e.l5.length ≤ 6 ∧ e.l6.length ≤ 6 ∧ e.l7.length ≤ 6
theorem OE.keep {n : Nat} {w w' : World} {B : Nat} {p0 p1 p2 p3 p4 p5 p6 p7 : Option Addr} {n0 n1 n2 n3 n4 n5 n6 n7 : Nat} {J : Ef} (h : OE w B p0 p1 p2 p3 p4 p5 p6 p7 n0 n1 n2 n3 n4 n5 n6 n7 J) (hK : Keep n w w') (hn : n < B) : OE w' B p0 p1 p2 p3 p4 p5 p6 p7 n0 n1 n2 n3 n4 n5 n6 n7 J := ⟨h.o0.keep hK hn, h.o1.keep hK hn, h.o2.keep hK hn, h.o3.keep hK hn, h.o4.keep hK hn, h.o5.keep hK hn, h.o6.keep hK hn, h.o7.keep hK hn⟩
set_option maxRecDepth 100000 in
set_option maxHeartbeats 8000000 in
theorem l10Effect_any (n : Nat) (w : World) (hC : Cur n w) :
    Calls Try.prog 39 #[.pointer (some ⟨n, 0, none⟩)] w fun e w' => ∃ (p0 p1 p2 p3 p4 p5 p6 p7 : Option Addr) (n0 n1 n2 n3 n4 n5 n6 n7 : Nat) (J : Ef), e = .returned (.agg #[.slice p0 J.l0.length n0, .slice p1 J.l1.length n1, .slice p2 J.l2.length n2, .slice p3 J.l3.length n3, .slice p4 J.l4.length n4, .slice p5 J.l5.length n5, .slice p6 J.l6.length n6, .slice p7 J.l7.length n7, .bool J.sp, .bool J.kl]) ∧ OE w' w.heap.size p0 p1 p2 p3 p4 p5 p6 p7 n0 n1 n2 n3 n4 n5 n6 n7 J ∧ sEf J ∧ Keep n w w' ∧ Cur n w' := by
  have hn := hC.lt
  have K2 : Hid (Blk (w.alloc (.cells #[.slice none 0 0, .slice none 0 0, .slice none 0 0, .slice none 0 0, .slice none 0 0, .slice none 0 0, .slice none 0 0, .slice none 0 0, .bool false, .bool false] 28)) w.heap.size #[.slice none 0 0, .slice none 0 0, .slice none 0 0, .slice none 0 0, .slice none 0 0, .slice none 0 0, .slice none 0 0, .slice none 0 0, .bool false, .bool false] 28) := Blk.new _ _ _
  have KK : Hid (Keep n w (w.alloc (.cells #[.slice none 0 0, .slice none 0 0, .slice none 0 0, .slice none 0 0, .slice none 0 0, .slice none 0 0, .slice none 0 0, .slice none 0 0, .bool false, .bool false] 28))) := (Keep.refl n w).alloc (by omega) _
  have CC : Hid (Cur n (w.alloc (.cells #[.slice none 0 0, .slice none 0 0, .slice none 0 0, .slice none 0 0, .slice none 0 0, .slice none 0 0, .slice none 0 0, .slice none 0 0, .bool false, .bool false] 28))) := hC.alloc _
  clear hC
  go_enter Try.func39, Try.ntmps39
  go_wp2_with fail
  generalize hX : w.alloc (.cells #[.slice none 0 0, .slice none 0 0, .slice none 0 0, .slice none 0 0, .slice none 0 0, .slice none 0 0, .slice none 0 0, .slice none 0 0, .bool false, .bool false] 28) = X at K2 KK CC ⊢
  clear hX
  refine (l10List_any n 5 _ CC.out (by omega)).mono ?_
  rintro e w0 ⟨p0, n0, R0, rfl, o0, m0, kk, cc⟩
  have hsz := K2.out.lt
  have O0 : Hid (OI w0 (w.heap.size + 1) (.slice p0 R0.length n0) R0) := o0.mono hsz
  replace K2 : Hid (Blk w0 w.heap.size #[.slice none 0 0, .slice none 0 0, .slice none 0 0, .slice none 0 0, .slice none 0 0, .slice none 0 0, .slice none 0 0, .slice none 0 0, .bool false, .bool false] 28) := K2.out.keep kk (by omega)
  replace KK : Hid (Keep n w w0) := KK.out.trans kk
  replace CC : Hid (Cur n w0) := cc
  clear kk cc hsz o0
  go_wp2_with fail
  refine (l10List_any n 5 _ CC.out (by omega)).mono ?_
  rintro e w1 ⟨p1, n1, R1, rfl, o1, m1, kk, cc⟩
  have hsz := K2.out.lt
  have O1 : Hid (OI w1 (w.heap.size + 1) (.slice p1 R1.length n1) R1) := o1.mono hsz
  replace O0 : Hid (OI w1 (w.heap.size + 1) (.slice p0 R0.length n0) R0) := O0.out.keep kk (by omega)
  replace K2 : Hid (Blk w1 w.heap.size #[.slice none 0 0, .slice none 0 0, .slice none 0 0, .slice none 0 0, .slice none 0 0, .slice none 0 0, .slice none 0 0, .slice none 0 0, .bool false, .bool false] 28) := K2.out.keep kk (by omega)
  replace KK : Hid (Keep n w w1) := KK.out.trans kk
  replace CC : Hid (Cur n w1) := cc
  clear kk cc hsz o1
  go_wp2_with fail
  refine (l10List_any n 5 _ CC.out (by omega)).mono ?_
  rintro e w2 ⟨p2, n2, R2, rfl, o2, m2, kk, cc⟩
  have hsz := K2.out.lt
  have O2 : Hid (OI w2 (w.heap.size + 1) (.slice p2 R2.length n2) R2) := o2.mono hsz
  replace O0 : Hid (OI w2 (w.heap.size + 1) (.slice p0 R0.length n0) R0) := O0.out.keep kk (by omega)
  replace O1 : Hid (OI w2 (w.heap.size + 1) (.slice p1 R1.length n1) R1) := O1.out.keep kk (by omega)
  replace K2 : Hid (Blk w2 w.heap.size #[.slice none 0 0, .slice none 0 0, .slice none 0 0, .slice none 0 0, .slice none 0 0, .slice none 0 0, .slice none 0 0, .slice none 0 0, .bool false, .bool false] 28) := K2.out.keep kk (by omega)
  replace KK : Hid (Keep n w w2) := KK.out.trans kk
  replace CC : Hid (Cur n w2) := cc
  clear kk cc hsz o2
  go_wp2_with fail
  refine (l10List_any n 4 _ CC.out (by omega)).mono ?_
  rintro e w3 ⟨p3, n3, R3, rfl, o3, m3, kk, cc⟩
  have hsz := K2.out.lt
  have O3 : Hid (OI w3 (w.heap.size + 1) (.slice p3 R3.length n3) R3) := o3.mono hsz
  replace O0 : Hid (OI w3 (w.heap.size + 1) (.slice p0 R0.length n0) R0) := O0.out.keep kk (by omega)
  replace O1 : Hid (OI w3 (w.heap.size + 1) (.slice p1 R1.length n1) R1) := O1.out.keep kk (by omega)
  replace O2 : Hid (OI w3 (w.heap.size + 1) (.slice p2 R2.length n2) R2) := O2.out.keep kk (by omega)
  replace K2 : Hid (Blk w3 w.heap.size #[.slice none 0 0, .slice none 0 0, .slice none 0 0, .slice none 0 0, .slice none 0 0, .slice none 0 0, .slice none 0 0, .slice none 0 0, .bool false, .bool false] 28) := K2.out.keep kk (by omega)
  replace KK : Hid (Keep n w w3) := KK.out.trans kk
  replace CC : Hid (Cur n w3) := cc
  clear kk cc hsz o3
  go_wp2_with fail
  refine (l10List_any n 4 _ CC.out (by omega)).mono ?_
  rintro e w4 ⟨p4, n4, R4, rfl, o4, m4, kk, cc⟩
  have hsz := K2.out.lt
  have O4 : Hid (OI w4 (w.heap.size + 1) (.slice p4 R4.length n4) R4) := o4.mono hsz
  replace O0 : Hid (OI w4 (w.heap.size + 1) (.slice p0 R0.length n0) R0) := O0.out.keep kk (by omega)
  replace O1 : Hid (OI w4 (w.heap.size + 1) (.slice p1 R1.length n1) R1) := O1.out.keep kk (by omega)
  replace O2 : Hid (OI w4 (w.heap.size + 1) (.slice p2 R2.length n2) R2) := O2.out.keep kk (by omega)
  replace O3 : Hid (OI w4 (w.heap.size + 1) (.slice p3 R3.length n3) R3) := O3.out.keep kk (by omega)
  replace K2 : Hid (Blk w4 w.heap.size #[.slice none 0 0, .slice none 0 0, .slice none 0 0, .slice none 0 0, .slice none 0 0, .slice none 0 0, .slice none 0 0, .slice none 0 0, .bool false, .bool false] 28) := K2.out.keep kk (by omega)
  replace KK : Hid (Keep n w w4) := KK.out.trans kk
  replace CC : Hid (Cur n w4) := cc
  clear kk cc hsz o4
  go_wp2_with fail
  refine (l10List_any n 2 _ CC.out (by omega)).mono ?_
  rintro e w5 ⟨p5, n5, R5, rfl, o5, m5, kk, cc⟩
  have hsz := K2.out.lt
  have O5 : Hid (OI w5 (w.heap.size + 1) (.slice p5 R5.length n5) R5) := o5.mono hsz
  replace O0 : Hid (OI w5 (w.heap.size + 1) (.slice p0 R0.length n0) R0) := O0.out.keep kk (by omega)
  replace O1 : Hid (OI w5 (w.heap.size + 1) (.slice p1 R1.length n1) R1) := O1.out.keep kk (by omega)
  replace O2 : Hid (OI w5 (w.heap.size + 1) (.slice p2 R2.length n2) R2) := O2.out.keep kk (by omega)
  replace O3 : Hid (OI w5 (w.heap.size + 1) (.slice p3 R3.length n3) R3) := O3.out.keep kk (by omega)
  replace O4 : Hid (OI w5 (w.heap.size + 1) (.slice p4 R4.length n4) R4) := O4.out.keep kk (by omega)
  replace K2 : Hid (Blk w5 w.heap.size #[.slice none 0 0, .slice none 0 0, .slice none 0 0, .slice none 0 0, .slice none 0 0, .slice none 0 0, .slice none 0 0, .slice none 0 0, .bool false, .bool false] 28) := K2.out.keep kk (by omega)
  replace KK : Hid (Keep n w w5) := KK.out.trans kk
  replace CC : Hid (Cur n w5) := cc
  clear kk cc hsz o5
  go_wp2_with fail
  refine (l10List_any n 2 _ CC.out (by omega)).mono ?_
  rintro e w6 ⟨p6, n6, R6, rfl, o6, m6, kk, cc⟩
  have hsz := K2.out.lt
  have O6 : Hid (OI w6 (w.heap.size + 1) (.slice p6 R6.length n6) R6) := o6.mono hsz
  replace O0 : Hid (OI w6 (w.heap.size + 1) (.slice p0 R0.length n0) R0) := O0.out.keep kk (by omega)
  replace O1 : Hid (OI w6 (w.heap.size + 1) (.slice p1 R1.length n1) R1) := O1.out.keep kk (by omega)
  replace O2 : Hid (OI w6 (w.heap.size + 1) (.slice p2 R2.length n2) R2) := O2.out.keep kk (by omega)
  replace O3 : Hid (OI w6 (w.heap.size + 1) (.slice p3 R3.length n3) R3) := O3.out.keep kk (by omega)
  replace O4 : Hid (OI w6 (w.heap.size + 1) (.slice p4 R4.length n4) R4) := O4.out.keep kk (by omega)
  replace O5 : Hid (OI w6 (w.heap.size + 1) (.slice p5 R5.length n5) R5) := O5.out.keep kk (by omega)
  replace K2 : Hid (Blk w6 w.heap.size #[.slice none 0 0, .slice none 0 0, .slice none 0 0, .slice none 0 0, .slice none 0 0, .slice none 0 0, .slice none 0 0, .slice none 0 0, .bool false, .bool false] 28) := K2.out.keep kk (by omega)
  replace KK : Hid (Keep n w w6) := KK.out.trans kk
  replace CC : Hid (Cur n w6) := cc
  clear kk cc hsz o6
  go_wp2_with fail
  refine (l10List_any n 5 _ CC.out (by omega)).mono ?_
  rintro e w7 ⟨p7, n7, R7, rfl, o7, m7, kk, cc⟩
  have hsz := K2.out.lt
  have O7 : Hid (OI w7 (w.heap.size + 1) (.slice p7 R7.length n7) R7) := o7.mono hsz
  replace O0 : Hid (OI w7 (w.heap.size + 1) (.slice p0 R0.length n0) R0) := O0.out.keep kk (by omega)
  replace O1 : Hid (OI w7 (w.heap.size + 1) (.slice p1 R1.length n1) R1) := O1.out.keep kk (by omega)
  replace O2 : Hid (OI w7 (w.heap.size + 1) (.slice p2 R2.length n2) R2) := O2.out.keep kk (by omega)
  replace O3 : Hid (OI w7 (w.heap.size + 1) (.slice p3 R3.length n3) R3) := O3.out.keep kk (by omega)
  replace O4 : Hid (OI w7 (w.heap.size + 1) (.slice p4 R4.length n4) R4) := O4.out.keep kk (by omega)
  replace O5 : Hid (OI w7 (w.heap.size + 1) (.slice p5 R5.length n5) R5) := O5.out.keep kk (by omega)
  replace O6 : Hid (OI w7 (w.heap.size + 1) (.slice p6 R6.length n6) R6) := O6.out.keep kk (by omega)
  replace K2 : Hid (Blk w7 w.heap.size #[.slice none 0 0, .slice none 0 0, .slice none 0 0, .slice none 0 0, .slice none 0 0, .slice none 0 0, .slice none 0 0, .slice none 0 0, .bool false, .bool false] 28) := K2.out.keep kk (by omega)
  replace KK : Hid (Keep n w w7) := KK.out.trans kk
  replace CC : Hid (Cur n w7) := cc
  clear kk cc hsz o7
  go_wp2_with fail
  refine (l1Once_any n 3 _ CC.out (by omega)).mono ?_
  rintro e w8 ⟨x, rfl, kk, cc⟩
  replace O0 : Hid (OI w8 (w.heap.size + 1) (.slice p0 R0.length n0) R0) := O0.out.keep kk (by omega)
  replace O1 : Hid (OI w8 (w.heap.size + 1) (.slice p1 R1.length n1) R1) := O1.out.keep kk (by omega)
  replace O2 : Hid (OI w8 (w.heap.size + 1) (.slice p2 R2.length n2) R2) := O2.out.keep kk (by omega)
  replace O3 : Hid (OI w8 (w.heap.size + 1) (.slice p3 R3.length n3) R3) := O3.out.keep kk (by omega)
  replace O4 : Hid (OI w8 (w.heap.size + 1) (.slice p4 R4.length n4) R4) := O4.out.keep kk (by omega)
  replace O5 : Hid (OI w8 (w.heap.size + 1) (.slice p5 R5.length n5) R5) := O5.out.keep kk (by omega)
  replace O6 : Hid (OI w8 (w.heap.size + 1) (.slice p6 R6.length n6) R6) := O6.out.keep kk (by omega)
  replace O7 : Hid (OI w8 (w.heap.size + 1) (.slice p7 R7.length n7) R7) := O7.out.keep kk (by omega)
  replace K2 : Hid (Blk w8 w.heap.size #[.slice none 0 0, .slice none 0 0, .slice none 0 0, .slice none 0 0, .slice none 0 0, .slice none 0 0, .slice none 0 0, .slice none 0 0, .bool false, .bool false] 28) := K2.out.keep kk (by omega)
  replace KK : Hid (Keep n w w8) := KK.out.trans kk
  replace CC : Hid (Cur n w8) := cc
  clear kk cc
  go_wp2_with fail
  refine (l1Once_any n 4 _ CC.out (by omega)).mono ?_
  rintro e w9 ⟨y, rfl, kk, cc⟩
  replace O0 : Hid (OI w9 (w.heap.size + 1) (.slice p0 R0.length n0) R0) := O0.out.keep kk (by omega)
  replace O1 : Hid (OI w9 (w.heap.size + 1) (.slice p1 R1.length n1) R1) := O1.out.keep kk (by omega)
  replace O2 : Hid (OI w9 (w.heap.size + 1) (.slice p2 R2.length n2) R2) := O2.out.keep kk (by omega)
  replace O3 : Hid (OI w9 (w.heap.size + 1) (.slice p3 R3.length n3) R3) := O3.out.keep kk (by omega)
  replace O4 : Hid (OI w9 (w.heap.size + 1) (.slice p4 R4.length n4) R4) := O4.out.keep kk (by omega)
  replace O5 : Hid (OI w9 (w.heap.size + 1) (.slice p5 R5.length n5) R5) := O5.out.keep kk (by omega)
  replace O6 : Hid (OI w9 (w.heap.size + 1) (.slice p6 R6.length n6) R6) := O6.out.keep kk (by omega)
  replace O7 : Hid (OI w9 (w.heap.size + 1) (.slice p7 R7.length n7) R7) := O7.out.keep kk (by omega)
  replace K2 : Hid (Blk w9 w.heap.size #[.slice none 0 0, .slice none 0 0, .slice none 0 0, .slice none 0 0, .slice none 0 0, .slice none 0 0, .slice none 0 0, .slice none 0 0, .bool false, .bool false] 28) := K2.out.keep kk (by omega)
  replace KK : Hid (Keep n w w9) := KK.out.trans kk
  replace CC : Hid (Cur n w9) := cc
  clear kk cc
  go_wp2_with (refine wpList_store_row rfl 28 (.tmp 2) (.tmp 23) rfl _ #[.slice p0 R0.length n0, .slice p1 R1.length n1, .slice p2 R2.length n2, .slice p3 R3.length n3, .slice p4 R4.length n4, .slice p5 R5.length n5, .slice p6 R6.length n6, .slice p7 R7.length n7, .bool x, .bool y] rfl rfl _ _ K2.out (by rw [Try.infoEf]; rfl) rfl one10 ?_)
  have hk := setRow_heap w9 w.heap.size _ #[.slice p0 R0.length n0, .slice p1 R1.length n1, .slice p2 R2.length n2, .slice p3 R3.length n3, .slice p4 R4.length n4, .slice p5 R5.length n5, .slice p6 R6.length n6, .slice p7 R7.length n7, .bool x, .bool y] _ _ K2.out
  have hKK : Keep n w (w9.setRow w.heap.size #[.slice p0 R0.length n0, .slice p1 R1.length n1, .slice p2 R2.length n2, .slice p3 R3.length n3, .slice p4 R4.length n4, .slice p5 R5.length n5, .slice p6 R6.length n6, .slice p7 R7.length n7, .bool x, .bool y]) := ⟨below_setRow KK.out.1 (by omega) _, fun k h1 h2 => (setRow_other _ _ _ _ (by omega)).trans (KK.out.2 k h1 h2)⟩
  have hCC : Cur n (w9.setRow w.heap.size #[.slice p0 R0.length n0, .slice p1 R1.length n1, .slice p2 R2.length n2, .slice p3 R3.length n3, .slice p4 R4.length n4, .slice p5 R5.length n5, .slice p6 R6.length n6, .slice p7 R7.length n7, .bool x, .bool y]) := CC.out.below (below_setRow (Below.refl _ _) (by omega) _)
  refine bodyPost_ret (v := .agg #[.slice p0 R0.length n0, .slice p1 R1.length n1, .slice p2 R2.length n2, .slice p3 R3.length n3, .slice p4 R4.length n4, .slice p5 R5.length n5, .slice p6 R6.length n6, .slice p7 R7.length n7, .bool x, .bool y]) (results_cell_row (P := Try.prog) Try.results39 _ _ w.heap.size _ _ _ _ rfl hk Try.underlying28 rfl (by rw [Try.infoEf]; rfl)) rfl ⟨p0, p1, p2, p3, p4, p5, p6, p7, n0, n1, n2, n3, n4, n5, n6, n7, ⟨R0, R1, R2, R3, R4, R5, R6, R7, x, y⟩, rfl, ⟨(O0.out.same (fun g hg => setRow_other _ _ _ _ (by have := (O0.out.lt g hg).1; omega))).mono (by omega), (O1.out.same (fun g hg => setRow_other _ _ _ _ (by have := (O1.out.lt g hg).1; omega))).mono (by omega), (O2.out.same (fun g hg => setRow_other _ _ _ _ (by have := (O2.out.lt g hg).1; omega))).mono (by omega), (O3.out.same (fun g hg => setRow_other _ _ _ _ (by have := (O3.out.lt g hg).1; omega))).mono (by omega), (O4.out.same (fun g hg => setRow_other _ _ _ _ (by have := (O4.out.lt g hg).1; omega))).mono (by omega), (O5.out.same (fun g hg => setRow_other _ _ _ _ (by have := (O5.out.lt g hg).1; omega))).mono (by omega), (O6.out.same (fun g hg => setRow_other _ _ _ _ (by have := (O6.out.lt g hg).1; omega))).mono (by omega), (O7.out.same (fun g hg => setRow_other _ _ _ _ (by have := (O7.out.lt g hg).1; omega))).mono (by omega)⟩, ⟨m0, m1, m2, m3, m4, m5, m6, m7⟩, hKK, hCC⟩
theorem OE.caps {w : World} {B : Nat} {p0 p1 p2 p3 p4 p5 p6 p7 : Option Addr} {n0 n1 n2 n3 n4 n5 n6 n7 : Nat} {J : Ef} (h : OE w B p0 p1 p2 p3 p4 p5 p6 p7 n0 n1 n2 n3 n4 n5 n6 n7 J) : J.l0.length ≤ n0 ∧ J.l1.length ≤ n1 ∧ J.l2.length ≤ n2 ∧ J.l3.length ≤ n3 ∧ J.l4.length ≤ n4 ∧ J.l5.length ≤ n5 ∧ J.l6.length ≤ n6 ∧ J.l7.length ≤ n7 := ⟨h.o0.cap, h.o1.cap, h.o2.cap, h.o3.cap, h.o4.cap, h.o5.cap, h.o6.cap, h.o7.cap⟩
theorem InE.keep {n : Nat} {w w' : World} {B : Nat} {p0 p1 p2 p3 p4 p5 p6 p7 : Option Addr} {J : Ef} (h : InE w B p0 p1 p2 p3 p4 p5 p6 p7 J) (hK : Keep n w w') (hn : n < B) : InE w' B p0 p1 p2 p3 p4 p5 p6 p7 J := h.kept ⟨hK.1.size, fun k h1 h2 => hK.heap (by omega) h2⟩
end Go.Proofs.Ytgfchpbdoebmbaa
