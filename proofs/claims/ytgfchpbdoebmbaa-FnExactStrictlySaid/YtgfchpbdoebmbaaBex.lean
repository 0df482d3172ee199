import Derived.Test.YtgfchpbdoebmbaaAb
import Derived.Test.YtgfchpbdoebmbaaQa
namespace Go.Proofs.Ytgfchpbdoebmbaa
open Go.RowKit
set_option linter.unusedVariables false
set_option linter.unusedSimpArgs false
theorem Hid.mk3 {p : Prop} (h : p) : Hid p := h
theorem Mr.bo {lo : Nat} {W1 w0 w : World} (h : Mr lo W1 w0 w) {b o : Nat} {x : Bool} (hb : lo ≤ b) (hl : b < W1.heap.size) (hc : W1.cell? ⟨b, o, none⟩ = some (.bool x)) : w.cell? ⟨b, o, none⟩ = some (.bool x) := by
  obtain ⟨v, hv, ha⟩ := h.al b o _ hb hl hc
  rcases ha with rfl | ⟨_, j, e, _⟩ | ⟨_, j, e, _⟩
  · exact hv
  · cases e
  · cases e
set_option maxRecDepth 100000 in
set_option maxHeartbeats 8000000 in
theorem markEffect_w (lo : Nat) (W1 w0 : World) (s0 s1 s2 s3 s4 s5 s6 s7 : Option Addr) (c0 c1 c2 c3 c4 c5 c6 c7 : Nat) (e : Ef) (k : Int) (w : World) (hE : InE W1 lo s0 s1 s2 s3 s4 s5 s6 s7 e) (hp : 0 < lo) (hlo : lo ≤ w0.heap.size) (h : Mr lo W1 w0 w) (hk : kEf e) (k0 : 0 ≤ k) (k1 : k ≤ 1000000000) :
    Calls Try.prog 13 #[.agg #[.slice s0 e.l0.length c0, .slice s1 e.l1.length c1, .slice s2 e.l2.length c2, .slice s3 e.l3.length c3, .slice s4 e.l4.length c4, .slice s5 e.l5.length c5, .slice s6 e.l6.length c6, .slice s7 e.l7.length c7, .bool e.sp, .bool e.kl], .int .i64 k] w fun z w' => (∃ q : Int, z = .returned (.int .i64 q) ∧ 0 ≤ q ∧ q ≤ k + 8388608) ∧ Mr lo W1 w0 w' := by
  obtain ⟨m0, m1, m2, m3, m4, m5, m6, m7⟩ := hk
  have K0 : Hid (Blk (w.alloc (.cells #[.slice s0 e.l0.length c0, .slice s1 e.l1.length c1, .slice s2 e.l2.length c2, .slice s3 e.l3.length c3, .slice s4 e.l4.length c4, .slice s5 e.l5.length c5, .slice s6 e.l6.length c6, .slice s7 e.l7.length c7, .bool e.sp, .bool e.kl] 28)) w.heap.size #[.slice s0 e.l0.length c0, .slice s1 e.l1.length c1, .slice s2 e.l2.length c2, .slice s3 e.l3.length c3, .slice s4 e.l4.length c4, .slice s5 e.l5.length c5, .slice s6 e.l6.length c6, .slice s7 e.l7.length c7, .bool e.sp, .bool e.kl] 28) := Blk.new w _ _
  have HM : Hid (Mr lo W1 w0 (w.alloc (.cells #[.slice s0 e.l0.length c0, .slice s1 e.l1.length c1, .slice s2 e.l2.length c2, .slice s3 e.l3.length c3, .slice s4 e.l4.length c4, .slice s5 e.l5.length c5, .slice s6 e.l6.length c6, .slice s7 e.l7.length c7, .bool e.sp, .bool e.kl] 28))) := h.alloc hlo _
  have HR : Hid (Mr lo W1 (w.alloc (.cells #[.slice s0 e.l0.length c0, .slice s1 e.l1.length c1, .slice s2 e.l2.length c2, .slice s3 e.l3.length c3, .slice s4 e.l4.length c4, .slice s5 e.l5.length c5, .slice s6 e.l6.length c6, .slice s7 e.l7.length c7, .bool e.sp, .bool e.kl] 28)) (w.alloc (.cells #[.slice s0 e.l0.length c0, .slice s1 e.l1.length c1, .slice s2 e.l2.length c2, .slice s3 e.l3.length c3, .slice s4 e.l4.length c4, .slice s5 e.l5.length c5, .slice s6 e.l6.length c6, .slice s7 e.l7.length c7, .bool e.sp, .bool e.kl] 28))) := HM.out.re
  have hn : Hid (W1.heap.size ≤ w.heap.size) := h.s1
  have HE : Hid (InE W1 lo s0 s1 s2 s3 s4 s5 s6 s7 e) := hE
  clear hE h
  obtain ⟨x0, x1, x2, x3, x4, x5, x6, x7, x8, x9, xf⟩ := K0.out.ten
  go_enter Try.func13, Try.ntmps13
  go_wp2_with fail
  generalize hX : w.alloc (.cells #[.slice s0 e.l0.length c0, .slice s1 e.l1.length c1, .slice s2 e.l2.length c2, .slice s3 e.l3.length c3, .slice s4 e.l4.length c4, .slice s5 e.l5.length c5, .slice s6 e.l6.length c6, .slice s7 e.l7.length c7, .bool e.sp, .bool e.kl] 28) = X at K0 HM HR ⊢
  clear hX
  refine (markI_w lo W1 X s0 c0 e.l0 k _ HE.out.p0 hp HR.out m0 (by omega) (by omega)).mono ?_
  rintro z w1 ⟨rfl, hr⟩
  clear HR
  have HR : Hid (Mr lo W1 X w1) := hr
  have K1 := Hid.mk3 (hr.blk hn.out K0.out)
  clear hr x0 x1 x2 x3 x4 x5 x6 x7 x8 x9 xf
  obtain ⟨x0, x1, x2, x3, x4, x5, x6, x7, x8, x9, xf⟩ := K1.out.ten
  go_wp2_with fail
  refine (markI_w lo W1 X s1 c1 e.l1 (k + (e.l0.length : Int)) _ HE.out.p1 hp HR.out m1 (by omega) (by omega)).mono ?_
  rintro z w2 ⟨rfl, hr⟩
  clear HR
  have HR : Hid (Mr lo W1 X w2) := hr
  have K2 := Hid.mk3 (hr.blk hn.out K0.out)
  clear hr x0 x1 x2 x3 x4 x5 x6 x7 x8 x9 xf
  obtain ⟨x0, x1, x2, x3, x4, x5, x6, x7, x8, x9, xf⟩ := K2.out.ten
  go_wp2_with fail
  refine (markI_w lo W1 X s2 c2 e.l2 ((k + (e.l0.length : Int)) + (e.l1.length : Int)) _ HE.out.p2 hp HR.out m2 (by omega) (by omega)).mono ?_
  rintro z w3 ⟨rfl, hr⟩
  clear HR
  have HR : Hid (Mr lo W1 X w3) := hr
  have K3 := Hid.mk3 (hr.blk hn.out K0.out)
  clear hr x0 x1 x2 x3 x4 x5 x6 x7 x8 x9 xf
  obtain ⟨x0, x1, x2, x3, x4, x5, x6, x7, x8, x9, xf⟩ := K3.out.ten
  go_wp2_with fail
  refine (markI_w lo W1 X s3 c3 e.l3 (((k + (e.l0.length : Int)) + (e.l1.length : Int)) + (e.l2.length : Int)) _ HE.out.p3 hp HR.out m3 (by omega) (by omega)).mono ?_
  rintro z w4 ⟨rfl, hr⟩
  clear HR
  have HR : Hid (Mr lo W1 X w4) := hr
  have K4 := Hid.mk3 (hr.blk hn.out K0.out)
  clear hr x0 x1 x2 x3 x4 x5 x6 x7 x8 x9 xf
  obtain ⟨x0, x1, x2, x3, x4, x5, x6, x7, x8, x9, xf⟩ := K4.out.ten
  go_wp2_with fail
  refine (markI_w lo W1 X s4 c4 e.l4 ((((k + (e.l0.length : Int)) + (e.l1.length : Int)) + (e.l2.length : Int)) + (e.l3.length : Int)) _ HE.out.p4 hp HR.out m4 (by omega) (by omega)).mono ?_
  rintro z w5 ⟨rfl, hr⟩
  clear HR
  have HR : Hid (Mr lo W1 X w5) := hr
  have K5 := Hid.mk3 (hr.blk hn.out K0.out)
  clear hr x0 x1 x2 x3 x4 x5 x6 x7 x8 x9 xf
  obtain ⟨x0, x1, x2, x3, x4, x5, x6, x7, x8, x9, xf⟩ := K5.out.ten
  go_wp2_with fail
  refine (markI_w lo W1 X s5 c5 e.l5 (((((k + (e.l0.length : Int)) + (e.l1.length : Int)) + (e.l2.length : Int)) + (e.l3.length : Int)) + (e.l4.length : Int)) _ HE.out.p5 hp HR.out m5 (by omega) (by omega)).mono ?_
  rintro z w6 ⟨rfl, hr⟩
  clear HR
  have HR : Hid (Mr lo W1 X w6) := hr
  have K6 := Hid.mk3 (hr.blk hn.out K0.out)
  clear hr x0 x1 x2 x3 x4 x5 x6 x7 x8 x9 xf
  obtain ⟨x0, x1, x2, x3, x4, x5, x6, x7, x8, x9, xf⟩ := K6.out.ten
  go_wp2_with fail
  refine (markI_w lo W1 X s6 c6 e.l6 ((((((k + (e.l0.length : Int)) + (e.l1.length : Int)) + (e.l2.length : Int)) + (e.l3.length : Int)) + (e.l4.length : Int)) + (e.l5.length : Int)) _ HE.out.p6 hp HR.out m6 (by omega) (by omega)).mono ?_
  rintro z w7 ⟨rfl, hr⟩
  clear HR
  have HR : Hid (Mr lo W1 X w7) := hr
  have K7 := Hid.mk3 (hr.blk hn.out K0.out)
  clear hr x0 x1 x2 x3 x4 x5 x6 x7 x8 x9 xf
  obtain ⟨x0, x1, x2, x3, x4, x5, x6, x7, x8, x9, xf⟩ := K7.out.ten
  go_wp2_with fail
  refine (markI_w lo W1 X s7 c7 e.l7 (((((((k + (e.l0.length : Int)) + (e.l1.length : Int)) + (e.l2.length : Int)) + (e.l3.length : Int)) + (e.l4.length : Int)) + (e.l5.length : Int)) + (e.l6.length : Int)) _ HE.out.p7 hp HR.out m7 (by omega) (by omega)).mono ?_
  rintro z w8 ⟨rfl, hr⟩
  clear HR
  have HR : Hid (Mr lo W1 X w8) := hr
  have K8 := Hid.mk3 (hr.blk hn.out K0.out)
  clear hr x0 x1 x2 x3 x4 x5 x6 x7 x8 x9 xf
  obtain ⟨x0, x1, x2, x3, x4, x5, x6, x7, x8, x9, xf⟩ := K8.out.ten
  go_wp2_with fail
  go_ret
  exact ⟨⟨((((((((k + (e.l0.length : Int)) + (e.l1.length : Int)) + (e.l2.length : Int)) + (e.l3.length : Int)) + (e.l4.length : Int)) + (e.l5.length : Int)) + (e.l6.length : Int)) + (e.l7.length : Int)), rfl, by omega, by omega⟩, HM.out.join HR.out⟩
end Go.Proofs.Ytgfchpbdoebmbaa
