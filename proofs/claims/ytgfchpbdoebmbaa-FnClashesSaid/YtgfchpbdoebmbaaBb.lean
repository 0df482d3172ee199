import Derived.Test.YtgfchpbdoebmbaaBa
import Derived.Test.YtgfchpbdoebmbaaSk
import Derived.Deep.RegionHeld3
namespace Go.Proofs.Ytgfchpbdoebmbaa
open Go.RowKit
set_option linter.unusedVariables false
set_option linter.unusedSimpArgs false

theorem Hid.mk' {p : Prop} (h : p) : Hid p := h
theorem Try.infoEf : (Try.prog.info? 28).map (·.size) = some 10 := by kernel_rfl
theorem one10 {p0 p1 p2 p3 p4 p5 p6 p7 : Option Addr} {n0 n1 n2 n3 n4 n5 n6 n7 : Nat} {m0 m1 m2 m3 m4 m5 m6 m7 : Nat} {x y : Bool} : (#[.slice p0 n0 m0, .slice p1 n1 m1, .slice p2 n2 m2, .slice p3 n3 m3, .slice p4 n4 m4, .slice p5 n5 m5, .slice p6 n6 m6, .slice p7 n7 m7, .bool x, .bool y] : Array Value).all (·.oneCell') = true := by simp [Value.oneCell']
/-- an effect of one's own. -/
structure OE (w : World) (B : Nat) (p0 p1 p2 p3 p4 p5 p6 p7 : Option Addr) (n0 n1 n2 n3 n4 n5 n6 n7 : Nat) (J : Ef) : Prop where
  o0 : OI w B (.slice p0 J.l0.length n0) J.l0
  o1 : OI w B (.slice p1 J.l1.length n1) J.l1
  o2 : OI w B (.slice p2 J.l2.length n2) J.l2
  o3 : OI w B (.slice p3 J.l3.length n3) J.l3
  o4 : OI w B (.slice p4 J.l4.length n4) J.l4
  o5 : OI w B (.slice p5 J.l5.length n5) J.l5
  o6 : OI w B (.slice p6 J.l6.length n6) J.l6
  o7 : OI w B (.slice p7 J.l7.length n7) J.l7
structure JoinIs (V U J : Ef) : Prop where
  s0 : Srt (V.l0 ++ U.l0) J.l0
  s1 : Srt (V.l1 ++ U.l1) J.l1
  s2 : Srt (V.l2 ++ U.l2) J.l2
  s3 : Srt (V.l3 ++ U.l3) J.l3
  s4 : Srt (V.l4 ++ U.l4) J.l4
  s5 : Srt (V.l5 ++ U.l5) J.l5
  s6 : Srt (V.l6 ++ U.l6) J.l6
  s7 : Srt (V.l7 ++ U.l7) J.l7
  sp : J.sp = (V.sp || U.sp)
  kl : J.kl = (V.kl || U.kl)
end Go.Proofs.Ytgfchpbdoebmbaa
