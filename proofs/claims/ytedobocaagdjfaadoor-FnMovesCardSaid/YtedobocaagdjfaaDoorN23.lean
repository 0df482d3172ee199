import Derived.Test.YtedobocaagdjfaaDoorN22
namespace Go.Proofs.YtedobocaagdjfaaDoor
open Go.RowKit
set_option linter.unusedVariables false
set_option linter.unusedSimpArgs false

/-- what DrawPoolRun leaves. -/
def DrawnR (w : World) (e : Ending) (w' : World) : Prop :=
  ∃ (x : Int) (s : Option Addr) (c : Nat) (L : List (Int × Int)) (wk : Int) (sp : Option Addr) (cp : Nat) (P : List Int), e = .returned (.tuple #[.int .i64 x, .slice s L.length c, .int .i64 wk, .slice sp P.length cp]) ∧ L.length ≤ 300 ∧ P.length ≤ 3000 ∧ Wide P ∧ ERow w' w.heap.size (.slice s L.length c) L ∧ VRow w' w.heap.size (.slice sp P.length cp) P ∧ Below w.heap.size w w'
theorem DrawnR.mk {w w0 w1 w' : World} {n : Nat} {x wk : Int} {s : Option Addr} {c : Nat} {L : List (Int × Int)} {sp : Option Addr} {cp : Nat} {P : List Int} (h0 : Below w.heap.size w w0) (hn : w.heap.size ≤ n) (hE : Dge n w0 w1 (.slice s L.length c) L) (hL : L.length ≤ 300) (hD : Dgi n w1 w' (.slice sp P.length cp) P) (hP : P.length ≤ 3000) (hW : Wide P) : DrawnR w (.returned (.tuple #[.int .i64 x, .slice s L.length c, .int .i64 wk, .slice sp P.length cp])) w' := by
  have hE2 := hE.call hD.kp hD.cu
  have b1 : Below w.heap.size w w1 := hE.kp.below h0 hn
  exact ⟨x, s, c, L, wk, sp, cp, P, rfl, hL, hP, hW, hE2.o.mono h0.size, hD.o.mono b1.size, hD.kp.below b1 hn⟩

set_option maxHeartbeats 4000000 in
theorem drawPoolRun_any (sl : Option Addr) (len cap : Nat) (w : World) (hl : len ≤ 1048576) (hC : Code w sl len) :
    Calls Tryd.prog 5 #[.slice sl len cap] w fun e w' => DrawnR w e w' := by
  go_enter Tryd.func5, Tryd.ntmps5
  go_wp2_with fail
  refine (l1New_any sl len cap _ hl hC).mono ?_
  rintro e w1 ⟨n, rfl, hn, hb, hc⟩
  go_wp2_with fail
  refine (l14Some_any n 9 _ hc (by omega)).mono ?_
  rintro e w2 ⟨x, v, L, rfl, hx, hL, hD⟩
  obtain ⟨s, c, rfl⟩ := hD.slice
  go_wp2_with fail
  refine (l18Workers_any n _ hD.cu).mono ?_
  rintro e w3 ⟨wk, rfl, hk3, hc3⟩
  have HE : Hid (Dge n w1 w3 (.slice s L.length c) L) := hD.call hk3 hc3
  have HB : Hid (Below w.heap.size w w1) := hb
  clear hb hD hk3
  go_wp2_with fail
  refine (l18Picks_any n _ hc3).mono ?_
  rintro e w4 ⟨v, P, rfl, hP, hW, hDi⟩
  obtain ⟨sp, cp, rfl⟩ := hDi.slice
  have HD : Hid (Dgi n w3 w4 (.slice sp P.length cp) P) := hDi
  have HW : Hid (Wide P) := hW
  clear hDi hW
  go_wp2_with fail
  refine (l1Once_any n 20 _ HD.out.cu (by omega)).mono ?_
  rintro e w5 ⟨bb, rfl, hk5, hc5⟩
  have HD : Hid (Dgi n w3 w5 (.slice sp P.length cp) P) := HD.out.call hk5 hc5
  clear hk5 hc5
  cases bb
  · go_wp2_with fail
    exact bodyPost_ret (v := .tuple #[.int .i64 x, .slice s L.length c, .int .i64 wk, .slice sp P.length cp]) (by simp [results, Tryd.results5]) rfl (DrawnR.mk HB.out hn HE.out hL HD.out (by omega) HW.out)
  · go_wp2_with fail
    go_loopw [10] (fun ov wr => ∃ P : List Int, P.length ≤ 2001 ∧ Hid (Wide P) ∧ Hid (Dgi n w3 wr ov P)) (fun ov _ => 3000 - vlen ov)
    case atStart => exact ⟨P, by omega, HW, HD⟩
    case round =>
      clear HW HD
      obtain ⟨R, hR, HW, HD⟩ := hrel
      obtain ⟨sp, cp, rfl⟩ := HD.out.slice
      go_wp2_with fail
      refine (l1Below_any n 2 _ HD.out.cu (by omega)).mono ?_
      rintro e w6 ⟨r, rfl, r0, r1, hk6, hc6⟩
      have HD : Hid (Dgi n w3 w6 (.slice sp R.length cp) R) := HD.out.call hk6 hc6
      clear hk6 hc6
      have tr : IntKind.i64.wrap (2000 + r) = 2000 + r := by rw [IntKind.wrap_i64]; omega
      by_cases h1 : (R.length : Int) < 2000 + r
      · have d0 : decide ((R.length : Int) < 2000 + r) = true := by simpa using h1
        have HW2 : Hid (Wide (R ++ [(R.length : Int)])) := HW.out.more (by omega)
        go_wp2_with (at_builtin; refine wpList_draw_num HD.out (R.length : Int) (by omega) rfl (.tmp 30) (.tmp 33) rfl rfl rfl ?_)
        intro v' w9 hD9
        obtain ⟨s', c', rfl⟩ := hD9.slice
        have HD : Hid (Dgi n w3 w9 (.slice s' (R ++ [(R.length : Int)]).length c') (R ++ [(R.length : Int)])) := hD9
        clear hD9
        go_wp2_with fail
        go_roundw
        case rel => exact ⟨R ++ [(R.length : Int)], by simp; omega, HW2, HD⟩
        case measure => simp [vlen]; omega
      · have d0 : decide ((R.length : Int) < 2000 + r) = false := by simpa using h1
        go_wp2_with fail
        exact bodyPost_ret (v := .tuple #[.int .i64 x, .slice s L.length c, .int .i64 wk, .slice sp R.length cp]) (by simp [results, Tryd.results5]) rfl (DrawnR.mk HB.out hn HE.out hL HD.out (by omega) HW.out)
end Go.Proofs.YtedobocaagdjfaaDoor
