import Derived.Test.YtgfchpbdoebmbaaAb
namespace Go.Proofs.Ytgfchpbdoebmbaa
open Go.RowKit
set_option linter.unusedVariables false
set_option linter.unusedSimpArgs false

set_option maxRecDepth 100000 in
set_option maxHeartbeats 4000000 in
theorem l10Union_any (s t : Option Addr) (c d : Nat) (A B : List Int) (B0 C0 : Nat) (w : World) (hA : Els 1 cInt w B0 s A) (hB : Els 1 cInt w C0 t B) (la : A.length ≤ 2199023255552) (lb : B.length ≤ 2199023255552) :
    Calls Try.prog 34 #[.slice s A.length c, .slice t B.length d] w fun e w' => (∃ s' c' R, e = .returned (.slice s' (List.length (α := Int) R) c') ∧ OI w' w.heap.size (.slice s' R.length c') R ∧ Srt (A ++ B) R) ∧ Below w.heap.size w w' := by
  have hb0 : Hid (Below w.heap.size w (w.alloc (.cells #[] 3))) := bl_alloc (Below.refl _ _) _
  have hO0 : Hid (OI (w.alloc (.cells #[] 3)) w.heap.size (.slice (some ⟨w.heap.size, 0, none⟩) 0 0) []) := OI.empty (Blk.new w #[] 3)
  have EA : Hid (Els 1 cInt (w.alloc (.cells #[] 3)) B0 s A) := hA.later cInt_keeps hb0.out
  have EB : Hid (Els 1 cInt w C0 t B) := hB
  clear hA hB
  go_enter Try.func34, Try.ntmps34
  obtain ⟨M, hM⟩ : ∃ M, Hid (A ++ B = M) := ⟨_, (rfl : A ++ B = _)⟩
  have lM : M.length ≤ 4398046511104 := by rw [← hM.out]; simp; omega
  go_wp2_with (first
    | (at_builtin; refine wpList_append_ints rfl (.tmp 7) (.tmp 8) rfl w.heap.size s1 c1 A rfl hO1.out C0 t d B rfl EB1.out M hM.out (by omega) hb1.out.size ?_; intro s2 c2 w2 hO2 hg2 hn2; have hb2 : Hid (Below w.heap.size w w2) := grown_oi hb1.out hb1.out.size hO1.out hg2; have HO2 : Hid (OI w2 w.heap.size (.slice s2 M.length c2) M) := hO2; clear hO2 hg2 hn2 hO1 EB EA EB1 hb1 hb0 hO0)
    | (at_builtin; refine wpList_append_ints rfl (.tmp 5) (.tmp 6) rfl w.heap.size _ 0 [] rfl hO0.out B0 s c A rfl EA.out A (List.nil_append A) (by simp; omega) (by simp) ?_; intro s1 c1 w1 hO1' hg1 hn1; have hb1 : Hid (Below w.heap.size w w1) := grown_oi hb0.out hb0.out.size hO0.out hg1; have hO1 : Hid (OI w1 w.heap.size (.slice s1 A.length c1) A) := hO1'; have EB1 : Hid (Els 1 cInt w1 C0 t B) := EB.out.later cInt_keeps hb1.out; clear hO1' hg1 hn1))
  refine (l10Sorted_any M.length M (show Hid _ from rfl) (by omega) s2 c2 _ _ HO2.out.els HO2.out.cap).mono ?_
  rintro e w3 ⟨⟨s3, c3, R, rfl, o3, h3⟩, hb3⟩
  have HO3 : Hid (OI w3 w.heap.size (.slice s3 R.length c3) R) := o3.mono hb2.out.size
  have H3 : Hid (Srt (A ++ B) R) := by rw [hM.out]; exact h3
  have L3 : Hid (Below w.heap.size w w3) := bl_trans hb2.out hb3
  clear o3 h3 hb3 HO2
  go_wp2_with fail
  go_ret
  exact ⟨⟨s3, c3, R, rfl, HO3.out, H3.out⟩, L3.out⟩
end Go.Proofs.Ytgfchpbdoebmbaa
