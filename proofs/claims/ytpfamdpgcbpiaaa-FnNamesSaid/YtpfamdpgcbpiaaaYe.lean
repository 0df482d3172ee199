import Derived.Test.YtpfamdpgcbpiaaaYb
import Derived.Test.YtpfamdpgcbpiaaaYd
import Derived.Deep.RegionHeld3
namespace Go.Proofs.Ytpfamdpgcbpiaaa
open Go.RowKit Go.Maps Go.WideMaps
set_option linter.unusedVariables false
set_option linter.unusedSimpArgs false
set_option maxRecDepth 100000

theorem pick1 (A B C : List (ByteArray × Int)) : pickL A B C ((1 : Nat) : Int) = A := by simp [pickL]
theorem find_self {A B C : List (ByteArray × Int)} (hk : okR A B C = true) {i : Nat} (hi : i < A.length) {r : Int} (h : FindIs A B C 1 (dAt A i).1 r) : r = i :=
  h.one ⟨fun h' => (by rw [hk] at h'; cases h'), fun _ => Or.inl ⟨i, by simpa [pickL] using hi, by simp [pickL], rfl⟩⟩
theorem find_no {A B C : List (ByteArray × Int)} (hk : okR A B C = false) {t r : Int} {s : ByteArray} (h : FindIs A B C t s r) : r = -1 := h.1 hk
theorem find_other {A B C : List (ByteArray × Int)} (hk : okR A B C = true) {i : Nat} (hi : i < A.length) {t : Nat} (t1 : 2 ≤ t) (t3 : t ≤ 3) {r : Int} (h : FindIs A B C (t : Int) (dAt A i).1 r) : r = -1 := by
  rcases h.2 hk with ⟨k, k1, k2, rfl⟩ | ⟨_, h2⟩
  · exfalso
    have hi' : i < (pickL A B C ((1 : Nat) : Int)).length := by rw [pick1]; exact hi
    have := one_of hk (off_lt A B C (t := 1) (by omega) (by omega) hi') (off_lt A B C (t := t) (by omega) (by omega) k1) (by rw [dAt_off A B C (by omega) (by omega) hi', dAt_off A B C (by omega) (by omega) k1, k2, pick1])
    have e1 : offT A B C 1 = 0 := by simp [offT]
    have e2 : A.length ≤ offT A B C t := by
      have : t = 2 ∨ t = 3 := by omega
      rcases this with rfl | rfl <;> simp [offT]
    omega
  · exact h2
theorem name_at {A B C : List (ByteArray × Int)} (hk : okR A B C = true) {i : Nat} (hi : i < A.length) : isW (dAt A i).1 = false := by
  have hi' : i < (pickL A B C ((1 : Nat) : Int)).length := by rw [pick1]; exact hi
  have h1 := (okR_good hk).2 _ (off_lt A B C (t := 1) (by omega) (by omega) hi')
  have h2 := h1.1
  rw [dAt_off A B C (by omega) (by omega) hi', pick1] at h2
  simp [nameB] at h2
  exact h2.2
theorem kind_at {A B C : List (ByteArray × Int)} (hk : okR A B C = true) {i : Nat} (hi : i < A.length) : kindB A B C 1 (i : Int) = (dAt A i).2 := by
  have e : pickL A B C 1 = A := by simp [pickL]
  unfold kindB
  rw [e, if_pos ⟨hk, by omega, by omega⟩]
  simp
theorem kind_no {A B C : List (ByteArray × Int)} (hk : okR A B C = false) (i : Int) : kindB A B C 1 i = 0 := by
  unfold kindB
  rw [if_neg (by rw [hk]; simp)]

set_option maxHeartbeats 2000000 in
theorem drawReg_any (sl : Option Addr) (len cap : Nat) (w : World) (hl : len ≤ 1048576) (hC : Code w sl len) :
    Calls Try.prog 13 #[.slice sl len cap] w fun e w' => ∃ (p1 p2 : Nat) (s3 : Option Addr) (c1 c2 c3 : Nat) (A B C : List (ByteArray × Int)), e = .returned (.agg #[.slice (some ⟨p1, 0, none⟩) A.length c1, .slice (some ⟨p2, 0, none⟩) B.length c2, .slice s3 C.length c3]) ∧
      Decls w' (some ⟨p1, 0, none⟩) A ∧ Decls w' (some ⟨p2, 0, none⟩) B ∧ Decls w' s3 C ∧ (Nms A ∧ Nms B ∧ Nms C) ∧ (A.length ≤ 20 ∧ B.length ≤ 20 ∧ C.length ≤ 20) ∧ ((s3 = none ∧ c3 = 0 ∧ C = []) ∨ ∃ p3, s3 = some ⟨p3, 0, none⟩) ∧ Below w.heap.size w w' := by
  have k0 := Blk.new w #[.slice none 0 0, .slice none 0 0, .slice none 0 0] 34
  have L0 : Below w.heap.size w (w.alloc (.cells #[.slice none 0 0, .slice none 0 0, .slice none 0 0] 34)) := bl_alloc (Below.refl _ _) _
  go_enter Try.func13, Try.ntmps13
  go_wp2_with fail
  refine (l1New_any sl len cap _ hl (hC.alloc _)).mono ?_
  rintro e w1 ⟨n, rfl, hn, hb1, hC1⟩
  simp only [World.size_alloc] at hn
  have L1 := bl_trans L0 hb1
  have k1 := k0.later hb1
  go_wp2_with fail
  refine (l3Reg_any n _ hC1).mono ?_
  rintro e w2 ⟨p1, p2, s3, c1, c2, c3, A, B, C, rfl, dA, dB, dC, nms, lens, ⟨g1, g2, g3⟩, hs3, hK, hC2⟩
  have k2 := k1.keep hK (by omega)
  have l1 := k1.lt
  have L2 : Below w.heap.size w w2 := hK.below L1 (by omega)
  obtain ⟨y0, y1, y2, y3⟩ := k2.three'
  clear k0 k1 L0 L1 hb1 hC1 hK hC2 hC
  go_wp2_with fail
  refine bodyPost_ret (v := .agg #[.slice (some ⟨p1, 0, none⟩) A.length c1, .slice (some ⟨p2, 0, none⟩) B.length c2, .slice s3 C.length c3]) (by simp [results, Try.results13, go_sem, y0, y1, y2]) rfl ⟨p1, p2, s3, c1, c2, c3, A, B, C, rfl, ?_, ?_, ?_, nms, lens, hs3, ?_⟩
  · exact ((dA.other (by omega) _ _).other (by omega) _ _).other (by omega) _ _
  · exact ((dB.other (by omega) _ _).other (by omega) _ _).other (by omega) _ _
  · rcases hs3 with ⟨rfl, rfl, rfl⟩ | ⟨p3, rfl⟩
    · exact Or.inl rfl
    · have := g3 p3 rfl
      exact ((dC.other (by omega) _ _).other (by omega) _ _).other (by omega) _ _
  · refine ((L2.setCell ?_ _).setCell ?_ _).setCell ?_ _ <;> simp
theorem specReg_draw (p1 p2 c1 c2 c3 : Nat) (s3 : Option Addr) (A B C : List (ByteArray × Int)) (w : World) (hA : Decls w (some ⟨p1, 0, none⟩) A) (hB : Decls w (some ⟨p2, 0, none⟩) B) (hC : Decls w s3 C) (hs3 : (s3 = none ∧ c3 = 0 ∧ C = []) ∨ ∃ p3, s3 = some ⟨p3, 0, none⟩) :
    Calls Try.prog 15 #[.agg #[.slice (some ⟨p1, 0, none⟩) A.length c1, .slice (some ⟨p2, 0, none⟩) B.length c2, .slice s3 C.length c3]] w fun e w' => e = .returned (.bool (okR A B C)) ∧ Below w.heap.size w w' := by
  rcases hs3 with ⟨rfl, rfl, rfl⟩ | ⟨p3, rfl⟩
  · exact specRegOk_nil p1 0 c1 p2 0 c2 A B w hA hB
  · exact specRegOk_any p1 0 c1 p2 0 c2 p3 0 c3 A B C w hA hB hC
end Go.Proofs.Ytpfamdpgcbpiaaa
