import Derived.Test.YtgiclehfhjjalaaSh
namespace Go.Proofs.Ytgiclehfhjjalaa
open Go.RowKit
set_option linter.unusedVariables false
set_option linter.unusedSimpArgs false

theorem Blk.off {w : World} {n : Nat} {c : Array Value} {t : TypeId} (h : Blk w n c t) {B g m k : Nat} {L : List V4} (hv : OV w B (.slice (some ⟨g, 0, none⟩) m k) L) (hB : n < B) : ¬ n = g := by
  have := (hv.lt g rfl).1
  omega

set_option maxHeartbeats 4000000 in
theorem specTurn_any (f : Int) (s1 : Option Addr) (pb po n1 c1 c2 : Nat) (N : List V4) (B : Nat) (w : World) (hN : Els 4 cVal w B (some ⟨pb, po, none⟩) N) (l1 : n1 ≤ 1048576) (l2 : N.length ≤ 1048576) :
    Calls Try.prog 26 #[.agg #[.int .i64 f, .slice s1 n1 c1, .slice (some ⟨pb, po, none⟩) N.length c2]] w fun e w' => OwnT w (fb f n1) N e w' := by
  have hal := alloc_old
  have haf := alloc_oldf
  have hoks := els_ok hN
  obtain ⟨i0, hi, hz0, hz1, hz2⟩ := info_parts Try.infoV
  obtain ⟨k0, k1, k2⟩ := blk3u w #[.int .i64 f, .slice s1 n1 c1, .slice (some ⟨pb, po, none⟩) N.length c2] #[.int .i64 0, .slice none 0 0, .slice none 0 0] #[] 26 26 32
  have L0 : Below w.heap.size w (((w.alloc (.cells #[.int .i64 f, .slice s1 n1 c1, .slice (some ⟨pb, po, none⟩) N.length c2] 26)).alloc (.cells #[.int .i64 0, .slice none 0 0, .slice none 0 0] 26)).alloc (.cells #[] 32)) := bl_alloc (bl_alloc (bl_alloc (Below.refl _ _) _) _) _
  obtain ⟨x0, x1, x2, x3⟩ := k0.three'
  have O0 := own0v (B := w.heap.size + 1 + 1) k2 (Nat.le_refl _)
  have hlen : (N.flatMap vcells).length = N.length * 4 := flat_len vcells_len N
  have hsrc := els_some (hN.later cVal_keeps L0)
  have HN : Hid (∀ j u, (N.flatMap vcells)[j]? = some u → World.cell? _ ((⟨pb, po, none⟩ : Addr).add j) = some u) := hsrc
  clear hsrc
  have HL : Hid ((N.flatMap vcells).length = N.length * 4) := hlen
  clear hlen
  go_enter Try.func26, Try.ntmps26
  go_wp2_with (at_builtin; refine wpList_append_own _ rfl _ _ 24 rfl (w.heap.size + 1 + 1) 32 i0 (.agg #[.int .i64 0, .int .i64 0, .float .f64 0, .float .f64 0]) 4 32 Try.underlying24 hi hz0 hz1 hz2 rfl (by decide) _ _ _ rfl O0 ⟨pb, po, none⟩ N.length c2 (N.flatMap vcells) rfl HL.out HN.out (vcells_one N) (by unfold maxLen; omega) (by omega) (by simp) ?_)
  intro v' w1 hown hgrow hnil
  have hO : OV w1 (w.heap.size + 1 + 1) v' N := hown
  have hv : ∃ g c, v' = .slice (some ⟨g, 0, none⟩) N.length c := by
    rcases hO.form with ⟨e1, _⟩ | ⟨g, cap, e1, _, _⟩
    · exact (hnil e1).elim
    · exact ⟨g, cap, e1⟩
  obtain ⟨g, c, rfl⟩ := hv
  have K0 := k0.kept' hgrow (by simp [Value.ownBlock] <;> omega)
  have K1 := k1.kept' hgrow (by simp [Value.ownBlock] <;> omega)
  have L1 : Below w.heap.size w w1 := L0.grown hgrow L0.size (fun k e => by simp [Value.ownBlock] at e; omega)
  clear hown hgrow hnil hN HN HL O0 k0 k1 k2 L0 x0 x1 x2 x3 hi hz0 hz1 hz2
  have tw : IntKind.i64.wrap (1000000000000 - (n1 : Int)) = 1000000000000 - (n1 : Int) := by rw [IntKind.wrap_i64]; omega
  have hlt := K1.lt
  have fin : ∀ t : Int, ∃ X, X = w1.alloc (.cells #[.int .i64 t, .slice (some ⟨g, 0, none⟩) N.length c, .slice none 0 0] 26) ∧ Blk X w.heap.size #[.int .i64 f, .slice s1 n1 c1, .slice (some ⟨pb, po, none⟩) N.length c2] 26 ∧ Blk X (w.heap.size + 1) #[.int .i64 0, .slice none 0 0, .slice none 0 0] 26 ∧ Blk X w1.heap.size #[.int .i64 t, .slice (some ⟨g, 0, none⟩) N.length c, .slice none 0 0] 26 ∧ OV X (w.heap.size + 1 + 1) (.slice (some ⟨g, 0, none⟩) N.length c) N ∧ Below w.heap.size w X ∧ w.heap.size + 1 < X.heap.size :=
    fun t => ⟨_, rfl, K0.alloc _, K1.alloc _, Blk.new _ _ _, hO.alloc _, bl_alloc L1 _, (K1.alloc _).lt⟩
  obtain ⟨X, eX, A0, A1, A2, AO, AL, At⟩ := fin (fb f n1)
  obtain ⟨x0, x1, x2, x3⟩ := (K0.alloc (.cells #[.int .i64 0, .slice (some ⟨g, 0, none⟩) N.length c, .slice none 0 0] 26)).three'
  obtain ⟨y0, y1, y2, y3⟩ := A1.three'
  have hne : ¬ w.heap.size + 1 = w1.heap.size := by omega
  have dn : ∀ K : Act → World → Prop, True := fun _ => trivial
  clear dn
  by_cases h1 : f < 0
  · have E : fb f n1 = 0 := by simp [fb]; omega
    rw [E] at eX A2
    have EH : Hid (fb f n1 = _) := E
    clear E
    have h1' : ¬ 0 ≤ f := by omega
    subst eX
    clear K0 K1 L1 hO A0 A2 fin hlt tw
    go_wp2_with fail
    refine bodyPost_ret (v := .agg #[.int .i64 0, .slice (some ⟨g, 0, none⟩) N.length c, .slice none 0 0]) (by simp [results, Try.results26, go_sem, y0, y1, y2]) rfl ⟨g, c, by rw [EH.out], ?_, hoks, ?_⟩
    · exact (AO.kept (keptUnder At _ _ _)).mono (by omega)
    · exact ((AL.setCell (by simp <;> omega) _).setCell (by simp <;> omega) _).setCell (by simp <;> omega) _
  · by_cases h2 : 1000000000000 - (n1 : Int) < f
    · have E : fb f n1 = 0 := by simp [fb]; omega
      rw [E] at eX A2
      have EH : Hid (fb f n1 = _) := E
      clear E
      have h1' : 0 ≤ f := by omega
      have h2' : ¬ f ≤ 1000000000000 - (n1 : Int) := by omega
      subst eX
      clear K0 K1 L1 hO A0 A2 fin hlt
      go_wp2_with fail
      refine bodyPost_ret (v := .agg #[.int .i64 0, .slice (some ⟨g, 0, none⟩) N.length c, .slice none 0 0]) (by simp [results, Try.results26, go_sem, y0, y1, y2]) rfl ⟨g, c, by rw [EH.out], ?_, hoks, ?_⟩
      · exact (AO.kept (keptUnder At _ _ _)).mono (by omega)
      · exact ((AL.setCell (by simp <;> omega) _).setCell (by simp <;> omega) _).setCell (by simp <;> omega) _
    · have E : fb f n1 = f + (n1 : Int) := by simp [fb]; omega
      rw [E] at eX A2
      have EH : Hid (fb f n1 = _) := E
      clear E
      have h1' : 0 ≤ f := by omega
      have h2' : f ≤ 1000000000000 - (n1 : Int) := by omega
      have tw2 : IntKind.i64.wrap (f + (n1 : Int)) = f + (n1 : Int) := by rw [IntKind.wrap_i64]; omega
      subst eX
      clear K0 K1 L1 hO A0 A2 fin hlt
      go_wp2_with fail
      refine bodyPost_ret (v := .agg #[.int .i64 (f + (n1 : Int)), .slice (some ⟨g, 0, none⟩) N.length c, .slice none 0 0]) (by simp [results, Try.results26, go_sem, y0, y1, y2]) rfl ⟨g, c, by rw [EH.out], ?_, hoks, ?_⟩
      · exact (AO.kept (keptUnder At _ _ _)).mono (by omega)
      · exact ((AL.setCell (by simp <;> omega) _).setCell (by simp <;> omega) _).setCell (by simp <;> omega) _
end Go.Proofs.Ytgiclehfhjjalaa
