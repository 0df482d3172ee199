import Derived.Test.YtcllkmdlheggkaaDj
import Derived.Test.YtcllkmdlheggkaaDi
import Derived.Test.YtcllkmdlheggkaaGe
import Derived.Test.YtcllkmdlheggkaaEp
import Derived.Deep.QuietTactic
import Derived.BigQuiet
namespace Go.Proofs.Ytcllkmdlheggkaa
open Go.RowKit
set_option linter.unusedVariables false
set_option linter.unusedSimpArgs false

theorem takeB_ok {G F : List Int} (h : okE G F = true) : takeB G F = take1 G F := by simp only [takeB, h, if_true, take1]
theorem okK {G F : List Int} (h : okE G F = true) : ∀ k, k ≤ F.length + 2000 - G.length → okE (GK G F k) (FK F k) = true := by
  obtain ⟨hg, hf, _⟩ := okE_parts h
  intro k
  induction k with
  | zero => intro _; rw [GK_zero, FK_zero]; exact h
  | succ k ih =>
    intro hk
    have := okE_take1 (ih (by omega))
    rw [take1_step hg hf (by omega)] at this
    exact this
theorem takeK {G F : List Int} (h : okE G F = true) {k : Nat} (hk : k < F.length + 2000 - G.length) : takeB (GK G F k) (FK F k) = (GK G F (k + 1), FK F (k + 1), takeAt G F k, 0) := by
  obtain ⟨hg, hf, _⟩ := okE_parts h
  rw [takeB_ok (okK h k (by omega)), take1_step hg hf hk]
theorem VRow.none0' {w : World} {B n c : Nat} {s : Option Addr} {L : List Int} (h : VRow w B (.slice s n c) L) : s = none → c = 0 := by
  intro hs
  rcases h.form with ⟨h', _⟩ | ⟨g, cap, h', _⟩
  · simp at h'; exact h'.2.2
  · simp at h'; rw [hs] at h'; simp at h'
theorem VRow.intsOf' {w : World} {B n c : Nat} {s : Option Addr} {L : List Int} (h : VRow w B (.slice s n c) L) : Ints w s L := by
  obtain ⟨s', c', h', hi⟩ := h.slice
  simp at h'
  rw [h'.1]; exact hi
theorem genTake_is (O : List Int × List Int × (Int × Int) × Int) (o1 o2 : Option Addr) (c1 c2 : Nat) (G F : List Int) (w : World) (h1 : Ints w o1 G) (h2 : Ints w o2 F) (l1 : G.length ≤ 1048576) (l2 : F.length ≤ 1048576) (n1 : o1 = none → c1 = 0) (n2 : o2 = none → c2 = 0) (hO : takeB G F = O) :
    Calls Try.prog 9 #[.agg #[.slice o1 G.length c1, .slice o2 F.length c2]] w fun e w' => Takes O w e w' := by
  subst hO; exact genTake_any o1 o2 c1 c2 G F w h1 h2 l1 l2 n1 n2

/-- the things at a moment: their box and rows. -/
structure Mo (w : World) (B b : Nat) (s : Option Addr) (c : Nat) (t : Option Addr) (d : Nat) (G F : List Int) : Prop where
  k : Blk w b #[.slice s G.length c, .slice t F.length d] 26
  v : VRow w B (.slice s G.length c) G
  u : VRow w B (.slice t F.length d) F
theorem Mo.later {w w' : World} {B b c d : Nat} {s t : Option Addr} {G F : List Int} (h : Mo w B b s c t d G F) (hb : Below w.heap.size w w') : Mo w' B b s c t d G F := ⟨h.k.later hb, h.v.later hb, h.u.later hb⟩

set_option maxRecDepth 100000 in
set_option maxHeartbeats 16000000 in
theorem aheadOf_any (sl : Option Addr) (len cap : Nat) (w : World) (hC : Code w sl len) :
    Calls Try.prog 4 #[.slice sl len cap] w fun e w' => e = .returned (.bool true) ∧ Below w.heap.size w w' := by
  have hal := alloc_old
  have haf := alloc_oldf
  by_cases hl : len ≤ 1048576
  · have hd : decide (1048576 < (len : Int)) = false := by simp; omega
    go_enter Try.func4, Try.ntmps4
    go_wp2_with fail
    refine (big_any sl len cap _).mono ?_
    rintro e w0 ⟨rfl, hw0⟩
    obtain rfl : w = w0 := hw0.symm
    clear hw0
    rw [hd]
    go_wp2_with fail
    refine (drawAhead_any sl len cap _ hl hC).mono ?_
    rintro e w1 ⟨g, c, f, d, G, F, n, rfl, v1, v2, hne, ⟨lG, lF⟩, L⟩
    have gl : G.length ≤ 1048576 := by omega
    have fl : F.length ≤ 1048576 := by omega
    have M : Mo (w1.alloc (.cells #[.slice (some ⟨g, 0, none⟩) G.length c, .slice (some ⟨f, 0, none⟩) F.length d] 26)) w.heap.size w1.heap.size (some ⟨g, 0, none⟩) c (some ⟨f, 0, none⟩) d G F := ⟨Blk.new _ _ _, v1.alloc _, v2.alloc _⟩
    have hbw : w.heap.size ≤ w1.heap.size := L.size
    replace L := bl_alloc L (.cells #[.slice (some ⟨g, 0, none⟩) G.length c, .slice (some ⟨f, 0, none⟩) F.length d] 26)
    obtain ⟨x0, x1, x2⟩ := M.k.two
    clear v1 v2 hne
    go_wp2_with fail
    generalize hX : w1.alloc (.cells #[.slice (some ⟨g, 0, none⟩) G.length c, .slice (some ⟨f, 0, none⟩) F.length d] 26) = X1 at M L x0 x1 x2 ⊢
    generalize hbp : w1.heap.size = bp at M x0 x1 x2 hbw ⊢
    clear hX hbp x0 x1 x2 hd
    refine (implAhead_any _ _ _ _ G F n _ M.v.intsOf' M.u.intsOf' fl).mono ?_
    rintro e w2 ⟨vl, rfl, hvl, hb⟩
    replace hvl := hvl.mono L.size
    replace M := M.later hb
    replace L := bl_trans L hb
    clear hb
    obtain ⟨x0, x1, x2⟩ := M.k.two
    go_wp2_with fail
    refine (specAhead_any _ _ _ _ _ _ G F n _ M.v.intsOf' M.u.intsOf').mono ?_
    rintro e w3 ⟨v9, rfl, _, hb⟩
    replace hvl := hvl.later hb
    replace M := M.later hb
    replace L := bl_trans L hb
    clear hb x0 x1 x2
    obtain ⟨sv, cv, rfl⟩ := hvl.list.shape
    cases hok : aheadOk G F n
    · have hnil : (aheadL G F n).length = 0 := by simp [aheadL, hok]
      rw [hnil]
      go_wp2_with fail
      go_ret
      exact ⟨by simp, L⟩
    · have h := hok
      simp only [aheadOk, Bool.and_eq_true, decide_eq_true_eq] at h
      obtain ⟨hok1, hn0, hn1⟩ := h
      obtain ⟨N, rfl⟩ : ∃ N : Nat, n = N := ⟨n.toNat, by omega⟩
      have hlen : (aheadL G F (N : Int)).length = N := by simp [aheadL, hok, aheadK_len]
      have hLK : aheadL G F (N : Int) = aheadK G F N := by simp [aheadL, hok]
      rw [hlen] at hvl ⊢
      rw [hLK] at hvl
      have hNM : N ≤ F.length + 2000 - G.length := by omega
      have hnn : ((N : Int) != (N : Int)) = false := by simp
      have hlK := aheadK_len G F N
      have HOK : Hid (okE G F = true) := hok1
      clear hok hok1 hn0 hn1 hlen hLK
      go_wp2_with fail
      go_loopw [9] (fun i wr => ∃ k : Nat, k ≤ N ∧ k ≤ 40 ∧ i = .int .i64 k ∧ (∃ s cs t ct, Mo wr w.heap.size bp s cs t ct (GK G F k) (FK F k)) ∧ ERow wr w.heap.size (.slice sv N cv) (aheadK G F N) ∧ Below w.heap.size w wr) (fun i _ => N - (intOf i).toNat)
      case atStart => exact ⟨0, Nat.zero_le _, by omega, rfl, ⟨_, _, _, _, by rw [GK_zero, FK_zero]; exact M⟩, hvl, L⟩
      case round =>
        clear M hvl L
        obtain ⟨k, hkN, hk40, rfl, ⟨s, cs, t, ct, M⟩, hvl, L⟩ := hrel
        by_cases hlt : k < N ∧ k < 40
        · obtain ⟨hlt, hlt2⟩ := hlt
          have hltI : (k : Int) < (N : Int) := by omega
          have hltJ : (k : Int) < 40 := by omega
          obtain ⟨p, hp⟩ : ∃ p, takeAt G F k = p := ⟨_, rfl⟩
          obtain ⟨a, a'⟩ := p
          have hT : Hid (takeB (GK G F k) (FK F k) = (GK G F (k + 1), FK F (k + 1), (a, a'), 0)) := by
            show _ = _
            rw [takeK HOK.out (by omega), hp]
          have hat : (aheadK G F N)[k]?.getD (0, 0) = (a, a') := by
            simp [aheadK, hlt, hp]
          obtain ⟨gv, cv', hv, hcell⟩ := hvl.list.get (k := k) (by rw [hlK]; exact hlt)
          rw [hat] at hcell
          rw [hlK] at hv
          simp only [Value.slice.injEq] at hv
          obtain ⟨rfl, -, rfl⟩ := hv
          clear hp hat
          obtain ⟨x0, x1, x2⟩ := M.k.two
          go_wp2_with fail
          refine (genTake_is (GK G F (k + 1), FK F (k + 1), (a, a'), 0) _ _ _ _ (GK G F k) (FK F k) _ M.v.intsOf' M.u.intsOf' (by rw [GK_len]; omega) (by rw [FK_len]; omega) M.v.none0' M.u.none0' hT.out).mono ?_
          rintro e w4 ⟨sa, ca, ta, da, rfl, va, ua, hap, hb⟩
          have V4 := ((va.mono (B' := w.heap.size) L.size).alloc (.cells #[.slice sa (GK G F (k + 1)).length ca, .slice ta (FK F (k + 1)).length da] 26)).alloc (.cells #[.int .i64 a, .int .i64 a'] 29)
          have U4 := ((ua.mono (B' := w.heap.size) L.size).alloc (.cells #[.slice sa (GK G F (k + 1)).length ca, .slice ta (FK F (k + 1)).length da] 26)).alloc (.cells #[.int .i64 a, .int .i64 a'] 29)
          have Eb : Blk ((w4.alloc (.cells #[.slice sa (GK G F (k + 1)).length ca, .slice ta (FK F (k + 1)).length da] 26)).alloc (.cells #[.int .i64 a, .int .i64 a'] 29)) w4.heap.size #[.slice sa (GK G F (k + 1)).length ca, .slice ta (FK F (k + 1)).length da] 26 := (Blk.new _ _ _).alloc _
          have Ab : Blk ((w4.alloc (.cells #[.slice sa (GK G F (k + 1)).length ca, .slice ta (FK F (k + 1)).length da] 26)).alloc (.cells #[.int .i64 a, .int .i64 a'] 29)) (w4.heap.size + 1) #[.int .i64 a, .int .i64 a'] 29 := Blk.new' _ _ _ (by simp)
          replace hb := bl_trans hb (bl_alloc (bl_alloc (Below.refl _ w4) (.cells #[.slice sa (GK G F (k + 1)).length ca, .slice ta (FK F (k + 1)).length da] 26)) (.cells #[.int .i64 a, .int .i64 a'] 29))
          have K4 := M.k.later hb
          have R4 := hvl.later hb
          have L4 := bl_trans L hb
          obtain ⟨c0, c1⟩ := hcell _ hb
          have hb4 := M.k.lt
          obtain ⟨y0, y1, y2⟩ := Ab.two
          obtain ⟨z0, z1, z2⟩ := Eb.two
          clear x0 x1 x2 hcell va ua hap hb M hvl L
          obtain ⟨x0, x1, x2⟩ := K4.two
          go_upto_region 14 with fail
          generalize hX : (w4.alloc (.cells #[.slice sa (GK G F (k + 1)).length ca, .slice ta (FK F (k + 1)).length da] 26)).alloc (.cells #[.int .i64 a, .int .i64 a'] 29) = X4 at V4 U4 Eb Ab K4 R4 L4 c0 c1 x0 x1 x2 y0 y1 y2 z0 z1 z2 ⊢
          clear hX
          have haa : (a == a) = true := by simp
          have haa' : (a' == a') = true := by simp
          have hna : (a != a) = false := by simp
          have hna' : (a' != a') = false := by simp
          go_quiet (fail)
          go_wp2_with fail
          have D := bl_drewN (Below.refl _ X4) nq
          have K5 := K4.later D
          have V5 := V4.later D
          have U5 := U4.later D
          have R5 := R4.later D
          have L5 := bl_drewN L4 nq
          have b1 := V5.apartBox K5 (by decide)
          have b2 := U5.apartBox K5 (by decide)
          have b3 := R5.apartB K5 (by decide)
          exact ⟨⟨k + 1, by omega, by omega, by go_num, ⟨sa, ca, ta, da, ⟨(K5.set 0 _).set 1 _, (V5.other b1 0 _).other b1 1 _, (U5.other b2 0 _).other b2 1 _⟩⟩, (R5.other b3 0 _).other b3 1 _, (L5.setCell hbw _).setCell hbw _⟩, by simp [intOf]; omega⟩
        · by_cases h1 : k < N
          · have hltI : (k : Int) < (N : Int) := by omega
            have hltJ : ¬ (k : Int) < 40 := by omega
            clear hlt
            go_wp2_with fail
            go_ret
            exact ⟨rfl, L⟩
          · have hltI : ¬ (k : Int) < (N : Int) := by omega
            clear hlt
            go_wp2_with fail
            go_ret
            exact ⟨rfl, L⟩
  · have hd : decide (1048576 < (len : Int)) = true := by simp; omega
    go_enter Try.func4, Try.ntmps4
    go_wp2_with fail
    refine (big_any sl len cap _).mono ?_
    rintro e w0 ⟨rfl, hw0⟩
    obtain rfl : w = w0 := hw0.symm
    clear hw0
    rw [hd]
    go_wp2_with fail
    go_ret
    exact ⟨rfl, Below.refl _ _⟩
end Go.Proofs.Ytcllkmdlheggkaa
