import Derived.Test.YtgfchpbdoebmbaaC1
namespace Go.Proofs.Ytgfchpbdoebmbaa
open Go.RowKit
set_option linter.unusedVariables false
set_option linter.unusedSimpArgs false

/-- what stands in both, ascending. -/
def Met (A B R : List Int) : Prop := Asc R ∧ (∀ x, x ∈ R ↔ x ∈ A ∧ x ∈ B) ∧ R.length ≤ A.length
/-- under way: the first i of X were looked at, the first k of Y are behind. -/
structure Mt (X Y : List Int) (i k : Nat) (R : List Int) : Prop where
  asc : Asc R
  mem : ∀ x, x ∈ R ↔ x ∈ X.take i ∧ x ∈ Y
  len : R.length ≤ i
  low : ∀ (j : Nat) y x, j < k → Y[j]? = some y → X[i]? = some x → y < x
theorem Mt.start (X Y : List Int) : Mt X Y 0 0 [] := ⟨List.Pairwise.nil, by simp, by simp, fun j y x h => by omega⟩
theorem Mt.more {X Y R : List Int} {i k : Nat} {x y : Int} (h : Mt X Y i k R) (hx : X[i]? = some x) (hy : Y[k]? = some y) (hl : y < x) : Mt X Y i (k + 1) R := by
  refine ⟨h.asc, h.mem, h.len, fun j y' x' hj hy' hx' => ?_⟩
  by_cases e : j = k
  · subst e
    rw [hy] at hy'; rw [hx] at hx'
    cases hy'; cases hx'; exact hl
  · exact h.low j y' x' (by omega) hy' hx'
theorem asc_next {X : List Int} (aX : Asc X) {i : Nat} {x x' : Int} (hx : X[i]? = some x) (hx' : X[i + 1]? = some x') : x < x' := by
  obtain ⟨a1, rfl⟩ := List.getElem?_eq_some_iff.1 hx
  obtain ⟨a2, rfl⟩ := List.getElem?_eq_some_iff.1 hx'
  exact List.pairwise_iff_getElem.1 aX i (i + 1) a1 a2 (by omega)
theorem asc_before {X : List Int} (aX : Asc X) {i : Nat} {x z : Int} (hx : X[i]? = some x) (hz : z ∈ X.take i) : z < x := by
  obtain ⟨j, hj, e⟩ := List.getElem_of_mem hz
  rw [List.length_take] at hj
  rw [List.getElem_take] at e
  obtain ⟨a1, rfl⟩ := List.getElem?_eq_some_iff.1 hx
  subst e
  exact List.pairwise_iff_getElem.1 aX j i (by omega) a1 (by omega)
theorem Mt.found {X Y R : List Int} {i k : Nat} {x : Int} (h : Mt X Y i k R) (aX : Asc X) (hx : X[i]? = some x) (hy : Y[k]? = some x) : Mt X Y (i + 1) k (R ++ [x]) := by
  refine ⟨List.pairwise_append.2 ⟨h.asc, by simp, fun a ha b hb => ?_⟩, fun z => ?_, by have := h.len; simp; omega, fun j y' x' hj hy' hx' => ?_⟩
  · simp at hb
    subst hb
    exact asc_before aX hx ((h.mem a).1 ha).1
  · rw [List.mem_append, h.mem z, mem_take_succ hx]
    constructor
    · rintro (⟨h1, h2⟩ | h1)
      · exact ⟨Or.inl h1, h2⟩
      · simp at h1; subst h1; exact ⟨Or.inr rfl, List.mem_of_getElem? hy⟩
    · rintro ⟨h1 | rfl, h2⟩
      · exact Or.inl ⟨h1, h2⟩
      · exact Or.inr (by simp)
  · have h1 := h.low j y' x hj hy' hx
    have h2 := asc_next aX hx hx'
    omega
theorem Mt.not {X Y R : List Int} {i k : Nat} {x : Int} (h : Mt X Y i k R) (aX : Asc X) (aY : Asc Y) (hx : X[i]? = some x) (hn : ∀ y, Y[k]? = some y → x < y) : Mt X Y (i + 1) k R := by
  have hno : ¬ x ∈ Y := by
    intro h1
    obtain ⟨j, hj⟩ := List.mem_iff_getElem?.1 h1
    by_cases hjk : j < k
    · have := h.low j x x hjk hj hx
      omega
    · have lj := (List.getElem?_eq_some_iff.1 hj).1
      obtain ⟨y, hy⟩ := get_some (L := Y) (k := k) (by omega)
      have h2 := hn y hy
      by_cases e : j = k
      · subst e; rw [hj] at hy; cases hy; omega
      · obtain ⟨a1, rfl⟩ := List.getElem?_eq_some_iff.1 hy
        obtain ⟨a2, e2⟩ := List.getElem?_eq_some_iff.1 hj
        have := List.pairwise_iff_getElem.1 aY k j a1 a2 (by omega)
        omega
  refine ⟨h.asc, fun z => ?_, by have := h.len; omega, fun j y' x' hj hy' hx' => ?_⟩
  · rw [h.mem z, mem_take_succ hx]
    constructor
    · rintro ⟨h1, h2⟩
      exact ⟨Or.inl h1, h2⟩
    · rintro ⟨h1 | rfl, h2⟩
      · exact ⟨h1, h2⟩
      · exact absurd h2 hno
  · have h1 := h.low j y' x hj hy' hx
    have h2 := asc_next aX hx hx'
    omega
theorem Mt.all {X Y A B R : List Int} {i k : Nat} (h : Mt X Y i k R) (sX : Srt A X) (sY : Srt B Y) (hi : i ≤ X.length) (hn : ¬ i < X.length) : Met A B R := by
  refine ⟨h.asc, fun x => ?_, by have := h.len; have := sX.2.2; omega⟩
  rw [h.mem x, List.take_of_length_le (by omega), sX.2.1, sY.2.1]

theorem oi_drewN {w : World} {B : Nat} {v : Value} {L : List Int} (h : OI w B v L) (n : Nat) : OI (w.drewN n) B v L := h.later (bl_drewN (Below.refl _ _) n)
theorem Hid.mk2 {p : Prop} (h : p) : Hid p := h
set_option maxRecDepth 100000 in
set_option maxHeartbeats 8000000 in
theorem l16Meet_any (s t : Option Addr) (c d : Nat) (A B : List Int) (B0 C0 : Nat) (w : World) (hA : Els 1 cInt w B0 s A) (hB : Els 1 cInt w C0 t B) (la : A.length ≤ c) (lb : B.length ≤ d) (ma : A.length ≤ 1099511627776) (mb : B.length ≤ 1099511627776) :
    Calls Try.prog 35 #[.slice s A.length c, .slice t B.length d] w fun e w' => (∃ s' c' R, e = .returned (.slice s' (List.length (α := Int) R) c') ∧ OI w' w.heap.size (.slice s' R.length c') R ∧ Met A B R) ∧ Below w.heap.size w w' := by
  have HB : Hid (Els 1 cInt w C0 t B) := hB
  clear hB
  go_enter Try.func35, Try.ntmps35
  go_wp2_with fail
  refine (l10Sorted_any A.length A (show Hid _ from rfl) (by omega) s c B0 _ hA la).mono ?_
  rintro e w1 ⟨⟨s1, c1, X, rfl, hX, sX⟩, hb1⟩
  have HX : Hid (OI w1 w.heap.size (.slice s1 X.length c1) X) := hX
  have SX : Hid (Srt A X) := sX
  have lX : X.length ≤ 1099511627776 := by have := sX.2.2; omega
  clear hX sX hA la ma
  go_wp2_with fail
  refine (l10Sorted_any B.length B (show Hid _ from rfl) (by omega) t d C0 _ (HB.out.later cInt_keeps hb1) lb).mono ?_
  rintro e w2 ⟨⟨s2, c2, Y, rfl, hY, sY⟩, hb2⟩
  have EX : Hid (Els 1 cInt w2 w.heap.size s1 X) := (HX.out.later hb2).els
  have EY : Hid (Els 1 cInt w2 w1.heap.size s2 Y) := hY.els
  have SY : Hid (Srt B Y) := sY
  have lY : Y.length ≤ 1099511627776 := by have := sY.2.2; omega
  have L2 : Hid (Below w.heap.size w w2) := bl_trans hb1 hb2
  have O0 : Hid (OI (w2.alloc (.cells #[] 3)) w2.heap.size (.slice (some ⟨w2.heap.size, 0, none⟩) 0 0) []) := OI.empty (Blk.new w2 #[] 3)
  have LZ : Hid (Below w2.heap.size w2 (w2.alloc (.cells #[] 3))) := bl_alloc (Below.refl _ _) _
  clear hY sY HX hb1 hb2 HB lb mb
  go_wp2_with fail
  generalize w2.alloc (.cells #[] 3) = w3 at LZ O0 ⊢
  go_loopw [7, 8, 9] (fun ov kv iv wr => ∃ (i k : Nat) (s9 : Option Addr) (c9 : Nat) (R : List Int), i ≤ X.length ∧ k ≤ Y.length ∧ iv = .int .i64 i ∧ kv = .int .i64 k ∧ ov = .slice s9 R.length c9 ∧ Hid (Mt X Y i k R) ∧ Hid (OI wr w2.heap.size (.slice s9 R.length c9) R) ∧ Hid (Below w2.heap.size w2 wr)) (fun _ _ iv _ => X.length - (intOf iv).toNat)
  case atStart => exact ⟨0, 0, _, _, [], Nat.zero_le _, Nat.zero_le _, rfl, rfl, rfl, Mt.start _ _, O0, LZ⟩
  case round =>
    clear O0 LZ
    obtain ⟨i, k0, s9, c9, R, hi, hk0, rfl, rfl, rfl, hin, hO, hb⟩ := hrel
    by_cases hlt : i < X.length
    · obtain ⟨x, hx⟩ := get_some hlt
      have HXI : Hid (X[i]? = some x) := hx
      clear hx
      go_wp2_with fail
      go_loopw [8] (fun kv wr => ∃ k : Nat, k ≤ Y.length ∧ kv = .int .i64 k ∧ Hid (Mt X Y i k R) ∧ Hid (OI wr w2.heap.size (.slice s9 R.length c9) R) ∧ Hid (Below w2.heap.size w2 wr)) (fun kv _ => Y.length - (intOf kv).toNat)
      case atStart => exact ⟨k0, hk0, rfl, hin, hO, hb⟩
      case round =>
        clear hin hb hk0 hO
        obtain ⟨k, hk, rfl, hin, hO, hb⟩ := hrel
        obtain ⟨bx, ox, rfl, _, hqx, ex0⟩ := eInt_cells EX.out HXI.out
        have ex := (hb.out.cell (p := ⟨bx, ox + i, none⟩) hqx).trans ex0
        by_cases hkl : k < Y.length
        · obtain ⟨y, hy⟩ := get_some hkl
          have HYK : Hid (Y[k]? = some y) := hy
          clear hy
          obtain ⟨by', oy, rfl, _, hqy, ey0⟩ := eInt_cells EY.out HYK.out
          have ey := (hb.out.cell (p := ⟨by', oy + k, none⟩) hqy).trans ey0
          by_cases hc : y < x
          · have dk : decide (y < x) = true := by simp; omega
            have hm : Hid (Mt X Y i (k + 1) R) := hin.out.more HXI.out HYK.out hc
            clear hin
            go_wp2_with fail
            go_quiet (fail)
            go_wp2_with fail
            go_roundw
            case rel => exact ⟨k + 1, by omega, by go_num, hm, oi_drewN hO.out _, bl_drewN hb.out _⟩
            case measure => simp [intOf]; omega
          · by_cases he : y = x
            · subst he
              have hm0 := hin.out.found SX.out.1 HXI.out HYK.out
              have lR : R.length ≤ 1099511627776 := by have := hin.out.len; omega
              obtain ⟨R2, hR2⟩ : ∃ R2, Hid (R ++ [y] = R2) := ⟨_, (rfl : R ++ [y] = _)⟩
              rw [hR2.out] at hm0
              have hm : Hid (Mt X Y (i + 1) k R2) := hm0
              clear hm0 hin
              go_wp2_with fail
              go_quiet (fail)
              go_wp2_with fail
              have hb8 : Hid (Below w2.heap.size w2 (wr.drewN nq)) := bl_drewN hb.out _
              have hO8 : Hid (OI (wr.drewN nq) w2.heap.size (.slice s9 R.length c9) R) := oi_drewN hO.out _
              generalize wr.drewN nq = w8 at hb8 hO8 ⊢
              clear ex ey hb hO
              have ex8 := (hb8.out.cell (p := ⟨bx, ox + i, none⟩) hqx).trans ex0
              have ey8 := (hb8.out.cell (p := ⟨by', oy + k, none⟩) hqy).trans ey0
              go_quiet (fail)
              have hb9 : Hid (Below w2.heap.size w2 (w8.drewN nq)) := bl_drewN hb8.out _
              have hO9 : Hid (OI (w8.drewN nq) w2.heap.size (.slice s9 R.length c9) R) := oi_drewN hO8.out _
              generalize w8.drewN nq = w9 at hb9 hO9 ⊢
              clear ex8 ey8 hb8 hO8
              have ex9 := (hb9.out.cell (p := ⟨bx, ox + i, none⟩) hqx).trans ex0
              have hb3 : Below w2.heap.size w2 (w9.alloc (.cells #[.int .i64 y] 3)) := bl_alloc hb9.out _
              have hO2 : Hid (OI (w9.alloc (.cells #[.int .i64 y] 3)) w2.heap.size (.slice s9 R.length c9) R) := hO9.out.later (bl_alloc (Below.refl _ _) _)
              have E5 : Hid (Els 1 cInt (w9.alloc (.cells #[.int .i64 y] 3)) w9.heap.size (some ⟨w9.heap.size, 0, none⟩) [y]) := Els.one (Blk.new w9 #[.int .i64 y] 3)
              clear hO9
              go_wp2_with (at_builtin; refine wpList_append_ints rfl _ _ rfl w2.heap.size s9 c9 R rfl hO2.out w9.heap.size _ 1 [y] rfl E5.out R2 hR2.out (by simp; omega) hb3.size ?_; intro s' c' w4 hO4 hg4 hn4)
              have hO4 : Hid (OI w4 w2.heap.size (.slice s' R2.length c') R2) := hO4
              have hb4 : Hid (Below w2.heap.size w2 w4) := grown_oi hb3 hb3.size hO2.out hg4
              clear hg4 hn4 hO2 E5 hb3 hb9 ex9
              go_wp2_with fail
              go_roundw
              case rel => exact ⟨i + 1, k, s', c', R2, by omega, by omega, by go_num, rfl, rfl, hm, hO4, hb4⟩
              case measure => simp [intOf]; omega
            · have hm : Hid (Mt X Y (i + 1) k R) := hin.out.not SX.out.1 SY.out.1 HXI.out (fun y' h' => by rw [HYK.out] at h'; cases h'; omega)
              have g : (y == x) = false := by simp [he]
              clear hin
              go_wp2_with fail
              go_quiet (fail)
              go_wp2_with fail
              have hb8 : Hid (Below w2.heap.size w2 (wr.drewN nq)) := bl_drewN hb.out _
              have hO8 : Hid (OI (wr.drewN nq) w2.heap.size (.slice s9 R.length c9) R) := oi_drewN hO.out _
              generalize wr.drewN nq = w8 at hb8 hO8 ⊢
              clear ex ey hb hO
              have ex8 := (hb8.out.cell (p := ⟨bx, ox + i, none⟩) hqx).trans ex0
              have ey8 := (hb8.out.cell (p := ⟨by', oy + k, none⟩) hqy).trans ey0
              go_quiet (fail)
              go_wp2_with fail
              go_roundw
              case rel => exact ⟨i + 1, k, s9, c9, R, by omega, by omega, by go_num, rfl, rfl, hm, oi_drewN hO8.out _, bl_drewN hb8.out _⟩
              case measure => simp [intOf]; omega
        · have hm : Hid (Mt X Y (i + 1) k R) := hin.out.not SX.out.1 SY.out.1 HXI.out (fun y' h' => by have := (List.getElem?_eq_some_iff.1 h').1; omega)
          clear hin
          go_wp2_with fail
          go_quiet (fail)
          go_wp2_with fail
          have hb8 : Hid (Below w2.heap.size w2 (wr.drewN nq)) := bl_drewN hb.out _
          have hO8 : Hid (OI (wr.drewN nq) w2.heap.size (.slice s9 R.length c9) R) := oi_drewN hO.out _
          generalize wr.drewN nq = w8 at hb8 hO8 ⊢
          clear ex hb hO
          have ex8 := (hb8.out.cell (p := ⟨bx, ox + i, none⟩) hqx).trans ex0
          go_quiet (fail)
          go_wp2_with fail
          go_roundw
          case rel => exact ⟨i + 1, k, s9, c9, R, by omega, by omega, by go_num, rfl, rfl, hm, oi_drewN hO8.out _, bl_drewN hb8.out _⟩
          case measure => simp [intOf]; omega
    · have hF : Hid (Met A B R) := hin.out.all SX.out SY.out hi hlt
      go_wp2_with fail
      go_ret
      exact ⟨⟨s9, c9, R, rfl, hO.out.mono L2.out.size, hF.out⟩, bl_trans L2.out hb.out⟩

theorem Hits.of {aw ar bw br P Q U1 U2 R : List Int} (u1 : Srt (bw ++ br) U1) (p : Met aw U1 P) (u2 : Srt (aw ++ ar) U2) (q : Met bw U2 Q) (h : Srt (P ++ Q) R) : Hits aw ar bw br R := by
  refine ⟨h.1, fun x => ?_, ?_⟩
  · rw [h.2.1, List.mem_append, p.2.1, q.2.1, u1.2.1, u2.2.1, List.mem_append, List.mem_append]
    exact Iff.rfl
  · have h1 := h.2.2
    have h2 := p.2.2
    have h3 := q.2.2
    rw [List.length_append] at h1
    omega
set_option maxRecDepth 100000 in
set_option maxHeartbeats 4000000 in
theorem l16Hits_any (s0 s1 s2 s3 : Option Addr) (c0 c1 c2 c3 : Nat) (A0 A1 A2 A3 : List Int) (B0 B1 B2 B3 : Nat) (w : World) (h0 : Els 1 cInt w B0 s0 A0) (h1 : Els 1 cInt w B1 s1 A1) (h2 : Els 1 cInt w B2 s2 A2) (h3 : Els 1 cInt w B3 s3 A3) (l0 : A0.length ≤ c0) (l2 : A2.length ≤ c2) (m0 : A0.length ≤ 4294967296) (m1 : A1.length ≤ 4294967296) (m2 : A2.length ≤ 4294967296) (m3 : A3.length ≤ 4294967296) :
    Calls Try.prog 24 #[.slice s0 A0.length c0, .slice s1 A1.length c1, .slice s2 A2.length c2, .slice s3 A3.length c3] w fun e w' => (∃ s' c', e = .returned (.slice s' (hts A0 A1 A2 A3).length c') ∧ OI w' w.heap.size (.slice s' (hts A0 A1 A2 A3).length c') (hts A0 A1 A2 A3)) ∧ Below w.heap.size w w' := by
  have H0 := Hid.mk2 h0
  have H1 := Hid.mk2 h1
  have H2 := Hid.mk2 h2
  clear h0 h1
  go_enter Try.func24, Try.ntmps24
  go_wp2_with fail
  refine (l10Union_any s2 s3 c2 c3 A2 A3 B2 B3 w h2 h3 (by omega) (by omega)).mono ?_
  rintro e w1 ⟨⟨t1, d1, U1, rfl, o1, u1⟩, b1⟩
  have lU : U1.length ≤ 8589934592 := by have := u1.2.2; rw [List.length_append] at this; omega
  have U1H := Hid.mk2 u1
  clear h2 h3 u1
  go_wp2_with fail
  refine (l16Meet_any s0 t1 c0 d1 A0 U1 B0 w.heap.size w1 (H0.out.later cInt_keeps b1) o1.els l0 o1.cap (by omega) (by omega)).mono ?_
  rintro e w2 ⟨⟨t2, d2, P, rfl, o2, p⟩, b2⟩
  have PH := Hid.mk2 p
  have lP : P.length ≤ 4294967296 := by have := p.2.2; omega
  have L2 := bl_trans b1 b2
  have O2 : Hid (OI w2 w.heap.size (.slice t2 P.length d2) P) := o2.mono b1.size
  clear o1 o2 p b1 b2
  go_wp2_with fail
  refine (l10Union_any s0 s1 c0 c1 A0 A1 B0 B1 w2 (H0.out.later cInt_keeps L2) (H1.out.later cInt_keeps L2) (by omega) (by omega)).mono ?_
  rintro e w3 ⟨⟨t3, d3, U2, rfl, o3, u2⟩, b3⟩
  have lU2 : U2.length ≤ 8589934592 := by have := u2.2.2; rw [List.length_append] at this; omega
  have U2H := Hid.mk2 u2
  have L3 := bl_trans L2 b3
  have O3 : Hid (OI w3 w.heap.size (.slice t2 P.length d2) P) := O2.out.later b3
  clear u2 O2
  go_wp2_with fail
  refine (l16Meet_any s2 t3 c2 d3 A2 U2 B2 w2.heap.size w3 (H2.out.later cInt_keeps L3) o3.els l2 o3.cap (by omega) (by omega)).mono ?_
  rintro e w4 ⟨⟨t4, d4, Q, rfl, o4, q⟩, b4⟩
  have QH := Hid.mk2 q
  have lQ : Q.length ≤ 4294967296 := by have := q.2.2; omega
  have L4 := bl_trans L3 b4
  clear o3 q b3 L2
  go_wp2_with fail
  refine (l10Union_any t2 t4 d2 d4 P Q w.heap.size w3.heap.size w4 (O3.out.later b4).els o4.els (by omega) (by omega)).mono ?_
  rintro e w5 ⟨⟨t5, d5, R, rfl, o5, r⟩, b5⟩
  have hR : R = hts A0 A1 A2 A3 := (Hits.of U1H.out PH.out U2H.out QH.out r).is
  have RH := Hid.mk2 hR
  have O5 : Hid (OI w5 w.heap.size (.slice t5 R.length d5) R) := o5.mono L4.size
  have L5 := Hid.mk2 (bl_trans L4 b5)
  clear hR r o5 b5 o4 b4 L4 L3
  go_wp2_with fail
  go_ret
  have e5 := RH.out
  subst e5
  exact ⟨⟨t5, d5, rfl, O5.out⟩, L5.out⟩
end Go.Proofs.Ytgfchpbdoebmbaa
