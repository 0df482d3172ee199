import Derived.Test.YtpfamdpgcbpiaaaYc
import Derived.Deep.RegionHeld3
namespace Go.Proofs.Ytpfamdpgcbpiaaa
open Go.RowKit Go.Maps Go.WideMaps
set_option linter.unusedVariables false
set_option linter.unusedSimpArgs false
set_option maxRecDepth 100000

theorem one_byteD (w : World) (c : Int) : (convert 22 9 (.slice (some ⟨w.heap.size, 0, none⟩) 1 1)).run Try.prog (w.alloc (.cells #[.int .u8 c] 5)).drew = .ok (.string (ByteArray.empty.push (UInt8.ofNat c.toNat))) (w.alloc (.cells #[.int .u8 c] 5)).drew := by
  rw [run_convert_bytes_string _ _ _ _ _ _ _ Try.underlying22 Try.underlying5 Try.underlying9]
  rw [run_bytesToString _ _ 1 1 [c] (by simp [go_sem])]
  rfl

set_option maxHeartbeats 2000000 in
theorem l1Pick4_any (n : Nat) (pb : Nat) (w : World) (hC : Cur n w) (hcell : ∀ j, j < 4 → ∃ s : ByteArray, w.cell? ⟨pb, j, none⟩ = some (.string s) ∧ s.size ≤ maxLen) (hp : ¬ pb = n) :
    Calls Try.prog 52 #[.pointer (some ⟨n, 0, none⟩), .slice (some ⟨pb, 0, none⟩) 4 4] w fun e w' => ∃ s : ByteArray, e = .returned (.string s) ∧ s.size ≤ maxLen ∧ Keep n w w' ∧ Cur n w' := by
  go_enter Try.func52, Try.ntmps52
  go_wp2_with (go_at_call 27; refine (l1Below_any n 4 _ hC (by omega)).mono ?_; rintro e w1 ⟨r, rfl, r1, r2, hK, hC1⟩; obtain ⟨q, rfl⟩ : ∃ q : Nat, r = (q : Int) := ⟨r.toNat, by omega⟩; have hq : q < 4 := (by omega); obtain ⟨x, hx, hs⟩ := hcell q hq; have hc1 := hK.cell hp hx; have hqI : (q : Int) < 4 := (by omega); clear hcell r2)
  go_ret
  exact ⟨_, rfl, hs, hK, hC1⟩

set_option maxHeartbeats 8000000 in
theorem l3Reg_any (n : Nat) (w : World) (hC : Cur n w) :
    Calls Try.prog 34 #[.pointer (some ⟨n, 0, none⟩)] w fun e w' => Rgd n w e w' := by
  have k0 := Blk.new w #[.slice none 0 0, .slice none 0 0, .slice none 0 0] 34
  have L0 : Below w.heap.size w (w.alloc (.cells #[.slice none 0 0, .slice none 0 0, .slice none 0 0] 34)) := bl_alloc (Below.refl _ _) _
  have ln := hC.lt
  go_enter Try.func34, Try.ntmps34
  go_wp2_with fail
  refine (l3Std_any _).mono ?_
  rintro e w1 ⟨g, rfl, hg, bp, bq, bs, hb1⟩
  have L1 := bl_trans L0 hb1
  have k1 := k0.later hb1
  have gs := bs.lt
  simp only [World.size_alloc] at hg
  have G0 : Rg n w (w1.alloc (.cells #[.slice (some ⟨g, 0, none⟩) 5 5, .slice (some ⟨g + 1, 0, none⟩) 4 4, .slice (some ⟨g + 2, 0, none⟩) 2 2] 34)) w.heap.size w1.heap.size g (g + 1) (g + 2) #[.slice none 0 0, .slice none 0 0, .slice none 0 0] #[.slice (some ⟨g, 0, none⟩) 5 5, .slice (some ⟨g + 1, 0, none⟩) 4 4, .slice (some ⟨g + 2, 0, none⟩) 2 2] stdP stdQ stdS :=
    ⟨k1.alloc _, Blk.new _ _ _, bp.alloc _, bq.alloc _, bs.alloc _, hC.below ((bl_alloc L1 _).mono (by omega)), Keep.of_below (bl_alloc L1 _) (by omega), by have := k1.lt; omega, by have := L1.size; omega⟩
  clear k0 L0 k1 L1 bp bq bs hb1
  go_wp2_with fail
  generalize hX : w1.alloc (.cells #[.slice (some ⟨g, 0, none⟩) 5 5, .slice (some ⟨g + 1, 0, none⟩) 4 4, .slice (some ⟨g + 2, 0, none⟩) 2 2] 34) = X at G0 ⊢
  clear hX
  generalize hrb : w1.heap.size = rb at G0 ⊢
  clear hrb
  refine (l1Below_any n 10 _ G0.u (by omega)).mono ?_
  rintro e w2 ⟨r, rfl, r0, r1, hK2, hC2⟩
  have G := G0.keep hK2 hC2
  clear G0 hK2 hC2
  obtain ⟨x0, x1, x2, x3⟩ := G.k.three'
  obtain ⟨y0, y1, y2, y3⟩ := G.z.three'
  have d := G.ne
  have ge := G.ge
  have n1 : ¬ w.heap.size = rb := by omega
  have n2 : ¬ rb = w.heap.size := by omega
  by_cases q0 : r = 0
  · subst q0
    go_wp2_with fail
    refine bodyPost_ret (v := .agg #[.slice (some ⟨g, 0, none⟩) 3 5, .slice (some ⟨g + 1, 0, none⟩) 4 4, .slice none 0 0]) (by simp [results, Try.results34, go_sem, y0, y1, y2]) rfl ?_
    exact (((((G.setR _ _).setR _ _).setZ _ _).setZ _ _).setZ _ _).leaves0 stdP_arr stdQ_arr (by omega) (by omega) (by omega)
  by_cases q1 : r = 1
  · subst q1
    have GD := G.drew
    go_wp2_with fail
    have ng : ¬ rb = g + 1 := by omega
    have ng' : ¬ g + 1 = rb := by omega
    have nz : ¬ w.heap.size = g + 1 := by omega
    have nz' : ¬ g + 1 = w.heap.size := by omega
    go_region_held3 (fun w' => w'.cell? ⟨rb, 1, none⟩ = some (.slice (some ⟨g + 1, 0, none⟩) 4 4)) (first | (simp [x1]; done) | (rw [World.cell?_setCell_far _ _ _ _ (by simp; omega)]; exact x1))
      (first
        | (go_at_call 27; refine (l1Below_any n 4 _ G4.u (by omega)).mono ?_; rintro e w5 ⟨b9, rfl, b0, b1, hK5, hC5⟩; have G5 := G4.keep hK5 hC5; obtain ⟨x0, x1, x2, x3⟩ := G5.k.three'; obtain ⟨y0, y1, y2, y3⟩ := G5.z.three'; have qc := G5.q.cell (q * 2 + 1); have qf := G5.q.frozen (q * 2 + 1); obtain ⟨i9, hi9⟩ := (stdQ_arr.2 q hq).2; rw [hi9] at qc; have hb9 : b9 < 4 := (by omega); have wb : IntKind.i64.wrap (1 + b9) = 1 + b9 := (by rw [IntKind.wrap_i64]; omega))
        | (go_at_call 27; refine (l1Below_any n 4 _ GD.u (by omega)).mono ?_; rintro e w4 ⟨a9, rfl, a0, a1, hK4, hC4⟩; obtain ⟨q, rfl⟩ : ∃ q : Nat, a9 = (q : Int) := ⟨a9.toNat, (by omega)⟩; have hq : q < 4 := (by omega); have hqI : (q : Int) < 4 := (by omega); have G4 := GD.keep hK4 hC4; obtain ⟨x0, x1, x2, x3⟩ := G4.k.three'; obtain ⟨y0, y1, y2, y3⟩ := G4.z.three'))
    have G6 := G5.setQ (q * 2 + 1) (.int .i64 (1 + b9))
    clear x0 x1 x2 x3 y0 y1 y2 y3 hi9
    obtain ⟨x0, x1, x2, x3⟩ := G6.k.three'
    obtain ⟨y0, y1, y2, y3⟩ := G6.z.three'
    go_wp2_with fail
    refine bodyPost_ret (v := .agg #[.slice (some ⟨g, 0, none⟩) 5 5, .slice (some ⟨g + 1, 0, none⟩) 4 4, .slice (some ⟨g + 2, 0, none⟩) 2 2]) (by simp [results, Try.results34, go_sem, y0, y1, y2]) rfl ?_
    exact (((G6.setZ _ _).setZ _ _).setZ _ _).leaves stdP_arr (stdQ_arr.setK hq _) stdS_arr (by omega) (by omega) (by omega) (by omega)
  by_cases q2 : r = 2
  · subst q2
    go_wp2_with fail
    refine (l1Below_any n 5 _ G.u (by omega)).mono ?_
    rintro e w3 ⟨t, rfl, t0, t1, hK3, hC3⟩
    replace G := G.keep hK3 hC3
    clear hK3 hC3 x0 x1 x2 x3 y0 y1 y2 y3
    obtain ⟨x0, x1, x2, x3⟩ := G.k.three'
    obtain ⟨y0, y1, y2, y3⟩ := G.z.three'
    have z2 := G.p.cell 2
    have z2f := G.p.frozen 2
    have v1 := G.s.cell 1
    have v1f := G.s.frozen 1
    have v2 := G.s.cell 2
    have v2f := G.s.frozen 2
    have u0 := G.q.cell 0
    have u0f := G.q.frozen 0
    simp only [stdP, stdQ, stdS] at z2 v1 v2 u0
    by_cases p0 : t = 0
    · subst p0
      go_wp2_with fail
      refine bodyPost_ret (v := .agg #[.slice (some ⟨g, 0, none⟩) 5 5, .slice (some ⟨g + 1, 0, none⟩) 4 4, .slice (some ⟨g + 2, 0, none⟩) 2 2]) (by simp [results, Try.results34, go_sem, y0, y1, y2]) rfl ?_
      exact ((((G.setP 2 _).setZ _ _).setZ _ _).setZ _ _).leaves (stdP_arr.setS (j := 1) (by omega) _ (by decide)) stdQ_arr stdS_arr (by omega) (by omega) (by omega) (by omega)

    by_cases p1 : t = 1
    · subst p1
      have GD := G.drew
      have nlt := G.u.lt
      have ng : ¬ rb = g + 2 := by omega
      have ng' : ¬ g + 2 = rb := by omega
      have nz : ¬ w.heap.size = g + 2 := by omega
      have nz' : ¬ g + 2 = w.heap.size := by omega
      go_wp2_with fail
      go_region_held3 (fun w' => w'.cell? ⟨rb, 2, none⟩ = some (.slice (some ⟨g + 2, 0, none⟩) 2 2)) (first | (simp [x2]; done) | exact cell_later (bl_drew (bl_alloc (Below.refl _ _) _)) x2 | (rw [World.cell?_setCell_far _ _ _ _ (by simp; omega)]; exact x2))
        (first
          | (go_at_call 29; refine (l1PickInt_any n w3.heap.size 0 2 [0, 5] _ (G.alloc _).drew.u (ints_two (show Blk (w3.alloc (.cells #[.int .i64 0, .int .i64 5] 3)).drew w3.heap.size #[.int .i64 0, .int .i64 5] 3 from Blk.new _ _ _)) (by simp) (by simp) (by omega)).mono ?_; rintro e w4 ⟨i9, rfl, hi9, hK4, hC4⟩; have G4 := (G.alloc _).drew.keep hK4 hC4; obtain ⟨x0, x1, x2, x3⟩ := G4.k.three'; obtain ⟨y0, y1, y2, y3⟩ := G4.z.three'; have v1 := G4.s.cell 1; have v1f := G4.s.frozen 1; simp only [stdS] at v1))
      have G6 := G4.setS 1 (.int .i64 i9)
      clear x0 x1 x2 x3 y0 y1 y2 y3
      obtain ⟨x0, x1, x2, x3⟩ := G6.k.three'
      obtain ⟨y0, y1, y2, y3⟩ := G6.z.three'
      go_wp2_with fail
      refine bodyPost_ret (v := .agg #[.slice (some ⟨g, 0, none⟩) 5 5, .slice (some ⟨g + 1, 0, none⟩) 4 4, .slice (some ⟨g + 2, 0, none⟩) 2 2]) (by simp [results, Try.results34, go_sem, y0, y1, y2]) rfl ?_
      exact (((G6.setZ _ _).setZ _ _).setZ _ _).leaves stdP_arr stdQ_arr (stdS_arr.setK (j := 0) (by omega) _) (by omega) (by omega) (by omega) (by omega)

    by_cases p2 : t = 2
    · subst p2
      have GD := G.drew
      have nlt := G.u.lt
      have ng : ¬ rb = g + 1 := by omega
      have ng' : ¬ g + 1 = rb := by omega
      have nz : ¬ w.heap.size = g + 1 := by omega
      have nz' : ¬ g + 1 = w.heap.size := by omega
      go_wp2_with fail
      go_region_held3 (fun w' => w'.cell? ⟨rb, 1, none⟩ = some (.slice (some ⟨g + 1, 0, none⟩) 4 4)) (first | (simp [x1]; done) | exact cell_later (bl_drew (bl_alloc (Below.refl _ _) _)) x1 | (rw [World.cell?_setCell_far _ _ _ _ (by simp; omega)]; exact x1))
        (first
          | (go_at_call 52; refine (l1Pick4_any n w3.heap.size _ (G.alloc _).drew.u (by intro j hj; have : j = 0 ∨ j = 1 ∨ j = 2 ∨ j = 3 := (by omega); rcases this with rfl | rfl | rfl | rfl <;> exact ⟨_, by simp; rfl, by decide⟩) (by omega)).mono ?_; rintro e w4 ⟨s9, rfl, hs9, hK4, hC4⟩; have G4 := (G.alloc _).drew.keep hK4 hC4; obtain ⟨x0, x1, x2, x3⟩ := G4.k.three'; obtain ⟨y0, y1, y2, y3⟩ := G4.z.three'; have u0 := G4.q.cell 0; have u0f := G4.q.frozen 0; simp only [stdQ] at u0))
      have G6 := G4.setQ 0 (.string s9)
      clear x0 x1 x2 x3 y0 y1 y2 y3
      obtain ⟨x0, x1, x2, x3⟩ := G6.k.three'
      obtain ⟨y0, y1, y2, y3⟩ := G6.z.three'
      go_wp2_with fail
      refine bodyPost_ret (v := .agg #[.slice (some ⟨g, 0, none⟩) 5 5, .slice (some ⟨g + 1, 0, none⟩) 4 4, .slice (some ⟨g + 2, 0, none⟩) 2 2]) (by simp [results, Try.results34, go_sem, y0, y1, y2]) rfl ?_
      exact (((G6.setZ _ _).setZ _ _).setZ _ _).leaves stdP_arr (stdQ_arr.setS (j := 0) (by omega) _ hs9) stdS_arr (by omega) (by omega) (by omega) (by omega)

    by_cases p3 : t = 3
    · subst p3
      obtain ⟨A, hA0, H0⟩ := G.grow
      have hA : Hid (A.length = 5) := hA0
      clear hA0
      have hal := alloc_old
      have hob := one_byte
      have hoc := one_byteD
      clear G z2 z2f v1 v1f v2 v2f u0 u0f x0 x1 x2 x3 y0 y1 y2 y3
      go_wp2_with fail
      go_loopw [4] (fun i wr => ∃ (m ga ca : Nat) (A : List (ByteArray × Int)), m ≤ 8 ∧ i = .int .i64 m ∧ Hid (A.length = 5 + m) ∧ Hid (Rh n w wr w.heap.size rb ga ca (g + 1) (g + 2) A)) (fun i _ => 8 - (intOf i).toNat)
      case atStart => exact ⟨0, g, 5, A, by omega, rfl, hA, H0⟩
      case round =>
        obtain ⟨m, ga, ca, A, hm, rfl, hA, hH⟩ := hrel
        obtain ⟨x0, x1, x2, x3⟩ := hH.out.k.three'
        obtain ⟨y0, y1, y2, y3⟩ := hH.out.z.three'
        by_cases hlt : m < 8
        · have hAl : A.length ≤ 1048576 := by have := hA.out; omega
          have wlt := hH.out.u.lt
          have wk := hH.out.kp.1.size
          have wge := hH.out.ge
          go_wp2_with (at_builtin; refine wpList_append_dcl rfl _ _ rfl w.heap.size (.slice (some ⟨ga, 0, none⟩) A.length ca) A rfl ((hH.out.alloc _).alloc _).a (wr.heap.size + 1) (⟨#[88]⟩ ++ ByteArray.empty.push (97 + UInt8.ofNat m), 1) rfl (Blk.new' _ _ _ (by simp)) hAl (by simp; omega) ?_)
          intro g' c' w5 hr hg ho hg5
          have kk := ((hH.out.alloc _).alloc _).box hg
          have hpz : (⟨#[88]⟩ ++ ByteArray.empty.push (97 + UInt8.ofNat m)).size ≤ maxLen := by rw [ByteArray.size_append]; show (1 : Nat) + 1 ≤ maxLen; decide
          have H9 := ((hH.out.alloc (.cells #[.int .u8 (97 + (m : Int))] 5)).alloc (.cells #[.string (⟨#[88]⟩ ++ ByteArray.empty.push (97 + UInt8.ofNat m)), .int .i64 (1)] 38)).push (p := (⟨#[88]⟩ ++ ByteArray.empty.push (97 + UInt8.ofNat m), 1)) (l := A.length + 1) (by simp) hpz hr hg (by rcases ho with h | h; exact Or.inl h; exact Or.inr (by simpa using h))
          obtain ⟨x0, x1, x2, x3⟩ := kk.three'
          have HL : Hid ((A ++ [(⟨#[88]⟩ ++ ByteArray.empty.push (97 + UInt8.ofNat m), (1 : Int))]).length = 5 + (m + 1)) := by have := hA.out; simp [Hid]; omega
          have HH : Hid (Rh n w _ w.heap.size rb g' c' (g + 1) (g + 2) (A ++ [(⟨#[88]⟩ ++ ByteArray.empty.push (97 + UInt8.ofNat m), 1)])) := H9
          clear H9 hr hg ho kk hH hpz
          go_wp2_with fail
          refine ⟨⟨m + 1, g', c', _, by omega, by go_num, HL, HH⟩, by simp [intOf]; omega⟩
        · have hm8 : m = 8 := by omega
          subst hm8
          have hd := hH.out.ne
          have n3 : ¬ w.heap.size = ga := by omega
          go_wp2_with fail
          refine bodyPost_ret (v := .agg #[.slice (some ⟨ga, 0, none⟩) A.length ca, .slice (some ⟨g + 1, 0, none⟩) 4 4, .slice (some ⟨g + 2, 0, none⟩) 2 2]) (by simp [results, Try.results34, go_sem, y0, y1, y2]) rfl ?_
          exact hH.out.leaves (by have := hA.out; omega) _ _ _

    have p4 : t = 4 := by omega
    subst p4
    go_wp2_with fail
    refine bodyPost_ret (v := .agg #[.slice (some ⟨g, 0, none⟩) 5 5, .slice (some ⟨g + 1, 0, none⟩) 4 4, .slice (some ⟨g + 2, 0, none⟩) 2 2]) (by simp [results, Try.results34, go_sem, y0, y1, y2]) rfl ?_
    exact ((((G.setS 2 _).setZ _ _).setZ _ _).setZ _ _).leaves stdP_arr stdQ_arr (stdS_arr.setS (j := 1) (by omega) _ (by decide)) (by omega) (by omega) (by omega) (by omega)
  by_cases q3 : r = 3
  · subst q3
    obtain ⟨A, hA0, H0⟩ := G.grow
    have hA : Hid (A.length = 5) := hA0
    clear hA0
    have hal := alloc_old
    have hob := one_byte
    have hoc := one_byteD
    clear G x0 x1 x2 x3 y0 y1 y2 y3
    go_wp2_with fail
    go_loopw [5] (fun i wr => ∃ (m ga ca : Nat) (A : List (ByteArray × Int)), m ≤ 7 ∧ i = .int .i64 m ∧ Hid (A.length = 5 + m) ∧ Hid (Rh n w wr w.heap.size rb ga ca (g + 1) (g + 2) A)) (fun i _ => 7 - (intOf i).toNat)
    case atStart => exact ⟨0, g, 5, A, by omega, rfl, hA, H0⟩
    case round =>
      obtain ⟨m, ga, ca, A, hm, rfl, hA, hH⟩ := hrel
      obtain ⟨x0, x1, x2, x3⟩ := hH.out.k.three'
      obtain ⟨y0, y1, y2, y3⟩ := hH.out.z.three'
      by_cases hlt : m < 7
      · have hAl : A.length ≤ 1048576 := by have := hA.out; omega
        have wlt := hH.out.u.lt
        have wk := hH.out.kp.1.size
        have wge := hH.out.ge
        go_wp2_with (at_builtin; refine wpList_append_dcl rfl _ _ rfl w.heap.size (.slice (some ⟨ga, 0, none⟩) A.length ca) A rfl ((hH.out.alloc _).alloc _).a (wr.heap.size + 1) (⟨#[88]⟩ ++ ByteArray.empty.push (97 + UInt8.ofNat m), 1 + (m : Int) % 4) rfl (Blk.new' _ _ _ (by simp)) hAl (by simp; omega) ?_)
        intro g' c' w5 hr hg ho hg5
        have kk := ((hH.out.alloc _).alloc _).box hg
        have hpz : (⟨#[88]⟩ ++ ByteArray.empty.push (97 + UInt8.ofNat m)).size ≤ maxLen := by rw [ByteArray.size_append]; show (1 : Nat) + 1 ≤ maxLen; decide
        have H9 := ((hH.out.alloc (.cells #[.int .u8 (97 + (m : Int))] 5)).alloc (.cells #[.string (⟨#[88]⟩ ++ ByteArray.empty.push (97 + UInt8.ofNat m)), .int .i64 (1 + (m : Int) % 4)] 38)).push (p := (⟨#[88]⟩ ++ ByteArray.empty.push (97 + UInt8.ofNat m), 1 + (m : Int) % 4)) (l := A.length + 1) (by simp) hpz hr hg (by rcases ho with h | h; exact Or.inl h; exact Or.inr (by simpa using h))
        obtain ⟨x0, x1, x2, x3⟩ := kk.three'
        have HL : Hid ((A ++ [(⟨#[88]⟩ ++ ByteArray.empty.push (97 + UInt8.ofNat m), (1 + (m : Int) % 4 : Int))]).length = 5 + (m + 1)) := by have := hA.out; simp [Hid]; omega
        have HH : Hid (Rh n w _ w.heap.size rb g' c' (g + 1) (g + 2) (A ++ [(⟨#[88]⟩ ++ ByteArray.empty.push (97 + UInt8.ofNat m), 1 + (m : Int) % 4)])) := H9
        clear H9 hr hg ho kk hH hpz
        go_wp2_with fail
        refine ⟨⟨m + 1, g', c', _, by omega, by go_num, HL, HH⟩, by simp [intOf]; omega⟩
      · have hm8 : m = 7 := by omega
        subst hm8
        have hd := hH.out.ne
        have n3 : ¬ w.heap.size = ga := by omega
        go_wp2_with fail
        refine bodyPost_ret (v := .agg #[.slice (some ⟨ga, 0, none⟩) A.length ca, .slice (some ⟨g + 1, 0, none⟩) 4 4, .slice (some ⟨g + 2, 0, none⟩) 2 2]) (by simp [results, Try.results34, go_sem, y0, y1, y2]) rfl ?_
        exact hH.out.leaves (by have := hA.out; omega) _ _ _
  have c0 : (r == 0) = false := beq_eq_false_iff_ne.2 q0
  have c1 : (r == 1) = false := beq_eq_false_iff_ne.2 q1
  have c2 : (r == 2) = false := beq_eq_false_iff_ne.2 q2
  have c3 : (r == 3) = false := beq_eq_false_iff_ne.2 q3
  go_wp2_with fail
  refine bodyPost_ret (v := .agg #[.slice (some ⟨g, 0, none⟩) 5 5, .slice (some ⟨g + 1, 0, none⟩) 4 4, .slice (some ⟨g + 2, 0, none⟩) 2 2]) (by simp [results, Try.results34, go_sem, y0, y1, y2]) rfl ?_
  exact (((G.setZ _ _).setZ _ _).setZ _ _).leaves stdP_arr stdQ_arr stdS_arr (by omega) (by omega) (by omega) (by omega)
end Go.Proofs.Ytpfamdpgcbpiaaa
