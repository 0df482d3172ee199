import Derived.Test.YtbgeobpdojmdaaaGreatSq43
namespace Go.Proofs.YtbgeobpdojmdaaaGreat
open Go.RowKit Go.Maps Go.WideMaps
set_option linter.unusedVariables false
set_option linter.unusedSimpArgs false
set_option maxRecDepth 100000
theorem outL_le (L : List C5) (n : Nat) : (outL L n).length ≤ L.length := by
 rw [(outL_perm L n).length_eq]
 exact List.length_filter_le _ _
theorem outL_part (L : List C5) (n k : Nat) : (outL L n ++ (L.take k).filter (fun a => a.1 == (n : Int))).length ≤ L.length := by
 have h1 := outL_le L (n + 1)
 have h2 := ((List.take_sublist k L).filter (fun a : C5 => a.1 == (n : Int))).length_le
 rw [outL, List.length_append] at h1
 rw [List.length_append]
 omega
set_option maxHeartbeats 8000000 in
theorem l4Sorted_list (s1 s2 s3 : Option Addr) (c1 c2 c3 : Nat) (A B C : List (ByteArray × Int)) (s : Option Addr) (c : Nat) (L : List C5) (Bs : Nat) (w : World) (hA : Decls w s1 A) (hL : Els 5 cCell w Bs s L) (l1 : A.length ≤ 1048576) (hl : L.length ≤ 1048576) :
  Calls Tryz.prog 24 #[.agg #[.slice s1 A.length c1, .slice s2 B.length c2, .slice s3 C.length c3], .slice s L.length c] w fun e w' => (∃ v, e = .returned (.tuple #[v, .bool (sortB A L)]) ∧ (sortB A L = true → CRow w' w.heap.size v (outL L A.length))) ∧ Below w.heap.size w w' := by
 have hal := alloc_old
 have haf := alloc_oldf
 have k0 := Blk.new w #[.slice s1 A.length c1, .slice s2 B.length c2, .slice s3 C.length c3] 47
 have L0 : Below w.heap.size w (w.alloc (.cells #[.slice s1 A.length c1, .slice s2 B.length c2, .slice s3 C.length c3] 47)) := bl_alloc (Below.refl _ _) _
 obtain ⟨x0, x1, x2, x3⟩ := k0.three'
 by_cases hle : L.length ≤ A.length
 ·
  have t0 : decide ((L.length : Int) > (A.length : Int)) = false := by simp; omega
  have t1 : ¬ A.length < L.length := by omega
  have okLL : Hid (∀ a ∈ L, okV a.2) := by
   intro a ha
   obtain ⟨j, hj, rfl⟩ := List.getElem_of_mem ha
   obtain ⟨_, _, _, _, _, ok, _⟩ := eCell_cells hL (List.getElem?_eq_getElem hj)
   exact ok
  obtain ⟨i0, hi, hz0, hz1, hz2⟩ := info_parts Tryz.infoC
  go_enter Tryz.func24, Tryz.ntmps24
  go_wp2_with fail; have hrow0 := World.ownsRow_lit (base := w.heap.size + 1) (e := 77) (size := 5) (w.alloc (.cells #[.slice s1 A.length c1, .slice s2 B.length c2, .slice s3 C.length c3] 47)) #[] 0 (by simp) (by unfold maxLen; omega) (by simp)
  rw [World.size_alloc] at hrow0
  have hXs : Hid ((w.alloc (.cells #[.slice s1 A.length c1, .slice s2 B.length c2, .slice s3 C.length c3] 47)).heap.size = w.heap.size + 1) := by show _ = _; simp
  clear t0 t1 x0 x1 x2 x3; generalize hX : w.alloc (.cells #[.slice s1 A.length c1, .slice s2 B.length c2, .slice s3 C.length c3] 47) = X at k0 L0 hrow0 hXs ⊢
  clear hX; have HA1 : Hid (Decls X s1 A) := hA.later L0
  have H1 : Hid (Els 5 cCell X Bs s L) := hL.later cCell_keeps L0
  have HX : Hid (Below w.heap.size w X) := L0
  have K0 : Hid (Blk X w.heap.size #[.slice s1 A.length c1, .slice s2 B.length c2, .slice s3 C.length c3] 47) := k0
  have HR0 : Hid (CRow (X.alloc (.cells #[] 77)) X.heap.size (.slice (some ⟨w.heap.size + 1, 0, none⟩) 0 0) []) := by rw [hXs.out]; exact hrow0
  have HLE : Hid (L.length ≤ A.length) := hle
  clear hA hL L0 k0 hrow0 hle; go_loopw [6, 7] (fun v i wr => ∃ (n : Nat) (O : List C5), n ≤ A.length ∧ i = .int .i64 n ∧ Hid (O = outL L n ∧ CRow wr X.heap.size v O ∧ Below X.heap.size X wr)) (fun _ i _ => A.length - (intOf i).toNat)
  case atStart => exact ⟨0, [], Nat.zero_le _, rfl, rfl, HR0.out, bl_alloc (Below.refl _ _) _⟩
  obtain ⟨n, O, hn, rfl, hN⟩ := hrel
  obtain ⟨x0, x1, x2, x3⟩ := (K0.out.later hN.out.2.2).three'
  by_cases hlt : n < A.length
  ·
   go_wp2_with fail; go_loopw [6, 8] (fun v i wr => ∃ (k : Nat) (O : List C5), k ≤ L.length ∧ i = .int .i64 k ∧ Hid (O = outL L n ++ (L.take k).filter (fun a => a.1 == (n : Int)) ∧ CRow wr X.heap.size v O ∧ Below X.heap.size X wr)) (fun _ i _ => L.length - (intOf i).toNat)
   case atStart => exact ⟨0, O, Nat.zero_le _, rfl, by simpa using hN.out.1, hN.out.2⟩
   clear hN x0 x1 x2 x3 O; obtain ⟨k, O, hk, rfl, hN⟩ := hrel
   by_cases hlk : k < L.length
   ·
    obtain ⟨a, ha⟩ := get_some hlk
    obtain ⟨b, o, rfl, _, hp, ok, e0, e1, e2, e3, e4⟩ := eCell_cells (H1.out.later cCell_keeps hN.out.2.2) ha
    have HT : Hid (L.take (k + 1) = L.take k ++ [a]) := by show _ = _; rw [List.take_add_one, ha]; rfl
    have hOl : Hid (O.length ≤ 1048576) := by
     show _ ≤ _
     rw [hN.out.1]
     have h1 := outL_part L n k
     omega
    clear ha ok; by_cases hc : a.1 = (n : Int)
    ·
     have HO : Hid (O ++ [a] = outL L n ++ (L.take (k + 1)).filter (fun a => a.1 == (n : Int))) := by
      show _ = _
      rw [HT.out, List.filter_append, ← List.append_assoc, ← hN.out.1]
      simp [hc]
     have tc : (a.1 == (n : Int)) = true := by simp [hc]
     clear hc; go_wp2_with (at_builtin; refine wpList_append_own _ rfl _ _ 50 rfl X.heap.size 77 i0 (.agg #[.int .i64 0, .int .i64 0, .int .i64 0, .float .f64 0, .float .f64 0]) 5 40 Tryz.underlying50 hi hz0 hz1 hz2 rfl (by decide) _ _ _ rfl (World.ownsRow.alloc hN.out.2.1 _) ⟨wr.heap.size, 0, none⟩ 1 1 (ccells a) rfl rfl ?c1 ?c2 ?c3 ?c4 ?c5 ?_)
     case c1 =>
      intro i u hi
      match i, hi with
      | 0, hi => simp [ccells] at hi; subst hi; simp [Addr.add]
      | 1, hi => simp [ccells] at hi; subst hi; simp [Addr.add]
      | 2, hi => simp [ccells] at hi; subst hi; simp [Addr.add]
      | 3, hi => simp [ccells] at hi; subst hi; simp [Addr.add]
      | 4, hi => simp [ccells] at hi; subst hi; simp [Addr.add]
     case c2 => intro u hu; simp [ccells] at hu; rcases hu with rfl | rfl | rfl | rfl | rfl <;> rfl
     case c3 => have := hOl.out; unfold maxLen; omega
     case c4 => have := hOl.out; omega
     case c5 => have := hN.out.2.2.size; simp; omega
     intro v' w3 hown' hgrow _
     have LL : Below X.heap.size X (wr.alloc (.cells #[.int .i64 a.1, .int .i64 a.2.1, .int .i64 a.2.2.1, .float .f64 a.2.2.2.1, .float .f64 a.2.2.2.2] 77)) := bl_alloc hN.out.2.2 _
     have hr' : Hid (O ++ [a] = outL L n ++ (L.take (k + 1)).filter (fun a => a.1 == (n : Int)) ∧ CRow w3 X.heap.size v' (O ++ [a]) ∧ Below X.heap.size X w3) := by
      refine ⟨HO.out, ?_, LL.grown hgrow LL.size (fun q h => (World.ownsRow.lt hN.out.2.1 q h).1)⟩
      unfold CRow
      rw [List.length_append, List.flatMap_append, List.flatMap_singleton]
      exact hown'
     clear hown' hgrow LL hN; go_wp2_with fail; go_roundw
     case rel => exact ⟨k + 1, O ++ [a], by omega, by go_num, hr'⟩
     case measure => simp [intOf]; omega
    have HO : Hid (O = outL L n ++ (L.take (k + 1)).filter (fun a => a.1 == (n : Int))) := by
     show _ = _
     rw [HT.out, List.filter_append, ← List.append_assoc, ← hN.out.1]
     simp [hc]
    have tc : (a.1 == (n : Int)) = false := by simp [hc]
    clear hc; go_wp2_with fail; go_roundw
    case rel => exact ⟨k + 1, O, by omega, by go_num, HO.out, hN.out.2⟩
    case measure => simp [intOf]; omega
   have hk' : k = L.length := by omega
   subst hk'
   have HO : Hid (O = outL L (n + 1)) := by
    show _ = _
    rw [hN.out.1, List.take_length]; rfl
   go_wp2_with fail; go_roundw
   case rel => exact ⟨n + 1, O, by omega, by go_num, HO.out, hN.out.2⟩
   case measure => simp [intOf]; omega
  have hn' : n = A.length := by omega
  subst hn'
  obtain ⟨s', c', rfl, hE⟩ := hN.out.2.1.slice (fun a ha => okLL.out a (outL_sub L A.length a (by rw [← hN.out.1]; exact ha)))
  have hOl : O.length ≤ 1048576 := by
   have h1 := outL_le L A.length
   rw [hN.out.1]
   omega
  have HE : Hid (Els 5 cCell wr X.heap.size s' O) := hE
  have HW : Hid (Below X.heap.size X wr ∧ O = outL L A.length) := ⟨hN.out.2.2, hN.out.1⟩
  have HA : Hid (Decls wr s1 A) := HA1.out.later hN.out.2.2
  have KW : Hid (Blk wr w.heap.size #[.slice s1 A.length c1, .slice s2 B.length c2, .slice s3 C.length c3] 47) := K0.out.later hN.out.2.2
  have okO : Hid (∀ a ∈ O, okV a.2) := fun a ha => okLL.out a (outL_sub L A.length a (by rw [← hN.out.1]; exact ha))
  have HCR : Hid (CRow wr X.heap.size (.slice s' O.length c') O) := hN.out.2.1
  clear hE hN; go_wp2_with fail; clear x0 x1 x2 x3; obtain ⟨W9, hW9⟩ : ∃ W9, wr = W9 := ⟨_, rfl⟩
  rw [hW9] at HE HW HA KW HCR ⊢
  clear hW9; go_loopw [9] (fun i wr => ∃ (j : Nat), j ≤ O.length ∧ i = .int .i64 j ∧ Hid (Below W9.heap.size W9 wr ∧ ∀ (q : Nat), q < j → sokB A O q = true)) (fun i _ => O.length - (intOf i).toNat)
  case atStart => exact ⟨0, Nat.zero_le _, rfl, Below.refl _ _, fun j hj => absurd hj (Nat.not_lt_zero _)⟩
  obtain ⟨j, hj, rfl, hN⟩ := hrel
  by_cases hjl : j < O.length
  ·
   obtain ⟨a, ha⟩ := get_some hjl
   have hE := HE.out.later cCell_keeps hN.out.1
   obtain ⟨b, o, rfl, _, hp, ok, y0, y1, y2, y3, y4⟩ := eCell_cells hE ha
   obtain ⟨x0, x1, x2, x3⟩ := (KW.out.later hN.out.1).three'
   have ok : Hid (okV a.2) := ok
   have SB : Hid (sokB A O j = (fitB A a.1 a.2 && !(decide (0 < j) && (O[j - 1]?).elim false fun p => p.1 == a.1))) := by show _ = _; simp [sokB, ha]
   have jI0 : (0 : Int) ≤ (j : Int) := by omega
   have jI1 : (j : Int) < (O.length : Int) := by omega
   go_wp2_with fail; cases hfit : fitB A a.1 a.2
   ·
    have HB : Hid (sokB A O j = false) := by show _ = _; rw [SB.out, hfit]; rfl
    refine wp_region_held_drew (S := (fun w' => w'.cell? ⟨w.heap.size, 0, none⟩ = some (.slice s1 A.length c1) ∧ w'.cell? ⟨w.heap.size, 1, none⟩ = some (.slice s2 B.length c2) ∧ w'.cell? ⟨w.heap.size, 2, none⟩ = some (.slice s3 C.length c3) ∧ w'.cell? ⟨b, o + j * 5, none⟩ = some (.int .i64 a.1) ∧ w'.cell? ⟨b, o + j * 5 + 1, none⟩ = some (.int .i64 a.2.1) ∧ w'.cell? ⟨b, o + j * 5 + 2, none⟩ = some (.int .i64 a.2.2.1) ∧ w'.cell? ⟨b, o + j * 5 + 3, none⟩ = some (.float .f64 a.2.2.2.1) ∧ w'.cell? ⟨b, o + j * 5 + 4, none⟩ = some (.float .f64 a.2.2.2.2))) (by kernel_rfl) ?_ (fun hHeld => ?_)
    ·
     exact ⟨x0, x1, x2, y0, y1, y2, y3, y4⟩
    refine wpr 0 50 ?_; simp only [zs]; refine wpr 1 51 ?_; simp only [zs]; refine wpr 2 52 ?_; simp only [zs]; refine wpr 3 53 ?_; simp only [zs]; refine wpr 4 54 ?_; simp only [zs]; refine wpr 5 55 ?_; simp only [zs]; refine wpr 6 56 ?_; simp only [zs]; refine wpr 7 57 ?_; simp only [zs]; refine wpr 8 58 ?_; simp only [zs]; refine wpr 9 59 ?_; simp only [zs]; refine wpr 10 60 ?_; simp only [zs]; refine wpy 11 fun K hK => ?_
    go_simp; refine (l4Fits_any s1 s2 s3 c1 c2 c3 A B C a.1 a.2 _ (HA.out.later (bl_trans hN.out.1 (bl_drew (Below.refl _ _)))) (by omega) ok.out).mono ?_
    rintro e w4 ⟨rfl, hb_w4⟩
    rw [hfit]
    have hc_w4 : Below wr.heap.size wr w4 := bl_trans (bl_drew (Below.refl _ _)) hb_w4
    have hX_w4 : Hid (Below W9.heap.size W9 w4) := bl_trans hN.out.1 hc_w4
    have x0 := kcell hc_w4 x0
    have x1 := kcell hc_w4 x1
    have x2 := kcell hc_w4 x2
    have y0 := kcell hc_w4 y0
    have y1 := kcell hc_w4 y1
    have y2 := kcell hc_w4 y2
    have y3 := kcell hc_w4 y3
    have y4 := kcell hc_w4 y4
    clear hb_w4 hc_w4; refine hK.out _ _ ?_ (fun hHeld => ?_)
    ·
     exact ⟨x0, x1, x2, y0, y1, y2, y3, y4⟩
    clear hK K; try simp only [zs]
    refine wpr 12 62 ?_; simp only [zs]; refine wpr 13 63 ?_; simp only [zs]; refine wpAnyH_skip (by kernel_rfl) (fun _ _ _ _ h => h) [(14, 64), (15, 65), (16, 66), (17, 67), (18, 68), (19, 69), (20, 70), (21, 71), (22, 72), (23, 73), (24, 74), (25, 75), (26, 76), (27, 77), (28, 78), (29, 79)] 1 _ _ _ (by assumption) (by kernel_rfl) ?_ _ rfl
    simp only [zs]; refine wpr 30 80 ?_; simp only [zs]; refine wpAnyH_done (by kernel_rfl) ?_ _
    go_wp2_with fail; refine bodyPost_ret (v := .tuple #[.slice none 0 0, .bool false]) (by simp [results, Tryz.results24, go_sem]) rfl ⟨⟨_, by rw [← sortB_at HW.out.2 hjl HB.out], fun h => by rw [← sortB_at HW.out.2 hjl HB.out] at h; cases h⟩, bl_trans HX.out (bl_trans HW.out.1 hX_w4.out)⟩
   rcases Nat.eq_zero_or_pos j with hz | hz
   ·
    have HB : Hid (sokB A O j = true) := by show _ = _; rw [SB.out, hfit]; simp [hz]
    have hz0 : ¬ 0 < j := by omega
    have gz : decide ((j : Int) > 0) = false := by simp; omega
    clear hz; refine wp_region_held_drew (S := (fun w' => w'.cell? ⟨w.heap.size, 0, none⟩ = some (.slice s1 A.length c1) ∧ w'.cell? ⟨w.heap.size, 1, none⟩ = some (.slice s2 B.length c2) ∧ w'.cell? ⟨w.heap.size, 2, none⟩ = some (.slice s3 C.length c3) ∧ w'.cell? ⟨b, o + j * 5, none⟩ = some (.int .i64 a.1) ∧ w'.cell? ⟨b, o + j * 5 + 1, none⟩ = some (.int .i64 a.2.1) ∧ w'.cell? ⟨b, o + j * 5 + 2, none⟩ = some (.int .i64 a.2.2.1) ∧ w'.cell? ⟨b, o + j * 5 + 3, none⟩ = some (.float .f64 a.2.2.2.1) ∧ w'.cell? ⟨b, o + j * 5 + 4, none⟩ = some (.float .f64 a.2.2.2.2))) (by kernel_rfl) ?_ (fun hHeld => ?_)
    ·
     exact ⟨x0, x1, x2, y0, y1, y2, y3, y4⟩
    refine wpr 0 50 ?_; simp only [zs]; refine wpr 1 51 ?_; simp only [zs]; refine wpr 2 52 ?_; simp only [zs]; refine wpr 3 53 ?_; simp only [zs]; refine wpr 4 54 ?_; simp only [zs]; refine wpr 5 55 ?_; simp only [zs]; refine wpr 6 56 ?_; simp only [zs]; refine wpr 7 57 ?_; simp only [zs]; refine wpr 8 58 ?_; simp only [zs]; refine wpr 9 59 ?_; simp only [zs]; refine wpr 10 60 ?_; simp only [zs]; refine wpy 11 fun K hK => ?_
    go_simp; refine (l4Fits_any s1 s2 s3 c1 c2 c3 A B C a.1 a.2 _ (HA.out.later (bl_trans hN.out.1 (bl_drew (Below.refl _ _)))) (by omega) ok.out).mono ?_
    rintro e w4 ⟨rfl, hb_w4⟩
    rw [hfit]
    have hc_w4 : Below wr.heap.size wr w4 := bl_trans (bl_drew (Below.refl _ _)) hb_w4
    have hX_w4 : Hid (Below W9.heap.size W9 w4) := bl_trans hN.out.1 hc_w4
    have x0 := kcell hc_w4 x0
    have x1 := kcell hc_w4 x1
    have x2 := kcell hc_w4 x2
    have y0 := kcell hc_w4 y0
    have y1 := kcell hc_w4 y1
    have y2 := kcell hc_w4 y2
    have y3 := kcell hc_w4 y3
    have y4 := kcell hc_w4 y4
    clear hb_w4 hc_w4; refine hK.out _ _ ?_ (fun hHeld => ?_)
    ·
     exact ⟨x0, x1, x2, y0, y1, y2, y3, y4⟩
    clear hK K; try simp only [zs]
    refine wpr 12 62 ?_; simp only [zs]; refine wpr 13 63 ?_; simp only [zs]; refine wpr 14 64 ?_; simp only [zs]; refine wpr 15 65 ?_; simp only [zs]; refine wpr 16 66 ?_; simp only [zs]; refine wpAnyH_skip (by kernel_rfl) (fun _ _ _ _ h => h) [(17, 67), (18, 68), (19, 69), (20, 70), (21, 71), (22, 72), (23, 73), (24, 74), (25, 75), (26, 76), (27, 77), (28, 78)] 2 _ _ _ (by assumption) (by kernel_rfl) ?_ _ rfl
    simp only [zs]; refine wpr 29 79 ?_; simp only [zs]; refine wpr 30 80 ?_; simp only [zs]; refine wpAnyH_done (by kernel_rfl) ?_ _
    have hZ : Hid (Below W9.heap.size W9 w4) := hX_w4
    go_wp2_with fail; go_roundw
    case rel => exact ⟨j + 1, by omega, by go_num, hZ.out, fun q hq => by
      by_cases hqj : q = j
      ·
       subst hqj; exact HB.out
      exact hN.out.2 q (by omega)⟩
    case measure => simp [intOf]; omega
   have gz : decide ((j : Int) > 0) = true := by simp; omega
   obtain ⟨p, hp'⟩ : ∃ p, O[j - 1]? = some p := ⟨_, List.getElem?_eq_getElem (by omega)⟩
   obtain ⟨b', o', eb, _, _, _, q0, _⟩ := eCell_cells hE hp'
   obtain ⟨rfl, rfl⟩ : b = b' ∧ o = o' := by cases eb; exact ⟨rfl, rfl⟩
   have SB : Hid (sokB A O j = !(p.1 == a.1)) := by show _ = _; rw [SB.out, hfit, hp']; simp [hz]
   have hwr : IntKind.i64.wrap ((j : Int) - 1) = ((j - 1 : Nat) : Int) := by rw [IntKind.wrap_i64]; omega
   have hz1 : j - 1 < O.length := by omega
   have hz2 : (0 : Int) ≤ ((j - 1 : Nat) : Int) := by omega
   have hz3 : ((j - 1 : Nat) : Int) < (O.length : Int) := by omega
   clear eb hp' hE; cases hpa : (p.1 == a.1)
   ·
    have HB : Hid (sokB A O j = true) := by show _ = _; rw [SB.out, hpa]; rfl
    refine wp_region_held_drew (S := (fun w' => w'.cell? ⟨w.heap.size, 0, none⟩ = some (.slice s1 A.length c1) ∧ w'.cell? ⟨w.heap.size, 1, none⟩ = some (.slice s2 B.length c2) ∧ w'.cell? ⟨w.heap.size, 2, none⟩ = some (.slice s3 C.length c3) ∧ w'.cell? ⟨b, o + j * 5, none⟩ = some (.int .i64 a.1) ∧ w'.cell? ⟨b, o + j * 5 + 1, none⟩ = some (.int .i64 a.2.1) ∧ w'.cell? ⟨b, o + j * 5 + 2, none⟩ = some (.int .i64 a.2.2.1) ∧ w'.cell? ⟨b, o + j * 5 + 3, none⟩ = some (.float .f64 a.2.2.2.1) ∧ w'.cell? ⟨b, o + j * 5 + 4, none⟩ = some (.float .f64 a.2.2.2.2) ∧ w'.cell? ⟨b, o + (j - 1) * 5, none⟩ = some (.int .i64 p.1))) (by kernel_rfl) ?_ (fun hHeld => ?_)
    ·
     exact ⟨x0, x1, x2, y0, y1, y2, y3, y4, q0⟩
    refine wpr 0 50 ?_; simp only [zs]; refine wpr 1 51 ?_; simp only [zs]; refine wpr 2 52 ?_; simp only [zs]; refine wpr 3 53 ?_; simp only [zs]; refine wpr 4 54 ?_; simp only [zs]; refine wpr 5 55 ?_; simp only [zs]; refine wpr 6 56 ?_; simp only [zs]; refine wpr 7 57 ?_; simp only [zs]; refine wpr 8 58 ?_; simp only [zs]; refine wpr 9 59 ?_; simp only [zs]; refine wpr 10 60 ?_; simp only [zs]; refine wpy 11 fun K hK => ?_
    go_simp; refine (l4Fits_any s1 s2 s3 c1 c2 c3 A B C a.1 a.2 _ (HA.out.later (bl_trans hN.out.1 (bl_drew (Below.refl _ _)))) (by omega) ok.out).mono ?_
    rintro e w4 ⟨rfl, hb_w4⟩
    rw [hfit]
    have hc_w4 : Below wr.heap.size wr w4 := bl_trans (bl_drew (Below.refl _ _)) hb_w4
    have hX_w4 : Hid (Below W9.heap.size W9 w4) := bl_trans hN.out.1 hc_w4
    have x0 := kcell hc_w4 x0
    have x1 := kcell hc_w4 x1
    have x2 := kcell hc_w4 x2
    have y0 := kcell hc_w4 y0
    have y1 := kcell hc_w4 y1
    have y2 := kcell hc_w4 y2
    have y3 := kcell hc_w4 y3
    have y4 := kcell hc_w4 y4
    have q0 := kcell hc_w4 q0
    clear hb_w4 hc_w4; refine hK.out _ _ ?_ (fun hHeld => ?_)
    ·
     exact ⟨x0, x1, x2, y0, y1, y2, y3, y4, q0⟩
    clear hK K; try simp only [zs]
    refine wpr 12 62 ?_; simp only [zs]; refine wpr 13 63 ?_; simp only [zs]; refine wpr 14 64 ?_; simp only [zs]; refine wpr 15 65 ?_; simp only [zs]; refine wpr 16 66 ?_; simp only [zs]; refine wpr 17 67 ?_; simp only [zs]; refine wpr 18 68 ?_; simp only [zs]; refine wpr 19 69 ?_; simp only [zs]; refine wpr 20 70 ?_; simp only [zs]; refine wpr 21 71 ?_; simp only [zs]; refine wpr 22 72 ?_; simp only [zs]
    refine wpr 23 73 ?_; simp only [zs]; refine wpr 24 74 ?_; simp only [zs]; refine wpr 25 75 ?_; simp only [zs]; refine wpr 26 76 ?_; simp only [zs]; refine wpr 27 77 ?_; simp only [zs]; refine wpr 28 78 ?_; simp only [zs]; refine wpr 29 79 ?_; simp only [zs]; refine wpr 30 80 ?_; simp only [zs]; refine wpAnyH_done (by kernel_rfl) ?_ _
    have hZ : Hid (Below W9.heap.size W9 w4) := hX_w4
    go_wp2_with fail; go_roundw
    case rel => exact ⟨j + 1, by omega, by go_num, hZ.out, fun q hq => by
      by_cases hqj : q = j
      ·
       subst hqj; exact HB.out
      exact hN.out.2 q (by omega)⟩
    case measure => simp [intOf]; omega
   have HB : Hid (sokB A O j = false) := by show _ = _; rw [SB.out, hpa]; rfl
   refine wp_region_held_drew (S := (fun w' => w'.cell? ⟨w.heap.size, 0, none⟩ = some (.slice s1 A.length c1) ∧ w'.cell? ⟨w.heap.size, 1, none⟩ = some (.slice s2 B.length c2) ∧ w'.cell? ⟨w.heap.size, 2, none⟩ = some (.slice s3 C.length c3) ∧ w'.cell? ⟨b, o + j * 5, none⟩ = some (.int .i64 a.1) ∧ w'.cell? ⟨b, o + j * 5 + 1, none⟩ = some (.int .i64 a.2.1) ∧ w'.cell? ⟨b, o + j * 5 + 2, none⟩ = some (.int .i64 a.2.2.1) ∧ w'.cell? ⟨b, o + j * 5 + 3, none⟩ = some (.float .f64 a.2.2.2.1) ∧ w'.cell? ⟨b, o + j * 5 + 4, none⟩ = some (.float .f64 a.2.2.2.2) ∧ w'.cell? ⟨b, o + (j - 1) * 5, none⟩ = some (.int .i64 p.1))) (by kernel_rfl) ?_ (fun hHeld => ?_)
   ·
    exact ⟨x0, x1, x2, y0, y1, y2, y3, y4, q0⟩
   refine wpr 0 50 ?_; simp only [zs]; refine wpr 1 51 ?_; simp only [zs]; refine wpr 2 52 ?_; simp only [zs]; refine wpr 3 53 ?_; simp only [zs]; refine wpr 4 54 ?_; simp only [zs]; refine wpr 5 55 ?_; simp only [zs]; refine wpr 6 56 ?_; simp only [zs]; refine wpr 7 57 ?_; simp only [zs]; refine wpr 8 58 ?_; simp only [zs]; refine wpr 9 59 ?_; simp only [zs]; refine wpr 10 60 ?_; simp only [zs]; refine wpy 11 fun K hK => ?_
   go_simp; refine (l4Fits_any s1 s2 s3 c1 c2 c3 A B C a.1 a.2 _ (HA.out.later (bl_trans hN.out.1 (bl_drew (Below.refl _ _)))) (by omega) ok.out).mono ?_
   rintro e w4 ⟨rfl, hb_w4⟩
   rw [hfit]
   have hc_w4 : Below wr.heap.size wr w4 := bl_trans (bl_drew (Below.refl _ _)) hb_w4
   have hX_w4 : Hid (Below W9.heap.size W9 w4) := bl_trans hN.out.1 hc_w4
   have x0 := kcell hc_w4 x0
   have x1 := kcell hc_w4 x1
   have x2 := kcell hc_w4 x2
   have y0 := kcell hc_w4 y0
   have y1 := kcell hc_w4 y1
   have y2 := kcell hc_w4 y2
   have y3 := kcell hc_w4 y3
   have y4 := kcell hc_w4 y4
   have q0 := kcell hc_w4 q0
   clear hb_w4 hc_w4; refine hK.out _ _ ?_ (fun hHeld => ?_)
   ·
    exact ⟨x0, x1, x2, y0, y1, y2, y3, y4, q0⟩
   clear hK K; try simp only [zs]
   refine wpr 12 62 ?_; simp only [zs]; refine wpr 13 63 ?_; simp only [zs]; refine wpr 14 64 ?_; simp only [zs]; refine wpr 15 65 ?_; simp only [zs]; refine wpr 16 66 ?_; simp only [zs]; refine wpr 17 67 ?_; simp only [zs]; refine wpr 18 68 ?_; simp only [zs]; refine wpr 19 69 ?_; simp only [zs]; refine wpr 20 70 ?_; simp only [zs]; refine wpr 21 71 ?_; simp only [zs]; refine wpr 22 72 ?_; simp only [zs]
   refine wpr 23 73 ?_; simp only [zs]; refine wpr 24 74 ?_; simp only [zs]; refine wpr 25 75 ?_; simp only [zs]; refine wpr 26 76 ?_; simp only [zs]; refine wpr 27 77 ?_; simp only [zs]; refine wpr 28 78 ?_; simp only [zs]; refine wpr 29 79 ?_; simp only [zs]; refine wpr 30 80 ?_; simp only [zs]; refine wpAnyH_done (by kernel_rfl) ?_ _
   go_wp2_with fail; refine bodyPost_ret (v := .tuple #[.slice none 0 0, .bool false]) (by simp [results, Tryz.results24, go_sem]) rfl ⟨⟨_, by rw [← sortB_at HW.out.2 hjl HB.out], fun h => by rw [← sortB_at HW.out.2 hjl HB.out] at h; cases h⟩, bl_trans HX.out (bl_trans HW.out.1 hX_w4.out)⟩
  have hj' : j = O.length := by omega
  subst hj'
  have HF := sortB_all HLE.out HW.out.2 (fun q hq => hN.out.2 q hq)
  have HF : Hid (decide ((O.length : Int) = (L.length : Int)) = sortB A L) := HF
  go_wp2_with fail; refine bodyPost_ret (v := .tuple #[.slice s' O.length c', .bool ((O.length : Int) == (L.length : Int))]) (by simp [results, Tryz.results24, go_sem]) rfl ⟨⟨_, by rw [← HF.out]; rfl, fun _ => by
   rw [← HW.out.2]
   have h1 := OR.on.later (r := rC (.slice s' O.length c') O) HCR.out hN.out.1
   exact OR.on.mono h1 HX.out.size⟩, bl_trans HX.out (bl_trans HW.out.1 hN.out.1)⟩
 have t0 : decide ((L.length : Int) > (A.length : Int)) = true := by simp; omega
 have t1 : A.length < L.length := by omega
 have HF : Hid (false = sortB A L) := by simp [Hid, sortB, hle]
 go_enter Tryz.func24, Tryz.ntmps24
 go_wp2_with fail; refine bodyPost_ret (v := .tuple #[.slice none 0 0, .bool false]) (by simp [results, Tryz.results24, go_sem]) rfl ⟨⟨_, by rw [← HF.out], fun h => by rw [← HF.out] at h; cases h⟩, L0⟩
end Go.Proofs.YtbgeobpdojmdaaaGreat
