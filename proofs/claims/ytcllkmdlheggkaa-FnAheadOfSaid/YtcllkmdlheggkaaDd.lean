import Derived.Test.YtcllkmdlheggkaaDc
import Derived.Deep.RegionHeld3
namespace Go.Proofs.Ytcllkmdlheggkaa
open Go.RowKit
set_option linter.unusedVariables false
set_option linter.unusedSimpArgs false

/-- what a draw of things leaves. -/
def Drawn (P : List Int → List Int → Prop) (n : Nat) (W : World) (e : Ending) (w' : World) : Prop :=
  ∃ g c f d G F, e = .returned (.agg #[.slice (some ⟨g, 0, none⟩) G.length c, .slice (some ⟨f, 0, none⟩) F.length d]) ∧ VRow w' W.heap.size (.slice (some ⟨g, 0, none⟩) G.length c) G ∧ VRow w' W.heap.size (.slice (some ⟨f, 0, none⟩) F.length d) F ∧ ¬ g = f ∧ P G F ∧ Keep n W w' ∧ Cur n w'

theorem Dr.put0 {n : Nat} {W w : World} {r b : Nat} {x : Value} {g c f d : Nat} {G F : List Int} (hk : Blk w b #[x, .slice (some ⟨f, 0, none⟩) F.length d] 26) (hv : VRow w W.heap.size (.slice (some ⟨g, 0, none⟩) G.length c) G) (hu : VRow w W.heap.size (.slice (some ⟨f, 0, none⟩) F.length d) F) (hn : ¬ g = f)
    (hC : Cur n w) (hK : Keep n W w) (hl : n < W.heap.size) (hb : W.heap.size ≤ b) (hr : Blk w r #[.slice none 0 0, .slice none 0 0] 26) (hs : W.heap.size ≤ r) (he : ¬ r = b) :
    Dr n W (w.setCell ⟨b, 0, none⟩ (.slice (some ⟨g, 0, none⟩) G.length c)) r b g c f d G F :=
  ⟨⟨hk.set 0 (.slice (some ⟨g, 0, none⟩) G.length c), hv.other (hv.apartBox hk (by decide)) 0 _, hu.other (hu.apartBox hk (by decide)) 0 _, hn⟩, hC.set (by dsimp only; omega) _, hK.setNew hb (by dsimp only; omega) _, hl, hb, hr.other he 0 _, hs, he⟩
theorem Dr.put1 {n : Nat} {W w : World} {r b : Nat} {x : Value} {g c f d : Nat} {G F : List Int} (hk : Blk w b #[.slice (some ⟨g, 0, none⟩) G.length c, x] 26) (hv : VRow w W.heap.size (.slice (some ⟨g, 0, none⟩) G.length c) G) (hu : VRow w W.heap.size (.slice (some ⟨f, 0, none⟩) F.length d) F) (hn : ¬ g = f)
    (hC : Cur n w) (hK : Keep n W w) (hl : n < W.heap.size) (hb : W.heap.size ≤ b) (hr : Blk w r #[.slice none 0 0, .slice none 0 0] 26) (hs : W.heap.size ≤ r) (he : ¬ r = b) :
    Dr n W (w.setCell ⟨b, 1, none⟩ (.slice (some ⟨f, 0, none⟩) F.length d)) r b g c f d G F :=
  ⟨⟨hk.set 1 (.slice (some ⟨f, 0, none⟩) F.length d), hv.other (hv.apartBox hk (by decide)) 1 _, hu.other (hu.apartBox hk (by decide)) 1 _, hn⟩, hC.set (by dsimp only; omega) _, hK.setNew hb (by dsimp only; omega) _, hl, hb, hr.other he 1 _, hs, he⟩
/-- one number is appended to the generations. -/
theorem Dr.push {n : Nat} {W w w5 : World} {r b g c f d : Nat} {G F : List Int} {x : Int} {g1 d1 : Nat} (D : Dr n W w r b g c f d G F) (o : Obj)
    (hv5 : VRow w5 0 (.slice (some ⟨g1, 0, none⟩) (G.length + 1) d1) (G ++ [x])) (hg5 : (w.alloc o).grownBy w5 (some g)) (ho5 : g = g1 ∨ (w.alloc o).heap.size ≤ g1) :
    Dr n W (w5.setCell ⟨b, 0, none⟩ (.slice (some ⟨g1, 0, none⟩) (G.length + 1) d1)) r b g1 d1 f d (G ++ [x]) F := by
  have DA := D.alloc o
  have e := DA.ge
  have hl := DA.l
  have hbl := DA.t.k.lt
  have hrl := DA.rr.lt
  have hul := DA.t.u.ge
  have hkz := DA.k.1.size
  obtain ⟨t1, t2, t3, t4⟩ := DA.turn hg5 e.1 e.2.2.2.1 e.2.2.2.2.2.1
  have hf := DA.t.u.kept hg5 (fun k hk e' => by simp [Value.ownBlock] at hk e'; omega)
  have hv := hv5.raise (B' := W.heap.size) (by rcases ho5 with h | h <;> omega)
  have hlen : (G ++ [x]).length = G.length + 1 := by simp
  have := Dr.put0 (G := G ++ [x]) (g := g1) (c := d1) t3 (by rw [hlen]; exact hv) hf (by rcases ho5 with h | h <;> omega) t1 t2 DA.l DA.bb t4 DA.ss DA.ee
  rw [hlen] at this
  exact this

theorem i8 : (-9223372036854775808 : Int) ≤ 8 ∧ (8 : Int) ≤ 9223372036854775807 := by omega

set_option maxRecDepth 100000 in
set_option maxHeartbeats 8000000 in
theorem l2Ents_any (n : Nat) (size : Nat) (W : World) (hC : Cur n W) (hsz : size ≤ 20) :
    Calls Try.prog 51 #[.pointer (some ⟨n, 0, none⟩), .int .i64 size] W fun e w' => Drawn (fun G F => okE G F = true) n W e w' := by
  have hal := alloc_old
  have haf := alloc_oldf
  have hn := hC.lt
  go_enter Try.func51, Try.ntmps51
  go_upto_region 2 with fail
  have D0 : Dr n W ((((W.alloc (.cells #[.slice none 0 0, .slice none 0 0] 26)).alloc (.cells #[] 3)).alloc (.cells #[] 3)).alloc (.cells #[.slice (some ⟨W.heap.size + 1, 0, none⟩) 0 0, .slice (some ⟨W.heap.size + 1 + 1, 0, none⟩) 0 0] 26)) W.heap.size (W.heap.size + 1 + 1 + 1) (W.heap.size + 1) 0 (W.heap.size + 1 + 1) 0 [] [] := by
    have b0 : Blk ((((W.alloc (.cells #[.slice none 0 0, .slice none 0 0] 26)).alloc (.cells #[] 3)).alloc (.cells #[] 3)).alloc (.cells #[.slice (some ⟨W.heap.size + 1, 0, none⟩) 0 0, .slice (some ⟨W.heap.size + 1 + 1, 0, none⟩) 0 0] 26)) W.heap.size #[.slice none 0 0, .slice none 0 0] 26 := ((((Blk.new W _ _).alloc _).alloc _).alloc _)
    have b1 : Blk ((((W.alloc (.cells #[.slice none 0 0, .slice none 0 0] 26)).alloc (.cells #[] 3)).alloc (.cells #[] 3)).alloc (.cells #[.slice (some ⟨W.heap.size + 1, 0, none⟩) 0 0, .slice (some ⟨W.heap.size + 1 + 1, 0, none⟩) 0 0] 26)) (W.heap.size + 1) #[] 3 := ((Blk.new' _ _ _ (by simp)).alloc _).alloc _
    have b2 : Blk ((((W.alloc (.cells #[.slice none 0 0, .slice none 0 0] 26)).alloc (.cells #[] 3)).alloc (.cells #[] 3)).alloc (.cells #[.slice (some ⟨W.heap.size + 1, 0, none⟩) 0 0, .slice (some ⟨W.heap.size + 1 + 1, 0, none⟩) 0 0] 26)) (W.heap.size + 1 + 1) #[] 3 := (Blk.new' _ _ _ (by simp)).alloc _
    have b3 : Blk ((((W.alloc (.cells #[.slice none 0 0, .slice none 0 0] 26)).alloc (.cells #[] 3)).alloc (.cells #[] 3)).alloc (.cells #[.slice (some ⟨W.heap.size + 1, 0, none⟩) 0 0, .slice (some ⟨W.heap.size + 1 + 1, 0, none⟩) 0 0] 26)) (W.heap.size + 1 + 1 + 1) #[.slice (some ⟨W.heap.size + 1, 0, none⟩) 0 0, .slice (some ⟨W.heap.size + 1 + 1, 0, none⟩) 0 0] 26 := Blk.new' _ _ _ (by simp)
    refine ⟨⟨b3, own0 b1 (by omega), own0 b2 (by omega), by omega⟩, ?_, ?_, hn, by omega, b0, Nat.le_refl _, by omega⟩
    · exact (((hC.alloc _).alloc _).alloc _).alloc _
    · exact Keep.of_below (by (repeat (first | with_reducible exact Below.refl _ _ | with_reducible refine bl_alloc ?_ _ | with_reducible refine bl_drewN ?_ _ | with_reducible refine bl_drew ?_ | with_reducible refine bl_setCell ?_ (by first | exact Nat.le_refl _ | (dsimp only; omega) | (simp <;> omega)) _ | with_reducible refine bl_trans ?_ (by with_reducible assumption)))) (by omega)
  generalize hX : ((((W.alloc (.cells #[.slice none 0 0, .slice none 0 0] 26)).alloc (.cells #[] 3)).alloc (.cells #[] 3)).alloc (.cells #[.slice (some ⟨W.heap.size + 1, 0, none⟩) 0 0, .slice (some ⟨W.heap.size + 1 + 1, 0, none⟩) 0 0] 26)) = X at D0 ⊢
  clear hX
  generalize hr0 : W.heap.size + 1 + 1 + 1 = b at D0 ⊢
  have hb : ¬ W.heap.size = b := by omega
  clear hr0
  go_upto_if 17 with (go_at_call 53; refine (l1Once_any n 8 _ D0.u i8).mono ?_; rintro e w1 ⟨b8, rfl, hK1, hC1⟩)
  have D1 := D0.keep hK1 hC1
  clear D0 hK1 hC1
  go_cut [6, 7] (fun _ _ wx => ∃ g c f d G F, Dr n W wx W.heap.size b g c f d G F ∧ okE G F = true)
  case first =>
    cases b8
    · go_wp2_with fail
      go_meet
      exact ⟨_, _, _, _, _, _, D1, by decide⟩
    · go_wp2_with (go_at_call 59; refine (l1Below_any n 3 _ D1.u (by omega)).mono ?_; rintro e w2 ⟨r, rfl, r1, r2, hK2, hC2⟩)
      have D2 := D1.keep hK2 hC2
      clear D1 hK2 hC2
      go_loopw [7] (fun i wr => ∃ k : Nat, (k : Int) ≤ 2000 - r ∧ i = .int .i64 k ∧ ∃ g c f d, Dr n W wr W.heap.size b g c f d (List.replicate k 0) []) (fun i _ => (2000 - r - intOf i).toNat)
      case atStart => exact ⟨0, by omega, rfl, _, _, _, _, D2⟩
      case round =>
        clear D2
        obtain ⟨k, hk, rfl, g, c, f, d, D⟩ := hrel
        by_cases hlt : (k : Int) < 2000 - r
        · obtain ⟨x0, x1, x2⟩ := D.t.k.two
          have hz := (Blk.new wr #[.int .i64 0] 3).cell 0
          have Va := D.t.v.alloc' (.cells #[.int .i64 0] 3)
          have hlk : (List.replicate k (0 : Int)).length = k := by simp
          rw [hlk] at x0 Va
          go_wp2_with (at_builtin; refine wpList_append_one _ rfl (.tmp 27) (.tmp 28) rfl W.heap.size (.slice (some ⟨g, 0, none⟩) k c) (List.replicate k 0) rfl Va wr.heap.size 0 rfl hz (by simp; omega) ?_)
          intro g1 d1 w5 hv5 hg5 ho5 hl5
          have e := D.ge
          have hg5' : (wr.alloc (.cells #[.int .i64 0] 3)).grownBy w5 (some g) := hg5
          have ho5' : g = g1 ∨ (wr.alloc (.cells #[.int .i64 0] 3)).heap.size ≤ g1 := by
            rcases ho5 with h | h
            · left; simpa [Value.ownBlock] using h
            · right; simpa using h
          have D5 := D.push (x := 0) (.cells #[.int .i64 0] 3) (by rw [hlk]; exact hv5) hg5' ho5'
          rw [hlk, ← List.replicate_succ'] at D5
          obtain ⟨_, _, B5, _⟩ := (D.alloc (.cells #[.int .i64 0] 3)).turn hg5' e.1 e.2.2.2.1 e.2.2.2.2.2.1
          clear x0 x1 x2 hz Va hg5 hg5' ho5 ho5' hv5 hl5 D e
          obtain ⟨x0, x1, x2⟩ := B5.two
          go_wp2_with fail
          go_roundw
          case rel => exact ⟨k + 1, by omega, by go_num, _, _, _, _, D5⟩
          case measure => simp [intOf]; omega
        · have hk2 : (k : Int) = 2000 - r := by omega
          have hok : okE (List.replicate k (0 : Int)) [] = true := by
            rw [okE_iff]
            refine ⟨by simp; omega, ?_, by simp, by simp⟩
            intro g hg
            rw [List.mem_replicate] at hg
            omega
          go_wp2_with fail
          go_meet
          exact ⟨_, _, _, _, _, _, D, hok⟩
  case rest =>
    clear D1
    obtain ⟨g, c, f, d, G, F, D, hok⟩ := hcut
    go_wp2_with fail
    go_loopw [8] (fun i wr => ∃ k : Nat, k ≤ size ∧ i = .int .i64 k ∧ ∃ g c f d G F, Dr n W wr W.heap.size b g c f d G F ∧ okE G F = true) (fun i _ => size - (intOf i).toNat)
    case atStart => exact ⟨0, Nat.zero_le _, rfl, _, _, _, _, _, _, D, hok⟩
    case round =>
      clear D hok
      obtain ⟨k, hk, rfl, g, c, f, d, G, F, D, hok⟩ := hrel
      obtain ⟨x0, x1, x2⟩ := D.t.k.two
      by_cases hlt : k < size
      · have hltI : (k : Int) < (size : Int) := by omega
        have h0 := (okE_iff G F).1 hok
        have hfl := (okE_parts hok).2.1
        have hO0 := okE_take1 hok
        have hO1 : (take1 G F).2.2.2 = 0 → _ := fun h => take1_at hok h
        obtain ⟨O, hO⟩ : ∃ O, Hid (take1 G F = O) := ⟨_, rfl⟩
        have hin : 0 < F.length → ∃ q : Nat, F.getLastD 0 = (q : Int) ∧ q < G.length := fun h => last_inE hok h
        have gl : G.length ≤ 1048576 := by omega
        have fl : F.length ≤ 1048576 := by omega
        have hcode := take1_code G F
        rw [hO.out] at hO0 hO1 hcode
        obtain ⟨G1, F1, ⟨a, a'⟩, code⟩ := O
        dsimp only at hO0 hO1 hcode
        clear h0
        go_wp2_with fail
        refine (l2Take_all2 W.heap.size g c f d G F (G1, F1, (a, a'), code) _ D.t.v D.t.u D.t.n hin gl fl D.k.1.size hO.out).mono ?_
        rintro e w3 ⟨⟨g1, c1, f1, d1, rfl, t1, t2, hne1, hgr⟩, h3⟩
        have e := D.ge
        obtain ⟨C3, K3, B3, R3⟩ := D.turn hgr e.1 e.2.2.2.1 e.2.2.2.2.2.1
        have sB := D.bb
        have sR := D.ss
        have sE := D.ee
        clear x0 x1 x2 e hin
        obtain ⟨x0, x1, x2⟩ := B3.two
        dsimp only at t1 t2 h3
        go_upto_if 43 with fail
        have hn3 := C3.lt
        have C4 : Cur n ((w3.alloc (.cells #[.slice (some ⟨g1, 0, none⟩) G1.length c1, .slice (some ⟨f1, 0, none⟩) F1.length d1] 26)).alloc (.cells #[.int .i64 a, .int .i64 a'] 29)) := (C3.alloc _).alloc _
        have K4 : Keep n W ((w3.alloc (.cells #[.slice (some ⟨g1, 0, none⟩) G1.length c1, .slice (some ⟨f1, 0, none⟩) F1.length d1] 26)).alloc (.cells #[.int .i64 a, .int .i64 a'] 29)) := (K3.alloc (Nat.le_of_lt hn3) _).alloc (by simp; omega) _
        have B4 : Blk ((w3.alloc (.cells #[.slice (some ⟨g1, 0, none⟩) G1.length c1, .slice (some ⟨f1, 0, none⟩) F1.length d1] 26)).alloc (.cells #[.int .i64 a, .int .i64 a'] 29)) b _ _ := (B3.alloc _).alloc _
        have R4 : Blk ((w3.alloc (.cells #[.slice (some ⟨g1, 0, none⟩) G1.length c1, .slice (some ⟨f1, 0, none⟩) F1.length d1] 26)).alloc (.cells #[.int .i64 a, .int .i64 a'] 29)) W.heap.size _ _ := (R3.alloc _).alloc _
        have E4 : Blk ((w3.alloc (.cells #[.slice (some ⟨g1, 0, none⟩) G1.length c1, .slice (some ⟨f1, 0, none⟩) F1.length d1] 26)).alloc (.cells #[.int .i64 a, .int .i64 a'] 29)) w3.heap.size #[.slice (some ⟨g1, 0, none⟩) G1.length c1, .slice (some ⟨f1, 0, none⟩) F1.length d1] 26 := (Blk.new _ _ _).alloc _
        have A4 : Blk ((w3.alloc (.cells #[.slice (some ⟨g1, 0, none⟩) G1.length c1, .slice (some ⟨f1, 0, none⟩) F1.length d1] 26)).alloc (.cells #[.int .i64 a, .int .i64 a'] 29)) (w3.heap.size + 1) #[.int .i64 a, .int .i64 a'] 29 := Blk.new' _ _ _ (by simp)
        have T1 : VRow ((w3.alloc (.cells #[.slice (some ⟨g1, 0, none⟩) G1.length c1, .slice (some ⟨f1, 0, none⟩) F1.length d1] 26)).alloc (.cells #[.int .i64 a, .int .i64 a'] 29)) W.heap.size _ _ := (t1.alloc _).alloc _
        have T2 : VRow ((w3.alloc (.cells #[.slice (some ⟨g1, 0, none⟩) G1.length c1, .slice (some ⟨f1, 0, none⟩) F1.length d1] 26)).alloc (.cells #[.int .i64 a, .int .i64 a'] 29)) W.heap.size _ _ := (t2.alloc _).alloc _
        have D3 : code = 3 → Dr n W ((w3.alloc (.cells #[.slice (some ⟨g1, 0, none⟩) G1.length c1, .slice (some ⟨f1, 0, none⟩) F1.length d1] 26)).alloc (.cells #[.int .i64 a, .int .i64 a'] 29)) W.heap.size b g c f d G F := fun hc => ((D.below (h3 hc)).alloc _).alloc _
        have hb3 := B3.lt
        generalize hX : (w3.alloc (.cells #[.slice (some ⟨g1, 0, none⟩) G1.length c1, .slice (some ⟨f1, 0, none⟩) F1.length d1] 26)).alloc (.cells #[.int .i64 a, .int .i64 a'] 29) = X4 at C4 K4 B4 R4 E4 A4 T1 T2 D3 ⊢
        clear hX C3 K3 B3 R3 t1 t2 h3 x0 x1 x2 hgr D
        go_cut [] (fun wx => ∃ g c f d G F, Dr n W wx W.heap.size b g c f d G F ∧ okE G F = true)
        case first =>
          rcases hcode with hc | hc
          · subst hc
            clear D3
            obtain ⟨q, rfl, hq⟩ := hO1 rfl
            clear hO1
            obtain ⟨x0, x1, x2⟩ := B4.two
            obtain ⟨y0, y1, y2⟩ := E4.two
            go_upto_region 14 with fail
            have D5 := Dr.put B4 rfl T1 T2 hne1 C4 K4 hn sB R4 sR sE
            have A5 := (A4.other (m := b) (by omega) 0 (.slice (some ⟨g1, 0, none⟩) G1.length c1)).other (m := b) (by omega) 1 (.slice (some ⟨f1, 0, none⟩) F1.length d1)
            generalize hX : (X4.setCell ⟨b, 0, none⟩ (.slice (some ⟨g1, 0, none⟩) G1.length c1)).setCell ⟨b, 1, none⟩ (.slice (some ⟨f1, 0, none⟩) F1.length d1) = X5 at D5 A5 ⊢
            clear hX x0 x1 x2 y0 y1 y2 C4 K4 B4 R4 E4 A4 T1 T2
            go_upto_if 46 with (go_at_call 53; refine (l1Once_any n 9 _ D5.u (by omega)).mono ?_; rintro e w6 ⟨b9, rfl, hK6, hC6⟩)
            have D6 := D5.keep hK6 hC6
            have A6 := A5.keep hK6 (by omega)
            clear D5 A5 hK6 hC6
            cases b9
            · go_wp2_with fail
              go_meet
              exact ⟨_, _, _, _, _, _, D6, hO0⟩
            · obtain ⟨x0, x1, x2⟩ := D6.t.k.two
              obtain ⟨y0, y1, y2⟩ := A6.two
              obtain ⟨z0, z1⟩ := D6.t.v.cell hq
              have hqI : (q : Int) < (G1.length : Int) := by omega
              go_wp2_with fail
              go_meet
              exact ⟨_, _, _, _, _, _, D6.setG q 1000000, okE_set hO0 q 1000000 (by omega)⟩
          · subst hc
            go_wp2_with fail
            go_meet
            exact ⟨_, _, _, _, _, _, D3 (by first | trivial | rfl), hok⟩
        case rest =>
          clear D3 C4 K4 B4 R4 E4 A4 T1 T2 hok hO0 hO1 hcode hfl gl fl
          obtain ⟨g, c, f, d, G, F, D, hok⟩ := hcut
          obtain ⟨x0, x1, x2⟩ := D.t.k.two
          go_upto_region 16 with fail
          go_wp2_with (go_at_call 53; refine (l1Once_any n 3 _ D.u (by omega)).mono ?_; rintro e w6 ⟨b3, rfl, hK6, hC6⟩; have D6 := D.keep hK6 hC6; obtain ⟨y0, y1, y2⟩ := D6.t.k.two)
          rotate_left
          · exact ⟨⟨k + 1, by omega, by go_num, _, _, _, _, _, _, D6, hok⟩, by simp [intOf]; omega⟩
          · exact ⟨⟨k + 1, by omega, by go_num, _, _, _, _, _, _, D6, hok⟩, by simp [intOf]; omega⟩
          have hpos : 0 < G.length := by assumption
          have hG2 := (okE_iff G F).1 hok
          have hF2 := (okE_parts hok).2.1
          have gl : G.length ≤ 1048576 := by omega
          have fl : F.length ≤ 1048576 := by omega
          refine (l1Below_any n (G.length : Int) _ D6.u (by omega)).mono ?_
          rintro e w7 ⟨r, rfl, r1, r2, hK7, hC7⟩
          have D7 := D6.keep hK7 hC7
          obtain ⟨q, rfl⟩ : ∃ q : Nat, r = (q : Int) := ⟨r.toNat, by omega⟩
          have hq : q < G.length := by omega
          have hqI : (q : Int) < (G.length : Int) := by omega
          have hqI0 : (0 : Int) ≤ (q : Int) := by omega
          obtain ⟨x, hx⟩ : ∃ x, Hid (G[q]?.getD 0 = x) := ⟨_, rfl⟩
          have hxin : 0 ≤ x ∧ x ≤ 1000000 := hG2.2.1 x (by rw [← hx.out]; exact getD_mem hq)
          clear hG2 D D6 x0 x1 x2 y0 y1 y2 hK6 hC6 hK7 hC7 r2
          obtain ⟨x0, x1, x2⟩ := D7.t.k.two
          obtain ⟨z0, z1⟩ := D7.t.v.cell hq
          rw [hx.out] at z0
          go_wp2_with fail
          go_region_held3 (fun w' => w'.cell? ⟨b, 0, none⟩ = some (.slice (some ⟨g, 0, none⟩) G.length c) ∧ w'.cell? ⟨b, 1, none⟩ = some (.slice (some ⟨f, 0, none⟩) F.length d) ∧ w'.cell? ⟨g, q, none⟩ = some (.int .i64 x)) (simp [x0, x1, z0])
            (first | (go_at_call 39; refine (l2Live_any _ _ _ _ G F (q : Int) x _ ((Row.ints D7.t.v).1.later (by (repeat (first | with_reducible exact Below.refl _ _ | with_reducible refine bl_alloc ?_ _ | with_reducible refine bl_drewN ?_ _ | with_reducible refine bl_drew ?_ | with_reducible refine bl_setCell ?_ (by first | exact Nat.le_refl _ | (dsimp only; omega) | (simp <;> omega)) _ | with_reducible refine bl_trans ?_ (by with_reducible assumption))))) ((Row.ints D7.t.u).1.later (by (repeat (first | with_reducible exact Below.refl _ _ | with_reducible refine bl_alloc ?_ _ | with_reducible refine bl_drewN ?_ _ | with_reducible refine bl_drew ?_ | with_reducible refine bl_setCell ?_ (by first | exact Nat.le_refl _ | (dsimp only; omega) | (simp <;> omega)) _ | with_reducible refine bl_trans ?_ (by with_reducible assumption))))) gl fl).mono ?_; rintro e w8 ⟨rfl, hb8⟩; have D8 : Dr n W w8 _ b g c f d G F := D7.below (by (repeat (first | with_reducible exact Below.refl _ _ | with_reducible refine bl_alloc ?_ _ | with_reducible refine bl_drewN ?_ _ | with_reducible refine bl_drew ?_ | with_reducible refine bl_setCell ?_ (by first | exact Nat.le_refl _ | (dsimp only; omega) | (simp <;> omega)) _ | with_reducible refine bl_trans ?_ (by with_reducible assumption)))); obtain ⟨x0, x1, x2⟩ := D8.t.k.two; obtain ⟨z0, z1⟩ := D8.t.v.cell hq; rw [hx.out] at z0))
          clear D7
          cases hlv : l2B G F (q : Int) x
          · go_wp2_with fail
            exact ⟨⟨k + 1, by omega, by go_num, _, _, _, _, _, _, D8, hok⟩, by simp [intOf]; omega⟩
          · have hnot : ¬ (q : Int) ∈ F := by
              simp only [l2B, decide_eq_true_eq] at hlv
              exact hlv.2.2.2
            have HN : Hid (¬ (q : Int) ∈ F) := hnot
            clear hnot hlv
            have D9 := D8.drew
            have e := D9.ge
            have eb := D9.bb
            go_wp2_with fail
            go_region_with (first | (go_at_call 65; refine (l2Give_any W.heap.size g c f d G F q x _ D9.t.v D9.t.u D9.t.n hq hxin.1 hxin.2 gl fl D9.k.1.size).mono ?_; rintro e' w10 ⟨f1, d1, rfl, v1, v2, hne1, hfr⟩; have C10 : Cur n w10 := D9.u.fr hfr (by omega) (by omega); have K10 : Keep n W w10 := D9.k.of_fr hfr (by omega) (by omega) (by omega); have B10 : Blk w10 b _ _ := D9.t.k.fr hfr (by omega) (by omega); have R10 : Blk w10 W.heap.size _ _ := D9.rr.fr hfr (by omega) (by omega); obtain ⟨x0, x1, x2⟩ := B10.two))
            all_goals
              go_wp2_with fail
              have D11 := Dr.put (G := G.set q (ng x)) (F := F ++ [(q : Int)]) (g := g) (c := c) (f := f1) (d := d1) B10 rfl (by rw [List.length_set]; exact v1) (by rw [List.length_append]; exact v2) hne1 C10 K10 hn D9.bb R10 D9.ss D9.ee
              simp only [List.length_set, List.length_append, List.length_singleton] at D11
              exact ⟨⟨k + 1, by omega, by go_num, _, _, _, _, _, _, D11, okE_give hok hq HN.out hxin⟩, by simp [intOf]; omega⟩
      · have e := D.ge
        have eb := D.bb
        obtain ⟨y0, y1, y2⟩ := D.rr.two
        go_wp2_with fail
        refine bodyPost_ret (v := .agg #[.slice (some ⟨g, 0, none⟩) G.length c, .slice (some ⟨f, 0, none⟩) F.length d]) (by simp [results, Try.results51, go_sem, y0, y1]) rfl ⟨g, c, f, d, G, F, rfl, ?_, ?_, D.t.n, hok, ?_, ?_⟩
        · exact (D.t.v.other (by simp [Value.ownBlock]; omega) _ _).other (by simp [Value.ownBlock]; omega) _ _
        · exact (D.t.u.other (by simp [Value.ownBlock]; omega) _ _).other (by simp [Value.ownBlock]; omega) _ _
        · exact (D.k.setNew (by dsimp only; omega) (by dsimp only; omega) _).setNew (by dsimp only; omega) (by dsimp only; omega) _
        · exact (D.u.set (by dsimp only; omega) _).set (by dsimp only; omega) _
end Go.Proofs.Ytcllkmdlheggkaa
