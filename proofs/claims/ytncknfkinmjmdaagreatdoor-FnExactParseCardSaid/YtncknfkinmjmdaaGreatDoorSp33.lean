import Derived.Test.YtncknfkinmjmdaaGreatDoorSp32
namespace Go.Proofs.YtncknfkinmjmdaaGreatDoor
open Go.RowKit
set_option linter.unusedVariables false
set_option linter.unusedSimpArgs false
set_option maxRecDepth 100000
def wN : List ByteArray := [bLet, bDot, bDol, bIf, bLoop, bEach, bEmit, bHear, bSpawn, bKill, bPut, bDrop, bDo, bReturn]
theorem wN_wm {q : Nat} {t : ByteArray} (h : wN[q]? = some t) : t ∈ WMs := by
 have := List.mem_of_getElem? h
 simp only [wN, List.mem_cons, List.not_mem_nil, or_false] at this
 rcases this with rfl | rfl | rfl | rfl | rfl | rfl | rfl | rfl | rfl | rfl | rfl | rfl | rfl | rfl <;> simp [WMs]
def whw (s : ByteArray) : Nat → Int
 | 0 => -1
 | q + 1 => if wN[q]? = some s then (q : Int) else whw s q
theorem OkS.ret {T : List Tk} {E : Int} {X : World} {B k : Nat} {sl : Option Addr} {cp d : Nat} {P : List OR} {r : PRes} {e : Ending} {w : World} (h : OkS T E X B k sl cp d P r e w) : ∃ y, e = .returned (.int .i64 y) := by
 rcases r with ⟨c, a⟩ | ⟨x, j, M⟩
 ·
  exact h.1
 exact ⟨_, h.1⟩
set_option maxHeartbeats 8000000 in
theorem sstmt_bLet (T : List Tk) (E : Int) (k g : Nat) (sl : Option Addr) (cp : Nat) (i d : Nat) (v : Value) (Q : List NK) (P : List OR) (X : World) (B : Nat) (w : World) (SV : Sv T E X B g sl) (hR : Rs X B w (sR T E k sl cp i d v Q P)) (hi : i ≤ T.length) (hd : d ≤ 40) (hq : Q.length ≤ 2 * i) (n1 : ¬ kd T i = 1) (ht0 : tx T i = bLet) (hexpr : ∀ j, i < j → j ≤ T.length → SaysS T E X B k sl cp 40 46 #[.pointer (some ⟨k, 0, none⟩)] .expr j) :
  Calls Tryz.prog 29 #[.pointer (some ⟨k, 0, none⟩)] w (OkS T E X B k sl cp d P (PAR T E (.stmt d) i (Q.map (·.1)))) := by
 have hlT := SV.l
 have hlt : i < T.length := tx_lt ht0 (by decide)
 have ht := hid ht0
 have h0 := hid hR
 obtain ⟨Res, hRes⟩ : ∃ r, Hid (PAR T E (.stmt d) i (Q.map (·.1)) = r) := ⟨_, rfl⟩
 rw [hRes.out]
 have HK : Hid ((fun i N => pName T E i fun s j => pStore T E d 12 s j N) (i + 1) (Q.map (·.1)) = Res) := by
  show _ = _
  have hq2 := hRes.out
  rw [PAR_stmt hi, if_neg n1, ht0, if_pos (by decide)] at hq2
  rw [← hq2]
  first | done | rfl
 obtain ⟨κ, hκ⟩ : ∃ c, Hid (kd T i = c) := ⟨_, rfl⟩
 have m1 : (κ == 1) = false := by have := hκ.out; simp; omega
 have Hexpr := hid hexpr
 clear hR hRes n1 ht0 hexpr; go_enter Tryz.func29, Tryz.ntmps29
 go_wp2_with fail; refine (kind_live T E k g sl cp i d v Q P X B _ SV h0.out hi (by omega)).mono ?_
 rintro e w1 ⟨rfl, r1⟩
 rw [hκ.out]
 have h1 := hid (sR_box r1 (wN.map Value.string) 9)
 clear r1 h0; go_wp2_with fail; go_loopw [4, 5] (fun m iv wr => ∃ (q : Nat) (r : Int), q ≤ 14 ∧ iv = .int .i64 q ∧ m = .int .i64 r ∧ Hid (whw (tx T i) q = r) ∧ Hid (Rs X B wr (sR T E k sl cp i d v Q (rB w1.heap.size 9 (wN.map Value.string) :: P)))) (fun _ iv _ => 14 - (intOf iv).toNat)
 case atStart => exact ⟨0, -1, by omega, rfl, rfl, (show whw (tx T i) 0 = -1 from rfl), h1⟩
 obtain ⟨q, r, h14, rfl, rfl, hq3, hRq⟩ := hrel
 clear h1; by_cases hlt4 : q < 14
 ·
  have hlt' : (q : Int) < 14 := by omega
  obtain ⟨t, ht4⟩ : ∃ t, wN[q]? = some t := ⟨_, List.getElem?_eq_getElem (show q < wN.length by show q < 14; omega)⟩
  have c0 := (sR_get hRq.out).at (q := q) (u := .string t) (by rw [List.getElem?_map, ht4]; rfl)
  have twq : IntKind.i64.wrap ((q : Int) + 1) = (q : Int) + 1 := by rw [IntKind.wrap_i64]; omega
  by_cases he : t = tx T i
  ·
   have hr : Hid (whw (tx T i) (q + 1) = (q : Int)) := by show _ = _; rw [whw, if_pos (by rw [ht4, he])]
   have hkk := hid (SV.m i t (wN_wm ht4) he.symm)
   have hltT : i < T.length := by rcases hkk.out with h | h <;> exact kd_lt h (by decide)
   have He := hid he
   clear he ht4 hq3; go_wp2_with fail; refine (is_yes T E k g sl cp i d v Q _ X B t _ SV hRq.out hi (by omega) hltT He.out.symm hkk.out).mono ?_
   rintro e w2 ⟨rfl, r2⟩
   have h2 := hid r2
   clear r2 hRq c0; go_wp2_with fail; go_roundw
   case rel => exact ⟨q + 1, _, by omega, by go_num, rfl, hr, h2⟩
   case measure => simp [intOf]; omega
  have hr : Hid (whw (tx T i) (q + 1) = r) := by
   show _ = _
   rw [whw, if_neg (by rw [ht4]; intro hh; exact he (Option.some.inj hh)), hq3.out]
  have He := hid he
  clear he ht4 hq3; go_wp2_with fail; refine (is_no T E k g sl cp i d v Q _ X B t _ SV hRq.out hi (by omega) (fun h => He.out h.symm)).mono ?_
  rintro e w2 ⟨rfl, r2⟩
  have h2 := hid r2
  clear r2 hRq c0; go_wp2_with fail; go_roundw
  case rel => exact ⟨q + 1, _, by omega, by go_num, rfl, hr, h2⟩
  case measure => simp [intOf]; omega
 have hq14 : q = 14 := by omega
 subst hq14
 have h2 := hid (sR_less hRq.out)
 have hrn : r = 0 := by rw [← hq3.out, ht.out]; rfl
 subst hrn
 clear hRq hq3; have r2 := h2.out
 obtain ⟨x0, x1, x2, x3, x4, x5, x6, xf⟩ := (r2.box [] (rN v Q :: (rK Q ++ P))).seven
 have tw : IntKind.i64.wrap ((i : Int) + 1) = (i : Int) + 1 := by rw [IntKind.wrap_i64]; omega
 have h3 : Hid (Rs X B (wr.setCell ⟨k, 1, none⟩ (.int .i64 ((i : Int) + 1))) (sR T E k sl cp (i + 1) d v Q P)) := Hid.mk' (r2.setB [] (rN v Q :: (rK Q ++ P)) 1 (.int .i64 ((i : Int) + 1)))
 clear r2 h2; go_wp2_with fail; clear x0 x1 x2 x3 x4 x5 x6 xf tw; refine (sput_of T E k g sl cp (i + 1) d v Q P X B 12 _ SV h3.out (by omega) hd (by omega) (fun j hj => Hexpr.out j (by omega))).mono ?_
 intro e w3 hO
 have hO2 : OkS T E X B k sl cp d P Res e w3 := by rw [← HK.out]; exact hO
 obtain ⟨y, rfl⟩ := hO2.ret
 have HO := hid hO2
 clear hO hO2 h3; go_wp2_with fail; go_ret; exact HO.out
set_option maxHeartbeats 8000000 in
theorem sstmt_bDot (T : List Tk) (E : Int) (k g : Nat) (sl : Option Addr) (cp : Nat) (i d : Nat) (v : Value) (Q : List NK) (P : List OR) (X : World) (B : Nat) (w : World) (SV : Sv T E X B g sl) (hR : Rs X B w (sR T E k sl cp i d v Q P)) (hi : i ≤ T.length) (hd : d ≤ 40) (hq : Q.length ≤ 2 * i) (n1 : ¬ kd T i = 1) (ht0 : tx T i = bDot) (hexpr : ∀ j, i < j → j ≤ T.length → SaysS T E X B k sl cp 40 46 #[.pointer (some ⟨k, 0, none⟩)] .expr j) :
  Calls Tryz.prog 29 #[.pointer (some ⟨k, 0, none⟩)] w (OkS T E X B k sl cp d P (PAR T E (.stmt d) i (Q.map (·.1)))) := by
 have hlT := SV.l
 have hlt : i < T.length := tx_lt ht0 (by decide)
 have ht := hid ht0
 have h0 := hid hR
 obtain ⟨Res, hRes⟩ : ∃ r, Hid (PAR T E (.stmt d) i (Q.map (·.1)) = r) := ⟨_, rfl⟩
 rw [hRes.out]
 have HK : Hid ((fun i N => pName T E i fun s j => pStore T E d 14 s j N) (i + 1) (Q.map (·.1)) = Res) := by
  show _ = _
  have hq2 := hRes.out
  rw [PAR_stmt hi, if_neg n1, ht0, if_neg (by decide), if_pos (by decide)] at hq2
  rw [← hq2]
  first | done | rfl
 obtain ⟨κ, hκ⟩ : ∃ c, Hid (kd T i = c) := ⟨_, rfl⟩
 have m1 : (κ == 1) = false := by have := hκ.out; simp; omega
 have Hexpr := hid hexpr
 clear hR hRes n1 ht0 hexpr; go_enter Tryz.func29, Tryz.ntmps29
 go_wp2_with fail; refine (kind_live T E k g sl cp i d v Q P X B _ SV h0.out hi (by omega)).mono ?_
 rintro e w1 ⟨rfl, r1⟩
 rw [hκ.out]
 have h1 := hid (sR_box r1 (wN.map Value.string) 9)
 clear r1 h0; go_wp2_with fail; go_loopw [4, 5] (fun m iv wr => ∃ (q : Nat) (r : Int), q ≤ 14 ∧ iv = .int .i64 q ∧ m = .int .i64 r ∧ Hid (whw (tx T i) q = r) ∧ Hid (Rs X B wr (sR T E k sl cp i d v Q (rB w1.heap.size 9 (wN.map Value.string) :: P)))) (fun _ iv _ => 14 - (intOf iv).toNat)
 case atStart => exact ⟨0, -1, by omega, rfl, rfl, (show whw (tx T i) 0 = -1 from rfl), h1⟩
 obtain ⟨q, r, h14, rfl, rfl, hq3, hRq⟩ := hrel
 clear h1; by_cases hlt4 : q < 14
 ·
  have hlt' : (q : Int) < 14 := by omega
  obtain ⟨t, ht4⟩ : ∃ t, wN[q]? = some t := ⟨_, List.getElem?_eq_getElem (show q < wN.length by show q < 14; omega)⟩
  have c0 := (sR_get hRq.out).at (q := q) (u := .string t) (by rw [List.getElem?_map, ht4]; rfl)
  have twq : IntKind.i64.wrap ((q : Int) + 1) = (q : Int) + 1 := by rw [IntKind.wrap_i64]; omega
  by_cases he : t = tx T i
  ·
   have hr : Hid (whw (tx T i) (q + 1) = (q : Int)) := by show _ = _; rw [whw, if_pos (by rw [ht4, he])]
   have hkk := hid (SV.m i t (wN_wm ht4) he.symm)
   have hltT : i < T.length := by rcases hkk.out with h | h <;> exact kd_lt h (by decide)
   have He := hid he
   clear he ht4 hq3; go_wp2_with fail; refine (is_yes T E k g sl cp i d v Q _ X B t _ SV hRq.out hi (by omega) hltT He.out.symm hkk.out).mono ?_
   rintro e w2 ⟨rfl, r2⟩
   have h2 := hid r2
   clear r2 hRq c0; go_wp2_with fail; go_roundw
   case rel => exact ⟨q + 1, _, by omega, by go_num, rfl, hr, h2⟩
   case measure => simp [intOf]; omega
  have hr : Hid (whw (tx T i) (q + 1) = r) := by
   show _ = _
   rw [whw, if_neg (by rw [ht4]; intro hh; exact he (Option.some.inj hh)), hq3.out]
  have He := hid he
  clear he ht4 hq3; go_wp2_with fail; refine (is_no T E k g sl cp i d v Q _ X B t _ SV hRq.out hi (by omega) (fun h => He.out h.symm)).mono ?_
  rintro e w2 ⟨rfl, r2⟩
  have h2 := hid r2
  clear r2 hRq c0; go_wp2_with fail; go_roundw
  case rel => exact ⟨q + 1, _, by omega, by go_num, rfl, hr, h2⟩
  case measure => simp [intOf]; omega
 have hq14 : q = 14 := by omega
 subst hq14
 have h2 := hid (sR_less hRq.out)
 have hrn : r = 1 := by rw [← hq3.out, ht.out]; rfl
 subst hrn
 clear hRq hq3; have r2 := h2.out
 obtain ⟨x0, x1, x2, x3, x4, x5, x6, xf⟩ := (r2.box [] (rN v Q :: (rK Q ++ P))).seven
 have tw : IntKind.i64.wrap ((i : Int) + 1) = (i : Int) + 1 := by rw [IntKind.wrap_i64]; omega
 have h3 : Hid (Rs X B (wr.setCell ⟨k, 1, none⟩ (.int .i64 ((i : Int) + 1))) (sR T E k sl cp (i + 1) d v Q P)) := Hid.mk' (r2.setB [] (rN v Q :: (rK Q ++ P)) 1 (.int .i64 ((i : Int) + 1)))
 clear r2 h2; go_wp2_with fail; clear x0 x1 x2 x3 x4 x5 x6 xf tw; refine (sput_of T E k g sl cp (i + 1) d v Q P X B 14 _ SV h3.out (by omega) hd (by omega) (fun j hj => Hexpr.out j (by omega))).mono ?_
 intro e w3 hO
 have hO2 : OkS T E X B k sl cp d P Res e w3 := by rw [← HK.out]; exact hO
 obtain ⟨y, rfl⟩ := hO2.ret
 have HO := hid hO2
 clear hO hO2 h3; go_wp2_with fail; go_ret; exact HO.out
set_option maxHeartbeats 8000000 in
theorem sstmt_bDol (T : List Tk) (E : Int) (k g : Nat) (sl : Option Addr) (cp : Nat) (i d : Nat) (v : Value) (Q : List NK) (P : List OR) (X : World) (B : Nat) (w : World) (SV : Sv T E X B g sl) (hR : Rs X B w (sR T E k sl cp i d v Q P)) (hi : i ≤ T.length) (hd : d ≤ 40) (hq : Q.length ≤ 2 * i) (n1 : ¬ kd T i = 1) (ht0 : tx T i = bDol) (hexpr : ∀ j, i < j → j ≤ T.length → SaysS T E X B k sl cp 40 46 #[.pointer (some ⟨k, 0, none⟩)] .expr j) :
  Calls Tryz.prog 29 #[.pointer (some ⟨k, 0, none⟩)] w (OkS T E X B k sl cp d P (PAR T E (.stmt d) i (Q.map (·.1)))) := by
 have hlT := SV.l
 have hlt : i < T.length := tx_lt ht0 (by decide)
 have ht := hid ht0
 have h0 := hid hR
 obtain ⟨Res, hRes⟩ : ∃ r, Hid (PAR T E (.stmt d) i (Q.map (·.1)) = r) := ⟨_, rfl⟩
 rw [hRes.out]
 have HK : Hid ((fun i N => pName T E i fun s j => pStore T E d 15 s j N) (i + 1) (Q.map (·.1)) = Res) := by
  show _ = _
  have hq2 := hRes.out
  rw [PAR_stmt hi, if_neg n1, ht0, if_neg (by decide), if_neg (by decide), if_pos (by decide)] at hq2
  rw [← hq2]
  first | done | rfl
 obtain ⟨κ, hκ⟩ : ∃ c, Hid (kd T i = c) := ⟨_, rfl⟩
 have m1 : (κ == 1) = false := by have := hκ.out; simp; omega
 have Hexpr := hid hexpr
 clear hR hRes n1 ht0 hexpr; go_enter Tryz.func29, Tryz.ntmps29
 go_wp2_with fail; refine (kind_live T E k g sl cp i d v Q P X B _ SV h0.out hi (by omega)).mono ?_
 rintro e w1 ⟨rfl, r1⟩
 rw [hκ.out]
 have h1 := hid (sR_box r1 (wN.map Value.string) 9)
 clear r1 h0; go_wp2_with fail; go_loopw [4, 5] (fun m iv wr => ∃ (q : Nat) (r : Int), q ≤ 14 ∧ iv = .int .i64 q ∧ m = .int .i64 r ∧ Hid (whw (tx T i) q = r) ∧ Hid (Rs X B wr (sR T E k sl cp i d v Q (rB w1.heap.size 9 (wN.map Value.string) :: P)))) (fun _ iv _ => 14 - (intOf iv).toNat)
 case atStart => exact ⟨0, -1, by omega, rfl, rfl, (show whw (tx T i) 0 = -1 from rfl), h1⟩
 obtain ⟨q, r, h14, rfl, rfl, hq3, hRq⟩ := hrel
 clear h1; by_cases hlt4 : q < 14
 ·
  have hlt' : (q : Int) < 14 := by omega
  obtain ⟨t, ht4⟩ : ∃ t, wN[q]? = some t := ⟨_, List.getElem?_eq_getElem (show q < wN.length by show q < 14; omega)⟩
  have c0 := (sR_get hRq.out).at (q := q) (u := .string t) (by rw [List.getElem?_map, ht4]; rfl)
  have twq : IntKind.i64.wrap ((q : Int) + 1) = (q : Int) + 1 := by rw [IntKind.wrap_i64]; omega
  by_cases he : t = tx T i
  ·
   have hr : Hid (whw (tx T i) (q + 1) = (q : Int)) := by show _ = _; rw [whw, if_pos (by rw [ht4, he])]
   have hkk := hid (SV.m i t (wN_wm ht4) he.symm)
   have hltT : i < T.length := by rcases hkk.out with h | h <;> exact kd_lt h (by decide)
   have He := hid he
   clear he ht4 hq3; go_wp2_with fail; refine (is_yes T E k g sl cp i d v Q _ X B t _ SV hRq.out hi (by omega) hltT He.out.symm hkk.out).mono ?_
   rintro e w2 ⟨rfl, r2⟩
   have h2 := hid r2
   clear r2 hRq c0; go_wp2_with fail; go_roundw
   case rel => exact ⟨q + 1, _, by omega, by go_num, rfl, hr, h2⟩
   case measure => simp [intOf]; omega
  have hr : Hid (whw (tx T i) (q + 1) = r) := by
   show _ = _
   rw [whw, if_neg (by rw [ht4]; intro hh; exact he (Option.some.inj hh)), hq3.out]
  have He := hid he
  clear he ht4 hq3; go_wp2_with fail; refine (is_no T E k g sl cp i d v Q _ X B t _ SV hRq.out hi (by omega) (fun h => He.out h.symm)).mono ?_
  rintro e w2 ⟨rfl, r2⟩
  have h2 := hid r2
  clear r2 hRq c0; go_wp2_with fail; go_roundw
  case rel => exact ⟨q + 1, _, by omega, by go_num, rfl, hr, h2⟩
  case measure => simp [intOf]; omega
 have hq14 : q = 14 := by omega
 subst hq14
 have h2 := hid (sR_less hRq.out)
 have hrn : r = 2 := by rw [← hq3.out, ht.out]; rfl
 subst hrn
 clear hRq hq3; have r2 := h2.out
 obtain ⟨x0, x1, x2, x3, x4, x5, x6, xf⟩ := (r2.box [] (rN v Q :: (rK Q ++ P))).seven
 have tw : IntKind.i64.wrap ((i : Int) + 1) = (i : Int) + 1 := by rw [IntKind.wrap_i64]; omega
 have h3 : Hid (Rs X B (wr.setCell ⟨k, 1, none⟩ (.int .i64 ((i : Int) + 1))) (sR T E k sl cp (i + 1) d v Q P)) := Hid.mk' (r2.setB [] (rN v Q :: (rK Q ++ P)) 1 (.int .i64 ((i : Int) + 1)))
 clear r2 h2; go_wp2_with fail; clear x0 x1 x2 x3 x4 x5 x6 xf tw; refine (sput_of T E k g sl cp (i + 1) d v Q P X B 15 _ SV h3.out (by omega) hd (by omega) (fun j hj => Hexpr.out j (by omega))).mono ?_
 intro e w3 hO
 have hO2 : OkS T E X B k sl cp d P Res e w3 := by rw [← HK.out]; exact hO
 obtain ⟨y, rfl⟩ := hO2.ret
 have HO := hid hO2
 clear hO hO2 h3; go_wp2_with fail; go_ret; exact HO.out
set_option maxHeartbeats 8000000 in
theorem sstmt_bPut (T : List Tk) (E : Int) (k g : Nat) (sl : Option Addr) (cp : Nat) (i d : Nat) (v : Value) (Q : List NK) (P : List OR) (X : World) (B : Nat) (w : World) (SV : Sv T E X B g sl) (hR : Rs X B w (sR T E k sl cp i d v Q P)) (hi : i ≤ T.length) (hd : d ≤ 40) (hq : Q.length ≤ 2 * i) (n1 : ¬ kd T i = 1) (ht0 : tx T i = bPut) (hexpr : ∀ j, i < j → j ≤ T.length → SaysS T E X B k sl cp 40 46 #[.pointer (some ⟨k, 0, none⟩)] .expr j) :
  Calls Tryz.prog 29 #[.pointer (some ⟨k, 0, none⟩)] w (OkS T E X B k sl cp d P (PAR T E (.stmt d) i (Q.map (·.1)))) := by
 have hlT := SV.l
 have hlt : i < T.length := tx_lt ht0 (by decide)
 have ht := hid ht0
 have h0 := hid hR
 obtain ⟨Res, hRes⟩ : ∃ r, Hid (PAR T E (.stmt d) i (Q.map (·.1)) = r) := ⟨_, rfl⟩
 rw [hRes.out]
 have HK : Hid ((fun i N => pName T E i fun s j => pStore T E d 23 s j N) (i + 1) (Q.map (·.1)) = Res) := by
  show _ = _
  have hq2 := hRes.out
  rw [PAR_stmt hi, if_neg n1, ht0, if_neg (by decide), if_neg (by decide), if_neg (by decide), if_pos (by decide)] at hq2
  rw [← hq2]
  first | done | rfl
 obtain ⟨κ, hκ⟩ : ∃ c, Hid (kd T i = c) := ⟨_, rfl⟩
 have m1 : (κ == 1) = false := by have := hκ.out; simp; omega
 have Hexpr := hid hexpr
 clear hR hRes n1 ht0 hexpr; go_enter Tryz.func29, Tryz.ntmps29
 go_wp2_with fail; refine (kind_live T E k g sl cp i d v Q P X B _ SV h0.out hi (by omega)).mono ?_
 rintro e w1 ⟨rfl, r1⟩
 rw [hκ.out]
 have h1 := hid (sR_box r1 (wN.map Value.string) 9)
 clear r1 h0; go_wp2_with fail; go_loopw [4, 5] (fun m iv wr => ∃ (q : Nat) (r : Int), q ≤ 14 ∧ iv = .int .i64 q ∧ m = .int .i64 r ∧ Hid (whw (tx T i) q = r) ∧ Hid (Rs X B wr (sR T E k sl cp i d v Q (rB w1.heap.size 9 (wN.map Value.string) :: P)))) (fun _ iv _ => 14 - (intOf iv).toNat)
 case atStart => exact ⟨0, -1, by omega, rfl, rfl, (show whw (tx T i) 0 = -1 from rfl), h1⟩
 obtain ⟨q, r, h14, rfl, rfl, hq3, hRq⟩ := hrel
 clear h1; by_cases hlt4 : q < 14
 ·
  have hlt' : (q : Int) < 14 := by omega
  obtain ⟨t, ht4⟩ : ∃ t, wN[q]? = some t := ⟨_, List.getElem?_eq_getElem (show q < wN.length by show q < 14; omega)⟩
  have c0 := (sR_get hRq.out).at (q := q) (u := .string t) (by rw [List.getElem?_map, ht4]; rfl)
  have twq : IntKind.i64.wrap ((q : Int) + 1) = (q : Int) + 1 := by rw [IntKind.wrap_i64]; omega
  by_cases he : t = tx T i
  ·
   have hr : Hid (whw (tx T i) (q + 1) = (q : Int)) := by show _ = _; rw [whw, if_pos (by rw [ht4, he])]
   have hkk := hid (SV.m i t (wN_wm ht4) he.symm)
   have hltT : i < T.length := by rcases hkk.out with h | h <;> exact kd_lt h (by decide)
   have He := hid he
   clear he ht4 hq3; go_wp2_with fail; refine (is_yes T E k g sl cp i d v Q _ X B t _ SV hRq.out hi (by omega) hltT He.out.symm hkk.out).mono ?_
   rintro e w2 ⟨rfl, r2⟩
   have h2 := hid r2
   clear r2 hRq c0; go_wp2_with fail; go_roundw
   case rel => exact ⟨q + 1, _, by omega, by go_num, rfl, hr, h2⟩
   case measure => simp [intOf]; omega
  have hr : Hid (whw (tx T i) (q + 1) = r) := by
   show _ = _
   rw [whw, if_neg (by rw [ht4]; intro hh; exact he (Option.some.inj hh)), hq3.out]
  have He := hid he
  clear he ht4 hq3; go_wp2_with fail; refine (is_no T E k g sl cp i d v Q _ X B t _ SV hRq.out hi (by omega) (fun h => He.out h.symm)).mono ?_
  rintro e w2 ⟨rfl, r2⟩
  have h2 := hid r2
  clear r2 hRq c0; go_wp2_with fail; go_roundw
  case rel => exact ⟨q + 1, _, by omega, by go_num, rfl, hr, h2⟩
  case measure => simp [intOf]; omega
 have hq14 : q = 14 := by omega
 subst hq14
 have h2 := hid (sR_less hRq.out)
 have hrn : r = 10 := by rw [← hq3.out, ht.out]; rfl
 subst hrn
 clear hRq hq3; have r2 := h2.out
 obtain ⟨x0, x1, x2, x3, x4, x5, x6, xf⟩ := (r2.box [] (rN v Q :: (rK Q ++ P))).seven
 have tw : IntKind.i64.wrap ((i : Int) + 1) = (i : Int) + 1 := by rw [IntKind.wrap_i64]; omega
 have h3 : Hid (Rs X B (wr.setCell ⟨k, 1, none⟩ (.int .i64 ((i : Int) + 1))) (sR T E k sl cp (i + 1) d v Q P)) := Hid.mk' (r2.setB [] (rN v Q :: (rK Q ++ P)) 1 (.int .i64 ((i : Int) + 1)))
 clear r2 h2; go_wp2_with fail; clear x0 x1 x2 x3 x4 x5 x6 xf tw; refine (sput_of T E k g sl cp (i + 1) d v Q P X B 23 _ SV h3.out (by omega) hd (by omega) (fun j hj => Hexpr.out j (by omega))).mono ?_
 intro e w3 hO
 have hO2 : OkS T E X B k sl cp d P Res e w3 := by rw [← HK.out]; exact hO
 obtain ⟨y, rfl⟩ := hO2.ret
 have HO := hid hO2
 clear hO hO2 h3; go_wp2_with fail; go_ret; exact HO.out
set_option maxHeartbeats 8000000 in
theorem sstmt_bIf (T : List Tk) (E : Int) (k g : Nat) (sl : Option Addr) (cp : Nat) (i d : Nat) (v : Value) (Q : List NK) (P : List OR) (X : World) (B : Nat) (w : World) (SV : Sv T E X B g sl) (hR : Rs X B w (sR T E k sl cp i d v Q P)) (hi : i ≤ T.length) (hd : d ≤ 40) (hq : Q.length ≤ 2 * i) (n1 : ¬ kd T i = 1) (ht0 : tx T i = bIf) (hexpr : ∀ j, i < j → j ≤ T.length → SaysS T E X B k sl cp 40 46 #[.pointer (some ⟨k, 0, none⟩)] .expr j) (hblock : ∀ j, i < j → j ≤ T.length → SaysS T E X B k sl cp 40 13 #[.pointer (some ⟨k, 0, none⟩)] .block j) :
  Calls Tryz.prog 29 #[.pointer (some ⟨k, 0, none⟩)] w (OkS T E X B k sl cp d P (PAR T E (.stmt d) i (Q.map (·.1)))) := by
 have hlT := SV.l
 have hlt : i < T.length := tx_lt ht0 (by decide)
 have ht := hid ht0
 have h0 := hid hR
 obtain ⟨Res, hRes⟩ : ∃ r, Hid (PAR T E (.stmt d) i (Q.map (·.1)) = r) := ⟨_, rfl⟩
 rw [hRes.out]
 have HK : Hid ((fun i N => pIf T E d i N) (i + 1) (Q.map (·.1)) = Res) := by
  show _ = _
  have hq2 := hRes.out
  rw [PAR_stmt hi, if_neg n1, ht0, if_neg (by decide), if_neg (by decide), if_neg (by decide), if_neg (by decide), if_pos (by decide)] at hq2
  rw [← hq2]
  first | done | rfl
 obtain ⟨κ, hκ⟩ : ∃ c, Hid (kd T i = c) := ⟨_, rfl⟩
 have m1 : (κ == 1) = false := by have := hκ.out; simp; omega
 have Hexpr := hid hexpr
 have Hblock := hid hblock
 clear hR hRes n1 ht0 hexpr hblock; go_enter Tryz.func29, Tryz.ntmps29
 go_wp2_with fail; refine (kind_live T E k g sl cp i d v Q P X B _ SV h0.out hi (by omega)).mono ?_
 rintro e w1 ⟨rfl, r1⟩
 rw [hκ.out]
 have h1 := hid (sR_box r1 (wN.map Value.string) 9)
 clear r1 h0; go_wp2_with fail; go_loopw [4, 5] (fun m iv wr => ∃ (q : Nat) (r : Int), q ≤ 14 ∧ iv = .int .i64 q ∧ m = .int .i64 r ∧ Hid (whw (tx T i) q = r) ∧ Hid (Rs X B wr (sR T E k sl cp i d v Q (rB w1.heap.size 9 (wN.map Value.string) :: P)))) (fun _ iv _ => 14 - (intOf iv).toNat)
 case atStart => exact ⟨0, -1, by omega, rfl, rfl, (show whw (tx T i) 0 = -1 from rfl), h1⟩
 obtain ⟨q, r, h14, rfl, rfl, hq3, hRq⟩ := hrel
 clear h1; by_cases hlt4 : q < 14
 ·
  have hlt' : (q : Int) < 14 := by omega
  obtain ⟨t, ht4⟩ : ∃ t, wN[q]? = some t := ⟨_, List.getElem?_eq_getElem (show q < wN.length by show q < 14; omega)⟩
  have c0 := (sR_get hRq.out).at (q := q) (u := .string t) (by rw [List.getElem?_map, ht4]; rfl)
  have twq : IntKind.i64.wrap ((q : Int) + 1) = (q : Int) + 1 := by rw [IntKind.wrap_i64]; omega
  by_cases he : t = tx T i
  ·
   have hr : Hid (whw (tx T i) (q + 1) = (q : Int)) := by show _ = _; rw [whw, if_pos (by rw [ht4, he])]
   have hkk := hid (SV.m i t (wN_wm ht4) he.symm)
   have hltT : i < T.length := by rcases hkk.out with h | h <;> exact kd_lt h (by decide)
   have He := hid he
   clear he ht4 hq3; go_wp2_with fail; refine (is_yes T E k g sl cp i d v Q _ X B t _ SV hRq.out hi (by omega) hltT He.out.symm hkk.out).mono ?_
   rintro e w2 ⟨rfl, r2⟩
   have h2 := hid r2
   clear r2 hRq c0; go_wp2_with fail; go_roundw
   case rel => exact ⟨q + 1, _, by omega, by go_num, rfl, hr, h2⟩
   case measure => simp [intOf]; omega
  have hr : Hid (whw (tx T i) (q + 1) = r) := by
   show _ = _
   rw [whw, if_neg (by rw [ht4]; intro hh; exact he (Option.some.inj hh)), hq3.out]
  have He := hid he
  clear he ht4 hq3; go_wp2_with fail; refine (is_no T E k g sl cp i d v Q _ X B t _ SV hRq.out hi (by omega) (fun h => He.out h.symm)).mono ?_
  rintro e w2 ⟨rfl, r2⟩
  have h2 := hid r2
  clear r2 hRq c0; go_wp2_with fail; go_roundw
  case rel => exact ⟨q + 1, _, by omega, by go_num, rfl, hr, h2⟩
  case measure => simp [intOf]; omega
 have hq14 : q = 14 := by omega
 subst hq14
 have h2 := hid (sR_less hRq.out)
 have hrn : r = 3 := by rw [← hq3.out, ht.out]; rfl
 subst hrn
 clear hRq hq3; have r2 := h2.out
 obtain ⟨x0, x1, x2, x3, x4, x5, x6, xf⟩ := (r2.box [] (rN v Q :: (rK Q ++ P))).seven
 have tw : IntKind.i64.wrap ((i : Int) + 1) = (i : Int) + 1 := by rw [IntKind.wrap_i64]; omega
 have h3 : Hid (Rs X B (wr.setCell ⟨k, 1, none⟩ (.int .i64 ((i : Int) + 1))) (sR T E k sl cp (i + 1) d v Q P)) := Hid.mk' (r2.setB [] (rN v Q :: (rK Q ++ P)) 1 (.int .i64 ((i : Int) + 1)))
 clear r2 h2; go_wp2_with fail; clear x0 x1 x2 x3 x4 x5 x6 xf tw; refine (sif_of T E k g sl cp (i + 1) d v Q P X B _ SV h3.out (by omega) hd (by omega) (fun j hj => Hexpr.out j (by omega)) (fun j hj => Hblock.out j (by omega))).mono ?_
 intro e w3 hO
 have hO2 : OkS T E X B k sl cp d P Res e w3 := by rw [← HK.out]; exact hO
 obtain ⟨y, rfl⟩ := hO2.ret
 have HO := hid hO2
 clear hO hO2 h3; go_wp2_with fail; go_ret; exact HO.out
set_option maxHeartbeats 8000000 in
theorem sstmt_bEach (T : List Tk) (E : Int) (k g : Nat) (sl : Option Addr) (cp : Nat) (i d : Nat) (v : Value) (Q : List NK) (P : List OR) (X : World) (B : Nat) (w : World) (SV : Sv T E X B g sl) (hR : Rs X B w (sR T E k sl cp i d v Q P)) (hi : i ≤ T.length) (hd : d ≤ 40) (hq : Q.length ≤ 2 * i) (n1 : ¬ kd T i = 1) (ht0 : tx T i = bEach) (hblock : ∀ j, i < j → j ≤ T.length → SaysS T E X B k sl cp 40 13 #[.pointer (some ⟨k, 0, none⟩)] .block j) :
  Calls Tryz.prog 29 #[.pointer (some ⟨k, 0, none⟩)] w (OkS T E X B k sl cp d P (PAR T E (.stmt d) i (Q.map (·.1)))) := by
 have hlT := SV.l
 have hlt : i < T.length := tx_lt ht0 (by decide)
 have ht := hid ht0
 have h0 := hid hR
 obtain ⟨Res, hRes⟩ : ∃ r, Hid (PAR T E (.stmt d) i (Q.map (·.1)) = r) := ⟨_, rfl⟩
 rw [hRes.out]
 have HK : Hid ((fun i N => pEach T E d i N) (i + 1) (Q.map (·.1)) = Res) := by
  show _ = _
  have hq2 := hRes.out
  rw [PAR_stmt hi, if_neg n1, ht0, if_neg (by decide), if_neg (by decide), if_neg (by decide), if_neg (by decide), if_neg (by decide), if_neg (by decide), if_pos (by decide)] at hq2
  rw [← hq2]
  first | done | rfl
 obtain ⟨κ, hκ⟩ : ∃ c, Hid (kd T i = c) := ⟨_, rfl⟩
 have m1 : (κ == 1) = false := by have := hκ.out; simp; omega
 have Hblock := hid hblock
 clear hR hRes n1 ht0 hblock; go_enter Tryz.func29, Tryz.ntmps29
 go_wp2_with fail; refine (kind_live T E k g sl cp i d v Q P X B _ SV h0.out hi (by omega)).mono ?_
 rintro e w1 ⟨rfl, r1⟩
 rw [hκ.out]
 have h1 := hid (sR_box r1 (wN.map Value.string) 9)
 clear r1 h0; go_wp2_with fail; go_loopw [4, 5] (fun m iv wr => ∃ (q : Nat) (r : Int), q ≤ 14 ∧ iv = .int .i64 q ∧ m = .int .i64 r ∧ Hid (whw (tx T i) q = r) ∧ Hid (Rs X B wr (sR T E k sl cp i d v Q (rB w1.heap.size 9 (wN.map Value.string) :: P)))) (fun _ iv _ => 14 - (intOf iv).toNat)
 case atStart => exact ⟨0, -1, by omega, rfl, rfl, (show whw (tx T i) 0 = -1 from rfl), h1⟩
 obtain ⟨q, r, h14, rfl, rfl, hq3, hRq⟩ := hrel
 clear h1; by_cases hlt4 : q < 14
 ·
  have hlt' : (q : Int) < 14 := by omega
  obtain ⟨t, ht4⟩ : ∃ t, wN[q]? = some t := ⟨_, List.getElem?_eq_getElem (show q < wN.length by show q < 14; omega)⟩
  have c0 := (sR_get hRq.out).at (q := q) (u := .string t) (by rw [List.getElem?_map, ht4]; rfl)
  have twq : IntKind.i64.wrap ((q : Int) + 1) = (q : Int) + 1 := by rw [IntKind.wrap_i64]; omega
  by_cases he : t = tx T i
  ·
   have hr : Hid (whw (tx T i) (q + 1) = (q : Int)) := by show _ = _; rw [whw, if_pos (by rw [ht4, he])]
   have hkk := hid (SV.m i t (wN_wm ht4) he.symm)
   have hltT : i < T.length := by rcases hkk.out with h | h <;> exact kd_lt h (by decide)
   have He := hid he
   clear he ht4 hq3; go_wp2_with fail; refine (is_yes T E k g sl cp i d v Q _ X B t _ SV hRq.out hi (by omega) hltT He.out.symm hkk.out).mono ?_
   rintro e w2 ⟨rfl, r2⟩
   have h2 := hid r2
   clear r2 hRq c0; go_wp2_with fail; go_roundw
   case rel => exact ⟨q + 1, _, by omega, by go_num, rfl, hr, h2⟩
   case measure => simp [intOf]; omega
  have hr : Hid (whw (tx T i) (q + 1) = r) := by
   show _ = _
   rw [whw, if_neg (by rw [ht4]; intro hh; exact he (Option.some.inj hh)), hq3.out]
  have He := hid he
  clear he ht4 hq3; go_wp2_with fail; refine (is_no T E k g sl cp i d v Q _ X B t _ SV hRq.out hi (by omega) (fun h => He.out h.symm)).mono ?_
  rintro e w2 ⟨rfl, r2⟩
  have h2 := hid r2
  clear r2 hRq c0; go_wp2_with fail; go_roundw
  case rel => exact ⟨q + 1, _, by omega, by go_num, rfl, hr, h2⟩
  case measure => simp [intOf]; omega
 have hq14 : q = 14 := by omega
 subst hq14
 have h2 := hid (sR_less hRq.out)
 have hrn : r = 5 := by rw [← hq3.out, ht.out]; rfl
 subst hrn
 clear hRq hq3; have r2 := h2.out
 obtain ⟨x0, x1, x2, x3, x4, x5, x6, xf⟩ := (r2.box [] (rN v Q :: (rK Q ++ P))).seven
 have tw : IntKind.i64.wrap ((i : Int) + 1) = (i : Int) + 1 := by rw [IntKind.wrap_i64]; omega
 have h3 : Hid (Rs X B (wr.setCell ⟨k, 1, none⟩ (.int .i64 ((i : Int) + 1))) (sR T E k sl cp (i + 1) d v Q P)) := Hid.mk' (r2.setB [] (rN v Q :: (rK Q ++ P)) 1 (.int .i64 ((i : Int) + 1)))
 clear r2 h2; go_wp2_with fail; clear x0 x1 x2 x3 x4 x5 x6 xf tw; refine (seach_of T E k g sl cp (i + 1) d v Q P X B _ SV h3.out (by omega) hd (by omega) (fun j hj => Hblock.out j (by omega))).mono ?_
 intro e w3 hO
 have hO2 : OkS T E X B k sl cp d P Res e w3 := by rw [← HK.out]; exact hO
 obtain ⟨y, rfl⟩ := hO2.ret
 have HO := hid hO2
 clear hO hO2 h3; go_wp2_with fail; go_ret; exact HO.out
set_option maxHeartbeats 8000000 in
theorem sstmt_bSpawn (T : List Tk) (E : Int) (k g : Nat) (sl : Option Addr) (cp : Nat) (i d : Nat) (v : Value) (Q : List NK) (P : List OR) (X : World) (B : Nat) (w : World) (SV : Sv T E X B g sl) (hR : Rs X B w (sR T E k sl cp i d v Q P)) (hi : i ≤ T.length) (hd : d ≤ 40) (hq : Q.length ≤ 2 * i) (n1 : ¬ kd T i = 1) (ht0 : tx T i = bSpawn) (hexpr : ∀ j, i < j → j ≤ T.length → SaysS T E X B k sl cp 40 46 #[.pointer (some ⟨k, 0, none⟩)] .expr j) :
  Calls Tryz.prog 29 #[.pointer (some ⟨k, 0, none⟩)] w (OkS T E X B k sl cp d P (PAR T E (.stmt d) i (Q.map (·.1)))) := by
 have hlT := SV.l
 have hlt : i < T.length := tx_lt ht0 (by decide)
 have ht := hid ht0
 have h0 := hid hR
 obtain ⟨Res, hRes⟩ : ∃ r, Hid (PAR T E (.stmt d) i (Q.map (·.1)) = r) := ⟨_, rfl⟩
 rw [hRes.out]
 have HK : Hid ((fun i N => (PAR T E (.listed 2 d) i N).then (spT T E)) (i + 1) (Q.map (·.1)) = Res) := by
  show _ = _
  have hq2 := hRes.out
  rw [PAR_stmt hi, if_neg n1, ht0, if_neg (by decide), if_neg (by decide), if_neg (by decide), if_neg (by decide), if_neg (by decide), if_neg (by decide), if_neg (by decide), if_neg (by decide), if_neg (by decide), if_pos (by decide)] at hq2
  rw [← hq2]
  first | done | rfl
 obtain ⟨κ, hκ⟩ : ∃ c, Hid (kd T i = c) := ⟨_, rfl⟩
 have m1 : (κ == 1) = false := by have := hκ.out; simp; omega
 have Hexpr := hid hexpr
 clear hR hRes n1 ht0 hexpr; go_enter Tryz.func29, Tryz.ntmps29
 go_wp2_with fail; refine (kind_live T E k g sl cp i d v Q P X B _ SV h0.out hi (by omega)).mono ?_
 rintro e w1 ⟨rfl, r1⟩
 rw [hκ.out]
 have h1 := hid (sR_box r1 (wN.map Value.string) 9)
 clear r1 h0; go_wp2_with fail; go_loopw [4, 5] (fun m iv wr => ∃ (q : Nat) (r : Int), q ≤ 14 ∧ iv = .int .i64 q ∧ m = .int .i64 r ∧ Hid (whw (tx T i) q = r) ∧ Hid (Rs X B wr (sR T E k sl cp i d v Q (rB w1.heap.size 9 (wN.map Value.string) :: P)))) (fun _ iv _ => 14 - (intOf iv).toNat)
 case atStart => exact ⟨0, -1, by omega, rfl, rfl, (show whw (tx T i) 0 = -1 from rfl), h1⟩
 obtain ⟨q, r, h14, rfl, rfl, hq3, hRq⟩ := hrel
 clear h1; by_cases hlt4 : q < 14
 ·
  have hlt' : (q : Int) < 14 := by omega
  obtain ⟨t, ht4⟩ : ∃ t, wN[q]? = some t := ⟨_, List.getElem?_eq_getElem (show q < wN.length by show q < 14; omega)⟩
  have c0 := (sR_get hRq.out).at (q := q) (u := .string t) (by rw [List.getElem?_map, ht4]; rfl)
  have twq : IntKind.i64.wrap ((q : Int) + 1) = (q : Int) + 1 := by rw [IntKind.wrap_i64]; omega
  by_cases he : t = tx T i
  ·
   have hr : Hid (whw (tx T i) (q + 1) = (q : Int)) := by show _ = _; rw [whw, if_pos (by rw [ht4, he])]
   have hkk := hid (SV.m i t (wN_wm ht4) he.symm)
   have hltT : i < T.length := by rcases hkk.out with h | h <;> exact kd_lt h (by decide)
   have He := hid he
   clear he ht4 hq3; go_wp2_with fail; refine (is_yes T E k g sl cp i d v Q _ X B t _ SV hRq.out hi (by omega) hltT He.out.symm hkk.out).mono ?_
   rintro e w2 ⟨rfl, r2⟩
   have h2 := hid r2
   clear r2 hRq c0; go_wp2_with fail; go_roundw
   case rel => exact ⟨q + 1, _, by omega, by go_num, rfl, hr, h2⟩
   case measure => simp [intOf]; omega
  have hr : Hid (whw (tx T i) (q + 1) = r) := by
   show _ = _
   rw [whw, if_neg (by rw [ht4]; intro hh; exact he (Option.some.inj hh)), hq3.out]
  have He := hid he
  clear he ht4 hq3; go_wp2_with fail; refine (is_no T E k g sl cp i d v Q _ X B t _ SV hRq.out hi (by omega) (fun h => He.out h.symm)).mono ?_
  rintro e w2 ⟨rfl, r2⟩
  have h2 := hid r2
  clear r2 hRq c0; go_wp2_with fail; go_roundw
  case rel => exact ⟨q + 1, _, by omega, by go_num, rfl, hr, h2⟩
  case measure => simp [intOf]; omega
 have hq14 : q = 14 := by omega
 subst hq14
 have h2 := hid (sR_less hRq.out)
 have hrn : r = 8 := by rw [← hq3.out, ht.out]; rfl
 subst hrn
 clear hRq hq3; have r2 := h2.out
 obtain ⟨x0, x1, x2, x3, x4, x5, x6, xf⟩ := (r2.box [] (rN v Q :: (rK Q ++ P))).seven
 have tw : IntKind.i64.wrap ((i : Int) + 1) = (i : Int) + 1 := by rw [IntKind.wrap_i64]; omega
 have h3 : Hid (Rs X B (wr.setCell ⟨k, 1, none⟩ (.int .i64 ((i : Int) + 1))) (sR T E k sl cp (i + 1) d v Q P)) := Hid.mk' (r2.setB [] (rN v Q :: (rK Q ++ P)) 1 (.int .i64 ((i : Int) + 1)))
 clear r2 h2; go_wp2_with fail; clear x0 x1 x2 x3 x4 x5 x6 xf tw; refine (sspawn_of T E k g sl cp (i + 1) d v Q P X B _ SV h3.out (by omega) hd (by omega) (fun j hj => Hexpr.out j (by omega))).mono ?_
 intro e w3 hO
 have hO2 : OkS T E X B k sl cp d P Res e w3 := by rw [← HK.out]; exact hO
 obtain ⟨y, rfl⟩ := hO2.ret
 have HO := hid hO2
 clear hO hO2 h3; go_wp2_with fail; go_ret; exact HO.out
set_option maxHeartbeats 8000000 in
theorem sstmt_bLoop (T : List Tk) (E : Int) (k g : Nat) (sl : Option Addr) (cp : Nat) (i d : Nat) (v : Value) (Q : List NK) (P : List OR) (X : World) (B : Nat) (w : World) (SV : Sv T E X B g sl) (hR : Rs X B w (sR T E k sl cp i d v Q P)) (hi : i ≤ T.length) (hd : d ≤ 40) (hq : Q.length ≤ 2 * i) (n1 : ¬ kd T i = 1) (ht0 : tx T i = bLoop) (hexpr : ∀ j, i < j → j ≤ T.length → SaysS T E X B k sl cp 40 46 #[.pointer (some ⟨k, 0, none⟩)] .expr j) (hblock : ∀ j, i < j → j ≤ T.length → SaysS T E X B k sl cp 40 13 #[.pointer (some ⟨k, 0, none⟩)] .block j) :
  Calls Tryz.prog 29 #[.pointer (some ⟨k, 0, none⟩)] w (OkS T E X B k sl cp d P (PAR T E (.stmt d) i (Q.map (·.1)))) := by
 have hlT := SV.l
 have hlt : i < T.length := tx_lt ht0 (by decide)
 have ht := hid ht0
 have h0 := hid hR
 obtain ⟨Res, hRes⟩ : ∃ r, Hid (PAR T E (.stmt d) i (Q.map (·.1)) = r) := ⟨_, rfl⟩
 rw [hRes.out]
 have HK : Hid ((fun i N => (PAR T E (.expr d) i N).then fun x j N => (PAR T E (.block d) j N).then fun y j N => pNode (nd 17 nil 0 [x.headD 0, y.headD 0]) j N) (i + 1) (Q.map (·.1)) = Res) := by
  show _ = _
  have hq2 := hRes.out
  rw [PAR_stmt hi, if_neg n1, ht0, if_neg (by decide), if_neg (by decide), if_neg (by decide), if_neg (by decide), if_neg (by decide), if_pos (by decide)] at hq2
  rw [← hq2]
  first | done | rfl
 obtain ⟨κ, hκ⟩ : ∃ c, Hid (kd T i = c) := ⟨_, rfl⟩
 have m1 : (κ == 1) = false := by have := hκ.out; simp; omega
 have Hexpr := hid hexpr
 have Hblock := hid hblock
 clear hR hRes n1 ht0 hexpr hblock; go_enter Tryz.func29, Tryz.ntmps29
 go_wp2_with fail; refine (kind_live T E k g sl cp i d v Q P X B _ SV h0.out hi (by omega)).mono ?_
 rintro e w1 ⟨rfl, r1⟩
 rw [hκ.out]
 have h1 := hid (sR_box r1 (wN.map Value.string) 9)
 clear r1 h0; go_wp2_with fail; go_loopw [4, 5] (fun m iv wr => ∃ (q : Nat) (r : Int), q ≤ 14 ∧ iv = .int .i64 q ∧ m = .int .i64 r ∧ Hid (whw (tx T i) q = r) ∧ Hid (Rs X B wr (sR T E k sl cp i d v Q (rB w1.heap.size 9 (wN.map Value.string) :: P)))) (fun _ iv _ => 14 - (intOf iv).toNat)
 case atStart => exact ⟨0, -1, by omega, rfl, rfl, (show whw (tx T i) 0 = -1 from rfl), h1⟩
 obtain ⟨q, r, h14, rfl, rfl, hq3, hRq⟩ := hrel
 clear h1; by_cases hlt4 : q < 14
 ·
  have hlt' : (q : Int) < 14 := by omega
  obtain ⟨t, ht4⟩ : ∃ t, wN[q]? = some t := ⟨_, List.getElem?_eq_getElem (show q < wN.length by show q < 14; omega)⟩
  have c0 := (sR_get hRq.out).at (q := q) (u := .string t) (by rw [List.getElem?_map, ht4]; rfl)
  have twq : IntKind.i64.wrap ((q : Int) + 1) = (q : Int) + 1 := by rw [IntKind.wrap_i64]; omega
  by_cases he : t = tx T i
  ·
   have hr : Hid (whw (tx T i) (q + 1) = (q : Int)) := by show _ = _; rw [whw, if_pos (by rw [ht4, he])]
   have hkk := hid (SV.m i t (wN_wm ht4) he.symm)
   have hltT : i < T.length := by rcases hkk.out with h | h <;> exact kd_lt h (by decide)
   have He := hid he
   clear he ht4 hq3; go_wp2_with fail; refine (is_yes T E k g sl cp i d v Q _ X B t _ SV hRq.out hi (by omega) hltT He.out.symm hkk.out).mono ?_
   rintro e w2 ⟨rfl, r2⟩
   have h2 := hid r2
   clear r2 hRq c0; go_wp2_with fail; go_roundw
   case rel => exact ⟨q + 1, _, by omega, by go_num, rfl, hr, h2⟩
   case measure => simp [intOf]; omega
  have hr : Hid (whw (tx T i) (q + 1) = r) := by
   show _ = _
   rw [whw, if_neg (by rw [ht4]; intro hh; exact he (Option.some.inj hh)), hq3.out]
  have He := hid he
  clear he ht4 hq3; go_wp2_with fail; refine (is_no T E k g sl cp i d v Q _ X B t _ SV hRq.out hi (by omega) (fun h => He.out h.symm)).mono ?_
  rintro e w2 ⟨rfl, r2⟩
  have h2 := hid r2
  clear r2 hRq c0; go_wp2_with fail; go_roundw
  case rel => exact ⟨q + 1, _, by omega, by go_num, rfl, hr, h2⟩
  case measure => simp [intOf]; omega
 have hq14 : q = 14 := by omega
 subst hq14
 have h2 := hid (sR_less hRq.out)
 have hrn : r = 4 := by rw [← hq3.out, ht.out]; rfl
 subst hrn
 clear hRq hq3; have r2 := h2.out
 obtain ⟨x0, x1, x2, x3, x4, x5, x6, xf⟩ := (r2.box [] (rN v Q :: (rK Q ++ P))).seven
 have tw : IntKind.i64.wrap ((i : Int) + 1) = (i : Int) + 1 := by rw [IntKind.wrap_i64]; omega
 have h3 : Hid (Rs X B (wr.setCell ⟨k, 1, none⟩ (.int .i64 ((i : Int) + 1))) (sR T E k sl cp (i + 1) d v Q P)) := Hid.mk' (r2.setB [] (rN v Q :: (rK Q ++ P)) 1 (.int .i64 ((i : Int) + 1)))
 clear r2 h2; go_wp2_with fail; clear x0 x1 x2 x3 x4 x5 x6 xf tw; have h4 : Hid (SX T E X B k sl cp (i + 1) 2 d P Res (fun i N => (PAR T E (.expr d) i N).then fun x j N => (PAR T E (.block d) j N).then fun y j N => pNode (nd 17 nil 0 [x.headD 0, y.headD 0]) j N) (wr.setCell ⟨k, 1, none⟩ (.int .i64 ((i : Int) + 1)))) := Or.inl ⟨i + 1, v, Q, Nat.le_refl _, by omega, by omega, HK.out, h3.out⟩
 clear h3 HK; refine (sub_x (pf := .expr) SV (by omega) trivial (fun _ => by simp [Pf.lo]) (fun j hj => Hexpr.out j (by omega)) (fun c a hD => expr_dead T E k g sl cp _ X B c a _ hD) h4.out).mono ?_
 rintro e w11 ⟨x11, y11, q11, rfl, r11⟩
 simp only [q11] at r11
 have h11 := hid r11
 clear r11 h4; clear q11; go_wp2_with fail; refine (sub_x (pf := .block) SV (by omega) trivial (fun _ => by simp [Pf.lo]) (fun j hj => Hblock.out j (by omega)) (fun c a hD => block_dead T E k g sl cp _ X B c a _ hD) h11.out).mono ?_
 rintro e w12 ⟨x12, y12, q12, rfl, r12⟩
 simp only [q12] at r12
 have h12 := hid r12
 clear r12 h11; clear q12; have r13 := h12.out.kids [y11, y12] (by simp)
 have h13 := hid r13
 clear r13 h12; go_wp2_with fail; have r14 := h13.out.turn (fun i N _ => node_then _ _ _)
 have h14 := hid r14
 clear r14 h13; refine (node_x (sp := 0) SV 17 0 (⟨#[]⟩) [y11, y12] _ _ (h14.out.weak (Nat.le_refl _) (by omega))).mono ?_
 rintro e w15 ⟨x15, y15, q15, rfl, r15⟩
 simp only [q15] at r15
 have h15 := hid r15
 clear r15 h14; clear q15; go_wp2_with fail; go_ret; exact h15.out.done
set_option maxHeartbeats 8000000 in
theorem sstmt_bEmit (T : List Tk) (E : Int) (k g : Nat) (sl : Option Addr) (cp : Nat) (i d : Nat) (v : Value) (Q : List NK) (P : List OR) (X : World) (B : Nat) (w : World) (SV : Sv T E X B g sl) (hR : Rs X B w (sR T E k sl cp i d v Q P)) (hi : i ≤ T.length) (hd : d ≤ 40) (hq : Q.length ≤ 2 * i) (n1 : ¬ kd T i = 1) (ht0 : tx T i = bEmit) (hexpr : ∀ j, i < j → j ≤ T.length → SaysS T E X B k sl cp 40 46 #[.pointer (some ⟨k, 0, none⟩)] .expr j) :
  Calls Tryz.prog 29 #[.pointer (some ⟨k, 0, none⟩)] w (OkS T E X B k sl cp d P (PAR T E (.stmt d) i (Q.map (·.1)))) := by
 have hlT := SV.l
 have hlt : i < T.length := tx_lt ht0 (by decide)
 have ht := hid ht0
 have h0 := hid hR
 obtain ⟨Res, hRes⟩ : ∃ r, Hid (PAR T E (.stmt d) i (Q.map (·.1)) = r) := ⟨_, rfl⟩
 rw [hRes.out]
 have HK : Hid ((fun i N => pName T E i fun s j => (PAR T E (.expr d) j N).then fun x j N => pWant T E bSemi j fun j => pNode (nd 19 s 0 [x.headD 0]) j N) (i + 1) (Q.map (·.1)) = Res) := by
  show _ = _
  have hq2 := hRes.out
  rw [PAR_stmt hi, if_neg n1, ht0, if_neg (by decide), if_neg (by decide), if_neg (by decide), if_neg (by decide), if_neg (by decide), if_neg (by decide), if_neg (by decide), if_pos (by decide)] at hq2
  rw [← hq2]
  first | done | rfl
 obtain ⟨κ, hκ⟩ : ∃ c, Hid (kd T i = c) := ⟨_, rfl⟩
 have m1 : (κ == 1) = false := by have := hκ.out; simp; omega
 have Hexpr := hid hexpr
 clear hR hRes n1 ht0 hexpr; go_enter Tryz.func29, Tryz.ntmps29
 go_wp2_with fail; refine (kind_live T E k g sl cp i d v Q P X B _ SV h0.out hi (by omega)).mono ?_
 rintro e w1 ⟨rfl, r1⟩
 rw [hκ.out]
 have h1 := hid (sR_box r1 (wN.map Value.string) 9)
 clear r1 h0; go_wp2_with fail; go_loopw [4, 5] (fun m iv wr => ∃ (q : Nat) (r : Int), q ≤ 14 ∧ iv = .int .i64 q ∧ m = .int .i64 r ∧ Hid (whw (tx T i) q = r) ∧ Hid (Rs X B wr (sR T E k sl cp i d v Q (rB w1.heap.size 9 (wN.map Value.string) :: P)))) (fun _ iv _ => 14 - (intOf iv).toNat)
 case atStart => exact ⟨0, -1, by omega, rfl, rfl, (show whw (tx T i) 0 = -1 from rfl), h1⟩
 obtain ⟨q, r, h14, rfl, rfl, hq3, hRq⟩ := hrel
 clear h1; by_cases hlt4 : q < 14
 ·
  have hlt' : (q : Int) < 14 := by omega
  obtain ⟨t, ht4⟩ : ∃ t, wN[q]? = some t := ⟨_, List.getElem?_eq_getElem (show q < wN.length by show q < 14; omega)⟩
  have c0 := (sR_get hRq.out).at (q := q) (u := .string t) (by rw [List.getElem?_map, ht4]; rfl)
  have twq : IntKind.i64.wrap ((q : Int) + 1) = (q : Int) + 1 := by rw [IntKind.wrap_i64]; omega
  by_cases he : t = tx T i
  ·
   have hr : Hid (whw (tx T i) (q + 1) = (q : Int)) := by show _ = _; rw [whw, if_pos (by rw [ht4, he])]
   have hkk := hid (SV.m i t (wN_wm ht4) he.symm)
   have hltT : i < T.length := by rcases hkk.out with h | h <;> exact kd_lt h (by decide)
   have He := hid he
   clear he ht4 hq3; go_wp2_with fail; refine (is_yes T E k g sl cp i d v Q _ X B t _ SV hRq.out hi (by omega) hltT He.out.symm hkk.out).mono ?_
   rintro e w2 ⟨rfl, r2⟩
   have h2 := hid r2
   clear r2 hRq c0; go_wp2_with fail; go_roundw
   case rel => exact ⟨q + 1, _, by omega, by go_num, rfl, hr, h2⟩
   case measure => simp [intOf]; omega
  have hr : Hid (whw (tx T i) (q + 1) = r) := by
   show _ = _
   rw [whw, if_neg (by rw [ht4]; intro hh; exact he (Option.some.inj hh)), hq3.out]
  have He := hid he
  clear he ht4 hq3; go_wp2_with fail; refine (is_no T E k g sl cp i d v Q _ X B t _ SV hRq.out hi (by omega) (fun h => He.out h.symm)).mono ?_
  rintro e w2 ⟨rfl, r2⟩
  have h2 := hid r2
  clear r2 hRq c0; go_wp2_with fail; go_roundw
  case rel => exact ⟨q + 1, _, by omega, by go_num, rfl, hr, h2⟩
  case measure => simp [intOf]; omega
 have hq14 : q = 14 := by omega
 subst hq14
 have h2 := hid (sR_less hRq.out)
 have hrn : r = 6 := by rw [← hq3.out, ht.out]; rfl
 subst hrn
 clear hRq hq3; have r2 := h2.out
 obtain ⟨x0, x1, x2, x3, x4, x5, x6, xf⟩ := (r2.box [] (rN v Q :: (rK Q ++ P))).seven
 have tw : IntKind.i64.wrap ((i : Int) + 1) = (i : Int) + 1 := by rw [IntKind.wrap_i64]; omega
 have h3 : Hid (Rs X B (wr.setCell ⟨k, 1, none⟩ (.int .i64 ((i : Int) + 1))) (sR T E k sl cp (i + 1) d v Q P)) := Hid.mk' (r2.setB [] (rN v Q :: (rK Q ++ P)) 1 (.int .i64 ((i : Int) + 1)))
 clear r2 h2; go_wp2_with fail; clear x0 x1 x2 x3 x4 x5 x6 xf tw; have h4 : Hid (SX T E X B k sl cp (i + 1) 2 d P Res (fun i N => pName T E i fun s j => (PAR T E (.expr d) j N).then fun x j N => pWant T E bSemi j fun j => pNode (nd 19 s 0 [x.headD 0]) j N) (wr.setCell ⟨k, 1, none⟩ (.int .i64 ((i : Int) + 1)))) := Or.inl ⟨i + 1, v, Q, Nat.le_refl _, by omega, by omega, HK.out, h3.out⟩
 clear h3 HK; refine (name_x SV (by omega) h4.out).mono ?_
 rintro e w11 ⟨s11, rfl, r11⟩
 have h11 := hid r11
 clear r11 h4; go_wp2_with fail; refine (sub_x (pf := .expr) SV (by omega) trivial (fun _ => by simp [Pf.lo]) (fun j hj => Hexpr.out j (by omega)) (fun c a hD => expr_dead T E k g sl cp _ X B c a _ hD) h11.out).mono ?_
 rintro e w12 ⟨x12, y12, q12, rfl, r12⟩
 simp only [q12] at r12
 have h12 := hid r12
 clear r12 h11; clear q12; go_wp2_with fail; refine (want_x SV bSemi (by simp [WMs]) (by omega) h12.out).mono ?_
 rintro e w13 ⟨⟨b13, rfl⟩, r13⟩
 have h13 := hid r13
 clear r13 h12; have r14 := h13.out.kids [y12] (by simp)
 have h14 := hid r14
 clear r14 h13; go_wp2_with fail; have r15 := h14.out.turn (fun i N _ => node_then _ _ _)
 have h15 := hid r15
 clear r15 h14; refine (node_x (sp := 0) SV 19 0 (s11) [y12] _ _ (h15.out.weak (Nat.le_refl _) (by omega))).mono ?_
 rintro e w16 ⟨x16, y16, q16, rfl, r16⟩
 simp only [q16] at r16
 have h16 := hid r16
 clear r16 h15; clear q16; go_wp2_with fail; go_ret; exact h16.out.done
set_option maxHeartbeats 8000000 in
theorem sstmt_bHear (T : List Tk) (E : Int) (k g : Nat) (sl : Option Addr) (cp : Nat) (i d : Nat) (v : Value) (Q : List NK) (P : List OR) (X : World) (B : Nat) (w : World) (SV : Sv T E X B g sl) (hR : Rs X B w (sR T E k sl cp i d v Q P)) (hi : i ≤ T.length) (hd : d ≤ 40) (hq : Q.length ≤ 2 * i) (n1 : ¬ kd T i = 1) (ht0 : tx T i = bHear) (hblock : ∀ j, i < j → j ≤ T.length → SaysS T E X B k sl cp 40 13 #[.pointer (some ⟨k, 0, none⟩)] .block j) :
  Calls Tryz.prog 29 #[.pointer (some ⟨k, 0, none⟩)] w (OkS T E X B k sl cp d P (PAR T E (.stmt d) i (Q.map (·.1)))) := by
 have hlT := SV.l
 have hlt : i < T.length := tx_lt ht0 (by decide)
 have ht := hid ht0
 have h0 := hid hR
 obtain ⟨Res, hRes⟩ : ∃ r, Hid (PAR T E (.stmt d) i (Q.map (·.1)) = r) := ⟨_, rfl⟩
 rw [hRes.out]
 have HK : Hid ((fun i N => pHear T E d i N) (i + 1) (Q.map (·.1)) = Res) := by
  show _ = _
  have hq2 := hRes.out
  rw [PAR_stmt hi, if_neg n1, ht0, if_neg (by decide), if_neg (by decide), if_neg (by decide), if_neg (by decide), if_neg (by decide), if_neg (by decide), if_neg (by decide), if_neg (by decide), if_pos (by decide)] at hq2
  rw [← hq2]
  first | done | rfl
 obtain ⟨κ, hκ⟩ : ∃ c, Hid (kd T i = c) := ⟨_, rfl⟩
 have m1 : (κ == 1) = false := by have := hκ.out; simp; omega
 have Hblock := hid hblock
 clear hR hRes n1 ht0 hblock; go_enter Tryz.func29, Tryz.ntmps29
 go_wp2_with fail; refine (kind_live T E k g sl cp i d v Q P X B _ SV h0.out hi (by omega)).mono ?_
 rintro e w1 ⟨rfl, r1⟩
 rw [hκ.out]
 have h1 := hid (sR_box r1 (wN.map Value.string) 9)
 clear r1 h0; go_wp2_with fail; go_loopw [4, 5] (fun m iv wr => ∃ (q : Nat) (r : Int), q ≤ 14 ∧ iv = .int .i64 q ∧ m = .int .i64 r ∧ Hid (whw (tx T i) q = r) ∧ Hid (Rs X B wr (sR T E k sl cp i d v Q (rB w1.heap.size 9 (wN.map Value.string) :: P)))) (fun _ iv _ => 14 - (intOf iv).toNat)
 case atStart => exact ⟨0, -1, by omega, rfl, rfl, (show whw (tx T i) 0 = -1 from rfl), h1⟩
 obtain ⟨q, r, h14, rfl, rfl, hq3, hRq⟩ := hrel
 clear h1; by_cases hlt4 : q < 14
 ·
  have hlt' : (q : Int) < 14 := by omega
  obtain ⟨t, ht4⟩ : ∃ t, wN[q]? = some t := ⟨_, List.getElem?_eq_getElem (show q < wN.length by show q < 14; omega)⟩
  have c0 := (sR_get hRq.out).at (q := q) (u := .string t) (by rw [List.getElem?_map, ht4]; rfl)
  have twq : IntKind.i64.wrap ((q : Int) + 1) = (q : Int) + 1 := by rw [IntKind.wrap_i64]; omega
  by_cases he : t = tx T i
  ·
   have hr : Hid (whw (tx T i) (q + 1) = (q : Int)) := by show _ = _; rw [whw, if_pos (by rw [ht4, he])]
   have hkk := hid (SV.m i t (wN_wm ht4) he.symm)
   have hltT : i < T.length := by rcases hkk.out with h | h <;> exact kd_lt h (by decide)
   have He := hid he
   clear he ht4 hq3; go_wp2_with fail; refine (is_yes T E k g sl cp i d v Q _ X B t _ SV hRq.out hi (by omega) hltT He.out.symm hkk.out).mono ?_
   rintro e w2 ⟨rfl, r2⟩
   have h2 := hid r2
   clear r2 hRq c0; go_wp2_with fail; go_roundw
   case rel => exact ⟨q + 1, _, by omega, by go_num, rfl, hr, h2⟩
   case measure => simp [intOf]; omega
  have hr : Hid (whw (tx T i) (q + 1) = r) := by
   show _ = _
   rw [whw, if_neg (by rw [ht4]; intro hh; exact he (Option.some.inj hh)), hq3.out]
  have He := hid he
  clear he ht4 hq3; go_wp2_with fail; refine (is_no T E k g sl cp i d v Q _ X B t _ SV hRq.out hi (by omega) (fun h => He.out h.symm)).mono ?_
  rintro e w2 ⟨rfl, r2⟩
  have h2 := hid r2
  clear r2 hRq c0; go_wp2_with fail; go_roundw
  case rel => exact ⟨q + 1, _, by omega, by go_num, rfl, hr, h2⟩
  case measure => simp [intOf]; omega
 have hq14 : q = 14 := by omega
 subst hq14
 have h2 := hid (sR_less hRq.out)
 have hrn : r = 7 := by rw [← hq3.out, ht.out]; rfl
 subst hrn
 clear hRq hq3; have r2 := h2.out
 obtain ⟨x0, x1, x2, x3, x4, x5, x6, xf⟩ := (r2.box [] (rN v Q :: (rK Q ++ P))).seven
 have tw : IntKind.i64.wrap ((i : Int) + 1) = (i : Int) + 1 := by rw [IntKind.wrap_i64]; omega
 have h3 : Hid (Rs X B (wr.setCell ⟨k, 1, none⟩ (.int .i64 ((i : Int) + 1))) (sR T E k sl cp (i + 1) d v Q P)) := Hid.mk' (r2.setB [] (rN v Q :: (rK Q ++ P)) 1 (.int .i64 ((i : Int) + 1)))
 clear r2 h2; go_wp2_with fail; clear x0 x1 x2 x3 x4 x5 x6 xf tw; have h4 : Hid (SX T E X B k sl cp (i + 1) 2 d P Res (fun i N => pHear T E d i N) (wr.setCell ⟨k, 1, none⟩ (.int .i64 ((i : Int) + 1)))) := Or.inl ⟨i + 1, v, Q, Nat.le_refl _, by omega, by omega, HK.out, h3.out⟩
 clear h3 HK; have r11 := h4.out.turn (fun i N _ => hear_is)
 have h11 := hid r11
 clear r11 h4; refine (name_x SV (by omega) h11.out).mono ?_
 rintro e w12 ⟨s12, rfl, r12⟩
 have h12 := hid r12
 clear r12 h11; go_wp2_with fail; refine (want_x SV bAs (by simp [WMs]) (by omega) h12.out).mono ?_
 rintro e w13 ⟨⟨b13, rfl⟩, r13⟩
 have h13 := hid r13
 clear r13 h12; go_wp2_with fail; refine (name_x SV (by omega) h13.out).mono ?_
 rintro e w14 ⟨s14, rfl, r14⟩
 have h14 := hid r14
 clear r14 h13; go_wp2_with fail; refine (node0_x (sp := 5) SV 31 0 (s14) (h14.out.weak (Nat.le_refl _) (by omega))).mono ?_
 rintro e w15 ⟨x15, y15, q15, rfl, r15⟩
 simp only [q15] at r15
 have h15 := hid r15
 clear r15 h14; clear q15; go_wp2_with fail; refine (sub_x (pf := .block) SV (by omega) trivial (fun _ => by simp [Pf.lo]) (fun j hj => Hblock.out j (by omega)) (fun c a hD => block_dead T E k g sl cp _ X B c a _ hD) h15.out).mono ?_
 rintro e w16 ⟨x16, y16, q16, rfl, r16⟩
 simp only [q16] at r16
 have h16 := hid r16
 clear r16 h15; clear q16; have r17 := h16.out.kids [y15, y16] (by simp)
 have h17 := hid r17
 clear r17 h16; go_wp2_with fail; have r18 := h17.out.turn (fun i N _ => node_then _ _ _)
 have h18 := hid r18
 clear r18 h17; refine (node_x (sp := 0) SV 20 0 (s12) [y15, y16] _ _ (h18.out.weak (Nat.le_refl _) (by omega))).mono ?_
 rintro e w19 ⟨x19, y19, q19, rfl, r19⟩
 simp only [q19] at r19
 have h19 := hid r19
 clear r19 h18; clear q19; go_wp2_with fail; go_ret; exact h19.out.done
set_option maxHeartbeats 8000000 in
theorem sstmt_bKill (T : List Tk) (E : Int) (k g : Nat) (sl : Option Addr) (cp : Nat) (i d : Nat) (v : Value) (Q : List NK) (P : List OR) (X : World) (B : Nat) (w : World) (SV : Sv T E X B g sl) (hR : Rs X B w (sR T E k sl cp i d v Q P)) (hi : i ≤ T.length) (hd : d ≤ 40) (hq : Q.length ≤ 2 * i) (n1 : ¬ kd T i = 1) (ht0 : tx T i = bKill) :
  Calls Tryz.prog 29 #[.pointer (some ⟨k, 0, none⟩)] w (OkS T E X B k sl cp d P (PAR T E (.stmt d) i (Q.map (·.1)))) := by
 have hlT := SV.l
 have hlt : i < T.length := tx_lt ht0 (by decide)
 have ht := hid ht0
 have h0 := hid hR
 obtain ⟨Res, hRes⟩ : ∃ r, Hid (PAR T E (.stmt d) i (Q.map (·.1)) = r) := ⟨_, rfl⟩
 rw [hRes.out]
 have HK : Hid ((fun i N => pWant T E bSemi i fun j => pNode (nd 22 nil 0 []) j N) (i + 1) (Q.map (·.1)) = Res) := by
  show _ = _
  have hq2 := hRes.out
  rw [PAR_stmt hi, if_neg n1, ht0, if_neg (by decide), if_neg (by decide), if_neg (by decide), if_neg (by decide), if_neg (by decide), if_neg (by decide), if_neg (by decide), if_neg (by decide), if_neg (by decide), if_neg (by decide), if_pos (by decide)] at hq2
  rw [← hq2]
  first | done | rfl
 obtain ⟨κ, hκ⟩ : ∃ c, Hid (kd T i = c) := ⟨_, rfl⟩
 have m1 : (κ == 1) = false := by have := hκ.out; simp; omega
 clear hR hRes n1 ht0; go_enter Tryz.func29, Tryz.ntmps29
 go_wp2_with fail; refine (kind_live T E k g sl cp i d v Q P X B _ SV h0.out hi (by omega)).mono ?_
 rintro e w1 ⟨rfl, r1⟩
 rw [hκ.out]
 have h1 := hid (sR_box r1 (wN.map Value.string) 9)
 clear r1 h0; go_wp2_with fail; go_loopw [4, 5] (fun m iv wr => ∃ (q : Nat) (r : Int), q ≤ 14 ∧ iv = .int .i64 q ∧ m = .int .i64 r ∧ Hid (whw (tx T i) q = r) ∧ Hid (Rs X B wr (sR T E k sl cp i d v Q (rB w1.heap.size 9 (wN.map Value.string) :: P)))) (fun _ iv _ => 14 - (intOf iv).toNat)
 case atStart => exact ⟨0, -1, by omega, rfl, rfl, (show whw (tx T i) 0 = -1 from rfl), h1⟩
 obtain ⟨q, r, h14, rfl, rfl, hq3, hRq⟩ := hrel
 clear h1; by_cases hlt4 : q < 14
 ·
  have hlt' : (q : Int) < 14 := by omega
  obtain ⟨t, ht4⟩ : ∃ t, wN[q]? = some t := ⟨_, List.getElem?_eq_getElem (show q < wN.length by show q < 14; omega)⟩
  have c0 := (sR_get hRq.out).at (q := q) (u := .string t) (by rw [List.getElem?_map, ht4]; rfl)
  have twq : IntKind.i64.wrap ((q : Int) + 1) = (q : Int) + 1 := by rw [IntKind.wrap_i64]; omega
  by_cases he : t = tx T i
  ·
   have hr : Hid (whw (tx T i) (q + 1) = (q : Int)) := by show _ = _; rw [whw, if_pos (by rw [ht4, he])]
   have hkk := hid (SV.m i t (wN_wm ht4) he.symm)
   have hltT : i < T.length := by rcases hkk.out with h | h <;> exact kd_lt h (by decide)
   have He := hid he
   clear he ht4 hq3; go_wp2_with fail; refine (is_yes T E k g sl cp i d v Q _ X B t _ SV hRq.out hi (by omega) hltT He.out.symm hkk.out).mono ?_
   rintro e w2 ⟨rfl, r2⟩
   have h2 := hid r2
   clear r2 hRq c0; go_wp2_with fail; go_roundw
   case rel => exact ⟨q + 1, _, by omega, by go_num, rfl, hr, h2⟩
   case measure => simp [intOf]; omega
  have hr : Hid (whw (tx T i) (q + 1) = r) := by
   show _ = _
   rw [whw, if_neg (by rw [ht4]; intro hh; exact he (Option.some.inj hh)), hq3.out]
  have He := hid he
  clear he ht4 hq3; go_wp2_with fail; refine (is_no T E k g sl cp i d v Q _ X B t _ SV hRq.out hi (by omega) (fun h => He.out h.symm)).mono ?_
  rintro e w2 ⟨rfl, r2⟩
  have h2 := hid r2
  clear r2 hRq c0; go_wp2_with fail; go_roundw
  case rel => exact ⟨q + 1, _, by omega, by go_num, rfl, hr, h2⟩
  case measure => simp [intOf]; omega
 have hq14 : q = 14 := by omega
 subst hq14
 have h2 := hid (sR_less hRq.out)
 have hrn : r = 9 := by rw [← hq3.out, ht.out]; rfl
 subst hrn
 clear hRq hq3; have r2 := h2.out
 obtain ⟨x0, x1, x2, x3, x4, x5, x6, xf⟩ := (r2.box [] (rN v Q :: (rK Q ++ P))).seven
 have tw : IntKind.i64.wrap ((i : Int) + 1) = (i : Int) + 1 := by rw [IntKind.wrap_i64]; omega
 have h3 : Hid (Rs X B (wr.setCell ⟨k, 1, none⟩ (.int .i64 ((i : Int) + 1))) (sR T E k sl cp (i + 1) d v Q P)) := Hid.mk' (r2.setB [] (rN v Q :: (rK Q ++ P)) 1 (.int .i64 ((i : Int) + 1)))
 clear r2 h2; go_wp2_with fail; clear x0 x1 x2 x3 x4 x5 x6 xf tw; have h4 : Hid (SX T E X B k sl cp (i + 1) 2 d P Res (fun i N => pWant T E bSemi i fun j => pNode (nd 22 nil 0 []) j N) (wr.setCell ⟨k, 1, none⟩ (.int .i64 ((i : Int) + 1)))) := Or.inl ⟨i + 1, v, Q, Nat.le_refl _, by omega, by omega, HK.out, h3.out⟩
 clear h3 HK; refine (want_x SV bSemi (by simp [WMs]) (by omega) h4.out).mono ?_
 rintro e w11 ⟨⟨b11, rfl⟩, r11⟩
 have h11 := hid r11
 clear r11 h4; go_wp2_with fail; have r12 := h11.out.turn (fun i N _ => node_then _ _ _)
 have h12 := hid r12
 clear r12 h11; refine (node0_x (sp := 0) SV 22 0 (⟨#[]⟩) (h12.out.weak (Nat.le_refl _) (by omega))).mono ?_
 rintro e w13 ⟨x13, y13, q13, rfl, r13⟩
 simp only [q13] at r13
 have h13 := hid r13
 clear r13 h12; clear q13; go_wp2_with fail; go_ret; exact h13.out.done
set_option maxHeartbeats 8000000 in
theorem sstmt_bDrop (T : List Tk) (E : Int) (k g : Nat) (sl : Option Addr) (cp : Nat) (i d : Nat) (v : Value) (Q : List NK) (P : List OR) (X : World) (B : Nat) (w : World) (SV : Sv T E X B g sl) (hR : Rs X B w (sR T E k sl cp i d v Q P)) (hi : i ≤ T.length) (hd : d ≤ 40) (hq : Q.length ≤ 2 * i) (n1 : ¬ kd T i = 1) (ht0 : tx T i = bDrop) :
  Calls Tryz.prog 29 #[.pointer (some ⟨k, 0, none⟩)] w (OkS T E X B k sl cp d P (PAR T E (.stmt d) i (Q.map (·.1)))) := by
 have hlT := SV.l
 have hlt : i < T.length := tx_lt ht0 (by decide)
 have ht := hid ht0
 have h0 := hid hR
 obtain ⟨Res, hRes⟩ : ∃ r, Hid (PAR T E (.stmt d) i (Q.map (·.1)) = r) := ⟨_, rfl⟩
 rw [hRes.out]
 have HK : Hid ((fun i N => pName T E i fun s j => pWant T E bSemi j fun j => pNode (nd 24 s 0 []) j N) (i + 1) (Q.map (·.1)) = Res) := by
  show _ = _
  have hq2 := hRes.out
  rw [PAR_stmt hi, if_neg n1, ht0, if_neg (by decide), if_neg (by decide), if_neg (by decide), if_neg (by decide), if_neg (by decide), if_neg (by decide), if_neg (by decide), if_neg (by decide), if_neg (by decide), if_neg (by decide), if_neg (by decide), if_pos (by decide)] at hq2
  rw [← hq2]
  first | done | rfl
 obtain ⟨κ, hκ⟩ : ∃ c, Hid (kd T i = c) := ⟨_, rfl⟩
 have m1 : (κ == 1) = false := by have := hκ.out; simp; omega
 clear hR hRes n1 ht0; go_enter Tryz.func29, Tryz.ntmps29
 go_wp2_with fail; refine (kind_live T E k g sl cp i d v Q P X B _ SV h0.out hi (by omega)).mono ?_
 rintro e w1 ⟨rfl, r1⟩
 rw [hκ.out]
 have h1 := hid (sR_box r1 (wN.map Value.string) 9)
 clear r1 h0; go_wp2_with fail; go_loopw [4, 5] (fun m iv wr => ∃ (q : Nat) (r : Int), q ≤ 14 ∧ iv = .int .i64 q ∧ m = .int .i64 r ∧ Hid (whw (tx T i) q = r) ∧ Hid (Rs X B wr (sR T E k sl cp i d v Q (rB w1.heap.size 9 (wN.map Value.string) :: P)))) (fun _ iv _ => 14 - (intOf iv).toNat)
 case atStart => exact ⟨0, -1, by omega, rfl, rfl, (show whw (tx T i) 0 = -1 from rfl), h1⟩
 obtain ⟨q, r, h14, rfl, rfl, hq3, hRq⟩ := hrel
 clear h1; by_cases hlt4 : q < 14
 ·
  have hlt' : (q : Int) < 14 := by omega
  obtain ⟨t, ht4⟩ : ∃ t, wN[q]? = some t := ⟨_, List.getElem?_eq_getElem (show q < wN.length by show q < 14; omega)⟩
  have c0 := (sR_get hRq.out).at (q := q) (u := .string t) (by rw [List.getElem?_map, ht4]; rfl)
  have twq : IntKind.i64.wrap ((q : Int) + 1) = (q : Int) + 1 := by rw [IntKind.wrap_i64]; omega
  by_cases he : t = tx T i
  ·
   have hr : Hid (whw (tx T i) (q + 1) = (q : Int)) := by show _ = _; rw [whw, if_pos (by rw [ht4, he])]
   have hkk := hid (SV.m i t (wN_wm ht4) he.symm)
   have hltT : i < T.length := by rcases hkk.out with h | h <;> exact kd_lt h (by decide)
   have He := hid he
   clear he ht4 hq3; go_wp2_with fail; refine (is_yes T E k g sl cp i d v Q _ X B t _ SV hRq.out hi (by omega) hltT He.out.symm hkk.out).mono ?_
   rintro e w2 ⟨rfl, r2⟩
   have h2 := hid r2
   clear r2 hRq c0; go_wp2_with fail; go_roundw
   case rel => exact ⟨q + 1, _, by omega, by go_num, rfl, hr, h2⟩
   case measure => simp [intOf]; omega
  have hr : Hid (whw (tx T i) (q + 1) = r) := by
   show _ = _
   rw [whw, if_neg (by rw [ht4]; intro hh; exact he (Option.some.inj hh)), hq3.out]
  have He := hid he
  clear he ht4 hq3; go_wp2_with fail; refine (is_no T E k g sl cp i d v Q _ X B t _ SV hRq.out hi (by omega) (fun h => He.out h.symm)).mono ?_
  rintro e w2 ⟨rfl, r2⟩
  have h2 := hid r2
  clear r2 hRq c0; go_wp2_with fail; go_roundw
  case rel => exact ⟨q + 1, _, by omega, by go_num, rfl, hr, h2⟩
  case measure => simp [intOf]; omega
 have hq14 : q = 14 := by omega
 subst hq14
 have h2 := hid (sR_less hRq.out)
 have hrn : r = 11 := by rw [← hq3.out, ht.out]; rfl
 subst hrn
 clear hRq hq3; have r2 := h2.out
 obtain ⟨x0, x1, x2, x3, x4, x5, x6, xf⟩ := (r2.box [] (rN v Q :: (rK Q ++ P))).seven
 have tw : IntKind.i64.wrap ((i : Int) + 1) = (i : Int) + 1 := by rw [IntKind.wrap_i64]; omega
 have h3 : Hid (Rs X B (wr.setCell ⟨k, 1, none⟩ (.int .i64 ((i : Int) + 1))) (sR T E k sl cp (i + 1) d v Q P)) := Hid.mk' (r2.setB [] (rN v Q :: (rK Q ++ P)) 1 (.int .i64 ((i : Int) + 1)))
 clear r2 h2; go_wp2_with fail; clear x0 x1 x2 x3 x4 x5 x6 xf tw; have h4 : Hid (SX T E X B k sl cp (i + 1) 2 d P Res (fun i N => pName T E i fun s j => pWant T E bSemi j fun j => pNode (nd 24 s 0 []) j N) (wr.setCell ⟨k, 1, none⟩ (.int .i64 ((i : Int) + 1)))) := Or.inl ⟨i + 1, v, Q, Nat.le_refl _, by omega, by omega, HK.out, h3.out⟩
 clear h3 HK; refine (name_x SV (by omega) h4.out).mono ?_
 rintro e w11 ⟨s11, rfl, r11⟩
 have h11 := hid r11
 clear r11 h4; go_wp2_with fail; refine (want_x SV bSemi (by simp [WMs]) (by omega) h11.out).mono ?_
 rintro e w12 ⟨⟨b12, rfl⟩, r12⟩
 have h12 := hid r12
 clear r12 h11; go_wp2_with fail; have r13 := h12.out.turn (fun i N _ => node_then _ _ _)
 have h13 := hid r13
 clear r13 h12; refine (node0_x (sp := 0) SV 24 0 (s11) (h13.out.weak (Nat.le_refl _) (by omega))).mono ?_
 rintro e w14 ⟨x14, y14, q14, rfl, r14⟩
 simp only [q14] at r14
 have h14 := hid r14
 clear r14 h13; clear q14; go_wp2_with fail; go_ret; exact h14.out.done
theorem do_then {T : List Tk} {E : Int} {d i : Nat} {N : List Nd} {s : ByteArray} (hi : i ≤ T.length) : (((PAR T E (.listed 0 d) i N).then fun x j N => pNode (nd 7 s 0 x) j N).then fun y j N => pWant T E bSemi j fun j => pNode (nd 25 nil 0 [y.headD 0]) j N) = pWant T E bLp i fun j => (argsR T E 0 d j N).then fun x j N => (pNode (nd 7 s 0 x) j N).then fun y j N => pWant T E bSemi j fun j => pNode (nd 25 nil 0 [y.headD 0]) j N := by
 rw [then_then, listed_then _ hi]
 simp only [args_then]
set_option maxHeartbeats 8000000 in
theorem sstmt_bDo (T : List Tk) (E : Int) (k g : Nat) (sl : Option Addr) (cp : Nat) (i d : Nat) (v : Value) (Q : List NK) (P : List OR) (X : World) (B : Nat) (w : World) (SV : Sv T E X B g sl) (hR : Rs X B w (sR T E k sl cp i d v Q P)) (hi : i ≤ T.length) (hd : d ≤ 40) (hq : Q.length ≤ 2 * i) (n1 : ¬ kd T i = 1) (ht0 : tx T i = bDo) (hexpr : ∀ j, i < j → j ≤ T.length → SaysS T E X B k sl cp 40 46 #[.pointer (some ⟨k, 0, none⟩)] .expr j) :
  Calls Tryz.prog 29 #[.pointer (some ⟨k, 0, none⟩)] w (OkS T E X B k sl cp d P (PAR T E (.stmt d) i (Q.map (·.1)))) := by
 have hlT := SV.l
 have hlt : i < T.length := tx_lt ht0 (by decide)
 have ht := hid ht0
 have h0 := hid hR
 obtain ⟨Res, hRes⟩ : ∃ r, Hid (PAR T E (.stmt d) i (Q.map (·.1)) = r) := ⟨_, rfl⟩
 rw [hRes.out]
 have HK : Hid ((fun i N => pName T E i fun s j => ((PAR T E (.listed 0 d) j N).then fun x j N => pNode (nd 7 s 0 x) j N).then fun y j N => pWant T E bSemi j fun j => pNode (nd 25 nil 0 [y.headD 0]) j N) (i + 1) (Q.map (·.1)) = Res) := by
  show _ = _
  have hq2 := hRes.out
  rw [PAR_stmt hi, if_neg n1, ht0, if_neg (by decide), if_neg (by decide), if_neg (by decide), if_neg (by decide), if_neg (by decide), if_neg (by decide), if_neg (by decide), if_neg (by decide), if_neg (by decide), if_neg (by decide), if_neg (by decide), if_neg (by decide), if_pos (by decide)] at hq2
  rw [← hq2]
  first | done | rfl
 obtain ⟨κ, hκ⟩ : ∃ c, Hid (kd T i = c) := ⟨_, rfl⟩
 have m1 : (κ == 1) = false := by have := hκ.out; simp; omega
 have Hexpr := hid hexpr
 clear hR hRes n1 ht0 hexpr; go_enter Tryz.func29, Tryz.ntmps29
 go_wp2_with fail; refine (kind_live T E k g sl cp i d v Q P X B _ SV h0.out hi (by omega)).mono ?_
 rintro e w1 ⟨rfl, r1⟩
 rw [hκ.out]
 have h1 := hid (sR_box r1 (wN.map Value.string) 9)
 clear r1 h0; go_wp2_with fail; go_loopw [4, 5] (fun m iv wr => ∃ (q : Nat) (r : Int), q ≤ 14 ∧ iv = .int .i64 q ∧ m = .int .i64 r ∧ Hid (whw (tx T i) q = r) ∧ Hid (Rs X B wr (sR T E k sl cp i d v Q (rB w1.heap.size 9 (wN.map Value.string) :: P)))) (fun _ iv _ => 14 - (intOf iv).toNat)
 case atStart => exact ⟨0, -1, by omega, rfl, rfl, (show whw (tx T i) 0 = -1 from rfl), h1⟩
 obtain ⟨q, r, h14, rfl, rfl, hq3, hRq⟩ := hrel
 clear h1; by_cases hlt4 : q < 14
 ·
  have hlt' : (q : Int) < 14 := by omega
  obtain ⟨t, ht4⟩ : ∃ t, wN[q]? = some t := ⟨_, List.getElem?_eq_getElem (show q < wN.length by show q < 14; omega)⟩
  have c0 := (sR_get hRq.out).at (q := q) (u := .string t) (by rw [List.getElem?_map, ht4]; rfl)
  have twq : IntKind.i64.wrap ((q : Int) + 1) = (q : Int) + 1 := by rw [IntKind.wrap_i64]; omega
  by_cases he : t = tx T i
  ·
   have hr : Hid (whw (tx T i) (q + 1) = (q : Int)) := by show _ = _; rw [whw, if_pos (by rw [ht4, he])]
   have hkk := hid (SV.m i t (wN_wm ht4) he.symm)
   have hltT : i < T.length := by rcases hkk.out with h | h <;> exact kd_lt h (by decide)
   have He := hid he
   clear he ht4 hq3; go_wp2_with fail; refine (is_yes T E k g sl cp i d v Q _ X B t _ SV hRq.out hi (by omega) hltT He.out.symm hkk.out).mono ?_
   rintro e w2 ⟨rfl, r2⟩
   have h2 := hid r2
   clear r2 hRq c0; go_wp2_with fail; go_roundw
   case rel => exact ⟨q + 1, _, by omega, by go_num, rfl, hr, h2⟩
   case measure => simp [intOf]; omega
  have hr : Hid (whw (tx T i) (q + 1) = r) := by
   show _ = _
   rw [whw, if_neg (by rw [ht4]; intro hh; exact he (Option.some.inj hh)), hq3.out]
  have He := hid he
  clear he ht4 hq3; go_wp2_with fail; refine (is_no T E k g sl cp i d v Q _ X B t _ SV hRq.out hi (by omega) (fun h => He.out h.symm)).mono ?_
  rintro e w2 ⟨rfl, r2⟩
  have h2 := hid r2
  clear r2 hRq c0; go_wp2_with fail; go_roundw
  case rel => exact ⟨q + 1, _, by omega, by go_num, rfl, hr, h2⟩
  case measure => simp [intOf]; omega
 have hq14 : q = 14 := by omega
 subst hq14
 have h2 := hid (sR_less hRq.out)
 have hrn : r = 12 := by rw [← hq3.out, ht.out]; rfl
 subst hrn
 clear hRq hq3; have r2 := h2.out
 obtain ⟨x0, x1, x2, x3, x4, x5, x6, xf⟩ := (r2.box [] (rN v Q :: (rK Q ++ P))).seven
 have tw : IntKind.i64.wrap ((i : Int) + 1) = (i : Int) + 1 := by rw [IntKind.wrap_i64]; omega
 have h3 : Hid (Rs X B (wr.setCell ⟨k, 1, none⟩ (.int .i64 ((i : Int) + 1))) (sR T E k sl cp (i + 1) d v Q P)) := Hid.mk' (r2.setB [] (rN v Q :: (rK Q ++ P)) 1 (.int .i64 ((i : Int) + 1)))
 clear r2 h2; go_wp2_with fail; clear x0 x1 x2 x3 x4 x5 x6 xf tw; have h4 : Hid (SX T E X B k sl cp (i + 1) 2 d P Res (fun i N => pName T E i fun s j => ((PAR T E (.listed 0 d) j N).then fun x j N => pNode (nd 7 s 0 x) j N).then fun y j N => pWant T E bSemi j fun j => pNode (nd 25 nil 0 [y.headD 0]) j N) (wr.setCell ⟨k, 1, none⟩ (.int .i64 ((i : Int) + 1)))) := Or.inl ⟨i + 1, v, Q, Nat.le_refl _, by omega, by omega, HK.out, h3.out⟩
 clear h3 HK; refine (name_x SV (by omega) h4.out).mono ?_
 rintro e w11 ⟨s11, rfl, r11⟩
 have h11 := hid r11
 clear r11 h4; go_wp2_with fail; have r12 := h11.out.turn (fun i N hi => do_then hi)
 have h12 := hid r12
 clear r12 h11; refine (want_x SV bLp (by simp [WMs]) (by omega) h12.out).mono ?_
 rintro e w13 ⟨⟨b13, rfl⟩, r13⟩
 have h13 := hid r13
 clear r13 h12; go_wp2_with fail; refine (args_x SV (by omega) (fun j hj => Hexpr.out j (by omega)) h13.out).mono ?_
 rintro e w14 ⟨s14, c14, L14, rfl, hl14, r14⟩
 have h14 := hid r14
 clear r14 h13; go_wp2_with fail; refine (node_x (sp := 0) SV 7 0 (s11) L14 _ _ (h14.out.weak (Nat.le_refl _) (by omega))).mono ?_
 rintro e w15 ⟨x15, y15, q15, rfl, r15⟩
 simp only [q15] at r15
 have h15 := hid r15
 clear r15 h14; clear q15; go_wp2_with fail; refine (want_x SV bSemi (by simp [WMs]) (by omega) h15.out).mono ?_
 rintro e w16 ⟨⟨b16, rfl⟩, r16⟩
 have h16 := hid r16
 clear r16 h15; have r17 := h16.out.kids [y15] (by simp)
 have h17 := hid r17
 clear r17 h16; go_wp2_with fail; have r18 := h17.out.turn (fun i N _ => node_then _ _ _)
 have h18 := hid r18
 clear r18 h17; refine (node_x (sp := 0) SV 25 0 (⟨#[]⟩) [y15] _ _ (h18.out.weak (Nat.le_refl _) (by omega))).mono ?_
 rintro e w19 ⟨x19, y19, q19, rfl, r19⟩
 simp only [q19] at r19
 have h19 := hid r19
 clear r19 h18; clear q19; go_wp2_with fail; go_ret; exact h19.out.done
set_option maxHeartbeats 8000000 in
theorem sstmt_bReturn (T : List Tk) (E : Int) (k g : Nat) (sl : Option Addr) (cp : Nat) (i d : Nat) (v : Value) (Q : List NK) (P : List OR) (X : World) (B : Nat) (w : World) (SV : Sv T E X B g sl) (hR : Rs X B w (sR T E k sl cp i d v Q P)) (hi : i ≤ T.length) (hd : d ≤ 40) (hq : Q.length ≤ 2 * i) (n1 : ¬ kd T i = 1) (ht0 : tx T i = bReturn) (hexpr : ∀ j, i < j → j ≤ T.length → SaysS T E X B k sl cp 40 46 #[.pointer (some ⟨k, 0, none⟩)] .expr j) :
  Calls Tryz.prog 29 #[.pointer (some ⟨k, 0, none⟩)] w (OkS T E X B k sl cp d P (PAR T E (.stmt d) i (Q.map (·.1)))) := by
 have hlT := SV.l
 have hlt : i < T.length := tx_lt ht0 (by decide)
 have ht := hid ht0
 have h0 := hid hR
 obtain ⟨Res, hRes⟩ : ∃ r, Hid (PAR T E (.stmt d) i (Q.map (·.1)) = r) := ⟨_, rfl⟩
 rw [hRes.out]
 have HK : Hid ((fun i N => (PAR T E (.expr d) i N).then fun x j N => pWant T E bSemi j fun j => pNode (nd 26 nil 0 [x.headD 0]) j N) (i + 1) (Q.map (·.1)) = Res) := by
  show _ = _
  have hq2 := hRes.out
  rw [PAR_stmt hi, if_neg n1, ht0, if_neg (by decide), if_neg (by decide), if_neg (by decide), if_neg (by decide), if_neg (by decide), if_neg (by decide), if_neg (by decide), if_neg (by decide), if_neg (by decide), if_neg (by decide), if_neg (by decide), if_neg (by decide), if_neg (by decide), if_pos (by decide)] at hq2
  rw [← hq2]
  first | done | rfl
 obtain ⟨κ, hκ⟩ : ∃ c, Hid (kd T i = c) := ⟨_, rfl⟩
 have m1 : (κ == 1) = false := by have := hκ.out; simp; omega
 have Hexpr := hid hexpr
 clear hR hRes n1 ht0 hexpr; go_enter Tryz.func29, Tryz.ntmps29
 go_wp2_with fail; refine (kind_live T E k g sl cp i d v Q P X B _ SV h0.out hi (by omega)).mono ?_
 rintro e w1 ⟨rfl, r1⟩
 rw [hκ.out]
 have h1 := hid (sR_box r1 (wN.map Value.string) 9)
 clear r1 h0; go_wp2_with fail; go_loopw [4, 5] (fun m iv wr => ∃ (q : Nat) (r : Int), q ≤ 14 ∧ iv = .int .i64 q ∧ m = .int .i64 r ∧ Hid (whw (tx T i) q = r) ∧ Hid (Rs X B wr (sR T E k sl cp i d v Q (rB w1.heap.size 9 (wN.map Value.string) :: P)))) (fun _ iv _ => 14 - (intOf iv).toNat)
 case atStart => exact ⟨0, -1, by omega, rfl, rfl, (show whw (tx T i) 0 = -1 from rfl), h1⟩
 obtain ⟨q, r, h14, rfl, rfl, hq3, hRq⟩ := hrel
 clear h1; by_cases hlt4 : q < 14
 ·
  have hlt' : (q : Int) < 14 := by omega
  obtain ⟨t, ht4⟩ : ∃ t, wN[q]? = some t := ⟨_, List.getElem?_eq_getElem (show q < wN.length by show q < 14; omega)⟩
  have c0 := (sR_get hRq.out).at (q := q) (u := .string t) (by rw [List.getElem?_map, ht4]; rfl)
  have twq : IntKind.i64.wrap ((q : Int) + 1) = (q : Int) + 1 := by rw [IntKind.wrap_i64]; omega
  by_cases he : t = tx T i
  ·
   have hr : Hid (whw (tx T i) (q + 1) = (q : Int)) := by show _ = _; rw [whw, if_pos (by rw [ht4, he])]
   have hkk := hid (SV.m i t (wN_wm ht4) he.symm)
   have hltT : i < T.length := by rcases hkk.out with h | h <;> exact kd_lt h (by decide)
   have He := hid he
   clear he ht4 hq3; go_wp2_with fail; refine (is_yes T E k g sl cp i d v Q _ X B t _ SV hRq.out hi (by omega) hltT He.out.symm hkk.out).mono ?_
   rintro e w2 ⟨rfl, r2⟩
   have h2 := hid r2
   clear r2 hRq c0; go_wp2_with fail; go_roundw
   case rel => exact ⟨q + 1, _, by omega, by go_num, rfl, hr, h2⟩
   case measure => simp [intOf]; omega
  have hr : Hid (whw (tx T i) (q + 1) = r) := by
   show _ = _
   rw [whw, if_neg (by rw [ht4]; intro hh; exact he (Option.some.inj hh)), hq3.out]
  have He := hid he
  clear he ht4 hq3; go_wp2_with fail; refine (is_no T E k g sl cp i d v Q _ X B t _ SV hRq.out hi (by omega) (fun h => He.out h.symm)).mono ?_
  rintro e w2 ⟨rfl, r2⟩
  have h2 := hid r2
  clear r2 hRq c0; go_wp2_with fail; go_roundw
  case rel => exact ⟨q + 1, _, by omega, by go_num, rfl, hr, h2⟩
  case measure => simp [intOf]; omega
 have hq14 : q = 14 := by omega
 subst hq14
 have h2 := hid (sR_less hRq.out)
 have hrn : r = 13 := by rw [← hq3.out, ht.out]; rfl
 subst hrn
 clear hRq hq3; have r2 := h2.out
 obtain ⟨x0, x1, x2, x3, x4, x5, x6, xf⟩ := (r2.box [] (rN v Q :: (rK Q ++ P))).seven
 have tw : IntKind.i64.wrap ((i : Int) + 1) = (i : Int) + 1 := by rw [IntKind.wrap_i64]; omega
 have h3 : Hid (Rs X B (wr.setCell ⟨k, 1, none⟩ (.int .i64 ((i : Int) + 1))) (sR T E k sl cp (i + 1) d v Q P)) := Hid.mk' (r2.setB [] (rN v Q :: (rK Q ++ P)) 1 (.int .i64 ((i : Int) + 1)))
 clear r2 h2; go_wp2_with fail; clear x0 x1 x2 x3 x4 x5 x6 xf tw; have h4 : Hid (SX T E X B k sl cp (i + 1) 2 d P Res (fun i N => (PAR T E (.expr d) i N).then fun x j N => pWant T E bSemi j fun j => pNode (nd 26 nil 0 [x.headD 0]) j N) (wr.setCell ⟨k, 1, none⟩ (.int .i64 ((i : Int) + 1)))) := Or.inl ⟨i + 1, v, Q, Nat.le_refl _, by omega, by omega, HK.out, h3.out⟩
 clear h3 HK; refine (sub_x (pf := .expr) SV (by omega) trivial (fun _ => by simp [Pf.lo]) (fun j hj => Hexpr.out j (by omega)) (fun c a hD => expr_dead T E k g sl cp _ X B c a _ hD) h4.out).mono ?_
 rintro e w11 ⟨x11, y11, q11, rfl, r11⟩
 simp only [q11] at r11
 have h11 := hid r11
 clear r11 h4; clear q11; go_wp2_with fail; refine (want_x SV bSemi (by simp [WMs]) (by omega) h11.out).mono ?_
 rintro e w12 ⟨⟨b12, rfl⟩, r12⟩
 have h12 := hid r12
 clear r12 h11; have r13 := h12.out.kids [y11] (by simp)
 have h13 := hid r13
 clear r13 h12; go_wp2_with fail; have r14 := h13.out.turn (fun i N _ => node_then _ _ _)
 have h14 := hid r14
 clear r14 h13; refine (node_x (sp := 0) SV 26 0 (⟨#[]⟩) [y11] _ _ (h14.out.weak (Nat.le_refl _) (by omega))).mono ?_
 rintro e w15 ⟨x15, y15, q15, rfl, r15⟩
 simp only [q15] at r15
 have h15 := hid r15
 clear r15 h14; clear q15; go_wp2_with fail; go_ret; exact h15.out.done
set_option maxHeartbeats 8000000 in
theorem sstmt_none (T : List Tk) (E : Int) (k g : Nat) (sl : Option Addr) (cp : Nat) (i d : Nat) (v : Value) (Q : List NK) (P : List OR) (X : World) (B : Nat) (w : World) (SV : Sv T E X B g sl) (hR : Rs X B w (sR T E k sl cp i d v Q P)) (hi : i ≤ T.length) (hd : d ≤ 40) (hq : Q.length ≤ 2 * i) (n1 : ¬ kd T i = 1) (nbLet : ¬ tx T i = bLet)  (nbDot : ¬ tx T i = bDot)  (nbDol : ¬ tx T i = bDol)  (nbIf : ¬ tx T i = bIf)  (nbLoop : ¬ tx T i = bLoop)  (nbEach : ¬ tx T i = bEach)  (nbEmit : ¬ tx T i = bEmit)  (nbHear : ¬ tx T i = bHear)  (nbSpawn : ¬ tx T i = bSpawn)  (nbKill : ¬ tx T i = bKill)  (nbPut : ¬ tx T i = bPut)  (nbDrop : ¬ tx T i = bDrop)  (nbDo : ¬ tx T i = bDo)  (nbReturn : ¬ tx T i = bReturn) :
  Calls Tryz.prog 29 #[.pointer (some ⟨k, 0, none⟩)] w (OkS T E X B k sl cp d P (PAR T E (.stmt d) i (Q.map (·.1)))) := by
 have hlT := SV.l
 have h0 := hid hR
 rw [PAR_stmt hi, if_neg n1, if_neg nbLet, if_neg nbDot, if_neg nbDol, if_neg nbPut, if_neg nbIf, if_neg nbLoop, if_neg nbEach, if_neg nbEmit, if_neg nbHear, if_neg nbSpawn, if_neg nbKill, if_neg nbDrop, if_neg nbDo, if_neg nbReturn]
 have HW : Hid (whw (tx T i) 14 = -1) := by
  show _ = _
  have gbLet : ¬ bLet = tx T i := fun h => nbLet h.symm
  have gbDot : ¬ bDot = tx T i := fun h => nbDot h.symm
  have gbDol : ¬ bDol = tx T i := fun h => nbDol h.symm
  have gbIf : ¬ bIf = tx T i := fun h => nbIf h.symm
  have gbLoop : ¬ bLoop = tx T i := fun h => nbLoop h.symm
  have gbEach : ¬ bEach = tx T i := fun h => nbEach h.symm
  have gbEmit : ¬ bEmit = tx T i := fun h => nbEmit h.symm
  have gbHear : ¬ bHear = tx T i := fun h => nbHear h.symm
  have gbSpawn : ¬ bSpawn = tx T i := fun h => nbSpawn h.symm
  have gbKill : ¬ bKill = tx T i := fun h => nbKill h.symm
  have gbPut : ¬ bPut = tx T i := fun h => nbPut h.symm
  have gbDrop : ¬ bDrop = tx T i := fun h => nbDrop h.symm
  have gbDo : ¬ bDo = tx T i := fun h => nbDo h.symm
  have gbReturn : ¬ bReturn = tx T i := fun h => nbReturn h.symm
  simp [whw, wN, gbLet, gbDot, gbDol, gbIf, gbLoop, gbEach, gbEmit, gbHear, gbSpawn, gbKill, gbPut, gbDrop, gbDo, gbReturn]
 obtain ⟨κ, hκ⟩ : ∃ c, Hid (kd T i = c) := ⟨_, rfl⟩
 have m1 : (κ == 1) = false := by have := hκ.out; simp; omega
 clear hR n1 nbLet nbDot nbDol nbIf nbLoop nbEach nbEmit nbHear nbSpawn nbKill nbPut nbDrop nbDo nbReturn; go_enter Tryz.func29, Tryz.ntmps29
 go_wp2_with fail; refine (kind_live T E k g sl cp i d v Q P X B _ SV h0.out hi (by omega)).mono ?_
 rintro e w1 ⟨rfl, r1⟩
 rw [hκ.out]
 have h1 := hid (sR_box r1 (wN.map Value.string) 9)
 clear r1 h0; go_wp2_with fail; go_loopw [4, 5] (fun m iv wr => ∃ (q : Nat) (r : Int), q ≤ 14 ∧ iv = .int .i64 q ∧ m = .int .i64 r ∧ Hid (whw (tx T i) q = r) ∧ Hid (Rs X B wr (sR T E k sl cp i d v Q (rB w1.heap.size 9 (wN.map Value.string) :: P)))) (fun _ iv _ => 14 - (intOf iv).toNat)
 case atStart => exact ⟨0, -1, by omega, rfl, rfl, (show whw (tx T i) 0 = -1 from rfl), h1⟩
 obtain ⟨q, r, h14, rfl, rfl, hq3, hRq⟩ := hrel
 clear h1; by_cases hlt4 : q < 14
 ·
  have hlt' : (q : Int) < 14 := by omega
  obtain ⟨t, ht4⟩ : ∃ t, wN[q]? = some t := ⟨_, List.getElem?_eq_getElem (show q < wN.length by show q < 14; omega)⟩
  have c0 := (sR_get hRq.out).at (q := q) (u := .string t) (by rw [List.getElem?_map, ht4]; rfl)
  have twq : IntKind.i64.wrap ((q : Int) + 1) = (q : Int) + 1 := by rw [IntKind.wrap_i64]; omega
  by_cases he : t = tx T i
  ·
   have hr : Hid (whw (tx T i) (q + 1) = (q : Int)) := by show _ = _; rw [whw, if_pos (by rw [ht4, he])]
   have hkk := hid (SV.m i t (wN_wm ht4) he.symm)
   have hltT : i < T.length := by rcases hkk.out with h | h <;> exact kd_lt h (by decide)
   have He := hid he
   clear he ht4 hq3; go_wp2_with fail; refine (is_yes T E k g sl cp i d v Q _ X B t _ SV hRq.out hi (by omega) hltT He.out.symm hkk.out).mono ?_
   rintro e w2 ⟨rfl, r2⟩
   have h2 := hid r2
   clear r2 hRq c0; go_wp2_with fail; go_roundw
   case rel => exact ⟨q + 1, _, by omega, by go_num, rfl, hr, h2⟩
   case measure => simp [intOf]; omega
  have hr : Hid (whw (tx T i) (q + 1) = r) := by
   show _ = _
   rw [whw, if_neg (by rw [ht4]; intro hh; exact he (Option.some.inj hh)), hq3.out]
  have He := hid he
  clear he ht4 hq3; go_wp2_with fail; refine (is_no T E k g sl cp i d v Q _ X B t _ SV hRq.out hi (by omega) (fun h => He.out h.symm)).mono ?_
  rintro e w2 ⟨rfl, r2⟩
  have h2 := hid r2
  clear r2 hRq c0; go_wp2_with fail; go_roundw
  case rel => exact ⟨q + 1, _, by omega, by go_num, rfl, hr, h2⟩
  case measure => simp [intOf]; omega
 have hq14 : q = 14 := by omega
 subst hq14
 have h2 := hid (sR_less hRq.out)
 have hrn : r = -1 := by rw [← hq3.out, HW.out]
 subst hrn
 clear hRq hq3; go_wp2_with fail; refine (fail_live T E k g sl cp i d v Q P X B 2 _ SV h2.out hi (by omega) (by decide)).mono ?_
 rintro e wz ⟨rfl, rz⟩
 have hz := hid rz
 clear rz h2; go_wp2_with fail; go_ret; exact ⟨⟨_, rfl⟩, hz.out⟩
set_option maxHeartbeats 8000000 in
theorem sstmt_name (T : List Tk) (E : Int) (k g : Nat) (sl : Option Addr) (cp : Nat) (i d : Nat) (v : Value) (Q : List NK) (P : List OR) (X : World) (B : Nat) (w : World) (SV : Sv T E X B g sl) (hR : Rs X B w (sR T E k sl cp i d v Q P)) (hi : i ≤ T.length) (hd : d ≤ 40) (hq : Q.length ≤ 2 * i) (hk : kd T i = 1) (hexpr : ∀ j, i < j → j ≤ T.length → SaysS T E X B k sl cp 40 46 #[.pointer (some ⟨k, 0, none⟩)] .expr j) :
  Calls Tryz.prog 29 #[.pointer (some ⟨k, 0, none⟩)] w (OkS T E X B k sl cp d P (PAR T E (.stmt d) i (Q.map (·.1)))) := by
 have hlT := SV.l
 have h0 := hid hR
 have Hexpr := hid hexpr
 rw [PAR_stmt hi, if_pos hk]
 have Hk := hid hk
 clear hR hexpr hk; go_enter Tryz.func29, Tryz.ntmps29
 go_wp2_with fail; refine (kind_live T E k g sl cp i d v Q P X B _ SV h0.out hi (by omega)).mono ?_
 rintro e w1 ⟨rfl, r1⟩
 rw [Hk.out]
 have h1 := hid r1
 clear r1 h0; go_wp2_with fail; refine (sput_of T E k g sl cp i d v Q P X B 13 _ SV h1.out (by omega) hd (by omega) (fun j hj => Hexpr.out j (by omega))).mono ?_
 intro e w3 hO
 obtain ⟨y, rfl⟩ := hO.ret
 have HO := hid hO
 clear hO h1; go_wp2_with fail; go_ret; exact HO.out
theorem sstmt_of (T : List Tk) (E : Int) (X : World) (B k g : Nat) (sl : Option Addr) (cp i : Nat) (SV : Sv T E X B g sl) (hi : i ≤ T.length) (hexpr : ∀ j, i < j → j ≤ T.length → SaysS T E X B k sl cp 40 46 #[.pointer (some ⟨k, 0, none⟩)] .expr j) (hblock : ∀ j, i < j → j ≤ T.length → SaysS T E X B k sl cp 40 13 #[.pointer (some ⟨k, 0, none⟩)] .block j) : SaysS T E X B k sl cp 40 29 #[.pointer (some ⟨k, 0, none⟩)] .stmt i := by
 intro d v Q P w hR hq hd
 by_cases h1 : kd T i = 1
 ·
  exact sstmt_name T E k g sl cp i d v Q P X B w SV hR hi hd hq h1 hexpr
 by_cases ebLet : tx T i = bLet
 ·
  exact sstmt_bLet T E k g sl cp i d v Q P X B w SV hR hi hd hq h1 ebLet hexpr
 by_cases ebDot : tx T i = bDot
 ·
  exact sstmt_bDot T E k g sl cp i d v Q P X B w SV hR hi hd hq h1 ebDot hexpr
 by_cases ebDol : tx T i = bDol
 ·
  exact sstmt_bDol T E k g sl cp i d v Q P X B w SV hR hi hd hq h1 ebDol hexpr
 by_cases ebIf : tx T i = bIf
 ·
  exact sstmt_bIf T E k g sl cp i d v Q P X B w SV hR hi hd hq h1 ebIf hexpr hblock
 by_cases ebLoop : tx T i = bLoop
 ·
  exact sstmt_bLoop T E k g sl cp i d v Q P X B w SV hR hi hd hq h1 ebLoop hexpr hblock
 by_cases ebEach : tx T i = bEach
 ·
  exact sstmt_bEach T E k g sl cp i d v Q P X B w SV hR hi hd hq h1 ebEach hblock
 by_cases ebEmit : tx T i = bEmit
 ·
  exact sstmt_bEmit T E k g sl cp i d v Q P X B w SV hR hi hd hq h1 ebEmit hexpr
 by_cases ebHear : tx T i = bHear
 ·
  exact sstmt_bHear T E k g sl cp i d v Q P X B w SV hR hi hd hq h1 ebHear hblock
 by_cases ebSpawn : tx T i = bSpawn
 ·
  exact sstmt_bSpawn T E k g sl cp i d v Q P X B w SV hR hi hd hq h1 ebSpawn hexpr
 by_cases ebKill : tx T i = bKill
 ·
  exact sstmt_bKill T E k g sl cp i d v Q P X B w SV hR hi hd hq h1 ebKill 
 by_cases ebPut : tx T i = bPut
 ·
  exact sstmt_bPut T E k g sl cp i d v Q P X B w SV hR hi hd hq h1 ebPut hexpr
 by_cases ebDrop : tx T i = bDrop
 ·
  exact sstmt_bDrop T E k g sl cp i d v Q P X B w SV hR hi hd hq h1 ebDrop 
 by_cases ebDo : tx T i = bDo
 ·
  exact sstmt_bDo T E k g sl cp i d v Q P X B w SV hR hi hd hq h1 ebDo hexpr
 by_cases ebReturn : tx T i = bReturn
 ·
  exact sstmt_bReturn T E k g sl cp i d v Q P X B w SV hR hi hd hq h1 ebReturn hexpr
 exact sstmt_none T E k g sl cp i d v Q P X B w SV hR hi hd hq h1 ebLet ebDot ebDol ebIf ebLoop ebEach ebEmit ebHear ebSpawn ebKill ebPut ebDrop ebDo ebReturn
end Go.Proofs.YtncknfkinmjmdaaGreatDoor
