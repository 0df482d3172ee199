import Derived.Maps.OwnSet
import Derived.Test.YtkkofminndboaaaGreatDoorSb05
namespace Go.Proofs.YtkkofminndboaaaGreatDoor
set_option linter.unusedVariables false
set_option linter.unusedSimpArgs false
section
open Go.RowKit Go.Maps Go.WideMaps
theorem upon_insert {H : Type} {P : Program} {w : World} {o : Oper} {a : Act} {K : Act → World → Prop} {X : Exit → Act → World → Prop} {f : Unit → World → Result Next} (t : TypeId)
  (k e : TypeId) (Kd : Keyed P k) (ht : P.underlying t = some (.map k e)) (R : Value → Option (DataW H × List MemPlace)) (b n : Nat) (D : DataW H)
  (hown : w.ownsMap P k R b n D) (hn : n < maxLen) (key val : Value) (kl : Lit) (hkey : keyOf P k key = some kl) (d : DataW H) (ps : List MemPlace) (hval : R val = some (d, ps))
  (hK : ∀ w', w'.ownsMap P k R b (n + 1) (D.put kl d) → w.grownBy w' (some b) → Oper.upon P o a K X (f () w')) :
  Oper.upon P o a K X (((Instr.mapUpdate t (.map (some b)) key val).run P w).andThen f) := by
 obtain ⟨w', hrun, r1, r2⟩ := hown.update Kd ht hn hkey hval
 rw [hrun]
 exact hK w' r1 r2
theorem skeyed : Keyed Tryz.prog 9 := string_keyed Tryz.underlying9
def words : List ByteArray := [⟨#[115, 121, 115, 116, 101, 109]⟩, ⟨#[102, 110]⟩, ⟨#[108, 101, 116]⟩, ⟨#[105, 102]⟩, ⟨#[101, 108, 115, 101]⟩, ⟨#[108, 111, 111, 112]⟩, ⟨#[101, 97, 99, 104]⟩, ⟨#[119, 105, 116, 104]⟩, ⟨#[119, 105, 116, 104, 111, 117, 116]⟩, ⟨#[101, 109, 105, 116]⟩, ⟨#[104, 101, 97, 114]⟩, ⟨#[97, 115]⟩, ⟨#[115, 112, 97, 119, 110]⟩, ⟨#[107, 105, 108, 108]⟩, ⟨#[112, 117, 116]⟩, ⟨#[100, 114, 111, 112]⟩, ⟨#[100, 111]⟩, ⟨#[114, 101, 116, 117, 114, 110]⟩, ⟨#[112, 105, 99, 107]⟩, ⟨#[111, 102]⟩, ⟨#[121, 101, 115]⟩, ⟨#[110, 111]⟩, ⟨#[97, 110, 100]⟩, ⟨#[111, 114]⟩, ⟨#[110, 111, 116]⟩, ⟨#[105, 110, 116]⟩, ⟨#[114, 101, 97, 108]⟩, ⟨#[112, 97, 105, 114]⟩, ⟨#[98, 111, 111, 108]⟩, ⟨#[114, 101]⟩, ⟨#[105, 109]⟩, ⟨#[115, 105, 122, 101]⟩]
def wkey (s : ByteArray) : Lit := .string s.data.toList
def wordMap : List ByteArray → DataW Unit → DataW Unit
 | [], D => D
 | s :: r, D => wordMap r (D.put (wkey s) (.agg []))
def isW (s : ByteArray) : Bool := words.any (fun t => decide (t = s))
theorem wkey_inj {s t : ByteArray} (h : wkey s = wkey t) : s = t := by
 simp only [wkey, Lit.string.injEq] at h
 have : s.data = t.data := Array.toList_inj.1 h
 cases s; cases t; simp_all
theorem has_put {D : DataW Unit} (hD : IsMap D) (s t : ByteArray) (d : DataW Unit) : Maps.has (D.put (wkey s) d) (wkey t) = (decide (s = t) || Maps.has D (wkey t)) := by
 by_cases h : s = t
 ·
  subst h
  rw [has_put_same hD (by trivial)]; simp
 have hne : wkey t ≠ wkey s := fun e => h (wkey_inj e).symm
 rw [has_put_other hne]; simp [h]
theorem has_words : ∀ (l : List ByteArray) (D : DataW Unit) (t : ByteArray), IsMap D → Maps.has (wordMap l D) (wkey t) = (l.any (fun s => decide (s = t)) || Maps.has D (wkey t))
 | [], D, t, h => by simp [wordMap]
 | s :: r, D, t, h => by
  rw [wordMap, has_words r _ t (h.put _ _), has_put h]
  simp only [List.any_cons]
  cases decide (s = t) <;> cases r.any (fun s => decide (s = t)) <;> simp
theorem has_word (t : ByteArray) : Maps.has (wordMap words (.map [])) (wkey t) = isW t := by
 rw [has_words _ _ _ isMap_empty]; simp [isW, Maps.has]
set_option maxRecDepth 100000 in
set_option maxHeartbeats 8000000 in
theorem wordSet_any (w : World) :
  Calls Tryz.prog 13 #[] w fun e w' => e = .returned (.map (some w.heap.size)) ∧ w'.ownsMap Tryz.prog 9 (unitElem (H := Unit)) w.heap.size 32 (wordMap words (.map [])) ∧ Below w.heap.size w w' := by
 have hmm := @run_makeMap Tryz.prog
 have hown := World.ownsMap_made w Tryz.prog 9 (unitElem (H := Unit))
 have hbl : Below w.heap.size w (w.alloc (.map #[] 0)) := bl_alloc (Below.refl _ w) _
 go_enter Tryz.func13, Tryz.ntmps13
 have k0 : ∀ s : ByteArray, s.size ≤ 9 → keyOf Tryz.prog 9 (.string s) = some (wkey s) := fun s hs => keyOf_string_mk Tryz.underlying9 (by unfold maxLen; omega)
 go_wp2_with (refine upon_insert 45 9 57 skeyed Tryz.underlying45 (unitElem (H := Unit)) w.heap.size _ _ hown (by unfold maxLen; omega) _ _ _ (k0 _ (by decide)) (.agg []) [] unitElem_mk ?_; intro w1 hown1 hgrow; have hbl1 := hbl.grown hgrow hbl.size (fun j hj => by cases hj; exact Nat.le_refl _); clear hown hbl hgrow; have hown := hown1; have hbl := hbl1; clear hown1 hbl1); go_ret; exact ⟨rfl, hown, hbl⟩
theorem zeroU (w : World) : (zeroValue 57).run Tryz.prog w = .ok (.agg #[]) w := by kernel_rfl
theorem word_look {w : World} {b : Nat} (h : w.ownsMap Tryz.prog 9 (unitElem (H := Unit)) b 32 (wordMap words (.map []))) (s : ByteArray) (hs : s.size ≤ maxLen) :
  (Instr.lookup 45 (.map (some b)) (.string s) true).run Tryz.prog w = .ok (.tuple #[.agg #[], .bool (isW s)]) w := by
 obtain ⟨v, ps, hrun, hv⟩ := h.look_ok (zd := .agg []) (zp := []) skeyed Tryz.underlying45 (zeroU w) unitElem_mk (kl := wkey s) (keyOf_string_mk Tryz.underlying9 hs)
 obtain ⟨rfl, _⟩ := unitElem_inv hv
 rw [has_word] at hrun
 exact hrun
end
section
open Go.RowKit Go.Maps Go.WideMaps
theorem ret_boolw {a b : Bool} (h : a = b) : Ending.returned (.bool a) = .returned (.bool b) := by rw [h]
theorem toList_same (t s : ByteArray) : (t.toList == s.toList) = decide (t = s) := by
 rw [ByteArray.toList_eq, ByteArray.toList_eq, Bool.eq_iff_iff]
 simp only [beq_iff_eq, decide_eq_true_eq]
 exact ⟨WideShapes.bytes_inj, fun h => by rw [h]⟩
def letB (c : Nat) : Bool := (decide ((97 : Int) ≤ c) && decide ((c : Int) ≤ 122)) || (decide ((65 : Int) ≤ c) && decide ((c : Int) ≤ 90))
set_option maxHeartbeats 2000000 in
theorem isLetter_any (c : Nat) (w : World) :
  Calls Tryz.prog 21 #[.int .i32 (c : Int)] w fun e w' => e = .returned (.bool (letB c)) ∧ w' = w := by
 cases h1 : decide ((97 : Int) ≤ c) <;> cases h2 : decide ((c : Int) ≤ 122) <;> cases h3 : decide ((65 : Int) ≤ c) <;> cases h4 : decide ((c : Int) ≤ 90)
 all_goals
  have E : Hid (_ = letB c) := (by unfold Hid letB; rw [h1, h2, h3, h4])
  go_enter Tryz.func21, Tryz.ntmps21
  go_wp2_with fail; go_ret; exact ⟨ret_boolw E.out, rfl⟩
end
section
open Go.RowKit
set_option maxRecDepth 100000
def Dead (X : World) (B : Nat) (w : World) (P : List OR) : Prop := ∃ R, Rs X B w (R ++ P)
theorem Rs.dead {X w : World} {B k g n cp i d : Nat} {v : Value} {Q : List NK} {P : List OR} (h : Rs X B w (rR k g n cp i d v Q P)) : Dead X B w P := ⟨rB k 55 [.slice (some ⟨g, 0, none⟩) n cp, .int .i64 i, .int .i64 d, v] :: rN v Q :: rK Q, h⟩
theorem Dead.later {X w w' : World} {B : Nat} {P : List OR} (h : Dead X B w P) (hb : Below w.heap.size w w') : Dead X B w' P := by
 obtain ⟨R, h⟩ := h
 exact ⟨R, h.later hb⟩
theorem Dead.one {X w : World} {B : Nat} {r : OR} {P : List OR} (h : Dead X B w (r :: P)) : Dead X B w P := by
 obtain ⟨R, h⟩ := h
 exact ⟨R, h.less R P⟩
theorem tok_text (a b d : Int) (s : ByteArray) (x : Nat) (W : World) : (Instr.field 38 (.agg #[.int .i64 a, .int .i64 b, .string s, .int .i64 d, .float .f64 x]) 2).run Tryz.prog W = .ok (.string s) W := by kernel_rfl
theorem str_yes {a b : ByteArray} (h : a = b) : (a.toList == b.toList) = true := by rw [toList_same]; exact decide_eq_true h
theorem str_no {a b : ByteArray} (h : ¬ a = b) : (a.toList == b.toList) = false := by rw [toList_same]; exact decide_eq_false h
set_option maxHeartbeats 4000000 in
theorem skip_yes (T : List Tk) (E : Int) (k g cp i d : Nat) (v : Value) (Q : List NK) (P : List OR) (X : World) (B : Nat) (s : ByteArray) (w : World) (hR : Rs X B w (rR k g (T.length + 1) cp i d v Q P)) (hT : Tks X g (wEnd T E)) (hg : g < B) (hi : i ≤ T.length) (hl : T.length ≤ 4000) (hs : tx T i = s) :
  Calls Tryz.prog 46 #[.pointer (some ⟨k, 0, none⟩), .string s] w fun e w' => e = .returned (.bool true) ∧ Rs X B w' (rR k g (T.length + 1) cp (i + 1) d v Q P) := by
 have hal := alloc_old
 have haf := alloc_oldf
 have h0 := hid hR
 have HT := hid hT
 clear hT hR; have tw : IntKind.i64.wrap ((i : Int) + 1) = (i : Int) + 1 := by rw [IntKind.wrap_i64]; omega
 have hne := str_yes hs
 clear hs; have hf := tok_text (kd T i) (ta T E i) (ti T i) (tx T i)
 go_enter Tryz.func46, Tryz.ntmps46
 go_wp2_with fail; refine (here_any T E k g cp i d v _ (h0.out.box [] (rN v Q :: (rK Q ++ P))) (HT.out.rs h0.out hg) hi hl).mono ?_
 rintro e w1 ⟨⟨x, rfl⟩, b1⟩
 have h1 := hid (h0.out.later b1)
 clear h0 b1; obtain ⟨y0, y1, y2, y3, y4⟩ := (h1.out.box [] (rN v Q :: (rK Q ++ P))).four'
 have h2 := hid (h1.out.setB [] (rN v Q :: (rK Q ++ P)) 1 (.int .i64 ((i : Int) + 1)))
 go_wp2_with fail; go_ret; exact ⟨rfl, h2.out⟩
set_option maxHeartbeats 4000000 in
theorem skip_no (T : List Tk) (E : Int) (k g cp i d : Nat) (v : Value) (Q : List NK) (P : List OR) (X : World) (B : Nat) (s : ByteArray) (w : World) (hR : Rs X B w (rR k g (T.length + 1) cp i d v Q P)) (hT : Tks X g (wEnd T E)) (hg : g < B) (hi : i ≤ T.length) (hl : T.length ≤ 4000) (hs : ¬ tx T i = s) :
  Calls Tryz.prog 46 #[.pointer (some ⟨k, 0, none⟩), .string s] w fun e w' => e = .returned (.bool false) ∧ Rs X B w' (rR k g (T.length + 1) cp i d v Q P) := by
 have hal := alloc_old
 have haf := alloc_oldf
 have h0 := hid hR
 have HT := hid hT
 clear hT hR; have hne := str_no hs
 clear hs; have hf := tok_text (kd T i) (ta T E i) (ti T i) (tx T i)
 go_enter Tryz.func46, Tryz.ntmps46
 go_wp2_with fail; refine (here_any T E k g cp i d v _ (h0.out.box [] (rN v Q :: (rK Q ++ P))) (HT.out.rs h0.out hg) hi hl).mono ?_
 rintro e w1 ⟨⟨x, rfl⟩, b1⟩
 have h1 := hid (h0.out.later b1)
 clear h0 b1; go_wp2_with fail; go_ret; exact ⟨rfl, h1.out⟩
set_option maxHeartbeats 4000000 in
theorem want_ok (T : List Tk) (E : Int) (k g cp i d : Nat) (v : Value) (Q : List NK) (P : List OR) (X : World) (B : Nat) (s : ByteArray) (w : World) (hR : Rs X B w (rR k g (T.length + 1) cp i d v Q P)) (hT : Tks X g (wEnd T E)) (hg : g < B) (hi : i ≤ T.length) (hl : T.length ≤ 4000) (hs : tx T i = s) :
  Calls Tryz.prog 45 #[.pointer (some ⟨k, 0, none⟩), .string s] w fun e w' => e = .returned (.tuple #[]) ∧ Rs X B w' (rR k g (T.length + 1) cp (i + 1) d v Q P) := by
 have hal := alloc_old
 have haf := alloc_oldf
 have h0 := hid hR
 have HT := hid hT
 clear hT hR; have hne := str_yes hs
 clear hs; go_enter Tryz.func45, Tryz.ntmps45
 go_wp2_with fail; refine (next_any T E k g cp i d v Q P X B _ h0.out HT.out hg hi hl).mono ?_
 rintro e w1 ⟨⟨x, rfl⟩, r1⟩
 have h1 := hid (r1.later (bl_alloc (Below.refl _ _) (.cells #[.int .i64 (kd T i), .int .i64 (ta T E i), .string (tx T i), .int .i64 (ti T i), .float .f64 x] 38)))
 clear h0 r1; go_wp2_with fail; exact ⟨rfl, _, results_none rfl _ _ _, rfl, h1.out⟩
set_option maxHeartbeats 4000000 in
theorem want_bad (T : List Tk) (E : Int) (k g cp i d : Nat) (v : Value) (Q : List NK) (P : List OR) (X : World) (B : Nat) (s : ByteArray) (w : World) (hR : Rs X B w (rR k g (T.length + 1) cp i d v Q P)) (hT : Tks X g (wEnd T E)) (hg : g < B) (hi : i ≤ T.length) (hl : T.length ≤ 4000) (hs : ¬ tx T i = s) :
  Calls Tryz.prog 45 #[.pointer (some ⟨k, 0, none⟩), .string s] w fun e w' => e = .panicked [{ v := .iface 51 (.agg #[.int .i64 2, .int .i64 (ta T E i)]), recovered := false }] ∧ Dead X B w' P := by
 have hal := alloc_old
 have haf := alloc_oldf
 have h0 := hid hR
 have HT := hid hT
 clear hT hR; have hne := str_no hs
 clear hs; go_enter Tryz.func45, Tryz.ntmps45
 go_wp2_with fail; refine (next_any T E k g cp i d v Q P X B _ h0.out HT.out hg hi hl).mono ?_
 rintro e w1 ⟨⟨x, rfl⟩, r1⟩
 have h1 := hid (r1.later (bl_alloc (Below.refl _ _) (.cells #[.int .i64 (kd T i), .int .i64 (ta T E i), .string (tx T i), .int .i64 (ti T i), .float .f64 x] 38)))
 clear h0 r1; go_wp2_with fail; exact ⟨rfl, rfl, h1.out.dead⟩
set_option maxHeartbeats 4000000 in
theorem name_ok (T : List Tk) (E : Int) (k g cp i d : Nat) (v : Value) (Q : List NK) (P : List OR) (X : World) (B : Nat) (w : World) (hR : Rs X B w (rR k g (T.length + 1) cp i d v Q P)) (hT : Tks X g (wEnd T E)) (hg : g < B) (hi : i ≤ T.length) (hl : T.length ≤ 4000) (hs : kd T i = 1) :
  Calls Tryz.prog 30 #[.pointer (some ⟨k, 0, none⟩)] w fun e w' => e = .returned (.string (tx T i)) ∧ Rs X B w' (rR k g (T.length + 1) cp (i + 1) d v Q P) := by
 have hal := alloc_old
 have haf := alloc_oldf
 have h0 := hid hR
 have HT := hid hT
 clear hT hR; have hne : (kd T i != 1) = false := by rw [hs]; rfl
 clear hs; go_enter Tryz.func30, Tryz.ntmps30
 go_wp2_with fail; refine (next_any T E k g cp i d v Q P X B _ h0.out HT.out hg hi hl).mono ?_
 rintro e w1 ⟨⟨x, rfl⟩, r1⟩
 have h1 := hid (r1.later (bl_alloc (Below.refl _ _) (.cells #[.int .i64 (kd T i), .int .i64 (ta T E i), .string (tx T i), .int .i64 (ti T i), .float .f64 x] 38)))
 clear h0 r1; go_wp2_with fail; go_ret; exact ⟨rfl, h1.out⟩
set_option maxHeartbeats 4000000 in
theorem name_bad (T : List Tk) (E : Int) (k g cp i d : Nat) (v : Value) (Q : List NK) (P : List OR) (X : World) (B : Nat) (w : World) (hR : Rs X B w (rR k g (T.length + 1) cp i d v Q P)) (hT : Tks X g (wEnd T E)) (hg : g < B) (hi : i ≤ T.length) (hl : T.length ≤ 4000) (hs : ¬ kd T i = 1) :
  Calls Tryz.prog 30 #[.pointer (some ⟨k, 0, none⟩)] w fun e w' => e = .panicked [{ v := .iface 51 (.agg #[.int .i64 2, .int .i64 (ta T E i)]), recovered := false }] ∧ Dead X B w' P := by
 have hal := alloc_old
 have haf := alloc_oldf
 have h0 := hid hR
 have HT := hid hT
 clear hT hR; have hne : (kd T i != 1) = true := by simpa using hs
 clear hs; go_enter Tryz.func30, Tryz.ntmps30
 go_wp2_with fail; refine (next_any T E k g cp i d v Q P X B _ h0.out HT.out hg hi hl).mono ?_
 rintro e w1 ⟨⟨x, rfl⟩, r1⟩
 have h1 := hid (r1.later (bl_alloc (Below.refl _ _) (.cells #[.int .i64 (kd T i), .int .i64 (ta T E i), .string (tx T i), .int .i64 (ti T i), .float .f64 x] 38)))
 clear h0 r1; go_wp2_with fail; exact ⟨rfl, rfl, h1.out.dead⟩
set_option maxHeartbeats 4000000 in
theorem leave_any (T : List Tk) (E : Int) (k g cp i d : Nat) (v : Value) (Q : List NK) (P : List OR) (X : World) (B : Nat) (w : World) (hR : Rs X B w (rR k g (T.length + 1) cp i (d + 1) v Q P)) (hd : d ≤ 40) :
  Calls Tryz.prog 48 #[.pointer (some ⟨k, 0, none⟩)] w fun e w' => e = .returned (.tuple #[]) ∧ Rs X B w' (rR k g (T.length + 1) cp i d v Q P) := by
 have hal := alloc_old
 have haf := alloc_oldf
 have h0 := hid hR
 have tw : IntKind.i64.wrap ((d : Int) + 1 - 1) = (d : Int) := by rw [IntKind.wrap_i64]; omega
 have h2 := hid (h0.out.setB [] (rN v Q :: (rK Q ++ P)) 2 (.int .i64 (d : Int)))
 have y := h0.out.box [] (rN v Q :: (rK Q ++ P))
 have y2 : w.cell? ⟨k, 2, none⟩ = some (.int .i64 ((d : Int) + 1)) := y.cell 2
 have y4 := y.frozen
 clear hR y; go_enter Tryz.func48, Tryz.ntmps48
 go_wp2_with fail; exact ⟨rfl, _, results_none rfl _ _ _, rfl, h2.out⟩
set_option maxHeartbeats 4000000 in
theorem enter_ok (T : List Tk) (E : Int) (k g cp i d : Nat) (v : Value) (Q : List NK) (P : List OR) (X : World) (B : Nat) (kx ax ix : Int) (sx : ByteArray) (xx : Nat) (w : World) (hR : Rs X B w (rR k g (T.length + 1) cp i d v Q P)) (hd : ¬ d = 40 ∨ kx = 0) (hd40 : d ≤ 40) :
  Calls Tryz.prog 44 #[.pointer (some ⟨k, 0, none⟩), .agg #[.int .i64 kx, .int .i64 ax, .string sx, .int .i64 ix, .float .f64 xx]] w fun e w' => e = .returned (.tuple #[]) ∧ Rs X B w' (rR k g (T.length + 1) cp i (d + 1) v Q P) := by
 have hal := alloc_old
 have haf := alloc_oldf
 have h0 := hid (hR.later (bl_alloc (Below.refl _ _) (.cells #[.int .i64 kx, .int .i64 ax, .string sx, .int .i64 ix, .float .f64 xx] 38)))
 have y := h0.out.box [] (rN v Q :: (rK Q ++ P))
 have y2 := y.cell 2
 have y4 := y.frozen
 clear y hR; have tw : IntKind.i64.wrap ((d : Int) + 1) = (d : Int) + 1 := by rw [IntKind.wrap_i64]; omega
 have h2 := hid (h0.out.setB [] (rN v Q :: (rK Q ++ P)) 2 (.int .i64 ((d : Int) + 1)))
 rcases hd with hd | rfl
 ·
  have e1 : ((d : Int) == 40) = false := by simp; omega
  clear hd; go_enter Tryz.func44, Tryz.ntmps44
  go_wp2_with fail; exact ⟨rfl, _, results_none rfl _ _ _, rfl, h2.out⟩
 by_cases hd : d = 40
 ·
  have e1 : ((d : Int) == 40) = true := by rw [hd]; rfl
  clear hd; have e2 : ((0 : Int) != 0) = false := by rfl
  go_enter Tryz.func44, Tryz.ntmps44
  go_wp2_with fail; exact ⟨rfl, _, results_none rfl _ _ _, rfl, h2.out⟩
 have e1 : ((d : Int) == 40) = false := by simp; omega
 clear hd; go_enter Tryz.func44, Tryz.ntmps44
 go_wp2_with fail; exact ⟨rfl, _, results_none rfl _ _ _, rfl, h2.out⟩
set_option maxHeartbeats 4000000 in
theorem enter_bad (T : List Tk) (E : Int) (k g cp i d : Nat) (v : Value) (Q : List NK) (P : List OR) (X : World) (B : Nat) (kx ax ix : Int) (sx : ByteArray) (xx : Nat) (w : World) (hR : Rs X B w (rR k g (T.length + 1) cp i d v Q P)) (hd : d = 40) (hk : ¬ kx = 0) :
  Calls Tryz.prog 44 #[.pointer (some ⟨k, 0, none⟩), .agg #[.int .i64 kx, .int .i64 ax, .string sx, .int .i64 ix, .float .f64 xx]] w fun e w' => e = .panicked [{ v := .iface 51 (.agg #[.int .i64 3, .int .i64 ax]), recovered := false }] ∧ Dead X B w' P := by
 have hal := alloc_old
 have haf := alloc_oldf
 have h0 := hid (hR.later (bl_alloc (Below.refl _ _) (.cells #[.int .i64 kx, .int .i64 ax, .string sx, .int .i64 ix, .float .f64 xx] 38)))
 have y := h0.out.box [] (rN v Q :: (rK Q ++ P))
 have y2 := y.cell 2
 have y4 := y.frozen
 clear y hR; have e1 : ((d : Int) == 40) = true := by rw [hd]; rfl
 clear hd; have e2 : (kx != 0) = true := by simpa using hk
 go_enter Tryz.func44, Tryz.ntmps44
 go_wp2_with fail; exact ⟨rfl, rfl, h0.out.dead⟩
end
end Go.Proofs.YtkkofminndboaaaGreatDoor
