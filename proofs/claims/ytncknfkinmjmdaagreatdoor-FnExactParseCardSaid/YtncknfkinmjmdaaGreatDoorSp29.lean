import Derived.Test.YtncknfkinmjmdaaGreatDoorSp28
namespace Go.Proofs.YtncknfkinmjmdaaGreatDoor
open Go.RowKit
set_option linter.unusedVariables false
set_option linter.unusedSimpArgs false
set_option maxRecDepth 100000
def SX (T : List Tk) (E : Int) (X : World) (B k : Nat) (sl : Option Addr) (cp lo sp d : Nat) (P : List OR) (Res : PRes) (K : Nat → List Nd → PRes) (w : World) : Prop :=
 (∃ (i : Nat) (v : Value) (Q : List NK), lo ≤ i ∧ i ≤ T.length ∧ Q.length + sp ≤ 2 * i ∧ K i (Q.map (·.1)) = Res ∧ Rs X B w (sR T E k sl cp i d v Q P)) ∨ (∃ c a, Res = .error (c, a) ∧ sD T E k sl cp c a X B w P)
theorem SX.turn {T : List Tk} {E : Int} {X : World} {B k : Nat} {sl : Option Addr} {cp lo sp d : Nat} {P : List OR} {Res : PRes} {K K' : Nat → List Nd → PRes} {w : World} (h : SX T E X B k sl cp (lo) (sp) d P Res K w) (e : ∀ i N, i ≤ T.length → K i N = K' i N) : SX T E X B k sl cp (lo) (sp) d P Res K' w := by
 rcases h with ⟨i, v, Q, h1, h2, h3, h4, h5⟩ | h
 ·
  exact Or.inl ⟨i, v, Q, h1, h2, h3, by rw [← e i _ h2]; exact h4, h5⟩
 exact Or.inr h
theorem SX.weak {lo' sp' : Nat} {T : List Tk} {E : Int} {X : World} {B k : Nat} {sl : Option Addr} {cp lo sp d : Nat} {P : List OR} {Res : PRes} {K : Nat → List Nd → PRes} {w : World} (h : SX T E X B k sl cp (lo) (sp) d P Res K w) (hl : lo' ≤ lo) (hs : sp' ≤ sp) : SX T E X B k sl cp (lo') (sp') d P Res K w := by
 rcases h with ⟨i, v, Q, h1, h2, h3, h4, h5⟩ | h
 ·
  exact Or.inl ⟨i, v, Q, by omega, h2, by omega, h4, h5⟩
 exact Or.inr h
theorem SX.left {T : List Tk} {E : Int} {X : World} {B k : Nat} {sl : Option Addr} {cp lo sp d : Nat} {P : List OR} {Res : PRes} {K : Nat → List Nd → PRes} {w : World} (h : SX T E X B k sl cp (lo) (sp) d P Res K w) : left T w k ≤ T.length + 1 - lo := by
 rcases h with ⟨i, v, Q, h1, h2, h3, h4, h5⟩ | ⟨c, a, h1, h2⟩
 ·
  rw [left_live h5]; omega
 rw [left_dead h2]; omega
theorem SX.done {T : List Tk} {E : Int} {X : World} {B k : Nat} {sl : Option Addr} {cp lo sp d : Nat} {P : List OR} {Res : PRes} {y : Int} {w : World} (h : SX T E X B k sl cp (lo) (sp) d P Res (fun j N => .ok ([y], j, N)) w) : OkS T E X B k sl cp d P Res (.returned (.int .i64 y)) w := by
 rcases h with ⟨i, v, Q, h1, h2, h3, h4, h5⟩ | ⟨c, a, h1, h2⟩
 ·
  rw [← h4]; exact ⟨rfl, v, Q, rfl, h5⟩
 rw [h1]; exact ⟨⟨y, rfl⟩, h2⟩
theorem SX.kids {T : List Tk} {E : Int} {X : World} {B k : Nat} {sl : Option Addr} {cp lo sp d : Nat} {P : List OR} {Res : PRes} {K : Nat → List Nd → PRes} {w : World} (h : SX T E X B k sl cp (lo) (sp) d P Res K w) (L : List Int) (hl : L.length ≤ 1000000) : SX T E X B k sl cp (lo) (sp) d (rI (.slice (some ⟨w.heap.size, 0, none⟩) L.length L.length) L :: P) Res K (w.alloc (.cells (L.map (Value.int .i64)).toArray 3)) := by
 rcases h with ⟨i, v, Q, h1, h2, h3, h4, h5⟩ | ⟨c, a, h1, h2⟩
 ·
  exact Or.inl ⟨i, v, Q, h1, h2, h3, h4, sR_kids h5 L hl⟩
 exact Or.inr ⟨c, a, h1, sD_kids h2 L hl⟩
theorem SX.less {T : List Tk} {E : Int} {X : World} {B k : Nat} {sl : Option Addr} {cp lo sp d : Nat} {P : List OR} {Res : PRes} {r : OR} {K : Nat → List Nd → PRes} {w : World} (h : SX T E X B k sl cp (lo) (sp) d (r :: P) Res K w) : SX T E X B k sl cp (lo) (sp) d P Res K w := by
 rcases h with ⟨i, v, Q, h1, h2, h3, h4, h5⟩ | ⟨c, a, h1, h2⟩
 ·
  exact Or.inl ⟨i, v, Q, h1, h2, h3, h4, sR_less h5⟩
 exact Or.inr ⟨c, a, h1, h2.one⟩
theorem pName_then {T : List Tk} {E : Int} {i : Nat} (f : ByteArray → Nat → PRes) (g : List Int → Nat → List Nd → PRes) : (pName T E i f).then g = pName T E i fun s j => (f s j).then g := by unfold pName; split <;> rfl
theorem pWant_then {T : List Tk} {E : Int} {s : ByteArray} {i : Nat} (f : Nat → PRes) (g : List Int → Nat → List Nd → PRes) : (pWant T E s i f).then g = pWant T E s i fun j => (f j).then g := by unfold pWant; split <;> rfl
theorem pKind_then {T : List Tk} {E : Int} {i : Nat} (f : Int → Nat → PRes) (g : List Int → Nat → List Nd → PRes) : (pKind T E i f).then g = pKind T E i fun s j => (f s j).then g := by unfold pKind; split <;> rfl
theorem then_then (r : PRes) (f g : List Int → Nat → List Nd → PRes) : (r.then f).then g = r.then fun x j N => (f x j N).then g := by
 rcases r with e | ⟨x, j, N⟩ <;> rfl
theorem node_then (n : Nd) (i : Nat) (N : List Nd) : pNode n i N = (pNode n i N).then fun x j N => .ok ([x.headD 0], j, N) := rfl
theorem ite_then {c : Prop} [Decidable c] (a b : PRes) (g : List Int → Nat → List Nd → PRes) : (if c then a else b).then g = if c then a.then g else b.then g := by split <;> rfl
theorem sv_lt {T : List Tk} {E : Int} {X : World} {B g : Nat} {sl : Option Addr} (SV : Sv T E X B g sl) {i : Nat} {s : ByteArray} (hm : s ∈ WMs) (hs : tx T i = s) : i < T.length := by
 rcases SV.m i s hm hs with h | h
 ·
  exact kd_lt h (by decide)
 exact kd_lt h (by decide)
theorem want_x {g : Nat} {T : List Tk} {E : Int} {X : World} {B k : Nat} {sl : Option Addr} {cp lo sp d : Nat} {P : List OR} {Res : PRes} {K : Nat → List Nd → PRes} {w : World} (SV : Sv T E X B g sl) (s : ByteArray) (hm : s ∈ WMs) (hd : d ≤ 1000) (h : SX T E X B k sl cp (lo) (sp) d P Res (fun i N => pWant T E s i fun j => K j N) w) :
  Calls Tryz.prog 25 #[.pointer (some ⟨k, 0, none⟩), .string s] w fun e w' => (∃ b, e = .returned (.bool b)) ∧ SX T E X B k sl cp (lo + 1) (sp + 2) d P Res K w' := by
 rcases h with ⟨i, v, Q, h1, h2, h3, h4, h5⟩ | ⟨c, a, h1, h2⟩
 ·
  dsimp only at h4
  by_cases hs : tx T i = s
  ·
   have hlt := sv_lt SV hm hs
   refine (swant_ok T E k g sl cp i d v Q P X B s w SV h5 h2 hd hs hm).mono ?_
   rintro e w' ⟨rfl, r⟩
   exact ⟨⟨_, rfl⟩, Or.inl ⟨i + 1, v, Q, by omega, by omega, by omega, by rw [← h4, want_yes hs], r⟩⟩
  refine (swant_bad T E k g sl cp i d v Q P X B s w SV h5 h2 hd hs).mono ?_
  rintro e w' ⟨rfl, r⟩
  exact ⟨⟨_, rfl⟩, Or.inr ⟨2, ta T E i, by rw [← h4, want_no hs], r⟩⟩
 refine (swant_dead T E k g sl cp P X B c a s w h2).mono ?_
 rintro e w' ⟨rfl, r⟩
 exact ⟨⟨_, rfl⟩, Or.inr ⟨c, a, h1, r⟩⟩
theorem name_x {g : Nat} {T : List Tk} {E : Int} {X : World} {B k : Nat} {sl : Option Addr} {cp lo sp d : Nat} {P : List OR} {Res : PRes} {K : ByteArray → Nat → List Nd → PRes} {w : World} (SV : Sv T E X B g sl) (hd : d ≤ 1000) (h : SX T E X B k sl cp (lo) (sp) d P Res (fun i N => pName T E i fun s j => K s j N) w) :
  Calls Tryz.prog 12 #[.pointer (some ⟨k, 0, none⟩)] w fun e w' => ∃ s, e = .returned (.string s) ∧ SX T E X B k sl cp (lo + 1) (sp + 2) d P Res (K s) w' := by
 rcases h with ⟨i, v, Q, h1, h2, h3, h4, h5⟩ | ⟨c, a, h1, h2⟩
 ·
  dsimp only at h4
  by_cases hs : kd T i = 1
  ·
   have hlt : i < T.length := kd_lt hs (by decide)
   refine (sname_ok T E k g sl cp i d v Q P X B w SV h5 h2 hd hs).mono ?_
   rintro e w' ⟨rfl, r⟩
   exact ⟨_, rfl, Or.inl ⟨i + 1, v, Q, by omega, by omega, by omega, by rw [← h4, name_yes hs], r⟩⟩
  refine (sname_bad T E k g sl cp i d v Q P X B w SV h5 h2 hd hs).mono ?_
  rintro e w' ⟨rfl, r⟩
  exact ⟨_, rfl, Or.inr ⟨2, ta T E i, by rw [← h4, name_no hs], r⟩⟩
 refine (sname_dead T E k g sl cp P X B c a w h2).mono ?_
 rintro e w' ⟨rfl, r⟩
 exact ⟨_, rfl, Or.inr ⟨c, a, h1, r⟩⟩
theorem sort_x {g : Nat} {T : List Tk} {E : Int} {X : World} {B k : Nat} {sl : Option Addr} {cp lo sp d : Nat} {P : List OR} {Res : PRes} {K : Int → Nat → List Nd → PRes} {w : World} (SV : Sv T E X B g sl) (hd : d ≤ 1000) (h : SX T E X B k sl cp (lo) (sp) d P Res (fun i N => pKind T E i fun s j => K s j N) w) :
  Calls Tryz.prog 26 #[.pointer (some ⟨k, 0, none⟩)] w fun e w' => ∃ s, e = .returned (.int .i64 s) ∧ SX T E X B k sl cp (lo + 1) (sp + 2) d P Res (K s) w' := by
 rcases h with ⟨i, v, Q, h1, h2, h3, h4, h5⟩ | ⟨c, a, h1, h2⟩
 ·
  dsimp only at h4
  refine (sort_any T E k g sl cp i d v Q P X B w SV h5 h2 hd).mono ?_
  rintro e w' (⟨q, rfl, r⟩ | ⟨q, rfl, r⟩)
  ·
   exact ⟨_, rfl, Or.inr ⟨2, ta T E i, by rw [← h4]; show pKind T E i _ = _; unfold pKind; rw [if_pos q], r⟩⟩
  have hlt : i < T.length := Nat.lt_of_not_le fun hh => q (by rw [stx_none (by omega)]; rfl)
  exact ⟨_, rfl, Or.inl ⟨i + 1, v, Q, by omega, by omega, by omega, by rw [← h4]; show _ = pKind T E i _; unfold pKind; rw [if_neg q], r⟩⟩
 refine (sort_dead T E k g sl cp P X B c a w h2).mono ?_
 rintro e w' ⟨rfl, r⟩
 exact ⟨_, rfl, Or.inr ⟨c, a, h1, r⟩⟩
theorem sub_x {g : Nat} {T : List Tk} {E : Int} {X : World} {B k : Nat} {sl : Option Addr} {cp lo sp d : Nat} {P : List OR} {Res : PRes} {fn : FuncId} {pf : Nat → Pf} {K : List Int → Nat → List Nd → PRes} {w : World} (SV : Sv T E X B g sl) (hd : d ≤ 40) (hwf : (pf d).wf) (hlo : ∀ i, i < (pf d).lo i) (hsub : ∀ j, lo ≤ j → j ≤ T.length → SaysS T E X B k sl cp 40 fn #[.pointer (some ⟨k, 0, none⟩)] pf j)
  (hdead : ∀ c a, sD T E k sl cp c a X B w P → Calls Tryz.prog fn #[.pointer (some ⟨k, 0, none⟩)] w fun e w' => e = .returned (.int .i64 (-1)) ∧ sD T E k sl cp c a X B w' P) (h : SX T E X B k sl cp (lo) (sp) d P Res (fun i N => (PAR T E (pf d) i N).then K) w) :
  Calls Tryz.prog fn #[.pointer (some ⟨k, 0, none⟩)] w fun e w' => ∃ x y, x.headD 0 = y ∧ e = .returned (.int .i64 y) ∧ SX T E X B k sl cp (lo + 1) (sp) d P Res (K x) w' := by
 rcases h with ⟨i, v, Q, h1, h2, h3, h4, h5⟩ | ⟨c, a, h1, h2⟩
 ·
  dsimp only at h4
  refine (hsub i h1 h2 d v Q P w h5 (by omega) hd).mono ?_
  have hg := PAR_good (T := T) (E := E) (p := pf d) (i := i) (N := Q.map (·.1)) hwf h2
  have hl := hlo i
  obtain ⟨r, hr⟩ : ∃ r, PAR T E (pf d) i (Q.map (·.1)) = r := ⟨_, rfl⟩
  rw [hr] at h4 hg ⊢
  rcases r with ⟨c, a⟩ | ⟨x, j, M⟩
  ·
   rintro e w' ⟨⟨y, rfl⟩, r⟩
   exact ⟨[y], y, rfl, rfl, Or.inr ⟨c, a, by rw [← h4]; rfl, r⟩⟩
  rintro e w' ⟨rfl, v', Q', rfl, r⟩
  obtain ⟨g1, g2, g3⟩ := hg
  simp only [List.length_map] at g3
  exact ⟨x, _, rfl, rfl, Or.inl ⟨j, v', Q', by omega, g2, by omega, by rw [← h4]; rfl, r⟩⟩
 refine (hdead c a h2).mono ?_
 rintro e w' ⟨rfl, r⟩
 exact ⟨[-1], _, rfl, rfl, Or.inr ⟨c, a, h1, r⟩⟩
theorem node_x {g : Nat} {T : List Tk} {E : Int} {X : World} {B k : Nat} {sl : Option Addr} {cp lo sp d : Nat} {P : List OR} {Res : PRes} {K : List Int → Nat → List Nd → PRes} {w : World} (SV : Sv T E X B g sl) (a b : Int) (t : ByteArray) (kids : List Int) (sk : Option Addr) (ck : Nat) (h : SX T E X B k sl cp (lo) (sp + 1) d (rI (.slice sk kids.length ck) kids :: P) Res (fun i N => (pNode (nd a t b kids) i N).then K) w) :
  Calls Tryz.prog 14 #[.pointer (some ⟨k, 0, none⟩), .agg #[.int .i64 a, .string t, .int .i64 b, .slice sk kids.length ck]] w fun e w' => ∃ x y, x.headD 0 = y ∧ e = .returned (.int .i64 y) ∧ SX T E X B k sl cp (lo) (sp) d P Res (K x) w' := by
 rcases h with ⟨i, v, Q, h1, h2, h3, h4, h5⟩ | ⟨c, a', h1, h2⟩
 ·
  dsimp only at h4
  have hlT := SV.l
  refine (node_live T E k g sl cp i d v Q P X B a b t kids sk ck w h5 (by omega)).mono ?_
  rintro e w' ⟨rfl, v', r⟩
  refine ⟨[(Q.length : Int)], _, rfl, rfl, Or.inl ⟨i, v', _, h1, h2, by simp; omega, ?_, r⟩⟩
  rw [← h4]
  simp [pNode, PRes.then]
 refine (node_dead T E k g sl cp _ X B c a' _ _ _ _ w h2).mono ?_
 rintro e w' ⟨rfl, r⟩
 exact ⟨[-1], _, rfl, rfl, Or.inr ⟨c, a', h1, r.one⟩⟩
theorem node0_x {g : Nat} {T : List Tk} {E : Int} {X : World} {B k : Nat} {sl : Option Addr} {cp lo sp d : Nat} {P : List OR} {Res : PRes} {K : List Int → Nat → List Nd → PRes} {w : World} (SV : Sv T E X B g sl) (a b : Int) (t : ByteArray) (h : SX T E X B k sl cp (lo) (sp + 1) d P Res (fun i N => (pNode (nd a t b []) i N).then K) w) :
  Calls Tryz.prog 14 #[.pointer (some ⟨k, 0, none⟩), .agg #[.int .i64 a, .string t, .int .i64 b, .slice none 0 0]] w fun e w' => ∃ x y, x.headD 0 = y ∧ e = .returned (.int .i64 y) ∧ SX T E X B k sl cp (lo) (sp) d P Res (K x) w' := by
 rcases h with ⟨i, v, Q, h1, h2, h3, h4, h5⟩ | ⟨c, a', h1, h2⟩
 ·
  dsimp only at h4
  have hlT := SV.l
  refine (node_live T E k g sl cp i d v Q P X B a b t [] none 0 w (sR_none h5) (by omega)).mono ?_
  rintro e w' ⟨rfl, v', r⟩
  refine ⟨[(Q.length : Int)], _, rfl, rfl, Or.inl ⟨i, v', _, h1, h2, by simp; omega, ?_, r⟩⟩
  rw [← h4]
  simp [pNode, PRes.then]
 refine (node_dead T E k g sl cp _ X B c a' _ _ _ _ w h2).mono ?_
 rintro e w' ⟨rfl, r⟩
 exact ⟨[-1], _, rfl, rfl, Or.inr ⟨c, a', h1, r⟩⟩
theorem is_x {g : Nat} {T : List Tk} {E : Int} {X : World} {B k : Nat} {sl : Option Addr} {cp lo sp d : Nat} {P : List OR} {Res : PRes} {A K : Nat → List Nd → PRes} {w : World} (SV : Sv T E X B g sl) (s : ByteArray) (hm : s ∈ WMs) (hd : d ≤ 1000) (h : SX T E X B k sl cp (lo) (sp) d P Res (fun i N => if tx T i = s then A i N else K i N) w) :
  Calls Tryz.prog 10 #[.pointer (some ⟨k, 0, none⟩), .string s] w fun e w' => (e = .returned (.bool true) ∧ ∃ i v Q, lo ≤ i ∧ i < T.length ∧ Q.length + sp ≤ 2 * i ∧ A i (Q.map (·.1)) = Res ∧ Rs X B w' (sR T E k sl cp i d v Q P)) ∨ (e = .returned (.bool false) ∧ SX T E X B k sl cp (lo) (sp) d P Res K w') := by
 rcases h with ⟨i, v, Q, h1, h2, h3, h4, h5⟩ | ⟨c, a', h1, h2⟩
 ·
  dsimp only at h4
  by_cases hs : tx T i = s
  ·
   have hlt := sv_lt SV hm hs
   refine (is_yes T E k g sl cp i d v Q P X B s w SV h5 h2 hd hlt hs (SV.m _ _ hm hs)).mono ?_
   rintro e w' ⟨rfl, r⟩
   exact Or.inl ⟨rfl, i, v, Q, h1, hlt, h3, by rw [if_pos hs] at h4; exact h4, r⟩
  refine (is_no T E k g sl cp i d v Q P X B s w SV h5 h2 hd hs).mono ?_
  rintro e w' ⟨rfl, r⟩
  exact Or.inr ⟨rfl, Or.inl ⟨i, v, Q, h1, h2, h3, by rw [if_neg hs] at h4; exact h4, r⟩⟩
 refine (is_dead T E k g sl cp P X B c a' s w h2).mono ?_
 rintro e w' ⟨rfl, r⟩
 exact Or.inr ⟨rfl, Or.inr ⟨c, a', h1, r⟩⟩
theorem names_x {g : Nat} {T : List Tk} {E : Int} {X : World} {B k : Nat} {sl : Option Addr} {cp lo sp d : Nat} {P : List OR} {Res : PRes} {K : List Int → Nat → List Nd → PRes} {w : World} (SV : Sv T E X B g sl) (hd : d ≤ 1000) (h : SX T E X B k sl cp (lo) (sp) d P Res (fun i N => (PAR T E (.items 1 d []) i N).then K) w) :
  Calls Tryz.prog 68 #[.pointer (some ⟨k, 0, none⟩)] w fun e w' => ∃ s c, ∃ L : List Int, e = .returned (.slice s L.length c) ∧ L.length ≤ 5000 ∧ SX T E X B k sl cp (lo) (sp) d (rI (.slice s L.length c) L :: P) Res (K L) w' := by
 rcases h with ⟨i, v, Q, h1, h2, h3, h4, h5⟩ | ⟨c, a', h1, h2⟩
 ·
  dsimp only at h4
  have hlT := SV.l
  refine (snames_any T E k g sl cp i d v Q P X B w SV h5 h2 hd (by omega)).mono ?_
  have hg := PAR_good (T := T) (E := E) (p := .items 1 d []) (i := i) (N := Q.map (·.1)) trivial h2
  have hln := items_len (T := T) (E := E) (kk := 1) (d := d) (T.length - i) i [] (Q.map (·.1))
  obtain ⟨r, hr⟩ : ∃ r, PAR T E (.items 1 d []) i (Q.map (·.1)) = r := ⟨_, rfl⟩
  rw [hr] at h4 hg hln ⊢
  rcases r with ⟨c, a⟩ | ⟨x, j, M⟩
  ·
   rintro e w' ⟨s, cc, L, rfl, hl, r⟩
   exact ⟨s, cc, L, rfl, hl, Or.inr ⟨c, a, by rw [← h4]; rfl, r⟩⟩
  rintro e w' ⟨s, c, v', Q', rfl, rfl, r⟩
  obtain ⟨g1, g2, g3⟩ := hg
  simp only [List.length_map, Pf.lo] at g3 g1
  have := hln x j _ (Nat.le_refl _) h2 rfl
  simp only [List.length_nil] at this
  exact ⟨s, c, x, rfl, by omega, Or.inl ⟨j, v', Q', by omega, g2, by omega, by rw [← h4]; rfl, r⟩⟩
 refine (names_dead T E k g sl cp P X B c a' w h2).mono ?_
 rintro e w' ⟨s, cc, L, rfl, hl, r⟩
 exact ⟨s, cc, L, rfl, hl, Or.inr ⟨c, a', h1, r⟩⟩
theorem args_x {g : Nat} {T : List Tk} {E : Int} {X : World} {B k : Nat} {sl : Option Addr} {cp lo sp d : Nat} {P : List OR} {Res : PRes} {K : List Int → Nat → List Nd → PRes} {w : World} (SV : Sv T E X B g sl) (hd : d ≤ 40) (hexpr : ∀ j, lo ≤ j → j ≤ T.length → SaysS T E X B k sl cp 40 46 #[.pointer (some ⟨k, 0, none⟩)] .expr j) (h : SX T E X B k sl cp (lo) (sp) d P Res (fun i N => (argsR T E 0 d i N).then K) w) :
  Calls Tryz.prog 49 #[.pointer (some ⟨k, 0, none⟩)] w fun e w' => ∃ s c, ∃ L : List Int, e = .returned (.slice s L.length c) ∧ L.length ≤ 5000 ∧ SX T E X B k sl cp (lo) (sp) d (rI (.slice s L.length c) L :: P) Res (K L) w' := by
 rcases h with ⟨i, v, Q, h1, h2, h3, h4, h5⟩ | ⟨c, a', h1, h2⟩
 ·
  dsimp only at h4
  have hlT := SV.l
  refine (sargs_of T E k g sl cp i d v Q P X B w SV h5 h2 hd (by omega) (fun j hj => hexpr j (by omega))).mono ?_
  have hln := items_len (T := T) (E := E) (kk := 0) (d := d) (T.length - i) i [] (Q.map (·.1))
  have hg := PAR_good (T := T) (E := E) (p := .items 0 d []) (i := i) (N := Q.map (·.1)) trivial h2
  have hA : ∀ x j M, argsR T E 0 d i (Q.map (·.1)) = .ok (x, j, M) → x.length ≤ 5000 ∧ i ≤ j ∧ j ≤ T.length ∧ M.length + 2 * i ≤ Q.length + 2 * j := by
   intro x j M he
   unfold argsR at he
   by_cases hs : tx T i = bRp
   ·
    rw [if_pos hs] at he
    have hlt := tx_lt hs (by decide)
    cases he
    simp; omega
   rw [if_neg hs] at he
   rcases hr : PAR T E (.items 0 d []) i (Q.map (·.1)) with ⟨c, a⟩ | ⟨x', j', M'⟩
   ·
    rw [hr] at he; cases he
   rw [hr] at he hg hln
   obtain ⟨g1, g2, g3⟩ := hg
   simp only [List.length_map, Pf.lo] at g3 g1
   have h5 := hln x' j' M' (Nat.le_refl _) h2 rfl
   simp only [List.length_nil] at h5
   rw [then_ok] at he
   unfold shutR at he
   by_cases hp : tx T j' = bRp
   ·
    have hlt := tx_lt hp (by decide)
    rw [want_yes hp] at he
    cases he
    omega
   rw [want_no hp] at he; cases he
  obtain ⟨r, hr⟩ : ∃ r, argsR T E 0 d i (Q.map (·.1)) = r := ⟨_, rfl⟩
  rw [hr] at h4 hA ⊢
  rcases r with ⟨c, a⟩ | ⟨x, j, M⟩
  ·
   rintro e w' ⟨s, cc, L, rfl, hl, r⟩
   exact ⟨s, cc, L, rfl, hl, Or.inr ⟨c, a, by rw [← h4]; rfl, r⟩⟩
  rintro e w' ⟨s, c, v', Q', rfl, rfl, r⟩
  obtain ⟨g0, g1, g2, g3⟩ := hA x j _ rfl
  simp only [List.length_map] at g3
  exact ⟨s, c, x, rfl, g0, Or.inl ⟨j, v', Q', by omega, g2, by omega, by rw [← h4]; rfl, r⟩⟩
 refine (args_dead T E k g sl cp P X B c a' w h2).mono ?_
 rintro e w' ⟨s, cc, L, rfl, hl, r⟩
 exact ⟨s, cc, L, rfl, hl, Or.inr ⟨c, a', h1, r⟩⟩
theorem wpList_sx1 {T : List Tk} {E : Int} {X w0 : World} {B k c : Nat} {sl : Option Addr} {cp lo sp d : Nat} {P : List OR} {Res : PRes} {K : Nat → List Nd → PRes} {s : Option Addr} {acc : List Int} {ops : Array Oper} {rest : List Oper} {o : Oper} {a : Act} {Qx : Exit → Act → World → Prop} (h : SX T E X B k sl cp (lo) (sp) d (rI (.slice s acc.length c) acc :: P) Res K w0) (hg : o.guard = none) (sx x : Operand) (ho : o.op = .call { callee := .builtin .append, args := #[sx, x], argTypes := #[23, 23] })
  (hs : a.eval sx = .slice s acc.length c) (b : Int) (hx : a.eval x = .slice (some ⟨w0.heap.size, 0, none⟩) 1 1) (hl : acc.length ≤ 1000000) (R : List Int) (hR : acc ++ [b] = R)
  (hK : ∀ s' c' w', SX T E X B k sl cp (lo) (sp) d (rI (.slice s' R.length c') R :: P) Res K w' → wpList Tryz.prog ops Qx rest (a.put o.dst (.slice s' R.length c')) w') :
  wpList Tryz.prog ops Qx (o :: rest) a (w0.alloc (.cells #[.int .i64 b] 3)) := by
 rcases h with ⟨i, v, Q, h1, h2, h3, h4, h5⟩ | ⟨c, a', h1, h2⟩
 ·
  exact wpList_sR1 h5 hg sx x ho hs b hx hl R hR (fun s' c' w' r => hK s' c' w' (Or.inl ⟨i, v, Q, h1, h2, h3, h4, r⟩))
 exact wpList_sD1 h2 hg sx x ho hs b hx hl R hR (fun s' c' w' r => hK s' c' w' (Or.inr ⟨c, a', h1, r⟩))
end Go.Proofs.YtncknfkinmjmdaaGreatDoor
