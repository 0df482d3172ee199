import Derived.Test.YtddlkejinhbpaaaDoorXh
import Derived.Scope
namespace Go
/-- as Q; by a goto to a label: J of it. -/
def Exit.jumps (J : Nat → Act → World → Prop) (Q : Exit → Act → World → Prop) : Exit → Act → World → Prop
  | .goto l, a, w => J l a w
  | e, a, w => Q e a w
section
variable {P : Program} {a : Act} {w : World} {Q : Exit → Act → World → Prop}
/-- a scope in which the run jumps to many labels: what holds at each jump, and a measure that every pass lowers. -/
theorem wp_scope_many {c : Code} (J : Nat → Act → World → Prop) (μ : Nat → Act → World → Nat)
    (first : c.wp P (Exit.jumps J Q) a w)
    (pass : ∀ l a w, J l a w → ∃ rest, findLabel c l = some rest ∧ rest.wp P (Exit.jumps (fun l' a' w' => J l' a' w' ∧ μ l' a' w' < μ l a w) Q) a w) : (Code.scope c).wp P Q a w := by
  intro b k cs
  have key : ∀ n l a w, μ l a w = n → J l a w → ∃ k', gotoIn l (.inScope c :: k) = some k' ∧ ∃ e a' w', Q e a' w' ∧ Arrives P (lone (b.at a k') cs w) b k cs e a' w' := by
    intro n
    induction n using Nat.strongRecOn with
    | _ n ih =>
      intro l a w hn hJ
      obtain ⟨rest, hf, hpass⟩ := pass l a w hJ
      have hg : gotoIn l (.inScope c :: k) = some (.code rest :: .inScope c :: k) := by simp [gotoIn, hf]
      refine ⟨_, hg, ?_⟩
      obtain ⟨e, a₁, w₁, hq, harr⟩ := hpass b (.inScope c :: k) cs
      cases e with
      | normal => exact ⟨.normal, a₁, w₁, hq, Steps.trans harr (.one step_inScope)⟩
      | exit id => exact ⟨.exit id, a₁, w₁, hq, fun k' hk => harr k' (by simp [exitTo, hk])⟩
      | goto l' =>
        obtain ⟨hJ', hlt⟩ := hq
        obtain ⟨k'', hg'', e₂, a₂, w₂, hq₂, harr₂⟩ := ih _ (by omega) l' a₁ w₁ rfl hJ'
        exact ⟨e₂, a₂, w₂, hq₂, .of_steps (harr _ hg'') harr₂⟩
      | ret => exact ⟨_, a₁, w₁, hq, harr⟩
      | panic ch => exact ⟨_, a₁, w₁, hq, harr⟩
      | outgrown => exact ⟨_, a₁, w₁, hq, harr⟩
  obtain ⟨e, a₁, w₁, hq, harr⟩ := first b (.inScope c :: k) cs
  cases e with
  | normal => exact ⟨.normal, a₁, w₁, hq, .head step_scope (Steps.trans harr (.one step_inScope))⟩
  | exit id => exact ⟨.exit id, a₁, w₁, hq, fun k' hk => .head step_scope (harr k' (by simp [exitTo, hk]))⟩
  | goto l' =>
    obtain ⟨k'', hg'', e₂, a₂, w₂, hq₂, harr₂⟩ := key _ l' a₁ w₁ rfl hq
    exact ⟨e₂, a₂, w₂, hq₂, .of_steps (.head step_scope (harr _ hg'')) harr₂⟩
  | ret => exact ⟨_, a₁, w₁, hq, .of_steps (.one step_scope) harr⟩
  | panic ch => exact ⟨_, a₁, w₁, hq, .of_steps (.one step_scope) harr⟩
  | outgrown => exact ⟨_, a₁, w₁, hq, .of_steps (.one step_scope) harr⟩
end
end Go
namespace Go.Proofs.YtddlkejinhbpaaaDoor
open Go.RowKit
set_option linter.unusedVariables false
set_option linter.unusedSimpArgs false

theorem get_by {s : ByteArray} {j : Nat} (h : j < s.size) : (s.get! j).toNat = byA s j := by
  have := get_at s j h
  rw [Nat.add_zero] at this
  rw [this]; exact byA_eq h
/-- a rune's other bytes are no ASCII letters, and lie within the text. -/
theorem decode_span {s : ByteArray} {k : Nat} (hk : k < s.size) : k + (Utf8.decode s k).2 ≤ s.size ∧ ∀ j, k < j → j < k + (Utf8.decode s k).2 → 128 ≤ byA s j := by
  have hc : ∀ i, (decide (k + i < s.size) && (s.get! (k + i)).toNat / 64 == 2) = true → k + i < s.size ∧ 128 ≤ byA s (k + i) := by
    intro i h
    simp only [Bool.and_eq_true, decide_eq_true_eq, beq_iff_eq] at h
    have := get_by h.1
    exact ⟨h.1, by omega⟩
  have one : k + 1 ≤ s.size ∧ ∀ j, k < j → j < k + 1 → 128 ≤ byA s j := ⟨by omega, fun j h1 h2 => absurd h1 (by omega)⟩
  simp only [Utf8.decode]
  split
  · exact one
  · split
    · rename_i h
      simp only [Bool.and_eq_true] at h
      obtain ⟨p1, p2⟩ := hc 1 (by simpa using h.2)
      split
      · refine ⟨(by show k + 2 ≤ s.size; omega), fun j h1 h2 => ?_⟩
        have h2' : j < k + 2 := h2
        obtain rfl : j = k + 1 := by omega
        exact p2
      · exact one
    · split
      · rename_i h
        simp only [Bool.and_eq_true] at h
        obtain ⟨p1, p2⟩ := hc 1 (by simpa using h.1.2)
        obtain ⟨q1, q2⟩ := hc 2 (by simpa using h.2)
        split
        · refine ⟨(by show k + 3 ≤ s.size; omega), fun j h1 h2 => ?_⟩
          have h2' : j < k + 3 := h2
          obtain rfl | rfl : j = k + 1 ∨ j = k + 2 := by omega
          · exact p2
          · exact q2
        · exact one
      · split
        · rename_i h
          simp only [Bool.and_eq_true] at h
          obtain ⟨p1, p2⟩ := hc 1 (by simpa using h.1.1.2)
          obtain ⟨q1, q2⟩ := hc 2 (by simpa using h.1.2)
          obtain ⟨r1, r2⟩ := hc 3 (by simpa using h.2)
          split
          · refine ⟨(by show k + 4 ≤ s.size; omega), fun j h1 h2 => ?_⟩
            have h2' : j < k + 4 := h2
            obtain rfl | rfl | rfl : j = k + 1 ∨ j = k + 2 ∨ j = k + 3 := by omega
            · exact p2
            · exact q2
            · exact r2
          · exact one
        · exact one
theorem decode_pos (s : ByteArray) {k : Nat} (hk : k < s.size) : 1 ≤ (Utf8.decode s k).2 := by
  by_cases ha : (s[k]'hk).toNat < 128
  · rw [decode_ascii s k hk ha]; exact Nat.le_refl _
  · exact (decode_high s k hk (by omega)).2

set_option maxHeartbeats 1000000 in
theorem isInLine_any (c : Nat) (w : World) :
    Calls Tryd.prog 27 #[.int .i32 (c : Int)] w fun e w' => e = .returned (.bool (inLn c)) ∧ w' = w := by
  cases h1 : ((c : Int) != 10)
  all_goals
    have E : Hid (_ = inLn c) := (by unfold Hid inLn; simp at h1; (first | rw [show decide (c = 10) = true by simp; omega] | rw [show decide (c = 10) = false by simp; omega]))
    go_enter Tryd.func27, Tryd.ntmps27
    go_wp2
    go_ret
    exact ⟨ret_bool E.out, rfl⟩
set_option maxHeartbeats 1000000 in
theorem isBlank_any (c : Nat) (w : World) :
    Calls Tryd.prog 22 #[.int .i32 (c : Int)] w fun e w' => e = .returned (.bool (isBl c)) ∧ w' = w := by
  cases h1 : ((c : Int) == 9) <;> cases h2 : ((c : Int) == 10) <;> cases h3 : ((c : Int) == 32)
  all_goals
    have E : Hid ((((c : Int) == 9) || ((c : Int) == 10) || ((c : Int) == 32)) = isBl c) := (by
      show _ = _
      have e1 : ((c : Int) == 9) = decide (c = 9) := by rw [Bool.eq_iff_iff]; simp; omega
      have e2 : ((c : Int) == 10) = decide (c = 10) := by rw [Bool.eq_iff_iff]; simp; omega
      have e3 : ((c : Int) == 32) = decide (c = 32) := by rw [Bool.eq_iff_iff]; simp; omega
      rw [e1, e2, e3]; rfl)
    rw [h1, h2, h3] at E
    go_enter Tryd.func22, Tryd.ntmps22
    go_wp2
    go_ret
    exact ⟨ret_bool E.out, rfl⟩

set_option maxHeartbeats 2000000 in
/-- the rest of a line: runes above ASCII belong to it, too. -/
theorem runOf_line (s : ByteArray) (w : World) :
    Calls Tryd.prog 34 #[.string s, .func (.func 27) #[] #[]] w fun e w' => (∃ b : Nat, e = .returned (.int .i64 (b : Int)) ∧ RunP inLn s b) ∧ Below w.heap.size w w' := by
  go_enter Tryd.func34, Tryd.ntmps34
  go_wp2_with fail
  go_loopw [] (fun wr => ∃ k : Nat, k ≤ s.size ∧ wr = w.iter s k ∧ Hid (∀ j, j < k → inLn (byA s j) = true)) (fun wr => s.size - wr.iterPos w.heap.size)
  case atStart => exact ⟨0, Nat.zero_le _, rfl, fun j hj => absurd hj (by omega)⟩
  case round =>
    obtain ⟨k, hk, rfl, hall⟩ := hrel
    by_cases hlt : k < s.size
    · have hnx := fun ty => run_next_any (P := Tryd.prog) w s k ty hlt
      have hsp := decode_span hlt
      have hps := decode_pos s hlt
      have hin : inLn (Utf8.decode s k).1 = inLn (byA s k) := by
        by_cases ha : (s[k]'hlt).toNat < 128
        · rw [decode_ascii s k hlt ha, byA_eq hlt]
        · have hh := (decode_high s k hlt (by omega)).1
          rw [← byA_eq hlt]
          unfold inLn
          rw [show decide ((Utf8.decode s k).1 = 10) = false by simp; omega, show decide ((s[k]'hlt).toNat = 10) = false by simp; omega]
      obtain ⟨c, hc⟩ : ∃ c, (Utf8.decode s k).1 = c := ⟨_, rfl⟩
      obtain ⟨d, hd⟩ : ∃ d, (Utf8.decode s k).2 = d := ⟨_, rfl⟩
      rw [hc] at hin
      rw [hd] at hsp hps
      simp only [hc, hd] at hnx
      have HSP : Hid (∀ j, k < j → j < k + d → 128 ≤ byA s j) := hsp.2
      have hkd := hsp.1
      clear hc hd hsp
      cases hb : inLn (byA s k)
      · rw [hb] at hin
        go_wp2_with fail
        refine (isInLine_any c _).mono ?_
        rintro e w' ⟨rfl, rfl⟩
        rw [hin]
        go_wp2_with fail
        go_ret
        exact ⟨⟨k, rfl, hk, hall.out, fun _ => hb⟩, bl_alloc (Below.refl _ _) _⟩
      · have hs' : Hid (∀ j, j < k + d → inLn (byA s j) = true) := by
          intro j hj
          by_cases h : j < k
          · exact hall.out j h
          · by_cases h2 : j = k
            · subst h2; exact hb
            · have := HSP.out j (by omega) hj
              unfold inLn
              rw [show decide (byA s j = 10) = false by simp; omega]; rfl
        rw [hb] at hin
        go_wp2_with fail
        refine (isInLine_any c _).mono ?_
        rintro e w' ⟨rfl, rfl⟩
        rw [hin]
        go_wp2_with fail
        go_roundw
        case rel => exact ⟨k + d, by omega, rfl, hs'⟩
        case measure => simp; omega
    · have hnx := fun ty => run_next_end (P := Tryd.prog) w s k ty hlt
      go_wp2_with fail
      go_ret
      exact ⟨⟨s.size, rfl, Nat.le_refl _, fun j hj => hall.out j (by omega), fun h => absurd h (by omega)⟩, bl_alloc (Below.refl _ _) _⟩

/-- a run in the rest of a text. -/
theorem run_rest {p : Nat → Bool} {s : ByteArray} {k b : Nat} (hk : k ≤ s.size) (h : RunP p (s.extract k s.size) b) : runE p s k = k + b := by
  obtain ⟨h1, h2, h3⟩ := h
  have sz : (s.extract k s.size).size = s.size - k := size_extract' (Nat.le_refl _)
  rw [sz] at h1 h3
  refine runE_eq (by omega) (fun hh => ?_) b k rfl (fun j h4 h5 => ?_)
  · have := h3 (by omega)
    rw [byA_extract (by omega) (Nat.le_refl _)] at this
    exact this
  · have := h2 (j - k) (by omega)
    rw [byA_extract (by omega) (Nat.le_refl _), show k + (j - k) = j by omega] at this
    exact this
theorem slice_from (s : ByteArray) {i : Nat} (hi : i ≤ s.size) (W : World) : (Instr.slice 9 (.string s) (some (.int .i64 (i : Int))) none none).run Tryd.prog W = .ok (.string (s.extract i s.size)) W := by
  rw [run_slice_string_from_if W 9 s .i64 _ Tryd.underlying9, if_pos ⟨by omega, by omega⟩]
  simp

set_option maxHeartbeats 2000000 in
theorem behind_any (p : Nat → Bool) (f : FuncId) (hf : ∀ (t : ByteArray) (w : World), Calls Tryd.prog 34 #[.string t, .func (.func f) #[] #[]] w fun e w' => (∃ b : Nat, e = .returned (.int .i64 (b : Int)) ∧ RunP p t b) ∧ Below w.heap.size w w') (sb : Nat) (s : ByteArray) (v1 v2 v3 : Value) (k : Nat) (hk : k ≤ s.size) (hs : s.size ≤ 4000) (w : World) (hK : Blk w sb #[.string s, v1, v2, v3] 37) :
    Calls Tryd.prog 21 #[.pointer (some ⟨sb, 0, none⟩), .int .i64 (k : Int), .func (.func f) #[] #[]] w fun e w' => e = .returned (.int .i64 (runE p s k : Nat)) ∧ Below w.heap.size w w' := by
  obtain ⟨x0, x1, x2, x3, x4⟩ := hK.four'
  have hsl := slice_from s hk
  obtain ⟨T, hT⟩ : ∃ T, Hid (s.extract k s.size = T) := ⟨_, (rfl : s.extract k s.size = s.extract k s.size)⟩
  rw [hT.out] at hsl
  go_enter Tryd.func21, Tryd.ntmps21
  go_wp2_with fail
  try rw [hT.out]
  refine (hf T _).mono ?_
  rintro e w1 ⟨⟨b, rfl, hr⟩, hb1⟩
  have E : Hid (runE p s k = k + b) := run_rest hk (by rw [hT.out]; exact hr)
  have hbs : k + b ≤ s.size := by rw [← E.out]; exact runE_le hk
  have t1 : IntKind.i64.wrap ((k : Int) + (b : Int)) = (k : Int) + (b : Int) := by rw [IntKind.wrap_i64]; omega
  clear hr
  go_wp2_with fail
  go_ret
  refine ⟨?_, hb1⟩
  rw [E.out, show ((k + b : Nat) : Int) = (k : Int) + (b : Int) by omega]
  rfl
end Go.Proofs.YtddlkejinhbpaaaDoor
