/- Chapter 3, plainly: the model's way of reading an instruction's words (a register that is none is -1, and a number has five digits at most) says the same. -/
import Derived.Test.YtecdmafhjfnloaaGreatDoorTxtRound
namespace Go.Proofs.YtecdmafhjfnloaaGreatDoor
open Go.RowKit
set_option linter.unusedVariables false

def regS (x : List UInt8) : Int := match x with
  | [c0, c1] => if c0 = 114 ∧ 48 ≤ c1.toNat ∧ c1.toNat ≤ 55 then (c1.toNat : Int) - 48 else -1
  | _ => -1
def lastS (k at' : Int) (L : List UInt8 → Option Int) (x : List UInt8) : Option Int := match num5 x with
  | some n => some n
  | none => if k = 5 ∨ k = 6 ∨ k = 7 then labD at' L x else none
def sdV (h : Nat) (k at' : Int) (L : List UInt8 → Option Int) (x : List UInt8) : Option Int := if h = 1 then some (regS x) else lastS k at' L x
def sdTo (k f at' : Int) (L : List UInt8 → Option Int) (ws : List (List UInt8)) : Nat → Option (List Int × List (List UInt8))
  | 0 => some ([0, 0, 0, f, 0], ws)
  | p + 1 => match sdTo k f at' L ws p with
    | none => none
    | some (fs, ws') => if layN k p = 0 ∨ layN k p = 2 then some (fs, ws') else match ws' with
      | [] => none
      | x :: r => match sdV (layN k p) k at' L x with
        | none => none
        | some v => some (fs.set p v, r)
def sdI (i : Nat) (at' : Int) (L : List UInt8 → Option Int) (ws : List (List UInt8)) : Option (List Int) := finI (mk i) (sdTo (mk i) (mf i) at' L ws 5)
theorem dec_one (c : UInt8) (h0 : 48 ≤ c.toNat) (h1 : c.toNat ≤ 57) : Lib.itoa ((c.toNat : Int) - 48) = [c] := by
  rw [itoa_pos (by omega), dec_small (by omega)]
  congr 1
  apply UInt8.toNat_inj.1
  rw [ofNat_toNat (by omega)]
  omega
theorem regS_cases (x : List UInt8) : (∃ v, regI x = some v ∧ regS x = v ∧ 0 ≤ v ∧ v ≤ 7) ∨ (regS x = -1 ∧ ∀ v, regI x = some v → ¬ (0 ≤ v ∧ v ≤ 7)) := by
  by_cases h : ∃ c1 : UInt8, x = [114, c1] ∧ 48 ≤ c1.toNat ∧ c1.toNat ≤ 55
  · obtain ⟨c, rfl, h0, h1⟩ := h
    refine Or.inl ⟨(c.toNat : Int) - 48, ?_, ?_, by omega, by omega⟩
    · have := canon_itoa ((c.toNat : Int) - 48) (by omega) (by omega)
      rw [dec_one c h0 (by omega)] at this
      simpa [regI] using this
    · simp [regS, h0, h1]
  · refine Or.inr ⟨?_, ?_⟩
    · unfold regS
      split
      · rename_i c0 c1
        rw [if_neg]
        rintro ⟨e, h0, h1⟩
        exact h ⟨c1, by rw [e], h0, h1⟩
      · rfl
    · intro v hv hb
      apply h
      unfold regI at hv
      split at hv
      · rename_i h114
        obtain ⟨hi, _⟩ := canon_some hv
        have e1 : Lib.itoa v = [UInt8.ofNat (48 + v.toNat)] := by rw [itoa_pos hb.1, dec_small (by omega)]
        cases x with
        | nil => simp at h114
        | cons c r =>
          simp only [List.head?_cons, Option.some.injEq] at h114
          simp only [List.tail_cons] at hi
          refine ⟨UInt8.ofNat (48 + v.toNat), by rw [h114, ← hi, e1], ?_, ?_⟩ <;> rw [ofNat_toNat (by omega)] <;> omega
      · cases hv
theorem lastS_cases {k at' : Int} {L : List UInt8 → Option Int} (HL : ∀ x t, L x = some t → canon x = none) (x : List UInt8) :
    lastS k at' L x = dist k at' L x ∨ (lastS k at' L x = none ∧ ∀ v, dist k at' L x = some v → v < -99999 ∨ 99999 < v) := by
  cases e : num5 x with
  | some n =>
    obtain ⟨hc, _⟩ := num5_some e
    have hL : L x = none := by
      cases e2 : L x with
      | none => rfl
      | some t => rw [HL _ _ e2] at hc; cases hc
    left
    simp [lastS, e, dist, labD, hL, hc]
  | none =>
    cases hc : canon x with
    | none =>
      left
      simp [lastS, e, dist, hc]
    | some n =>
      right
      have hL : L x = none := by
        cases e2 : L x with
        | none => rfl
        | some t => rw [HL _ _ e2] at hc; cases hc
      refine ⟨by simp [lastS, e, labD, hL], ?_⟩
      intro v hv
      have hv' : v = n := by
        simp [dist, labD, hL, hc] at hv
        exact hv.symm
      subst hv'
      rcases Int.lt_or_le v (-99999) with h1 | h1
      · exact Or.inl h1
      rcases Int.lt_or_le 99999 v with h2 | h2
      · exact Or.inr h2
      · rw [num5_of hc h1 h2] at e; cases e
/-- What is read so far is no instruction. -/
def Doom (k : Int) (p : Nat) (o : Option (List Int × List (List UInt8))) : Prop := ∀ fs r, o = some (fs, r) → ∃ q, q < p ∧ okAt k q (fs.getD q 0) = false
theorem rdTo_len {k f at' : Int} {L : List UInt8 → Option Int} {ws : List (List UInt8)} : ∀ {p : Nat} {fs : List Int} {r : List (List UInt8)}, rdTo k f at' L ws p = some (fs, r) → fs.length = 5
  | 0, fs, r, h => by simp [rdTo] at h; rw [← h.1]; rfl
  | p + 1, fs, r, h => by
    simp only [rdTo] at h
    split at h
    · cases h
    · rename_i fs' ws' e
      have ih := rdTo_len e
      split at h
      · cases h; exact ih
      · split at h
        · cases h
        · split at h
          · cases h
          · cases h; rw [List.length_set]; exact ih
theorem sdTo_len {k f at' : Int} {L : List UInt8 → Option Int} {ws : List (List UInt8)} : ∀ {p : Nat} {fs : List Int} {r : List (List UInt8)}, sdTo k f at' L ws p = some (fs, r) → fs.length = 5
  | 0, fs, r, h => by simp [sdTo] at h; rw [← h.1]; rfl
  | p + 1, fs, r, h => by
    simp only [sdTo] at h
    split at h
    · cases h
    · rename_i fs' ws' e
      have ih := sdTo_len e
      split at h
      · cases h; exact ih
      · split at h
        · cases h
        · split at h
          · cases h
          · cases h; rw [List.length_set]; exact ih
theorem doom_rd {k f at' : Int} {L : List UInt8 → Option Int} {ws : List (List UInt8)} {p : Nat} (h : Doom k p (rdTo k f at' L ws p)) : Doom k (p + 1) (rdTo k f at' L ws (p + 1)) := by
  intro fs r e
  simp only [rdTo] at e
  split at e
  · cases e
  · rename_i fs' ws' e'
    obtain ⟨q, hq, ho⟩ := h _ _ e'
    refine ⟨q, by omega, ?_⟩
    split at e
    · cases e; exact ho
    · split at e
      · cases e
      · split at e
        · cases e
        · cases e
          rw [List.getD_eq_getElem?_getD, List.getElem?_set_ne (by omega), ← List.getD_eq_getElem?_getD]; exact ho
theorem doom_sd {k f at' : Int} {L : List UInt8 → Option Int} {ws : List (List UInt8)} {p : Nat} (h : Doom k p (sdTo k f at' L ws p)) : Doom k (p + 1) (sdTo k f at' L ws (p + 1)) := by
  intro fs r e
  simp only [sdTo] at e
  split at e
  · cases e
  · rename_i fs' ws' e'
    obtain ⟨q, hq, ho⟩ := h _ _ e'
    refine ⟨q, by omega, ?_⟩
    split at e
    · cases e; exact ho
    · split at e
      · cases e
      · split at e
        · cases e
        · cases e
          rw [List.getD_eq_getElem?_getD, List.getElem?_set_ne (by omega), ← List.getD_eq_getElem?_getD]; exact ho
theorem okAt_far {k v : Int} {p : Nat} (hk : 0 ≤ k ∧ k < 16) (hp : p < 5) (h : v < -256 ∨ 511 < v) : okAt k p v = false := by
  cases e : okAt k p v with
  | false => rfl
  | true => have := okAt_bd hk hp e; omega
theorem okAt_noreg {k v : Int} {p : Nat} (h1 : layN k p = 1) (h : ¬ (0 ≤ v ∧ v ≤ 7)) : okAt k p v = false := by
  cases e : okAt k p v with
  | false => rfl
  | true => have := okAt_reg e h1; exact absurd this h
theorem lay_last : ∀ k : Nat, k < 16 → ∀ p, p < 5 → layN (k : Int) p = 3 → k = 14 ∨ k = 15 := by decide
theorem lay_last' {k : Int} {p : Nat} (hk : 0 ≤ k ∧ k < 16) (hp : p < 5) (h : layN k p = 3) : k = 14 ∨ k = 15 := by
  have := lay_last k.toNat (by omega) p hp (by rw [Int.toNat_of_nonneg hk.1]; exact h)
  omega
theorem sd_rel {k f at' : Int} {L : List UInt8 → Option Int} {ws : List (List UInt8)} (hk : 0 ≤ k ∧ k < 16) (HL : ∀ x t, L x = some t → canon x = none) :
    ∀ p, p ≤ 5 → sdTo k f at' L ws p = rdTo k f at' L ws p ∨ (Doom k p (rdTo k f at' L ws p) ∧ Doom k p (sdTo k f at' L ws p))
  | 0, _ => Or.inl rfl
  | p + 1, hp => by
    rcases sd_rel (f := f) (at' := at') (ws := ws) hk HL p (by omega) with ih | ⟨h1, h2⟩
    · simp only [sdTo, rdTo, ih]
      cases e : rdTo k f at' L ws p with
      | none => exact Or.inl rfl
      | some o =>
        obtain ⟨fs, ws'⟩ := o
        have hl := rdTo_len e
        simp only
        by_cases hh : layN k p = 0 ∨ layN k p = 2
        · simp only [hh, if_true]; exact Or.inl trivial
        · simp only [hh, if_false]
          cases ws' with
          | nil => exact Or.inl rfl
          | cons x r =>
            simp only [sdV, rdV]
            have hset : ∀ v, (fs.set p v).getD p 0 = v := fun v => by
              have : p < fs.length := by omega
              simp [List.getD_eq_getElem?_getD, this]
            by_cases h1 : layN k p = 1
            · simp only [h1, if_true]
              rcases regS_cases x with ⟨v, e1, e2, _⟩ | ⟨e1, e2⟩
              · rw [e1, e2]; exact Or.inl rfl
              · right
                constructor
                · intro fs' r' e'
                  split at e'
                  · cases e'
                  · rename_i v hv
                    cases e'
                    exact ⟨p, by omega, by rw [hset]; exact okAt_noreg h1 (e2 v hv)⟩
                · intro fs' r' e'
                  cases e'
                  exact ⟨p, by omega, by rw [hset, e1]; exact okAt_noreg h1 (by omega)⟩
            · simp only [h1, if_false]
              have hd : (if layN k p = 3 then canon x else dist k at' L x) = dist k at' L x := by
                split
                · rename_i h3
                  have := lay_last' hk (by omega) h3
                  unfold dist
                  rw [if_neg (by omega)]
                · rfl
              rw [hd]
              rcases lastS_cases (k := k) (at' := at') HL x with e1 | ⟨e1, e2⟩
              · rw [e1]; exact Or.inl rfl
              · right
                rw [e1]
                constructor
                · intro fs' r' e'
                  split at e'
                  · cases e'
                  · rename_i v hv
                    cases e'
                    have := e2 v hv
                    exact ⟨p, by omega, by rw [hset]; exact okAt_far hk (by omega) (by omega)⟩
                · intro fs' r' e'
                  cases e'
    · exact Or.inr ⟨doom_rd h1, doom_sd h2⟩
theorem doom_no {k : Int} {fs : List Int} {q : Nat} (hq : q < 5) (ho : okAt k q (fs.getD q 0) = false) : iokL k fs = false := by
  cases e : iokL k fs with
  | false => rfl
  | true =>
    obtain ⟨_, h0, h1, h2, h3, h4⟩ := iok_parts e
    have hq' : q = 0 ∨ q = 1 ∨ q = 2 ∨ q = 3 ∨ q = 4 := by omega
    rcases hq' with rfl | rfl | rfl | rfl | rfl <;> simp_all
theorem mk_bd {i : Nat} (h : i < 23) : 0 ≤ mk i ∧ mk i < 16 := by unfold mk; split <;> omega
/-- Both ways say the same. -/
theorem sd_eq {i : Nat} (hi : i < 23) {at' : Int} {L : List UInt8 → Option Int} (HL : ∀ x t, L x = some t → canon x = none) (ws : List (List UInt8)) : sdI i at' L ws = rdI i at' L ws := by
  unfold sdI rdI
  rcases sd_rel (f := mf i) (at' := at') (ws := ws) (mk_bd hi) HL 5 (Nat.le_refl _) with e | ⟨h1, h2⟩
  · rw [e]
  · have g : ∀ o : Option (List Int × List (List UInt8)), Doom (mk i) 5 o → finI (mk i) o = none := by
      intro o ho
      cases o with
      | none => rfl
      | some o =>
        obtain ⟨fs, r⟩ := o
        obtain ⟨q, hq, hf⟩ := ho fs r rfl
        simp only [finI, doom_no hq hf, Bool.false_eq_true, and_false, if_false]
    rw [g _ h1, g _ h2]
end Go.Proofs.YtecdmafhjfnloaaGreatDoor
