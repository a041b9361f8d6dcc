/- Numerals: what strconv reads of what it wrote; the numbers that a line may hold. No program is named. -/
import Derived.Lib.AtoiAll
import Derived.Lib.ItoaNum
namespace Go.Proofs.YtecdmafhjfnloaaGreatDoor
open Go
set_option linter.unusedVariables false

/-- A digit. -/
def dig (c : UInt8) : Bool := decide (48 ≤ c.toNat ∧ c.toNat ≤ 57)
/-- What digits spell, behind what stands ahead. -/
@[irreducible] def d1 (acc : Nat) (c : UInt8) : Nat := acc * 10 + (c.toNat - 48)
theorem d1_eq (acc : Nat) (c : UInt8) : d1 acc c = acc * 10 + (c.toNat - 48) := by unfold d1; exact Eq.refl _
def dval (acc : Nat) : List UInt8 → Nat
  | [] => acc
  | c :: r => dval (d1 acc c) r
theorem dval_app (l : List UInt8) : ∀ (acc : Nat) (c : UInt8), dval acc (l ++ [c]) = dval acc l * 10 + (c.toNat - 48) := by
  induction l with
  | nil => intro acc c; rw [← d1_eq]; rfl
  | cons x l ih => intro acc c; exact ih (d1 acc x) c
theorem dval_ge : ∀ (l : List UInt8) (acc : Nat), acc ≤ dval acc l
  | [], _ => Nat.le_refl _
  | c :: l, acc => by
    have := dval_ge l (d1 acc c)
    rw [d1_eq] at this
    simp only [dval, d1_eq]; omega
theorem dval_lt : ∀ (l : List UInt8) (acc : Nat), l.all dig = true → dval acc l < (acc + 1) * 10 ^ l.length
  | [], _, _ => by simp [dval]
  | c :: l, acc, h => by
    simp only [List.all_cons, Bool.and_eq_true] at h
    have hc := h.1
    simp only [dig, decide_eq_true_eq] at hc
    have := dval_lt l (d1 acc c) h.2
    rw [d1_eq] at this
    simp only [dval, d1_eq, List.length_cons, Nat.pow_succ]
    have h2 : (acc * 10 + (c.toNat - 48) + 1) * 10 ^ l.length ≤ ((acc + 1) * 10) * 10 ^ l.length := Nat.mul_le_mul_right _ (by omega)
    have h3 : (acc + 1) * 10 * 10 ^ l.length = (acc + 1) * (10 ^ l.length * 10) := by rw [Nat.mul_assoc, Nat.mul_comm 10]
    omega
theorem parse_dig : ∀ (l : List UInt8) (acc : Nat), l.all dig = true → dval acc l < 18446744073709551616 → Lib.parseUint10 acc l = .ok (dval acc l)
  | [], _, _, _ => rfl
  | c :: l, acc, h, hb => by
    simp only [List.all_cons, Bool.and_eq_true] at h
    have hc := h.1
    simp only [dig, decide_eq_true_eq] at hc
    have hg := dval_ge l (d1 acc c)
    rw [d1_eq] at hg
    simp only [dval, d1_eq] at hb ⊢
    simp only [Lib.parseUint10]
    rw [if_pos hc, if_neg (by omega), if_neg (by omega)]
    exact parse_dig l _ h.2 hb
theorem dec_small {u : Nat} (h : u < 10) : Lib.decDigits u = [UInt8.ofNat (48 + u)] := by rw [Lib.decDigits, dif_pos h]
theorem dec_big {u : Nat} (h : ¬ u < 10) : Lib.decDigits u = Lib.decDigits (u / 10) ++ [UInt8.ofNat (48 + u % 10)] := by rw [Lib.decDigits, dif_neg h]
theorem ofNat_toNat {u : Nat} (h : u < 10) : (UInt8.ofNat (48 + u)).toNat = 48 + u := by
  rw [UInt8.toNat_ofNat']; omega
theorem dec_dig (u : Nat) : (Lib.decDigits u).all dig = true := by
  induction u using Nat.strongRecOn with
  | _ u ih =>
    by_cases h : u < 10
    · rw [dec_small h]; simp [dig]; omega
    · rw [dec_big h]
      have h2 : u % 10 < 10 := by omega
      simp only [List.all_append, ih (u / 10) (by omega), List.all_cons, List.all_nil, Bool.and_true, Bool.true_and]
      simp [dig]; omega
theorem dec_val (u : Nat) : dval 0 (Lib.decDigits u) = u := by
  induction u using Nat.strongRecOn with
  | _ u ih =>
    by_cases h : u < 10
    · rw [dec_small h]; simp [dval, d1_eq]; omega
    · have h2 : u % 10 < 10 := by omega
      rw [dec_big h, dval_app, ih (u / 10) (by omega), ofNat_toNat h2]; omega
theorem dec_ne (u : Nat) : Lib.decDigits u ≠ [] := by
  by_cases h : u < 10
  · rw [dec_small h]; simp
  · rw [dec_big h]; simp
theorem dec_len : ∀ (k u : Nat), u < 10 ^ (k + 1) → (Lib.decDigits u).length ≤ k + 1
  | 0, u, h => by rw [dec_small (by simpa using h)]; simp
  | k + 1, u, h => by
    by_cases h2 : u < 10
    · rw [dec_small h2]; simp
    · rw [dec_big h2]
      rw [Nat.pow_succ] at h
      have := dec_len k (u / 10) (by omega)
      simp; omega
theorem dec_head {u : Nat} : ∃ c r, Lib.decDigits u = c :: r ∧ 48 ≤ c.toNat ∧ c.toNat ≤ 57 := by
  cases h : Lib.decDigits u with
  | nil => exact absurd h (dec_ne u)
  | cons c r =>
    have := dec_dig u
    rw [h] at this
    simp only [List.all_cons, Bool.and_eq_true, dig, decide_eq_true_eq] at this
    exact ⟨c, r, rfl, this.1⟩
theorem itoa_pos {n : Int} (h : 0 ≤ n) : Lib.itoa n = Lib.decDigits n.toNat := by unfold Lib.itoa; rw [if_neg (by omega)]
theorem itoa_neg {n : Int} (h : n < 0) : Lib.itoa n = 45 :: Lib.decDigits n.natAbs := by unfold Lib.itoa; rw [if_pos h]
theorem atoi_itoa (n : Int) (h0 : -9223372036854775808 ≤ n) (h1 : n ≤ 9223372036854775807) : Lib.atoiAll (Lib.itoa n) = .ok n := by
  by_cases h : n < 0
  · rw [itoa_neg h]
    have e : Lib.parseMag (Lib.decDigits n.natAbs) = .ok n.natAbs := by
      unfold Lib.parseMag
      rw [if_neg (dec_ne _), parse_dig _ _ (dec_dig _) (by rw [dec_val]; omega), dec_val]
    simp only [Lib.atoiAll, show (45 : UInt8).toNat = 45 from rfl, or_true, if_true, e, not_true, false_and, if_false, true_and]
    rw [if_neg (by omega)]
    congr 1; omega
  · rw [itoa_pos (by omega)]
    obtain ⟨c, r, hc, h48, h57⟩ := @dec_head n.toNat
    have e : Lib.parseMag (Lib.decDigits n.toNat) = .ok n.toNat := by
      unfold Lib.parseMag
      rw [if_neg (dec_ne _), parse_dig _ _ (dec_dig _) (by rw [dec_val]; omega), dec_val]
    rw [hc] at e ⊢
    have n1 : ¬ (c.toNat = 43) := by omega
    have n2 : ¬ (c.toNat = 45) := by omega
    simp only [Lib.atoiAll, n1, n2, or_self, if_false, e, not_false_eq_true, true_and, false_and]
    rw [if_neg (by omega)]
    congr 1; omega
theorem atoi_bd {l : List UInt8} {n : Int} (h : Lib.atoiAll l = .ok n) : -9223372036854775808 ≤ n ∧ n ≤ 9223372036854775807 := by
  cases l with
  | nil => simp [Lib.atoiAll] at h
  | cons c r =>
    simp only [Lib.atoiAll] at h
    split at h
    · cases h
    · cases h
    · split at h
      · cases h
      · split at h
        · cases h
        · injection h with h
          rename_i u _ h1 h2
          by_cases hn : c.toNat = 45
          · simp [hn] at h h2; omega
          · simp [hn] at h h1; omega
/-- The number that a text is, if it is written as numbers are. -/
def canon (l : List UInt8) : Option Int :=
  match Lib.atoiAll l with
  | .ok n => if Lib.itoa n = l then some n else none
  | _ => none
theorem canon_itoa (n : Int) (h0 : -9223372036854775808 ≤ n) (h1 : n ≤ 9223372036854775807) : canon (Lib.itoa n) = some n := by
  unfold canon; rw [atoi_itoa n h0 h1]; simp
theorem canon_some {l : List UInt8} {n : Int} (h : canon l = some n) : Lib.itoa n = l ∧ -9223372036854775808 ≤ n ∧ n ≤ 9223372036854775807 := by
  unfold canon at h
  split at h
  · rename_i m hm
    split at h
    · rename_i e
      injection h with h
      subst h
      exact ⟨e, atoi_bd hm⟩
    · cases h
  · cases h
/-- The same, of at most five digits. -/
def num5 (l : List UInt8) : Option Int :=
  match canon l with
  | some n => if -99999 ≤ n ∧ n ≤ 99999 then some n else none
  | none => none
/-- What stands behind the sign. -/
def mag (l : List UInt8) : List UInt8 := if l.head? = some 45 then l.tail else l
def sgz (l : List UInt8) (u : Nat) : Int := if l.head? = some 45 then -(u : Int) else u
theorem mag_itoa (n : Int) : mag (Lib.itoa n) = Lib.decDigits n.natAbs := by
  by_cases h : n < 0
  · rw [itoa_neg h]; simp [mag]
  · rw [itoa_pos (by omega)]
    obtain ⟨c, r, hc, h48, h57⟩ := @dec_head n.toNat
    have e : n.natAbs = n.toNat := by omega
    rw [e, hc]
    have : ¬ c = 45 := fun e => by rw [e] at h48; simp at h48
    simp [mag, this]
theorem sgz_itoa (n : Int) : sgz (Lib.itoa n) n.natAbs = n := by
  by_cases h : n < 0
  · rw [itoa_neg h]; simp [sgz]; omega
  · rw [itoa_pos (by omega)]
    obtain ⟨c, r, hc, h48, h57⟩ := @dec_head n.toNat
    rw [hc]
    have : ¬ c = 45 := fun e => by rw [e] at h48; simp at h48
    simp [sgz, this]; omega
theorem num5_some {l : List UInt8} {n : Int} (h : num5 l = some n) : canon l = some n ∧ -99999 ≤ n ∧ n ≤ 99999 := by
  unfold num5 at h
  split at h
  · split at h
    · injection h with h; subst h; rename_i e b; exact ⟨e, b⟩
    · cases h
  · cases h
theorem num5_of {l : List UInt8} {n : Int} (h : canon l = some n) (h0 : -99999 ≤ n) (h1 : n ≤ 99999) : num5 l = some n := by
  unfold num5; rw [h]; simp [h0, h1]
theorem num5_none {l : List UInt8} (h : mag l = [] ∨ 5 < (mag l).length ∨ (mag l).all dig = false) : num5 l = none := by
  cases e : num5 l with
  | none => rfl
  | some n =>
    exfalso
    obtain ⟨hc, h0, h1⟩ := num5_some e
    obtain ⟨hi, _⟩ := canon_some hc
    rw [← hi, mag_itoa] at h
    rcases h with h | h | h
    · exact dec_ne _ h
    · have := dec_len 4 n.natAbs (by omega); omega
    · rw [dec_dig] at h; cases h
theorem num5_walk {l : List UInt8} (hl : (mag l).length ≤ 5) (hd : (mag l).all dig = true) :
    num5 l = if Lib.itoa (sgz l (dval 0 (mag l))) = l then some (sgz l (dval 0 (mag l))) else none := by
  have hb := dval_lt (mag l) 0 hd
  have hp : 10 ^ (mag l).length ≤ 10 ^ 5 := Nat.pow_le_pow_right (by decide) hl
  have hb2 : dval 0 (mag l) ≤ 99999 := by omega
  have hs : -99999 ≤ sgz l (dval 0 (mag l)) ∧ sgz l (dval 0 (mag l)) ≤ 99999 := by unfold sgz; split <;> omega
  split
  · rename_i e
    have := canon_itoa (sgz l (dval 0 (mag l))) (by omega) (by omega)
    rw [e] at this
    exact num5_of this hs.1 hs.2
  · rename_i ne
    cases e : num5 l with
    | none => rfl
    | some n =>
      exfalso
      obtain ⟨hc, h0, h1⟩ := num5_some e
      obtain ⟨hi, _⟩ := canon_some hc
      apply ne
      rw [← hi, mag_itoa, dec_val, sgz_itoa]
/-- A numeral has no blank, no colon, and does not begin with a letter. -/
theorem itoa_mem (n : Int) : ∀ c ∈ Lib.itoa n, c = 45 ∨ (48 ≤ c.toNat ∧ c.toNat ≤ 57) := by
  intro c hc
  by_cases h : n < 0
  · rw [itoa_neg h] at hc
    rcases List.mem_cons.1 hc with h | h
    · exact Or.inl h
    · have := List.all_eq_true.1 (dec_dig _) c h
      simp only [dig, decide_eq_true_eq] at this
      exact Or.inr this
  · rw [itoa_pos (by omega)] at hc
    have := List.all_eq_true.1 (dec_dig _) c hc
    simp only [dig, decide_eq_true_eq] at this
    exact Or.inr this
theorem itoa_ne (n : Int) : Lib.itoa n ≠ [] := by
  unfold Lib.itoa; split
  · simp
  · exact dec_ne _
theorem itoa_no (n : Int) (x : UInt8) (h : x ≠ 45 ∧ (x.toNat < 48 ∨ 57 < x.toNat)) : x ∉ Lib.itoa n := by
  intro hx
  rcases itoa_mem n x hx with e | e
  · exact h.1 e
  · omega
theorem itoa_inj {m n : Int} (h : Lib.itoa m = Lib.itoa n) : m = n := by
  have := sgz_itoa m
  have h2 := sgz_itoa n
  have h3 := mag_itoa m
  rw [h, mag_itoa] at h3
  have h4 : n.natAbs = m.natAbs := by rw [← dec_val n.natAbs, h3, dec_val]
  rw [h, ← h4, h2] at this
  exact this.symm
end Go.Proofs.YtecdmafhjfnloaaGreatDoor
