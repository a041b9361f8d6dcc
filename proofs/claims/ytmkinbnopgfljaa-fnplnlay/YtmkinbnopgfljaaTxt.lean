/- Numerals: what strconv reads of what it wrote; the numbers that a line may hold. No program is named. Words of a line: cut at each single blank, as strings.Split cuts it and as the model does. No program is named. Chapter 3, plainly: an instruction's text, and what a line's words say. Chapter 3, plainly: what an instruction's text says is the instruction; two instructions have two texts. Chapter 3, plainly: the model's way of reading an instruction's words (a register that is none is -1, and a number has five digits at most) says the same. Chapter 3, plainly: labels, lines, and a text's words. -/
import Derived.Lib.AtoiAll
import Derived.Lib.ItoaNum
import Derived.Lib.SplitLaws
import Derived.Test.YtmkinbnopgfljaaCodOk
namespace Go.Proofs.Ytmkinbnopgfljaa
open Go
set_option linter.unusedVariables false

/-- A digit. -/
def dig (c : UInt8) : Bool := decide (48 ≤ c.toNat ∧ c.toNat ≤ 57)
/-- What digits spell, behind what stands ahead. -/
@[irreducible] def d1 (acc : Nat) (c : UInt8) : Nat := acc * 10 + (c.toNat - 48)
theorem d1_eq (acc : Nat) (c : UInt8) : d1 acc c = acc * 10 + (c.toNat - 48) := by unfold d1; exact Eq.refl _
def dval (acc : Nat) : List UInt8 → Nat
  | [] => acc
  | c :: r => dval (d1 acc c) r
theorem dval_app (l : List UInt8) : ∀ (acc : Nat) (c : UInt8), dval acc (l ++ [c]) = dval acc l * 10 + (c.toNat - 48) := by
  induction l with
  | nil => intro acc c; rw [← d1_eq]; rfl
  | cons x l ih => intro acc c; exact ih (d1 acc x) c
theorem dval_ge : ∀ (l : List UInt8) (acc : Nat), acc ≤ dval acc l
  | [], _ => Nat.le_refl _
  | c :: l, acc => by
    have := dval_ge l (d1 acc c)
    rw [d1_eq] at this
    simp only [dval, d1_eq]; omega
theorem dval_lt : ∀ (l : List UInt8) (acc : Nat), l.all dig = true → dval acc l < (acc + 1) * 10 ^ l.length
  | [], _, _ => by simp [dval]
  | c :: l, acc, h => by
    simp only [List.all_cons, Bool.and_eq_true] at h
    have hc := h.1
    simp only [dig, decide_eq_true_eq] at hc
    have := dval_lt l (d1 acc c) h.2
    rw [d1_eq] at this
    simp only [dval, d1_eq, List.length_cons, Nat.pow_succ]
    have h2 : (acc * 10 + (c.toNat - 48) + 1) * 10 ^ l.length ≤ ((acc + 1) * 10) * 10 ^ l.length := Nat.mul_le_mul_right _ (by omega)
    have h3 : (acc + 1) * 10 * 10 ^ l.length = (acc + 1) * (10 ^ l.length * 10) := by rw [Nat.mul_assoc, Nat.mul_comm 10]
    omega
theorem parse_dig : ∀ (l : List UInt8) (acc : Nat), l.all dig = true → dval acc l < 18446744073709551616 → Lib.parseUint10 acc l = .ok (dval acc l)
  | [], _, _, _ => rfl
  | c :: l, acc, h, hb => by
    simp only [List.all_cons, Bool.and_eq_true] at h
    have hc := h.1
    simp only [dig, decide_eq_true_eq] at hc
    have hg := dval_ge l (d1 acc c)
    rw [d1_eq] at hg
    simp only [dval, d1_eq] at hb ⊢
    simp only [Lib.parseUint10]
    rw [if_pos hc, if_neg (by omega), if_neg (by omega)]
    exact parse_dig l _ h.2 hb
theorem dec_small {u : Nat} (h : u < 10) : Lib.decDigits u = [UInt8.ofNat (48 + u)] := by rw [Lib.decDigits, dif_pos h]
theorem dec_big {u : Nat} (h : ¬ u < 10) : Lib.decDigits u = Lib.decDigits (u / 10) ++ [UInt8.ofNat (48 + u % 10)] := by rw [Lib.decDigits, dif_neg h]
theorem ofNat_toNat {u : Nat} (h : u < 10) : (UInt8.ofNat (48 + u)).toNat = 48 + u := by
  rw [UInt8.toNat_ofNat']; omega
theorem dec_dig (u : Nat) : (Lib.decDigits u).all dig = true := by
  induction u using Nat.strongRecOn with
  | _ u ih =>
    by_cases h : u < 10
    · rw [dec_small h]; simp [dig]; omega
    · rw [dec_big h]
      have h2 : u % 10 < 10 := by omega
      simp only [List.all_append, ih (u / 10) (by omega), List.all_cons, List.all_nil, Bool.and_true, Bool.true_and]
      simp [dig]; omega
theorem dec_val (u : Nat) : dval 0 (Lib.decDigits u) = u := by
  induction u using Nat.strongRecOn with
  | _ u ih =>
    by_cases h : u < 10
    · rw [dec_small h]; simp [dval, d1_eq]; omega
    · have h2 : u % 10 < 10 := by omega
      rw [dec_big h, dval_app, ih (u / 10) (by omega), ofNat_toNat h2]; omega
theorem dec_ne (u : Nat) : Lib.decDigits u ≠ [] := by
  by_cases h : u < 10
  · rw [dec_small h]; simp
  · rw [dec_big h]; simp
theorem dec_len : ∀ (k u : Nat), u < 10 ^ (k + 1) → (Lib.decDigits u).length ≤ k + 1
  | 0, u, h => by rw [dec_small (by simpa using h)]; simp
  | k + 1, u, h => by
    by_cases h2 : u < 10
    · rw [dec_small h2]; simp
    · rw [dec_big h2]
      rw [Nat.pow_succ] at h
      have := dec_len k (u / 10) (by omega)
      simp; omega
theorem dec_head {u : Nat} : ∃ c r, Lib.decDigits u = c :: r ∧ 48 ≤ c.toNat ∧ c.toNat ≤ 57 := by
  cases h : Lib.decDigits u with
  | nil => exact absurd h (dec_ne u)
  | cons c r =>
    have := dec_dig u
    rw [h] at this
    simp only [List.all_cons, Bool.and_eq_true, dig, decide_eq_true_eq] at this
    exact ⟨c, r, rfl, this.1⟩
theorem itoa_pos {n : Int} (h : 0 ≤ n) : Lib.itoa n = Lib.decDigits n.toNat := by unfold Lib.itoa; rw [if_neg (by omega)]
theorem itoa_neg {n : Int} (h : n < 0) : Lib.itoa n = 45 :: Lib.decDigits n.natAbs := by unfold Lib.itoa; rw [if_pos h]
theorem atoi_itoa (n : Int) (h0 : -9223372036854775808 ≤ n) (h1 : n ≤ 9223372036854775807) : Lib.atoiAll (Lib.itoa n) = .ok n := by
  by_cases h : n < 0
  · rw [itoa_neg h]
    have e : Lib.parseMag (Lib.decDigits n.natAbs) = .ok n.natAbs := by
      unfold Lib.parseMag
      rw [if_neg (dec_ne _), parse_dig _ _ (dec_dig _) (by rw [dec_val]; omega), dec_val]
    simp only [Lib.atoiAll, show (45 : UInt8).toNat = 45 from rfl, or_true, if_true, e, not_true, false_and, if_false, true_and]
    rw [if_neg (by omega)]
    congr 1; omega
  · rw [itoa_pos (by omega)]
    obtain ⟨c, r, hc, h48, h57⟩ := @dec_head n.toNat
    have e : Lib.parseMag (Lib.decDigits n.toNat) = .ok n.toNat := by
      unfold Lib.parseMag
      rw [if_neg (dec_ne _), parse_dig _ _ (dec_dig _) (by rw [dec_val]; omega), dec_val]
    rw [hc] at e ⊢
    have n1 : ¬ (c.toNat = 43) := by omega
    have n2 : ¬ (c.toNat = 45) := by omega
    simp only [Lib.atoiAll, n1, n2, or_self, if_false, e, not_false_eq_true, true_and, false_and]
    rw [if_neg (by omega)]
    congr 1; omega
theorem atoi_bd {l : List UInt8} {n : Int} (h : Lib.atoiAll l = .ok n) : -9223372036854775808 ≤ n ∧ n ≤ 9223372036854775807 := by
  cases l with
  | nil => simp [Lib.atoiAll] at h
  | cons c r =>
    simp only [Lib.atoiAll] at h
    split at h
    · cases h
    · cases h
    · split at h
      · cases h
      · split at h
        · cases h
        · injection h with h
          rename_i u _ h1 h2
          by_cases hn : c.toNat = 45
          · simp [hn] at h h2; omega
          · simp [hn] at h h1; omega
/-- The number that a text is, if it is written as numbers are. -/
def canon (l : List UInt8) : Option Int :=
  match Lib.atoiAll l with
  | .ok n => if Lib.itoa n = l then some n else none
  | _ => none
theorem canon_itoa (n : Int) (h0 : -9223372036854775808 ≤ n) (h1 : n ≤ 9223372036854775807) : canon (Lib.itoa n) = some n := by
  unfold canon; rw [atoi_itoa n h0 h1]; simp
theorem canon_some {l : List UInt8} {n : Int} (h : canon l = some n) : Lib.itoa n = l ∧ -9223372036854775808 ≤ n ∧ n ≤ 9223372036854775807 := by
  unfold canon at h
  split at h
  · rename_i m hm
    split at h
    · rename_i e
      injection h with h
      subst h
      exact ⟨e, atoi_bd hm⟩
    · cases h
  · cases h
/-- The same, of at most five digits. -/
def num5 (l : List UInt8) : Option Int :=
  match canon l with
  | some n => if -99999 ≤ n ∧ n ≤ 99999 then some n else none
  | none => none
/-- What stands behind the sign. -/
def mag (l : List UInt8) : List UInt8 := if l.head? = some 45 then l.tail else l
def sgz (l : List UInt8) (u : Nat) : Int := if l.head? = some 45 then -(u : Int) else u
theorem mag_itoa (n : Int) : mag (Lib.itoa n) = Lib.decDigits n.natAbs := by
  by_cases h : n < 0
  · rw [itoa_neg h]; simp [mag]
  · rw [itoa_pos (by omega)]
    obtain ⟨c, r, hc, h48, h57⟩ := @dec_head n.toNat
    have e : n.natAbs = n.toNat := by omega
    rw [e, hc]
    have : ¬ c = 45 := fun e => by rw [e] at h48; simp at h48
    simp [mag, this]
theorem sgz_itoa (n : Int) : sgz (Lib.itoa n) n.natAbs = n := by
  by_cases h : n < 0
  · rw [itoa_neg h]; simp [sgz]; omega
  · rw [itoa_pos (by omega)]
    obtain ⟨c, r, hc, h48, h57⟩ := @dec_head n.toNat
    rw [hc]
    have : ¬ c = 45 := fun e => by rw [e] at h48; simp at h48
    simp [sgz, this]; omega
theorem num5_some {l : List UInt8} {n : Int} (h : num5 l = some n) : canon l = some n ∧ -99999 ≤ n ∧ n ≤ 99999 := by
  unfold num5 at h
  split at h
  · split at h
    · injection h with h; subst h; rename_i e b; exact ⟨e, b⟩
    · cases h
  · cases h
theorem num5_of {l : List UInt8} {n : Int} (h : canon l = some n) (h0 : -99999 ≤ n) (h1 : n ≤ 99999) : num5 l = some n := by
  unfold num5; rw [h]; simp [h0, h1]
theorem num5_none {l : List UInt8} (h : mag l = [] ∨ 5 < (mag l).length ∨ (mag l).all dig = false) : num5 l = none := by
  cases e : num5 l with
  | none => rfl
  | some n =>
    exfalso
    obtain ⟨hc, h0, h1⟩ := num5_some e
    obtain ⟨hi, _⟩ := canon_some hc
    rw [← hi, mag_itoa] at h
    rcases h with h | h | h
    · exact dec_ne _ h
    · have := dec_len 4 n.natAbs (by omega); omega
    · rw [dec_dig] at h; cases h
theorem num5_walk {l : List UInt8} (hl : (mag l).length ≤ 5) (hd : (mag l).all dig = true) :
    num5 l = if Lib.itoa (sgz l (dval 0 (mag l))) = l then some (sgz l (dval 0 (mag l))) else none := by
  have hb := dval_lt (mag l) 0 hd
  have hp : 10 ^ (mag l).length ≤ 10 ^ 5 := Nat.pow_le_pow_right (by decide) hl
  have hb2 : dval 0 (mag l) ≤ 99999 := by omega
  have hs : -99999 ≤ sgz l (dval 0 (mag l)) ∧ sgz l (dval 0 (mag l)) ≤ 99999 := by unfold sgz; split <;> omega
  split
  · rename_i e
    have := canon_itoa (sgz l (dval 0 (mag l))) (by omega) (by omega)
    rw [e] at this
    exact num5_of this hs.1 hs.2
  · rename_i ne
    cases e : num5 l with
    | none => rfl
    | some n =>
      exfalso
      obtain ⟨hc, h0, h1⟩ := num5_some e
      obtain ⟨hi, _⟩ := canon_some hc
      apply ne
      rw [← hi, mag_itoa, dec_val, sgz_itoa]
/-- A numeral has no blank, no colon, and does not begin with a letter. -/
theorem itoa_mem (n : Int) : ∀ c ∈ Lib.itoa n, c = 45 ∨ (48 ≤ c.toNat ∧ c.toNat ≤ 57) := by
  intro c hc
  by_cases h : n < 0
  · rw [itoa_neg h] at hc
    rcases List.mem_cons.1 hc with h | h
    · exact Or.inl h
    · have := List.all_eq_true.1 (dec_dig _) c h
      simp only [dig, decide_eq_true_eq] at this
      exact Or.inr this
  · rw [itoa_pos (by omega)] at hc
    have := List.all_eq_true.1 (dec_dig _) c hc
    simp only [dig, decide_eq_true_eq] at this
    exact Or.inr this
open Go
/-- The words of a line. -/
def sp : List UInt8 → List (List UInt8)
  | [] => [[]]
  | c :: r => if c = 32 then [] :: sp r else match sp r with
    | h :: t => (c :: h) :: t
    | [] => [[c]]
theorem sp_ne : ∀ l, sp l ≠ []
  | [] => by simp [sp]
  | c :: r => by
    unfold sp
    split
    · simp
    · split <;> simp
/-- What stands ahead of the first word. -/
def ahead (w : List UInt8) (l : List (List UInt8)) : List (List UInt8) := match l with
  | h :: t => (w ++ h) :: t
  | [] => [w]
theorem ahead_nil (l : List UInt8) : ahead [] (sp l) = sp l := by
  cases h : sp l with
  | nil => exact absurd h (sp_ne l)
  | cons a t => simp [ahead]
theorem sp_blank (r : List UInt8) : sp (32 :: r) = [] :: sp r := by simp [sp]
theorem sp_char {c : UInt8} (h : ¬ c = 32) (r : List UInt8) : sp (c :: r) = ahead [c] (sp r) := by
  rw [sp, if_neg h]
  cases e : sp r with
  | nil => rfl
  | cons a t => rfl
theorem ahead_blank (w r : List UInt8) : ahead w (sp (32 :: r)) = w :: sp r := by rw [sp_blank]; simp [ahead]
theorem ahead_char {c : UInt8} (h : ¬ c = 32) (w r : List UInt8) : ahead w (sp (c :: r)) = ahead (w ++ [c]) (sp r) := by
  rw [sp_char h]
  cases e : sp r with
  | nil => simp [ahead]
  | cons a t => simp [ahead]
/-- The words of instructions: those of what is done with two words first, then by their kinds. -/
def nmL : List (List UInt8) := [[97, 100, 100], [115, 117, 98], [97, 110, 100], [111, 114], [120, 111, 114], [108, 101, 115, 115], [115, 104, 108], [115, 104, 114], [97, 100, 100, 105], [108, 117, 105], [108, 111, 97, 100], [115, 97, 118, 101], [101, 113], [108, 116], [106, 117, 109, 112], [99, 97, 108, 108], [109, 117, 108], [115, 119, 97, 112], [119, 97, 105, 116], [115, 121, 115], [98, 97, 99, 107], [103, 101, 116], [115, 101, 116]]
def nmI (k f : Int) : Nat := if k = 0 then f.toNat else k.toNat + 7
def nm (k f : Int) : List UInt8 := nmL.getD (nmI k f) []
/-- Which word of an instruction a text is. -/
def kindOf (w : List UInt8) : Option Nat := nmL.findIdx? (fun x => x == w)
def mk (i : Nat) : Int := if i < 8 then 0 else (i : Int) - 7
def mf (i : Nat) : Int := if i < 8 then (i : Int) else 0
def regI (x : List UInt8) : Option Int := if x.head? = some 114 then canon x.tail else none
/-- How far a label is from behind a place. -/
def labD (at' : Int) (L : List UInt8 → Option Int) (x : List UInt8) : Option Int := (L x).map (fun t => t - at' - 1)
def dist (k at' : Int) (L : List UInt8 → Option Int) (x : List UInt8) : Option Int :=
  if k = 5 ∨ k = 6 ∨ k = 7 then (labD at' L x).or (canon x) else canon x
def rdV (h : Nat) (k at' : Int) (L : List UInt8 → Option Int) (x : List UInt8) : Option Int := if h = 1 then regI x else if h = 3 then canon x else dist k at' L x
def rdTo (k f at' : Int) (L : List UInt8 → Option Int) (ws : List (List UInt8)) : Nat → Option (List Int × List (List UInt8))
  | 0 => some ([0, 0, 0, f, 0], ws)
  | p + 1 => match rdTo k f at' L ws p with
    | none => none
    | some (fs, ws') => if layN k p = 0 ∨ layN k p = 2 then some (fs, ws') else match ws' with
      | [] => none
      | x :: r => match rdV (layN k p) k at' L x with
        | none => none
        | some v => some (fs.set p v, r)
def iokL (k : Int) (fs : List Int) : Bool := iok k (fs.getD 0 0) (fs.getD 1 0) (fs.getD 2 0) (fs.getD 3 0) (fs.getD 4 0)
def finI (k : Int) : Option (List Int × List (List UInt8)) → Option (List Int)
  | none => none
  | some (fs, r) => if r = [] ∧ iokL k fs = true then some fs else none
def rdI (i : Nat) (at' : Int) (L : List UInt8 → Option Int) (ws : List (List UInt8)) : Option (List Int) := finI (mk i) (rdTo (mk i) (mf i) at' L ws 5)
/-- The instruction that words say: its kind, and its fields. -/
def rd (at' : Int) (L : List UInt8 → Option Int) (ws : List (List UInt8)) : Option (Int × List Int) :=
  match ws with
  | [] => none
  | w :: r => match kindOf w with
    | none => none
    | some i => match rdI i at' L r with
      | none => none
      | some fs => some (mk i, fs)

theorem kindOf_nm : ∀ i, i < 23 → kindOf (nmL.getD i []) = some i := by decide
theorem enc_bd : ∀ m, m < 7 → -256 ≤ eL m ∧ eG m ≤ 511 := by decide
theorem iok_parts {k d a b f n : Int} (h : iok k d a b f n = true) : (0 ≤ k ∧ k < 16) ∧ okAt k 0 d = true ∧ okAt k 1 a = true ∧ okAt k 2 b = true ∧ okAt k 3 f = true ∧ okAt k 4 n = true := by
  simp only [iok, Bool.and_eq_true, decide_eq_true_eq] at h
  exact ⟨h.1, h.2.1, h.2.2.1, h.2.2.2.1, h.2.2.2.2.1, h.2.2.2.2.2⟩
theorem okAt_bd {k v : Int} {p : Nat} (hk : 0 ≤ k ∧ k < 16) (hp : p < 5) (h : okAt k p v = true) : -256 ≤ v ∧ v ≤ 511 := by
  simp only [okAt, decide_eq_true_eq] at h
  have := enc_bd _ (layN_lt k p hk hp)
  omega
/-- The words of a field. -/
def args (h : Nat) (v : Int) : List (List UInt8) := if h = 0 ∨ h = 2 then [] else if h = 1 then [114 :: Lib.itoa v] else [Lib.itoa v]
theorem okAt_reg {k v : Int} {p : Nat} (h : okAt k p v = true) (h1 : layN k p = 1) : 0 ≤ v ∧ v ≤ 7 := by
  simp only [okAt, decide_eq_true_eq, h1] at h
  have e1 : eL 1 = 0 := rfl
  have e2 : eG 1 = 7 := rfl
  omega
def regS (x : List UInt8) : Int := match x with
  | [c0, c1] => if c0 = 114 ∧ 48 ≤ c1.toNat ∧ c1.toNat ≤ 55 then (c1.toNat : Int) - 48 else -1
  | _ => -1
def lastS (k at' : Int) (L : List UInt8 → Option Int) (x : List UInt8) : Option Int := match num5 x with
  | some n => some n
  | none => if k = 5 ∨ k = 6 ∨ k = 7 then labD at' L x else none
def sdV (h : Nat) (k at' : Int) (L : List UInt8 → Option Int) (x : List UInt8) : Option Int := if h = 1 then some (regS x) else lastS k at' L x
def sdTo (k f at' : Int) (L : List UInt8 → Option Int) (ws : List (List UInt8)) : Nat → Option (List Int × List (List UInt8))
  | 0 => some ([0, 0, 0, f, 0], ws)
  | p + 1 => match sdTo k f at' L ws p with
    | none => none
    | some (fs, ws') => if layN k p = 0 ∨ layN k p = 2 then some (fs, ws') else match ws' with
      | [] => none
      | x :: r => match sdV (layN k p) k at' L x with
        | none => none
        | some v => some (fs.set p v, r)
def sdI (i : Nat) (at' : Int) (L : List UInt8 → Option Int) (ws : List (List UInt8)) : Option (List Int) := finI (mk i) (sdTo (mk i) (mf i) at' L ws 5)
theorem dec_one (c : UInt8) (h0 : 48 ≤ c.toNat) (h1 : c.toNat ≤ 57) : Lib.itoa ((c.toNat : Int) - 48) = [c] := by
  rw [itoa_pos (by omega), dec_small (by omega)]
  congr 1
  apply UInt8.toNat_inj.1
  rw [ofNat_toNat (by omega)]
  omega
theorem regS_cases (x : List UInt8) : (∃ v, regI x = some v ∧ regS x = v ∧ 0 ≤ v ∧ v ≤ 7) ∨ (regS x = -1 ∧ ∀ v, regI x = some v → ¬ (0 ≤ v ∧ v ≤ 7)) := by
  by_cases h : ∃ c1 : UInt8, x = [114, c1] ∧ 48 ≤ c1.toNat ∧ c1.toNat ≤ 55
  · obtain ⟨c, rfl, h0, h1⟩ := h
    refine Or.inl ⟨(c.toNat : Int) - 48, ?_, ?_, by omega, by omega⟩
    · have := canon_itoa ((c.toNat : Int) - 48) (by omega) (by omega)
      rw [dec_one c h0 (by omega)] at this
      simpa [regI] using this
    · simp [regS, h0, h1]
  · refine Or.inr ⟨?_, ?_⟩
    · unfold regS
      split
      · rename_i c0 c1
        rw [if_neg]
        rintro ⟨e, h0, h1⟩
        exact h ⟨c1, by rw [e], h0, h1⟩
      · rfl
    · intro v hv hb
      apply h
      unfold regI at hv
      split at hv
      · rename_i h114
        obtain ⟨hi, _⟩ := canon_some hv
        have e1 : Lib.itoa v = [UInt8.ofNat (48 + v.toNat)] := by rw [itoa_pos hb.1, dec_small (by omega)]
        cases x with
        | nil => simp at h114
        | cons c r =>
          simp only [List.head?_cons, Option.some.injEq] at h114
          simp only [List.tail_cons] at hi
          refine ⟨UInt8.ofNat (48 + v.toNat), by rw [h114, ← hi, e1], ?_, ?_⟩ <;> rw [ofNat_toNat (by omega)] <;> omega
      · cases hv
theorem lastS_cases {k at' : Int} {L : List UInt8 → Option Int} (HL : ∀ x t, L x = some t → canon x = none) (x : List UInt8) :
    lastS k at' L x = dist k at' L x ∨ (lastS k at' L x = none ∧ ∀ v, dist k at' L x = some v → v < -99999 ∨ 99999 < v) := by
  cases e : num5 x with
  | some n =>
    obtain ⟨hc, _⟩ := num5_some e
    have hL : L x = none := by
      cases e2 : L x with
      | none => rfl
      | some t => rw [HL _ _ e2] at hc; cases hc
    left
    simp [lastS, e, dist, labD, hL, hc]
  | none =>
    cases hc : canon x with
    | none =>
      left
      simp [lastS, e, dist, hc]
    | some n =>
      right
      have hL : L x = none := by
        cases e2 : L x with
        | none => rfl
        | some t => rw [HL _ _ e2] at hc; cases hc
      refine ⟨by simp [lastS, e, labD, hL], ?_⟩
      intro v hv
      have hv' : v = n := by
        simp [dist, labD, hL, hc] at hv
        exact hv.symm
      subst hv'
      rcases Int.lt_or_le v (-99999) with h1 | h1
      · exact Or.inl h1
      rcases Int.lt_or_le 99999 v with h2 | h2
      · exact Or.inr h2
      · rw [num5_of hc h1 h2] at e; cases e
/-- What is read so far is no instruction. -/
def Doom (k : Int) (p : Nat) (o : Option (List Int × List (List UInt8))) : Prop := ∀ fs r, o = some (fs, r) → ∃ q, q < p ∧ okAt k q (fs.getD q 0) = false
theorem rdTo_len {k f at' : Int} {L : List UInt8 → Option Int} {ws : List (List UInt8)} : ∀ {p : Nat} {fs : List Int} {r : List (List UInt8)}, rdTo k f at' L ws p = some (fs, r) → fs.length = 5
  | 0, fs, r, h => by simp [rdTo] at h; rw [← h.1]; rfl
  | p + 1, fs, r, h => by
    simp only [rdTo] at h
    split at h
    · cases h
    · rename_i fs' ws' e
      have ih := rdTo_len e
      split at h
      · cases h; exact ih
      · split at h
        · cases h
        · split at h
          · cases h
          · cases h; rw [List.length_set]; exact ih
theorem sdTo_len {k f at' : Int} {L : List UInt8 → Option Int} {ws : List (List UInt8)} : ∀ {p : Nat} {fs : List Int} {r : List (List UInt8)}, sdTo k f at' L ws p = some (fs, r) → fs.length = 5
  | 0, fs, r, h => by simp [sdTo] at h; rw [← h.1]; rfl
  | p + 1, fs, r, h => by
    simp only [sdTo] at h
    split at h
    · cases h
    · rename_i fs' ws' e
      have ih := sdTo_len e
      split at h
      · cases h; exact ih
      · split at h
        · cases h
        · split at h
          · cases h
          · cases h; rw [List.length_set]; exact ih
theorem doom_rd {k f at' : Int} {L : List UInt8 → Option Int} {ws : List (List UInt8)} {p : Nat} (h : Doom k p (rdTo k f at' L ws p)) : Doom k (p + 1) (rdTo k f at' L ws (p + 1)) := by
  intro fs r e
  simp only [rdTo] at e
  split at e
  · cases e
  · rename_i fs' ws' e'
    obtain ⟨q, hq, ho⟩ := h _ _ e'
    refine ⟨q, by omega, ?_⟩
    split at e
    · cases e; exact ho
    · split at e
      · cases e
      · split at e
        · cases e
        · cases e
          rw [List.getD_eq_getElem?_getD, List.getElem?_set_ne (by omega), ← List.getD_eq_getElem?_getD]; exact ho
theorem doom_sd {k f at' : Int} {L : List UInt8 → Option Int} {ws : List (List UInt8)} {p : Nat} (h : Doom k p (sdTo k f at' L ws p)) : Doom k (p + 1) (sdTo k f at' L ws (p + 1)) := by
  intro fs r e
  simp only [sdTo] at e
  split at e
  · cases e
  · rename_i fs' ws' e'
    obtain ⟨q, hq, ho⟩ := h _ _ e'
    refine ⟨q, by omega, ?_⟩
    split at e
    · cases e; exact ho
    · split at e
      · cases e
      · split at e
        · cases e
        · cases e
          rw [List.getD_eq_getElem?_getD, List.getElem?_set_ne (by omega), ← List.getD_eq_getElem?_getD]; exact ho
theorem okAt_far {k v : Int} {p : Nat} (hk : 0 ≤ k ∧ k < 16) (hp : p < 5) (h : v < -256 ∨ 511 < v) : okAt k p v = false := by
  cases e : okAt k p v with
  | false => rfl
  | true => have := okAt_bd hk hp e; omega
theorem okAt_noreg {k v : Int} {p : Nat} (h1 : layN k p = 1) (h : ¬ (0 ≤ v ∧ v ≤ 7)) : okAt k p v = false := by
  cases e : okAt k p v with
  | false => rfl
  | true => have := okAt_reg e h1; exact absurd this h
theorem lay_last : ∀ k : Nat, k < 16 → ∀ p, p < 5 → layN (k : Int) p = 3 → k = 14 ∨ k = 15 := by decide
theorem lay_last' {k : Int} {p : Nat} (hk : 0 ≤ k ∧ k < 16) (hp : p < 5) (h : layN k p = 3) : k = 14 ∨ k = 15 := by
  have := lay_last k.toNat (by omega) p hp (by rw [Int.toNat_of_nonneg hk.1]; exact h)
  omega
theorem sd_rel {k f at' : Int} {L : List UInt8 → Option Int} {ws : List (List UInt8)} (hk : 0 ≤ k ∧ k < 16) (HL : ∀ x t, L x = some t → canon x = none) :
    ∀ p, p ≤ 5 → sdTo k f at' L ws p = rdTo k f at' L ws p ∨ (Doom k p (rdTo k f at' L ws p) ∧ Doom k p (sdTo k f at' L ws p))
  | 0, _ => Or.inl rfl
  | p + 1, hp => by
    rcases sd_rel (f := f) (at' := at') (ws := ws) hk HL p (by omega) with ih | ⟨h1, h2⟩
    · simp only [sdTo, rdTo, ih]
      cases e : rdTo k f at' L ws p with
      | none => exact Or.inl rfl
      | some o =>
        obtain ⟨fs, ws'⟩ := o
        have hl := rdTo_len e
        simp only
        by_cases hh : layN k p = 0 ∨ layN k p = 2
        · simp only [hh, if_true]; exact Or.inl trivial
        · simp only [hh, if_false]
          cases ws' with
          | nil => exact Or.inl rfl
          | cons x r =>
            simp only [sdV, rdV]
            have hset : ∀ v, (fs.set p v).getD p 0 = v := fun v => by
              have : p < fs.length := by omega
              simp [List.getD_eq_getElem?_getD, this]
            by_cases h1 : layN k p = 1
            · simp only [h1, if_true]
              rcases regS_cases x with ⟨v, e1, e2, _⟩ | ⟨e1, e2⟩
              · rw [e1, e2]; exact Or.inl rfl
              · right
                constructor
                · intro fs' r' e'
                  split at e'
                  · cases e'
                  · rename_i v hv
                    cases e'
                    exact ⟨p, by omega, by rw [hset]; exact okAt_noreg h1 (e2 v hv)⟩
                · intro fs' r' e'
                  cases e'
                  exact ⟨p, by omega, by rw [hset, e1]; exact okAt_noreg h1 (by omega)⟩
            · simp only [h1, if_false]
              have hd : (if layN k p = 3 then canon x else dist k at' L x) = dist k at' L x := by
                split
                · rename_i h3
                  have := lay_last' hk (by omega) h3
                  unfold dist
                  rw [if_neg (by omega)]
                · rfl
              rw [hd]
              rcases lastS_cases (k := k) (at' := at') HL x with e1 | ⟨e1, e2⟩
              · rw [e1]; exact Or.inl rfl
              · right
                rw [e1]
                constructor
                · intro fs' r' e'
                  split at e'
                  · cases e'
                  · rename_i v hv
                    cases e'
                    have := e2 v hv
                    exact ⟨p, by omega, by rw [hset]; exact okAt_far hk (by omega) (by omega)⟩
                · intro fs' r' e'
                  cases e'
    · exact Or.inr ⟨doom_rd h1, doom_sd h2⟩
theorem doom_no {k : Int} {fs : List Int} {q : Nat} (hq : q < 5) (ho : okAt k q (fs.getD q 0) = false) : iokL k fs = false := by
  cases e : iokL k fs with
  | false => rfl
  | true =>
    obtain ⟨_, h0, h1, h2, h3, h4⟩ := iok_parts e
    have hq' : q = 0 ∨ q = 1 ∨ q = 2 ∨ q = 3 ∨ q = 4 := by omega
    rcases hq' with rfl | rfl | rfl | rfl | rfl <;> simp_all
theorem mk_bd {i : Nat} (h : i < 23) : 0 ≤ mk i ∧ mk i < 16 := by unfold mk; split <;> omega
/-- Both ways say the same. -/
theorem sd_eq {i : Nat} (hi : i < 23) {at' : Int} {L : List UInt8 → Option Int} (HL : ∀ x t, L x = some t → canon x = none) (ws : List (List UInt8)) : sdI i at' L ws = rdI i at' L ws := by
  unfold sdI rdI
  rcases sd_rel (f := mf i) (at' := at') (ws := ws) (mk_bd hi) HL 5 (Nat.le_refl _) with e | ⟨h1, h2⟩
  · rw [e]
  · have g : ∀ o : Option (List Int × List (List UInt8)), Doom (mk i) 5 o → finI (mk i) o = none := by
      intro o ho
      cases o with
      | none => rfl
      | some o =>
        obtain ⟨fs, r⟩ := o
        obtain ⟨q, hq, hf⟩ := ho fs r rfl
        simp only [finI, doom_no hq hf, Bool.false_eq_true, and_false, if_false]
    rw [g _ h1, g _ h2]

/-- A small letter. -/
def low (c : UInt8) : Bool := decide (97 ≤ c.toNat ∧ c.toNat ≤ 122)
/-- The name of a label, if a line is one. -/
def mark (l : List UInt8) : Option (List UInt8) :=
  if l.getLast? = some 58 ∧ 1 ≤ l.dropLast.length ∧ l.dropLast.length ≤ 6 ∧ l.dropLast.all low = true then some l.dropLast else none
/-- Labels and where they stand, the first ahead. -/
def look (ls : List (List UInt8 × Int)) (x : List UInt8) : Option Int := (ls.find? (fun e => e.1 == x)).map (·.2)
/-- All labels of lines, how many lines are none, and the first line (from 1 on) whose label stands twice. -/
def labs : List (List UInt8) → Nat → List (List UInt8 × Int) → Int → Int → List (List UInt8 × Int) × Int × Int
  | [], _, ls, at', tw => (ls, at', tw)
  | x :: r, i, ls, at', tw => match mark x with
    | none => labs r (i + 1) ls (at' + 1) tw
    | some name => match look ls name with
      | none => labs r (i + 1) (ls ++ [(name, at')]) at' tw
      | some _ => labs r (i + 1) ls at' (if tw = 0 then (i : Int) + 1 else tw)
def wordN : List UInt8 := [119, 111, 114, 100]
/-- The word for which a line stands that is no label. -/
def lineV (at' : Int) (L : List UInt8 → Option Int) (l : List UInt8) : Option Int :=
  if 30 < l.length then none else match sp l with
  | [] => none
  | w :: r => if w = wordN then (match r with
      | [x] => match canon x with
        | some n => if 0 ≤ n ∧ n < 65536 then some n else none
        | none => none
      | _ => none)
    else match rd at' L (w :: r) with
      | some (k, fs) => some (worD k (fs.getD 0 0) (fs.getD 1 0) (fs.getD 2 0) (fs.getD 3 0) (fs.getD 4 0))
      | none => none
/-- The words of lines, and the first line that is wrong. -/
def words (L : List UInt8 → Option Int) (tw : Int) : List (List UInt8) → Nat → List Int → List Int × Int
  | [], _, out => (out, 0)
  | x :: r, i, out => if (i : Int) + 1 = tw then ([], tw) else match mark x with
    | some _ => words L tw r (i + 1) out
    | none => match lineV out.length L x with
      | none => ([], (i : Int) + 1)
      | some v => words L tw r (i + 1) (out ++ [v])
def tread (ls : List (List UInt8)) : List Int × Int :=
  if 64 < ls.length then ([], 65) else
    words (look (labs ls 0 [] 0 0).1) (labs ls 0 [] 0 0).2.2 ls 0 []
theorem mark_low {l name : List UInt8} (h : mark l = some name) : name.all low = true ∧ 1 ≤ name.length ∧ name.length ≤ 6 := by
  unfold mark at h
  split at h
  · rename_i e; cases h; exact ⟨e.2.2.2, e.2.1, e.2.2.1⟩
  · cases h
/-- No label is a number. -/
theorem low_canon {x : List UInt8} (h : x.all low = true) (h1 : 1 ≤ x.length) : canon x = none := by
  cases e : canon x with
  | none => rfl
  | some n =>
    exfalso
    obtain ⟨hi, _⟩ := canon_some e
    cases x with
    | nil => simp at h1
    | cons c r =>
      simp only [List.all_cons, Bool.and_eq_true, low, decide_eq_true_eq] at h
      rcases itoa_mem n c (by rw [hi]; simp) with h2 | h2
      · rw [h2] at h; simp at h
      · omega
def Lows (ls : List (List UInt8 × Int)) : Prop := ∀ e ∈ ls, e.1.all low = true ∧ 1 ≤ e.1.length ∧ 0 ≤ e.2
theorem labs_low : ∀ (r : List (List UInt8)) (i : Nat) (ls : List (List UInt8 × Int)) (at' tw : Int), Lows ls → 0 ≤ at' → Lows (labs r i ls at' tw).1
  | [], _, ls, _, _, h, _ => h
  | x :: r, i, ls, at', tw, h, ha => by
    simp only [labs]
    split
    · exact labs_low r _ _ _ _ h (by omega)
    · rename_i name hm
      split
      · refine labs_low r _ _ _ _ ?_ ha
        intro e he
        rcases List.mem_append.1 he with he | he
        · exact h e he
        · rw [List.mem_singleton.1 he]
          exact ⟨(mark_low hm).1, (mark_low hm).2.1, ha⟩
      · exact labs_low r _ _ _ _ h ha
theorem look_canon {ls : List (List UInt8 × Int)} (h : Lows ls) : ∀ x t, look ls x = some t → canon x = none := by
  intro x t e
  unfold look at e
  cases hf : ls.find? (fun e => e.1 == x) with
  | none => rw [hf] at e; cases e
  | some p =>
    have h1 := List.mem_of_find?_eq_some hf
    have h2 := List.find?_some hf
    have h3 := h p h1
    have h4 : p.1 = x := by simpa using h2
    rw [h4] at h3
    exact low_canon h3.1 h3.2.1

end Go.Proofs.Ytmkinbnopgfljaa
