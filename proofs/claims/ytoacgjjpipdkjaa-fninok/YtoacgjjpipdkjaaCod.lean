/- Chapter 2: the tables; the contracts of fieldsOf, holds and CodOk, of the program and of the model. Small functions of package laws that the laws of chapter 2 call. Numbers: an instruction as a word, field by field. The bit reader: Len64 at 65535, take, value. -/
import Derived.Test.YtoacgjjpipdkjaaReader
import Derived.Test.YtoacgjjpipdkjaaWords
namespace Go.Proofs.Ytoacgjjpipdkjaa
open Go.RowKit
set_option linter.unusedVariables false

/-- What the tables hold: the encodings (bits, least, greatest), and the layouts (an encoding a place). -/
def encL : List Int := [0, 0, 0, 3, 0, 7, 3, 0, 7, 3, 0, 4, 6, -32, 31, 9, -256, 255, 9, 0, 511]
def layL : List Int := [1, 1, 1, 2, 0, 1, 1, 0, 0, 4, 1, 0, 0, 0, 6, 1, 1, 0, 0, 4, 0, 1, 1, 0, 4, 0, 1, 1, 0, 4, 0, 1, 1, 0, 4, 1, 0, 0, 0, 5, 1, 1, 0, 0, 4, 1, 1, 1, 0, 0, 1, 1, 1, 0, 0, 0, 0, 0, 0, 0, 0, 0, 0, 0, 6, 0, 0, 0, 0, 0, 1, 0, 0, 3, 0, 0, 1, 0, 3, 0]
/-- Nothing that was there has turned. -/
abbrev Fr (w w' : World) : Prop := Below w.heap.size w w'
theorem Fr.trans {a b c : World} (h : Fr a b) (k : Fr b c) : Fr a c := Below.trans h (k.mono h.size)
theorem Fr.alloc (w : World) (o : Obj) : Fr w (w.alloc o) := (Below.refl _ _).alloc (Nat.le_refl _) _

/-- An instruction's fields by their places. -/
def fldL (d a b f n : Int) : List Int := [d, a, b, f, n]
/-- The encoding of place p of kind k; its bits, its least and its greatest value. -/
def layN (k : Int) (p : Nat) : Nat := (layL.getD (k.toNat * 5 + p) 0).toNat
def eB (h : Nat) : Int := encL.getD (h * 3) 0
def eL (h : Nat) : Int := encL.getD (h * 3 + 1) 0
def eG (h : Nat) : Int := encL.getD (h * 3 + 2) 0
def okAt (k : Int) (p : Nat) (v : Int) : Bool := decide (eL (layN k p) ≤ v ∧ v ≤ eG (layN k p))
def iok (k d a b f n : Int) : Bool := decide (0 ≤ k ∧ k < 16) && (okAt k 0 d && (okAt k 1 a && (okAt k 2 b && (okAt k 3 f && okAt k 4 n))))
theorem lay_bd : ∀ i, i < 80 → 0 ≤ layL.getD i 0 ∧ layL.getD i 0 < 7 := by decide
theorem layN_lt (k : Int) (p : Nat) (hk : 0 ≤ k ∧ k < 16) (hp : p < 5) : layN k p < 7 := by
  have h1 := lay_bd (k.toNat * 5 + p) (by omega)
  unfold layN; omega
def AllOk (k d a b f n : Int) (p : Nat) : Prop := ∀ j, j < p → okAt k j ((fldL d a b f n).getD j 0) = true
theorem iok_kind {k d a b f n : Int} (h : ¬ (0 ≤ k ∧ k < 16)) : iok k d a b f n = false := by simp [iok, h]
theorem AllOk.next {k d a b f n : Int} {p : Nat} (h : AllOk k d a b f n p) (hp : okAt k p ((fldL d a b f n).getD p 0) = true) : AllOk k d a b f n (p + 1) := by
  intro j hj
  by_cases e : j = p
  · rw [e]; exact hp
  · exact h j (by omega)
/-- What a kind has, by the model: D, A, B, F, and the bits of N. -/
def hD (k : Int) : Bool := k == 0 || k == 1 || k == 2 || k == 3 || k == 7 || k == 8 || k == 9 || k == 10 || k == 14
def hA (k : Int) : Bool := k == 0 || k == 1 || k == 3 || k == 4 || k == 5 || k == 6 || k == 8 || k == 9 || k == 10 || k == 15
def hB (k : Int) : Bool := k == 0 || k == 4 || k == 5 || k == 6 || k == 9 || k == 10
def hF (k : Int) : Bool := k == 0 || k == 14 || k == 15
def hN (k : Int) : Int := if k = 1 ∨ k = 3 ∨ k = 8 ∨ k = 4 ∨ k = 5 ∨ k = 6 then 6 else if k = 2 ∨ k = 7 ∨ k = 12 then 9 else 0
theorem kinds {k : Int} (h : 0 ≤ k ∧ k < 16) : k = 0 ∨ k = 1 ∨ k = 2 ∨ k = 3 ∨ k = 4 ∨ k = 5 ∨ k = 6 ∨ k = 7 ∨ k = 8 ∨ k = 9 ∨ k = 10 ∨ k = 11 ∨ k = 12 ∨ k = 13 ∨ k = 14 ∨ k = 15 := by omega
set_option maxHeartbeats 2000000 in
theorem spec_l2Has (k : Int) (hk : 0 ≤ k ∧ k < 16) (w : World) : Calls Try.prog 108 #[.int .i64 k] w fun e w' => e = .returned (.tuple #[.bool (hD k), .bool (hA k), .bool (hB k), .bool (hF k), .int .i64 (hN k)]) ∧ w = w' := by
  rcases kinds hk with rfl | rfl | rfl | rfl | rfl | rfl | rfl | rfl | rfl | rfl | rfl | rfl | rfl | rfl | rfl | rfl
  all_goals
    go_enter Try.func108, Try.ntmps108
    go_wp2
    refine bodyPost_ret (v := _) (by simp [results, Try.results108, go_sem]; rfl) rfl ⟨?_, rfl⟩
    rfl
theorem spec_l2Reg (n : Int) (w : World) : Calls Try.prog 109 #[.int .i64 n] w fun e w' => e = .returned (.bool (decide (0 ≤ n ∧ n ≤ 7))) ∧ w = w' := by
  go_enter Try.func109, Try.ntmps109
  go_wp2_with (go_at_call 63; refine (spec_l1In _ _ _ _).mono ?_; rintro e w' ⟨rfl, rfl⟩)
  go_ret
  exact ⟨ret_bool (by simp), rfl⟩
theorem quiet_mine {P : Program} {f : FuncId} {args : Array Value} {w : World} {n : Nat} {v : Value}
    (h : Calls P f args (w.drewN n) fun e w' => e = .returned v ∧ w.drewN n = w') : Calls P f args (w.drewN n) fun e w'' => e = .returned v ∧ ∃ m, w'' = w.drewN m :=
  h.mono fun _ _ ⟨he, hm⟩ => ⟨he, n, hm.symm⟩
def numOk (k n : Int) : Bool := if hN k = 0 then n == 0 else if k = 12 ∨ k = 2 then decide (0 ≤ n ∧ n ≤ 511) else if hN k = 6 then decide (-32 ≤ n ∧ n ≤ 31) else decide (-256 ≤ n ∧ n ≤ 255)
set_option maxHeartbeats 2000000 in
theorem spec_l2Num (k n : Int) (hk : 0 ≤ k ∧ k < 16) (w : World) : Calls Try.prog 110 #[.int .i64 k, .int .i64 n, .int .i64 (hN k)] w fun e w' => e = .returned (.bool (numOk k n)) ∧ ∃ m, w.drewN m = w' := by
  rcases kinds hk with rfl | rfl | rfl | rfl | rfl | rfl | rfl | rfl | rfl | rfl | rfl | rfl | rfl | rfl | rfl | rfl
  all_goals
    simp only [hN, numOk]
    simp
    go_enter Try.func110, Try.ntmps110
    go_wp2_with (go_at_call 63; refine (spec_l1In _ _ _ _).mono ?_; rintro e w' ⟨rfl, rfl⟩)
    first
    | (go_ret; exact ⟨ret_bool (by simp), 0, rfl⟩)
    | (go_quiet ((go_at_call 63; refine quiet_mine (spec_l1In _ _ _ _)))
       go_wp2
       go_ret
       exact ⟨ret_bool (by simp), _, rfl⟩)
def topF (k : Int) : Int := if k = 14 ∨ k = 15 then 4 else if k = 0 then 7 else 0
def regOk (h : Bool) (r : Int) : Bool := r == 0 || (h && decide (0 ≤ r ∧ r ≤ 7))
def sok (k d a b f n : Int) : Bool := decide (0 ≤ k ∧ k ≤ 15) && (regOk (hD k) d && (regOk (hA k) a && (regOk (hB k) b && (decide (0 ≤ f ∧ f ≤ topF k) && numOk k n))))
theorem sok_eq (k d a b f n : Int) : sok k d a b f n = iok k d a b f n := by
  by_cases hk : 0 ≤ k ∧ k < 16
  · rw [Bool.eq_iff_iff]
    rcases kinds hk with rfl | rfl | rfl | rfl | rfl | rfl | rfl | rfl | rfl | rfl | rfl | rfl | rfl | rfl | rfl | rfl <;>
      simp [sok, iok, okAt, layN, layL, eL, eG, encL, regOk, hD, hA, hB, topF, numOk, hN] <;> omega
  · rw [iok_kind hk]
    have : ¬ (0 ≤ k ∧ k ≤ 15) := by omega
    simp [sok, this]

/-- An instruction lies in block g. -/
structure Box (w : World) (g : Nat) (k d a b f n : Int) : Prop where
  c0 : w.cell? ⟨g, 0, none⟩ = some (.int .i64 k)
  c1 : w.cell? ⟨g, 1, none⟩ = some (.int .i64 d)
  c2 : w.cell? ⟨g, 2, none⟩ = some (.int .i64 a)
  c3 : w.cell? ⟨g, 3, none⟩ = some (.int .i64 b)
  c4 : w.cell? ⟨g, 4, none⟩ = some (.int .i64 f)
  c5 : w.cell? ⟨g, 5, none⟩ = some (.int .i64 n)
theorem Box.lt {w : World} {g : Nat} {k d a b f n : Int} (h : Box w g k d a b f n) : g < w.heap.size := lt_of_cell h.c0
theorem Box.below {w w' : World} {g B : Nat} {k d a b f n : Int} (h : Box w g k d a b f n) (hb : Below B w w') (hB : g < B) : Box w' g k d a b f n :=
  ⟨(hb.cell hB).trans h.c0, (hb.cell hB).trans h.c1, (hb.cell hB).trans h.c2, (hb.cell hB).trans h.c3, (hb.cell hB).trans h.c4, (hb.cell hB).trans h.c5⟩
theorem Box.fr {w w' : World} {g : Nat} {k d a b f n : Int} (h : Box w g k d a b f n) (hb : Fr w w') : Box w' g k d a b f n := h.below hb h.lt
theorem Box.new (w : World) (k d a b f n : Int) (t : TypeId) : Box (w.alloc (.cells #[.int .i64 k, .int .i64 d, .int .i64 a, .int .i64 b, .int .i64 f, .int .i64 n] t)) w.heap.size k d a b f n := by
  constructor <;> simp

/-- How many bits are left behind p places; the word so far. -/
def lft (k : Int) : Nat → Int
  | 0 => 12
  | p + 1 => lft k p - eB (layN k p)
def wrd (k : Int) (v : List Int) : Nat → Int
  | 0 => k * 4096
  | p + 1 => wrd k v p + (v.getD p 0 % 2 ^ (eB (layN k p)).toNat) * 2 ^ (lft k (p + 1)).toNat
theorem eB_vals : ∀ m, m < 7 → eB m = 0 ∨ eB m = 3 ∨ eB m = 6 ∨ eB m = 9 := by decide
theorem lft_bdN : ∀ K : Fin 16, ∀ p : Fin 6, 0 ≤ lft ((K.val : Nat) : Int) p.val ∧ lft ((K.val : Nat) : Int) p.val ≤ 12 := by decide
theorem lft_bd (k : Int) (p : Nat) (hk : 0 ≤ k ∧ k < 16) (hp : p ≤ 5) : 0 ≤ lft k p ∧ lft k p ≤ 12 := by
  have h := lft_bdN ⟨k.toNat, by omega⟩ ⟨p, by omega⟩
  have e : ((k.toNat : Nat) : Int) = k := by omega
  simp only [e] at h
  exact h
theorem le12 {l : Int} (h0 : 0 ≤ l) (h1 : l ≤ 12) : l = 0 ∨ l = 1 ∨ l = 2 ∨ l = 3 ∨ l = 4 ∨ l = 5 ∨ l = 6 ∨ l = 7 ∨ l = 8 ∨ l = 9 ∨ l = 10 ∨ l = 11 ∨ l = 12 := by omega
/-- The word so far, in bounds, noughts behind. -/
theorem wrd_inv (k : Int) (v : List Int) (hk : 0 ≤ k ∧ k < 16) : ∀ p, p ≤ 5 → 0 ≤ wrd k v p ∧ wrd k v p + 2 ^ (lft k p).toNat ≤ 65536 ∧ wrd k v p % 2 ^ (lft k p).toNat = 0
  | 0, _ => by simp [wrd, lft]; omega
  | p + 1, hp => by
    obtain ⟨h0, h1, h2⟩ := wrd_inv k v hk p (by omega)
    have hb := eB_vals _ (layN_lt k p hk (by omega))
    have l1 := lft_bd k p hk (by omega)
    have l2 := lft_bd k (p + 1) hk hp
    have e : lft k (p + 1) = lft k p - eB (layN k p) := rfl
    rw [wrd]
    generalize v.getD p 0 = x
    generalize wrd k v p = o at *
    rw [e] at l2 ⊢
    generalize lft k p = l at *
    rcases hb with hb | hb | hb | hb <;> rw [hb] at l2 ⊢ <;> clear hb e
    · simp
      exact ⟨h0, h1, h2⟩
    all_goals
      have hl := le12 l1.1 l1.2
      rcases hl with rfl | rfl | rfl | rfl | rfl | rfl | rfl | rfl | rfl | rfl | rfl | rfl | rfl <;> first | omega | (simp at h1 h2 ⊢; omega)
def taken (x b : Int) : Int := x / 2 ^ (16 - b).toNat
def rested (x b : Int) : Int := x * 2 ^ b.toNat % 65536
--[need (*impl.bitReader[impl.word]).take]
def valD (b l x : Int) : Int := if l < 0 then sgnW (ext x b) else x
end Go.Proofs.Ytoacgjjpipdkjaa
