/- The plain machine, as a plain function of numbers: what is ok, what is seen, what a step does. -/
import Derived.Test.YtbjapncfgancoaaDoorCodSd
import Derived.Test.YtbjapncfgancoaaDoorWords
namespace Go.Proofs.YtbjapncfgancoaaDoor
open Go.RowKit
set_option linter.unusedVariables false
set_option linter.unusedSimpArgs false

/-- A machine: where it is, its registers, what it has of its own, its memory. -/
structure St where
  pc : Int
  R : List Int
  C : List Int
  M : List Int
/-- What was done. -/
structure Ev where
  pc : Int
  w : Int
  why : Int
  d : Int
  v : Int
  ad : Int
  dt : Int
def wordsB (l : List Int) (n : Nat) : Bool := l.all okB && decide (l.length = n)
structure OkS (s : St) : Prop where
  pc : okB s.pc = true
  R : s.R.all okB = true
  Rl : s.R.length = 8
  C : s.C.all okB = true
  Cl : s.C.length = 5
  M : s.M.all okB = true
  Ml : s.M.length = 256
  r0 : s.R.getD 0 0 = 0
  c3 : s.C.getD 3 0 < 4
def okS (s : St) : Bool := okB s.pc && (wordsB s.R 8 && (wordsB s.C 5 && (wordsB s.M 256 && (decide (s.R.getD 0 0 = 0) && decide (s.C.getD 3 0 < 4)))))
theorem okS_iff (s : St) : okS s = true ↔ OkS s := by
  simp only [okS, wordsB, Bool.and_eq_true, decide_eq_true_eq]
  constructor
  · rintro ⟨h1, ⟨h2, h3⟩, ⟨h4, h5⟩, ⟨h6, h7⟩, h8, h9⟩
    exact ⟨h1, h2, h3, h4, h5, h6, h7, h8, h9⟩
  · rintro ⟨h1, h2, h3, h4, h5, h6, h7, h8, h9⟩
    exact ⟨h1, ⟨h2, h3⟩, ⟨h4, h5⟩, ⟨h6, h7⟩, h8, h9⟩
theorem ok_get {l : List Int} (h : l.all okB = true) (i : Nat) : 0 ≤ l.getD i 0 ∧ l.getD i 0 < 65536 := by
  by_cases hi : i < l.length
  · have := List.all_eq_true.1 h (l.getD i 0) (by rw [List.getD_eq_getElem?_getD, List.getElem?_eq_getElem hi]; exact List.getElem_mem hi)
    exact okB_true this
  · rw [List.getD_eq_getElem?_getD, List.getElem?_eq_none (by omega)]
    simp
theorem ok_set {l : List Int} (h : l.all okB = true) (i : Nat) {v : Int} (hv : okB v = true) : (l.set i v).all okB = true := by
  rw [List.all_eq_true] at *
  intro x hx
  rcases List.mem_or_eq_of_mem_set hx with h1 | h1
  · exact h x h1
  · rw [h1]; exact hv
theorem getD_set {l : List Int} {i j : Nat} {v : Int} : (l.set i v).getD j 0 = if i = j ∧ j < l.length then v else l.getD j 0 := by
  simp only [List.getD_eq_getElem?_getD, List.getElem?_set]
  by_cases h : i = j
  · subst h
    by_cases h2 : i < l.length
    · simp [h2]
    · simp [h2]
  · simp [h]
/-- Who does not see all. -/
def usr (C : List Int) : Bool := C.getD 3 0 % 2 == 1
/-- The place that a word of a table of pages tells. -/
def frame (x addr : Int) (save : Bool) : Int := if x / 16 % 2 = 0 ∨ (save = true ∧ x / 32 % 2 = 0) then -1 else x % 16 * 16 + addr % 16
/-- The place of memory that is seen at an address. -/
def see (C M : List Int) (addr : Int) (save : Bool) : Int :=
  if C.getD 3 0 % 2 = 0 then (if addr < 256 then addr else -1)
  else if 256 ≤ addr ∨ 256 ≤ C.getD 2 0 + addr / 16 then -1
  else frame (M.getD (C.getD 2 0 + addr / 16).toNat 0) addr save
theorem frame_bd (x addr : Int) (save : Bool) : -1 ≤ frame x addr save ∧ frame x addr save < 256 := by
  unfold frame
  split
  · omega
  · omega
theorem see_bd (C M : List Int) (addr : Int) (save : Bool) (h : 0 ≤ addr) : -1 ≤ see C M addr save ∧ see C M addr save < 256 := by
  unfold see
  split
  · split <;> omega
  · split
    · omega
    · exact frame_bd _ _ _
def stopC (s : St) (why : Int) : List Int := ((s.C.set 0 s.pc).set 1 why).set 3 (2 * (s.C.getD 3 0 % 2))
/-- A machine that stops. -/
def stopS (s : St) (why : Int) : St := ⟨8, s.R, stopC s why, s.M⟩
def ev0 (s : St) : Ev := ⟨s.pc, -1, 0, 0, 0, -1, 0⟩
def nx (s : St) : Int := (s.pc + 1) % 65536
/-- What an instruction does: it stops, or the machine goes on. -/
inductive Out where
  | stop (why : Int)
  | go (s : St) (e : Ev)
def Out.fin (s : St) (e : Ev) : Out → St × Ev
  | .stop why => (stopS s why, { e with why := why })
  | .go s' e' => (s', e')
def putR (R : List Int) (d v : Int) : List Int := if d = 0 then R else R.set d.toNat v
def putE (e : Ev) (d v : Int) : Ev := if d = 0 then e else { e with d := d, v := v }
/-- A word goes into a register, and the machine is elsewhere. -/
def put (s : St) (e : Ev) (d v pc : Int) : Out := .go ⟨pc, putR s.R d v, s.C, s.M⟩ (putE e d v)
def goto (s : St) (e : Ev) (pc : Int) : Out := .go { s with pc := pc } e
def setF (s : St) (f a : Int) : List Int := s.C.set f.toNat (if f = 3 then a % 4 / 2 * 2 else a)
def rg (s : St) (a : Int) : Int := s.R.getD a.toNat 0
def mm (s : St) (at' : Int) : Int := s.M.getD at'.toNat 0
def effS (s : St) (e : Ev) (k d a b f n : Int) : Out :=
  if k = 0 then put s e d (aluD f (rg s a) (rg s b)) (nx s)
  else if k = 1 then put s e d ((rg s a + n) % 65536) (nx s)
  else if k = 2 then put s e d (n * 128) (nx s)
  else if k = 3 then (if see s.C s.M ((rg s a + n) % 65536) false < 0 then .stop 3 else put s e d (mm s (see s.C s.M ((rg s a + n) % 65536) false)) (nx s))
  else if k = 4 then (if see s.C s.M ((rg s a + n) % 65536) true < 0 then .stop 4 else
    .go ⟨nx s, s.R, s.C, s.M.set (see s.C s.M ((rg s a + n) % 65536) true).toNat (rg s b)⟩ { e with ad := see s.C s.M ((rg s a + n) % 65536) true, dt := rg s b })
  else if k = 5 then goto s e (if rg s a = rg s b then (nx s + n) % 65536 else nx s)
  else if k = 6 then goto s e (if sgn (rg s a) < sgn (rg s b) then (nx s + n) % 65536 else nx s)
  else if k = 7 then put s e d (nx s) ((nx s + n) % 65536)
  else if k = 8 then put s e d (nx s) ((rg s a + n) % 65536)
  else if k = 9 then put s e d (mulD (rg s a) (rg s b)) (nx s)
  else if k = 10 then (if see s.C s.M (rg s a) true < 0 then .stop 4 else
    .go ⟨nx s, putR s.R d (mm s (see s.C s.M (rg s a) true)), s.C, s.M.set (see s.C s.M (rg s a) true).toNat (rg s b)⟩ (putE { e with ad := see s.C s.M (rg s a) true, dt := rg s b } d (mm s (see s.C s.M (rg s a) true))))
  else if k = 11 then goto s e (nx s)
  else if k = 12 then .stop (5 + 16 * n)
  else if k = 13 then (if usr s.C = true then .stop 6 else .go ⟨s.C.getD 0 0, s.R, s.C.set 3 (s.C.getD 3 0 / 2), s.M⟩ e)
  else if k = 14 then (if usr s.C = true then .stop 6 else put s e d (s.C.getD f.toNat 0) (nx s))
  else (if usr s.C = true then .stop 6 else .go ⟨nx s, s.R, setF s f (rg s a), s.M⟩ e)
theorem eff_0 (s : St) (e : Ev) (d a b f n : Int) : effS s e 0 d a b f n = put s e d (aluD f (rg s a) (rg s b)) (nx s) := by simp only [effS, Int.reduceEq, if_true, if_false, ite_true, ite_false, reduceIte]
theorem eff_1 (s : St) (e : Ev) (d a b f n : Int) : effS s e 1 d a b f n = put s e d ((rg s a + n) % 65536) (nx s) := by simp only [effS, Int.reduceEq, if_true, if_false, ite_true, ite_false, reduceIte]
theorem eff_2 (s : St) (e : Ev) (d a b f n : Int) : effS s e 2 d a b f n = put s e d (n * 128) (nx s) := by simp only [effS, Int.reduceEq, if_true, if_false, ite_true, ite_false, reduceIte]
theorem eff_3 (s : St) (e : Ev) (d a b f n : Int) : effS s e 3 d a b f n = if see s.C s.M ((rg s a + n) % 65536) false < 0 then .stop 3 else put s e d (mm s (see s.C s.M ((rg s a + n) % 65536) false)) (nx s) := by simp only [effS, Int.reduceEq, if_true, if_false, ite_true, ite_false, reduceIte]
theorem eff_4 (s : St) (e : Ev) (d a b f n : Int) : effS s e 4 d a b f n = if see s.C s.M ((rg s a + n) % 65536) true < 0 then .stop 4 else .go ⟨nx s, s.R, s.C, s.M.set (see s.C s.M ((rg s a + n) % 65536) true).toNat (rg s b)⟩ { e with ad := see s.C s.M ((rg s a + n) % 65536) true, dt := rg s b } := by simp only [effS, Int.reduceEq, if_true, if_false, ite_true, ite_false, reduceIte]
theorem eff_5 (s : St) (e : Ev) (d a b f n : Int) : effS s e 5 d a b f n = goto s e (if rg s a = rg s b then (nx s + n) % 65536 else nx s) := by simp only [effS, Int.reduceEq, if_true, if_false, ite_true, ite_false, reduceIte]
theorem eff_6 (s : St) (e : Ev) (d a b f n : Int) : effS s e 6 d a b f n = goto s e (if sgn (rg s a) < sgn (rg s b) then (nx s + n) % 65536 else nx s) := by simp only [effS, Int.reduceEq, if_true, if_false, ite_true, ite_false, reduceIte]
theorem eff_7 (s : St) (e : Ev) (d a b f n : Int) : effS s e 7 d a b f n = put s e d (nx s) ((nx s + n) % 65536) := by simp only [effS, Int.reduceEq, if_true, if_false, ite_true, ite_false, reduceIte]
theorem eff_8 (s : St) (e : Ev) (d a b f n : Int) : effS s e 8 d a b f n = put s e d (nx s) ((rg s a + n) % 65536) := by simp only [effS, Int.reduceEq, if_true, if_false, ite_true, ite_false, reduceIte]
theorem eff_9 (s : St) (e : Ev) (d a b f n : Int) : effS s e 9 d a b f n = put s e d (mulD (rg s a) (rg s b)) (nx s) := by simp only [effS, Int.reduceEq, if_true, if_false, ite_true, ite_false, reduceIte]
theorem eff_10 (s : St) (e : Ev) (d a b f n : Int) : effS s e 10 d a b f n = if see s.C s.M (rg s a) true < 0 then .stop 4 else .go ⟨nx s, putR s.R d (mm s (see s.C s.M (rg s a) true)), s.C, s.M.set (see s.C s.M (rg s a) true).toNat (rg s b)⟩ (putE { e with ad := see s.C s.M (rg s a) true, dt := rg s b } d (mm s (see s.C s.M (rg s a) true))) := by simp only [effS, Int.reduceEq, if_true, if_false, ite_true, ite_false, reduceIte]
theorem eff_11 (s : St) (e : Ev) (d a b f n : Int) : effS s e 11 d a b f n = goto s e (nx s) := by simp only [effS, Int.reduceEq, if_true, if_false, ite_true, ite_false, reduceIte]
theorem eff_12 (s : St) (e : Ev) (d a b f n : Int) : effS s e 12 d a b f n = .stop (5 + 16 * n) := by simp only [effS, Int.reduceEq, if_true, if_false, ite_true, ite_false, reduceIte]
theorem eff_13 (s : St) (e : Ev) (d a b f n : Int) : effS s e 13 d a b f n = if usr s.C = true then .stop 6 else .go ⟨s.C.getD 0 0, s.R, s.C.set 3 (s.C.getD 3 0 / 2), s.M⟩ e := by simp only [effS, Int.reduceEq, if_true, if_false, ite_true, ite_false, reduceIte]
theorem eff_14 (s : St) (e : Ev) (d a b f n : Int) : effS s e 14 d a b f n = if usr s.C = true then .stop 6 else put s e d (s.C.getD f.toNat 0) (nx s) := by simp only [effS, Int.reduceEq, if_true, if_false, ite_true, ite_false, reduceIte]
theorem eff_15 (s : St) (e : Ev) (d a b f n : Int) : effS s e 15 d a b f n = if usr s.C = true then .stop 6 else .go ⟨nx s, s.R, setF s f (rg s a), s.M⟩ e := by simp only [effS, Int.reduceEq, if_true, if_false, ite_true, ite_false, reduceIte]
def wAt (s : St) : Int := mm s (see s.C s.M s.pc false)
def ev1 (s : St) : Ev := ⟨s.pc, wAt s, 0, 0, 0, -1, 0⟩
def exeS (s : St) : Out := effS s (ev1 s) (wAt s / 4096) (rdv (wAt s) 0) (rdv (wAt s) 1) (rdv (wAt s) 2) (rdv (wAt s) 3) (rdv (wAt s) 4)
def stepS (s : St) (ring : Bool) : St × Ev :=
  if ring = true ∧ usr s.C = true then (stopS s 7, { ev0 s with why := 7 })
  else if see s.C s.M s.pc false < 0 then (stopS s 2, { ev0 s with why := 2 })
  else if gd (wAt s) = false then (stopS s 1, { ev1 s with why := 1 })
  else (exeS s).fin s (ev1 s)
theorem mulD_bd {a b : Int} (ha : okB a = true) (hb : okB b = true) : okB (mulD a b) = true := by
  rw [mulD_yes ha hb]; exact okB_mod _
theorem stop_ok {s : St} (h : OkS s) {why : Int} (hw : okB why = true) : OkS (stopS s why) := by
  have c3 := ok_get h.C 3
  have h3 := h.c3
  have hl := h.Cl
  refine ⟨rfl, h.R, h.Rl, ok_set (ok_set (ok_set h.C _ h.pc) _ hw) _ (okB_mk (by omega) (by omega)), ?_, h.M, h.Ml, h.r0, ?_⟩
  · simp [stopS, stopC, hl]
  · show (stopC s why).getD 3 0 < 4
    unfold stopC
    rw [getD_set, if_pos ⟨rfl, by simp [hl]⟩]
    omega
theorem putR_len (R : List Int) (d v : Int) : (putR R d v).length = R.length := by
  unfold putR
  split
  · rfl
  · exact List.length_set
theorem putR_ok {R : List Int} (h : R.all okB = true) (d : Int) {v : Int} (hv : okB v = true) : (putR R d v).all okB = true := by
  unfold putR
  split
  · exact h
  · exact ok_set h _ hv
theorem putR_0 {R : List Int} {d v : Int} (h : 0 ≤ d) : (putR R d v).getD 0 0 = R.getD 0 0 := by
  unfold putR
  split
  · rfl
  · rw [getD_set, if_neg (by omega)]
theorem put_ok {s : St} (h : OkS s) {d v pc : Int} (hd : 0 ≤ d) (hv : okB v = true) (hp : okB pc = true) : OkS ⟨pc, putR s.R d v, s.C, s.M⟩ :=
  ⟨hp, putR_ok h.R _ hv, (putR_len _ _ _).trans h.Rl, h.C, h.Cl, h.M, h.Ml, (putR_0 hd).trans h.r0, h.c3⟩
theorem okB_get {l : List Int} (h : l.all okB = true) (i : Nat) : okB (l.getD i 0) = true := okB_mk (ok_get h i).1 (ok_get h i).2
theorem okB_alu7 {f a b : Int} (f0 : 0 ≤ f) (f1 : f ≤ 7) (ha : okB a = true) (hb : okB b = true) : okB (aluD f a b) = true := by
  obtain ⟨a0, a1⟩ := okB_true ha
  rw [aluD_yes ha hb]
  have h : f = 0 ∨ f = 1 ∨ f = 2 ∨ f = 3 ∨ f = 4 ∨ f = 5 ∨ f = 6 ∨ f = 7 := by omega
  have hp : (0 : Int) < 2 ^ (b % 16).toNat := Int.pow_pos (by decide)
  rcases h with h | h | h | h | h | h | h | h
  · exact okB_alu (by omega) ha hb
  · exact okB_alu (by omega) ha hb
  · exact okB_alu (by omega) ha hb
  · exact okB_alu (by omega) ha hb
  · exact okB_alu (by omega) ha hb
  · subst h
    have := ltN_01 a b
    exact okB_mk this.1 (by show ltN a b < 65536; omega)
  · subst h; exact okB_mod _
  · subst h
    show okB (a / 2 ^ (b % 16).toNat) = true
    exact okB_mk (Int.ediv_nonneg a0 (Int.le_of_lt hp)) (Int.lt_of_le_of_lt (Int.ediv_le_self _ a0) a1)
theorem rg_ok {s : St} (h : OkS s) (a : Int) : okB (rg s a) = true := okB_get h.R _
theorem nx_ok (s : St) : okB (nx s) = true := okB_mod _
theorem sok_of {k d a b f n : Int} (h : iok k d a b f n = true) : sok k d a b f n = true := by rw [sok_eq]; exact h
theorem iok_num {k d a b f n : Int} (h : iok k d a b f n = true) : numOk k n = true := by
  have := sok_of h
  simp only [sok, Bool.and_eq_true] at this
  exact this.2.2.2.2.2
theorem iok_f {k d a b f n : Int} (h : iok k d a b f n = true) : 0 ≤ f ∧ f ≤ topF k := by
  have := sok_of h
  simp only [sok, Bool.and_eq_true, decide_eq_true_eq] at this
  exact this.2.2.2.2.1
/-- What is behind an instruction: a cause that is a word, and none, or a machine that is ok. -/
def OutOk : Out → Prop
  | .stop why => 0 < why ∧ why < 65536
  | .go s' _ => OkS s'
theorem outOk_ite {c : Prop} [Decidable c] {x y : Out} (hx : OutOk x) (hy : OutOk y) : OutOk (if c then x else y) := by split <;> assumption
theorem okB_ite {c : Prop} [Decidable c] {x y : Int} (hx : okB x = true) (hy : okB y = true) : okB (if c then x else y) = true := by split <;> assumption
set_option maxHeartbeats 1000000 in
theorem eff_ok {s : St} (h : OkS s) {e : Ev} {k d a b f n : Int} (hi : iok k d a b f n = true) : OutOk (effS s e k d a b f n) := by
  obtain ⟨⟨d0, d1⟩, ⟨a0, a1⟩, ⟨b0, b1⟩, ⟨f0, f1⟩, n0, n1⟩ := sok_bd (sok_of hi)
  have hn := iok_num hi
  have hk := iok_k hi
  have hff := iok_f hi
  have c3 := ok_get h.C 3
  have h3 := h.c3
  have hl := h.Cl
  clear hi
  rcases kinds hk with rfl | rfl | rfl | rfl | rfl | rfl | rfl | rfl | rfl | rfl | rfl | rfl | rfl | rfl | rfl | rfl
  · rw [eff_0]; exact put_ok h d0 (okB_alu7 f0 f1 (rg_ok h _) (rg_ok h _)) (nx_ok s)
  · rw [eff_1]; exact put_ok h d0 (okB_mod _) (nx_ok s)
  · rw [eff_2]
    have : 0 ≤ n ∧ n ≤ 511 := by simpa [numOk, hN] using hn
    exact put_ok h d0 (okB_mk (by omega) (by omega)) (nx_ok s)
  · rw [eff_3]; exact outOk_ite ⟨by decide, by decide⟩ (put_ok h d0 (okB_get h.M _) (nx_ok s))
  · rw [eff_4]; exact outOk_ite ⟨by decide, by decide⟩ ⟨nx_ok s, h.R, h.Rl, h.C, h.Cl, ok_set h.M _ (rg_ok h _), (by simp [h.Ml]), h.r0, h.c3⟩
  · rw [eff_5]; exact ⟨okB_ite (okB_mod _) (nx_ok s), h.R, h.Rl, h.C, h.Cl, h.M, h.Ml, h.r0, h.c3⟩
  · rw [eff_6]; exact ⟨okB_ite (okB_mod _) (nx_ok s), h.R, h.Rl, h.C, h.Cl, h.M, h.Ml, h.r0, h.c3⟩
  · rw [eff_7]; exact put_ok h d0 (nx_ok s) (okB_mod _)
  · rw [eff_8]; exact put_ok h d0 (nx_ok s) (okB_mod _)
  · rw [eff_9]; exact put_ok h d0 (mulD_bd (rg_ok h _) (rg_ok h _)) (nx_ok s)
  · rw [eff_10]; exact outOk_ite ⟨by decide, by decide⟩ ⟨nx_ok s, putR_ok h.R _ (okB_get h.M _), (putR_len _ _ _).trans h.Rl, h.C, h.Cl, ok_set h.M _ (rg_ok h _), (by simp [h.Ml]), (putR_0 d0).trans h.r0, h.c3⟩
  · rw [eff_11]; exact ⟨nx_ok s, h.R, h.Rl, h.C, h.Cl, h.M, h.Ml, h.r0, h.c3⟩
  · rw [eff_12]
    have : 0 ≤ n ∧ n ≤ 511 := by simpa [numOk, hN] using hn
    exact ⟨by omega, by omega⟩
  · rw [eff_13]
    refine outOk_ite ⟨by decide, by decide⟩ ⟨okB_get h.C _, h.R, h.Rl, ok_set h.C _ (okB_mk (by omega) (by omega)), (by simp [hl]), h.M, h.Ml, h.r0, ?_⟩
    show (s.C.set 3 _).getD 3 0 < 4
    rw [getD_set, if_pos ⟨rfl, by omega⟩]
    omega
  · rw [eff_14]; exact outOk_ite ⟨by decide, by decide⟩ (put_ok h d0 (okB_get h.C _) (nx_ok s))
  · rw [eff_15]
    have ra := okB_true (rg_ok h a)
    refine outOk_ite ⟨by decide, by decide⟩ ⟨nx_ok s, h.R, h.Rl, ok_set h.C _ (okB_ite (okB_mk (by omega) (by omega)) (rg_ok h a)), (by simp [setF, hl]), h.M, h.Ml, h.r0, ?_⟩
    show (s.C.set _ _).getD 3 0 < 4
    rw [getD_set]
    by_cases h5 : f.toNat = 3
    · rw [if_pos ⟨h5, by omega⟩, if_pos (by omega)]
      omega
    · rw [if_neg (by omega)]; exact h3
theorem step_ok {s : St} (h : OkS s) (ring : Bool) : OkS (stepS s ring).1 := by
  unfold stepS
  split
  · exact stop_ok h rfl
  · split
    · exact stop_ok h rfl
    · split
      · exact stop_ok h rfl
      · rename_i hg
        have hg' : gd (wAt s) = true := by simpa using hg
        have hi := (read_ok hg').1
        have := eff_ok h (e := ev1 s) hi
        show OkS ((effS s (ev1 s) _ _ _ _ _ _).fin s (ev1 s)).1
        revert this
        cases effS s (ev1 s) (wAt s / 4096) (rdv (wAt s) 0) (rdv (wAt s) 1) (rdv (wAt s) 2) (rdv (wAt s) 3) (rdv (wAt s) 4) with
        | stop why => intro hw; exact stop_ok h (okB_mk (by have := hw.1; omega) hw.2)
        | go s' e' => intro hw; exact hw

end Go.Proofs.YtbjapncfgancoaaDoor
