/- Caches, as plain data: what is ok, what is seen, read, written, laid. -/
import Derived.Test.YtoacgjjpipdkjaaGu0
namespace Go.Proofs.Ytoacgjjpipdkjaa
open Go.RowKit
set_option linter.unusedVariables false
set_option linter.unusedSimpArgs false
/-- A line: is it used, from which place on, was it written, its words. -/
structure Ln where
  u : Bool
  p : Int
  d : Bool
  W : List Int
/-- A cache: its memory, its lines. -/
structure Ch where
  M : List Int
  L : List Ln
abbrev ln0 : Ln := ⟨false, 0, false, []⟩
abbrev ch0 : Ch := ⟨[], []⟩
/-- Are the words those of the memory from a place on? -/
def sameB (M W : List Int) (p : Nat) : Bool := (List.range 4).all fun j => decide (W.getD j 0 = M.getD (p + j) 0)
def okLn (M : List Int) (k : Int) (l : Ln) : Bool :=
  if l.u = true then decide (0 ≤ l.p ∧ l.p ≤ 252 ∧ l.p % 4 = 0 ∧ l.p / 4 % 4 = k) && (wordsB l.W 4 && (l.d || sameB M l.W l.p.toNat))
  else decide (l.p = 0) && (!l.d && decide (l.W.length = 0))
def okLns (M : List Int) (L : List Ln) : Bool := (List.range L.length).all fun i => okLn M (i : Int) (L.getD i ln0)
def okC (c : Ch) : Bool := wordsB c.M 256 && (decide (c.L.length = 4) && okLns c.M c.L)
theorem okLns_at {M : List Int} {L : List Ln} (h : okLns M L = true) (i : Nat) (hi : i < L.length) : okLn M (i : Int) (L.getD i ln0) = true := List.all_eq_true.1 h i (by simpa using hi)
theorem okLns_of {M : List Int} {L : List Ln} {p : Nat} (h : ∀ i, i < p → okLn M (i : Int) (L.getD i ln0) = true) (hp : L.length ≤ p) : okLns M L = true := List.all_eq_true.2 fun i hi => h i (by simp at hi; omega)
theorem okLns_not {M : List Int} {L : List Ln} {p : Nat} (hp : p < L.length) (h : okLn M (p : Int) (L.getD p ln0) = false) : okLns M L = false := List.all_eq_false.2 ⟨p, by simpa using hp, by rw [h]; decide⟩
structure OkC (c : Ch) : Prop where
  M : c.M.all okB = true
  Ml : c.M.length = 256
  Ll : c.L.length = 4
  L : okLns c.M c.L = true
theorem okC_iff (c : Ch) : okC c = true ↔ OkC c := by
  simp only [okC, wordsB, Bool.and_eq_true, decide_eq_true_eq]
  exact ⟨fun ⟨⟨a, b⟩, d, e⟩ => ⟨a, b, d, e⟩, fun ⟨a, b, d, e⟩ => ⟨⟨a, b⟩, d, e⟩⟩
/-- A used line that is ok. -/
structure OkU (M : List Int) (k : Int) (l : Ln) : Prop where
  u : l.u = true
  p0 : 0 ≤ l.p
  p1 : l.p ≤ 252
  p4 : l.p % 4 = 0
  pk : l.p / 4 % 4 = k
  W : l.W.all okB = true
  Wl : l.W.length = 4
  s : l.d = true ∨ ∀ j, j < 4 → l.W.getD j 0 = M.getD (l.p.toNat + j) 0
theorem sameB_iff (M W : List Int) (p : Nat) : sameB M W p = true ↔ ∀ j, j < 4 → W.getD j 0 = M.getD (p + j) 0 := by
  simp only [sameB, List.all_eq_true, List.mem_range, decide_eq_true_eq]
theorem okLn_used {M : List Int} {k : Int} {l : Ln} (h : okLn M k l = true) (hu : l.u = true) : OkU M k l := by
  simp only [okLn, hu, if_true, wordsB, Bool.and_eq_true, Bool.or_eq_true, decide_eq_true_eq, sameB_iff] at h
  obtain ⟨⟨a, b, c, d⟩, ⟨e, f⟩, g⟩ := h
  exact ⟨hu, a, b, c, d, e, f, g⟩
theorem OkU.ok {M : List Int} {k : Int} {l : Ln} (h : OkU M k l) : okLn M k l = true := by
  simp only [okLn, h.u, if_true, wordsB, Bool.and_eq_true, Bool.or_eq_true, decide_eq_true_eq, sameB_iff]
  exact ⟨⟨h.p0, h.p1, h.p4, h.pk⟩, ⟨h.W, h.Wl⟩, h.s⟩
theorem okLn_free {M : List Int} {k : Int} {l : Ln} (h : okLn M k l = true) (hu : l.u = false) : l = ln0 := by
  obtain ⟨u, p, d, W⟩ := l
  simp only at hu
  subst hu
  simp [okLn] at h
  obtain ⟨a, b, c⟩ := h
  subst a b c
  rfl
theorem ln0_ok (M : List Int) (k : Int) : okLn M k ln0 = true := by simp [okLn]
theorem okLn_W {M : List Int} {k : Int} {l : Ln} (h : okLn M k l = true) : l.W.length ≤ 4 := by
  cases hu : l.u
  · rw [okLn_free h hu]; simp
  · exact Nat.le_of_eq (okLn_used h hu).Wl
theorem okLn_d {M : List Int} {k : Int} {l : Ln} (h : okLn M k l = true) (hd : l.d = true) : l.u = true := by
  cases hu : l.u
  · rw [okLn_free h hu] at hd; cases hd
  · rfl
/-- The line of a place; where its block begins. -/
def slotOf (a : Int) : Nat := (a / 4 % 4).toNat
abbrev blkA (a : Int) : Int := a - a % 4
theorem slotOf_lt (a : Int) : slotOf a < 4 := by unfold slotOf; omega
theorem slotOf_int (a : Int) : ((slotOf a : Nat) : Int) = a / 4 % 4 := by unfold slotOf; omega
def holdsL (l : Ln) (a : Int) : Bool := l.u && decide (l.p = blkA a)
def heldC (c : Ch) (a : Int) : Bool := holdsL (c.L.getD (slotOf a) ln0) a
def lookC (c : Ch) (a : Int) : Int := if heldC c a = true then (c.L.getD (slotOf a) ln0).W.getD (a % 4).toNat 0 else c.M.getD a.toNat 0
/-- Words written one by one into the memory. -/
def putN (M : List Int) (p : Nat) (W : List Int) : Nat → List Int
  | 0 => M
  | j + 1 => (putN M p W j).set (p + j) (W.getD j 0)
theorem putN_len (M : List Int) (p : Nat) (W : List Int) : ∀ j, (putN M p W j).length = M.length
  | 0 => rfl
  | j + 1 => by rw [putN, List.length_set, putN_len M p W j]
theorem putN_get (M : List Int) (p : Nat) (W : List Int) (hp : p + 4 ≤ M.length) : ∀ j, j ≤ 4 → ∀ i, (putN M p W j).getD i 0 = if p ≤ i ∧ i < p + j then W.getD (i - p) 0 else M.getD i 0
  | 0, _, i => by rw [putN, if_neg (by omega)]
  | j + 1, hj, i => by
    rw [putN, getD_set, putN_get M p W hp j (by omega) i, putN_len]
    by_cases e : p + j = i
    · subst e
      rw [if_pos ⟨rfl, by omega⟩, if_pos ⟨by omega, by omega⟩, show p + j - p = j by omega]
    · rw [if_neg (fun h => e h.1)]
      by_cases h : p ≤ i ∧ i < p + j
      · rw [if_pos h, if_pos ⟨h.1, by omega⟩]
      · rw [if_neg h, if_neg (by omega)]
theorem putN_ok {M : List Int} (hM : M.all okB = true) (p : Nat) {W : List Int} (hW : W.all okB = true) : ∀ j, (putN M p W j).all okB = true
  | 0 => hM
  | j + 1 => ok_set (putN_ok hM p hW j) _ (okB_mk (ok_get hW j).1 (ok_get hW j).2)
def backC (c : Ch) (k : Nat) : Ch := ⟨if (c.L.getD k ln0).d = true then putN c.M (c.L.getD k ln0).p.toNat (c.L.getD k ln0).W 4 else c.M, c.L.set k ln0⟩
/-- Four words of the memory. -/
def four (M : List Int) (p : Nat) : List Int := (List.range 4).map fun j => M.getD (p + j) 0
theorem four_get (M : List Int) (p j : Nat) (hj : j < 4) : (four M p).getD j 0 = M.getD (p + j) 0 := by simp [four, List.getD_eq_getElem?_getD, hj]
theorem four_len (M : List Int) (p : Nat) : (four M p).length = 4 := by simp [four]
theorem four_ok {M : List Int} (hM : M.all okB = true) (p : Nat) : (four M p).all okB = true := by
  rw [List.all_eq_true]
  intro x hx
  obtain ⟨j, _, rfl⟩ := List.mem_map.1 hx
  exact okB_mk (ok_get hM _).1 (ok_get hM _).2
def bringC (c : Ch) (a : Int) : Ch := if heldC c a = true then c else ⟨(backC c (slotOf a)).M, (backC c (slotOf a)).L.set (slotOf a) ⟨true, blkA a, false, four (backC c (slotOf a)).M (blkA a).toNat⟩⟩
def wrL (l : Ln) (a n : Int) : Ln := ⟨l.u, l.p, true, l.W.set (a % 4).toNat n⟩
def writeC (c : Ch) (a n : Int) : Ch := ⟨(bringC c a).M, (bringC c a).L.set (slotOf a) (wrL ((bringC c a).L.getD (slotOf a) ln0) a n)⟩
def layC (c : Ch) (a n : Int) : Ch := if heldC c a = true then ⟨(backC c (slotOf a)).M.set a.toNat n, (backC c (slotOf a)).L⟩ else ⟨c.M.set a.toNat n, c.L⟩
def allC (c : Ch) : List Int := (List.range 256).map fun i : Nat => lookC c (i : Int)
def plcB (a : Int) : Bool := decide (0 ≤ a ∧ a < 256)
theorem plcB_iff (a : Int) : plcB a = true ↔ 0 ≤ a ∧ a < 256 := by simp [plcB]
/-- What the functions answer. -/
def lookA (c : Ch) (a : Int) : Int := if okC c && plcB a then lookC c a else -1
def readA (c : Ch) (a : Int) : Ch := if okC c && plcB a then bringC c a else ch0
def readN (c : Ch) (a : Int) : Int := if okC c && plcB a then lookC (bringC c a) a else -1
def writeA (c : Ch) (a n : Int) : Ch := if okC c && plcB a && okB n then writeC c a n else ch0
def layA (c : Ch) (a n : Int) : Ch := if okC c && plcB a && okB n then layC c a n else ch0
def allA (c : Ch) : List Int := if okC c then allC c else []
theorem getD_setN {l : List Ln} {i j : Nat} {v : Ln} : (l.set i v).getD j ln0 = if i = j ∧ j < l.length then v else l.getD j ln0 := by
  simp only [List.getD_eq_getElem?_getD, List.getElem?_set]
  by_cases h : i = j
  · subst h
    by_cases h2 : i < l.length
    · simp [h2]
    · simp [h2]
  · simp [h]
/-- Blocks of two lines are apart. -/
theorem blk_apart {p q : Int} {k m : Nat} (h1 : p % 4 = 0) (h2 : q % 4 = 0) (h3 : p / 4 % 4 = (k : Int)) (h4 : q / 4 % 4 = (m : Int)) (hkm : k ≠ m) : p + 4 ≤ q ∨ q + 4 ≤ p := by omega
theorem backC_M {c : Ch} (h : OkC c) (k : Nat) (hk : k < 4) : (backC c k).M.all okB = true ∧ (backC c k).M.length = 256 := by
  unfold backC
  by_cases hd : (c.L.getD k ln0).d = true
  · have hl := okLns_at h.L k (by rw [h.Ll]; exact hk)
    have hu := okLn_used hl (okLn_d hl hd)
    simp only [hd, if_true]
    exact ⟨putN_ok h.M _ hu.W 4, by rw [putN_len]; exact h.Ml⟩
  · simp only [hd]
    exact ⟨h.M, h.Ml⟩
/-- The memory behind a line that was let go. -/
theorem backC_get {c : Ch} (h : OkC c) (k : Nat) (hk : k < 4) (i : Nat) : (backC c k).M.getD i 0 = if (c.L.getD k ln0).d = true ∧ (c.L.getD k ln0).p.toNat ≤ i ∧ i < (c.L.getD k ln0).p.toNat + 4 then (c.L.getD k ln0).W.getD (i - (c.L.getD k ln0).p.toNat) 0 else c.M.getD i 0 := by
  unfold backC
  by_cases hd : (c.L.getD k ln0).d = true
  · have hl := okLns_at h.L k (by rw [h.Ll]; exact hk)
    have hu := okLn_used hl (okLn_d hl hd)
    have p0 := hu.p0
    have p1 := hu.p1
    simp only [hd, if_true, true_and]
    rw [putN_get _ _ _ (by have := h.Ml; omega) 4 (Nat.le_refl _) i]
  · rw [if_neg hd, if_neg (fun h => hd h.1)]
theorem backC_ok {c : Ch} (h : OkC c) (k : Nat) (hk : k < 4) : OkC (backC c k) := by
  obtain ⟨hM, hMl⟩ := backC_M h k hk
  refine ⟨hM, hMl, by simp [backC, h.Ll], okLns_of (p := 4) (fun i hi => ?_) (by simp [backC, h.Ll])⟩
  have hg : (backC c k).L.getD i ln0 = if k = i then ln0 else c.L.getD i ln0 := by
    show (c.L.set k ln0).getD i ln0 = _
    rw [getD_setN]
    simp [h.Ll, hi]
  rw [hg]
  split
  · exact ln0_ok _ _
  · rename_i hne
    have hl := okLns_at h.L i (by rw [h.Ll]; exact hi)
    cases hu : (c.L.getD i ln0).u
    · rw [okLn_free hl hu]; exact ln0_ok _ _
    · have hU := okLn_used hl hu
      refine OkU.ok ⟨hU.u, hU.p0, hU.p1, hU.p4, hU.pk, hU.W, hU.Wl, ?_⟩
      rcases hU.s with hd | hs
      · exact .inl hd
      · refine .inr fun j hj => ?_
        rw [hs j hj, backC_get h k hk]
        rw [if_neg]
        rintro ⟨hd, q0, q1⟩
        have hk' := okLns_at h.L k (by rw [h.Ll]; exact hk)
        have hV := okLn_used hk' (okLn_d hk' hd)
        have a0 := hU.p0
        have b0 := hV.p0
        rcases blk_apart hU.p4 hV.p4 hU.pk hV.pk (Ne.symm hne) with h9 | h9 <;> omega
theorem set_ok {M : List Int} {L : List Ln} {k : Nat} {l : Ln} (hl : L.length = 4) (h : okLns M L = true) (hn : okLn M (k : Int) l = true) : okLns M (L.set k l) = true := by
  refine okLns_of (p := 4) (fun i hi => ?_) (by simp [hl])
  rw [getD_setN]
  split
  · rename_i e
    rw [← e.1]; exact hn
  · exact okLns_at h i (by omega)
theorem bringC_ok {c : Ch} (h : OkC c) {a : Int} (ha : plcB a = true) : OkC (bringC c a) := by
  obtain ⟨a0, a1⟩ := (plcB_iff a).1 ha
  unfold bringC
  split
  · exact h
  · have hb := backC_ok h (slotOf a) (slotOf_lt a)
    refine ⟨hb.M, hb.Ml, by simp [hb.Ll], set_ok hb.Ll hb.L (OkU.ok ⟨rfl, ?_, ?_, ?_, ?_, four_ok hb.M _, four_len _ _, .inr fun j hj => four_get _ _ j hj⟩)⟩
    · show 0 ≤ a - a % 4; omega
    · show a - a % 4 ≤ 252; omega
    · show (a - a % 4) % 4 = 0; omega
    · rw [slotOf_int]; show (a - a % 4) / 4 % 4 = a / 4 % 4; omega
/-- Behind bringC the line is there. -/
theorem bringC_held {c : Ch} (h : OkC c) {a : Int} (ha : plcB a = true) : heldC (bringC c a) a = true := by
  unfold bringC
  split
  · assumption
  · have hb := backC_ok h (slotOf a) (slotOf_lt a)
    have hs := slotOf_lt a
    simp [heldC, holdsL, getD_setN, hb.Ll, hs]
theorem held_used {c : Ch} (h : OkC c) {a : Int} (hh : heldC c a = true) : OkU c.M (slotOf a : Int) (c.L.getD (slotOf a) ln0) ∧ (c.L.getD (slotOf a) ln0).p = blkA a := by
  have hl := okLns_at h.L (slotOf a) (by rw [h.Ll]; exact slotOf_lt a)
  simp only [heldC, holdsL, Bool.and_eq_true, decide_eq_true_eq] at hh
  exact ⟨okLn_used hl hh.1, hh.2⟩
theorem wrL_ok {M : List Int} {k : Int} {l : Ln} (h : OkU M k l) {a n : Int} (hn : okB n = true) : OkU M k (wrL l a n) :=
  ⟨h.u, h.p0, h.p1, h.p4, h.pk, ok_set h.W _ hn, by simp [wrL, h.Wl], .inl rfl⟩
theorem writeC_ok {c : Ch} (h : OkC c) {a n : Int} (ha : plcB a = true) (hn : okB n = true) : OkC (writeC c a n) := by
  have hb := bringC_ok h ha
  have hu := (held_used hb (bringC_held h ha)).1
  exact ⟨hb.M, hb.Ml, by simp [writeC, hb.Ll], set_ok hb.Ll hb.L (wrL_ok hu hn).ok⟩
theorem layC_ok {c : Ch} (h : OkC c) {a n : Int} (ha : plcB a = true) (hn : okB n = true) : OkC (layC c a n) := by
  obtain ⟨a0, a1⟩ := (plcB_iff a).1 ha
  have main : ∀ x : Ch, OkC x → heldC x a = false → OkC ⟨x.M.set a.toNat n, x.L⟩ := fun x hx hh => by
    refine ⟨ok_set hx.M _ hn, by simp [hx.Ml], hx.Ll, okLns_of (p := 4) (fun i hi => ?_) (by simp [hx.Ll])⟩
    have hl := okLns_at hx.L i (by rw [hx.Ll]; exact hi)
    show okLn (x.M.set a.toNat n) _ (x.L.getD i ln0) = true
    cases hu : (x.L.getD i ln0).u
    · rw [okLn_free hl hu]; exact ln0_ok _ _
    · have hU := okLn_used hl hu
      refine OkU.ok ⟨hU.u, hU.p0, hU.p1, hU.p4, hU.pk, hU.W, hU.Wl, ?_⟩
      rcases hU.s with hd | hs
      · exact .inl hd
      · refine .inr fun j hj => ?_
        rw [hs j hj, getD_set, if_neg]
        rintro ⟨e, _⟩
        have p0 := hU.p0
        have p4 := hU.p4
        have pk := hU.pk
        have hp : (x.L.getD i ln0).p = blkA a := by show _ = a - a % 4; omega
        have hi' : i = slotOf a := by unfold slotOf; rw [hp] at pk; unfold blkA at pk; omega
        rw [hi'] at hu hp
        rw [heldC, holdsL, hu, hp] at hh
        simp at hh
  unfold layC
  split
  · rename_i hh
    refine main _ (backC_ok h _ (slotOf_lt a)) ?_
    have hs := slotOf_lt a
    simp [heldC, holdsL, backC, getD_setN, h.Ll, hs]
  · rename_i hh
    exact main c h (by simpa using hh)

end Go.Proofs.Ytoacgjjpipdkjaa
