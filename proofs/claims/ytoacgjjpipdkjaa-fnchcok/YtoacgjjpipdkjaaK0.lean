/- Caches, as plain data: what is ok, what is seen, read, written, laid. Lines in memory, four cells each; caches that are read, and caches that a call owns. -/
import Derived.Deep.RegionHeld3
import Derived.Test.YtoacgjjpipdkjaaGu0
import Derived.Test.YtoacgjjpipdkjaaN12
import Derived.Test.YtoacgjjpipdkjaaGu1
namespace Go.Proofs.Ytoacgjjpipdkjaa
open Go.RowKit
set_option linter.unusedVariables false
set_option linter.unusedSimpArgs false
/-- A line: is it used, from which place on, was it written, its words. -/
structure Ln where
  u : Bool
  p : Int
  d : Bool
  W : List Int
/-- A cache: its memory, its lines. -/
structure Ch where
  M : List Int
  L : List Ln
abbrev ln0 : Ln := ⟨false, 0, false, []⟩
abbrev ch0 : Ch := ⟨[], []⟩
/-- Are the words those of the memory from a place on? -/
def sameB (M W : List Int) (p : Nat) : Bool := (List.range 4).all fun j => decide (W.getD j 0 = M.getD (p + j) 0)
def okLn (M : List Int) (k : Int) (l : Ln) : Bool :=
  if l.u = true then decide (0 ≤ l.p ∧ l.p ≤ 252 ∧ l.p % 4 = 0 ∧ l.p / 4 % 4 = k) && (wordsB l.W 4 && (l.d || sameB M l.W l.p.toNat))
  else decide (l.p = 0) && (!l.d && decide (l.W.length = 0))
def okLns (M : List Int) (L : List Ln) : Bool := (List.range L.length).all fun i => okLn M (i : Int) (L.getD i ln0)
def okC (c : Ch) : Bool := wordsB c.M 256 && (decide (c.L.length = 4) && okLns c.M c.L)
theorem okLns_at {M : List Int} {L : List Ln} (h : okLns M L = true) (i : Nat) (hi : i < L.length) : okLn M (i : Int) (L.getD i ln0) = true := List.all_eq_true.1 h i (by simpa using hi)
theorem okLns_of {M : List Int} {L : List Ln} {p : Nat} (h : ∀ i, i < p → okLn M (i : Int) (L.getD i ln0) = true) (hp : L.length ≤ p) : okLns M L = true := List.all_eq_true.2 fun i hi => h i (by simp at hi; omega)
theorem okLns_not {M : List Int} {L : List Ln} {p : Nat} (hp : p < L.length) (h : okLn M (p : Int) (L.getD p ln0) = false) : okLns M L = false := List.all_eq_false.2 ⟨p, by simpa using hp, by rw [h]; decide⟩
structure OkC (c : Ch) : Prop where
  M : c.M.all okB = true
  Ml : c.M.length = 256
  Ll : c.L.length = 4
  L : okLns c.M c.L = true
theorem okC_iff (c : Ch) : okC c = true ↔ OkC c := by
  simp only [okC, wordsB, Bool.and_eq_true, decide_eq_true_eq]
  exact ⟨fun ⟨⟨a, b⟩, d, e⟩ => ⟨a, b, d, e⟩, fun ⟨a, b, d, e⟩ => ⟨⟨a, b⟩, d, e⟩⟩
/-- A used line that is ok. -/
structure OkU (M : List Int) (k : Int) (l : Ln) : Prop where
  u : l.u = true
  p0 : 0 ≤ l.p
  p1 : l.p ≤ 252
  p4 : l.p % 4 = 0
  pk : l.p / 4 % 4 = k
  W : l.W.all okB = true
  Wl : l.W.length = 4
  s : l.d = true ∨ ∀ j, j < 4 → l.W.getD j 0 = M.getD (l.p.toNat + j) 0
theorem sameB_iff (M W : List Int) (p : Nat) : sameB M W p = true ↔ ∀ j, j < 4 → W.getD j 0 = M.getD (p + j) 0 := by
  simp only [sameB, List.all_eq_true, List.mem_range, decide_eq_true_eq]
theorem okLn_used {M : List Int} {k : Int} {l : Ln} (h : okLn M k l = true) (hu : l.u = true) : OkU M k l := by
  simp only [okLn, hu, if_true, wordsB, Bool.and_eq_true, Bool.or_eq_true, decide_eq_true_eq, sameB_iff] at h
  obtain ⟨⟨a, b, c, d⟩, ⟨e, f⟩, g⟩ := h
  exact ⟨hu, a, b, c, d, e, f, g⟩
theorem OkU.ok {M : List Int} {k : Int} {l : Ln} (h : OkU M k l) : okLn M k l = true := by
  simp only [okLn, h.u, if_true, wordsB, Bool.and_eq_true, Bool.or_eq_true, decide_eq_true_eq, sameB_iff]
  exact ⟨⟨h.p0, h.p1, h.p4, h.pk⟩, ⟨h.W, h.Wl⟩, h.s⟩
theorem okLn_free {M : List Int} {k : Int} {l : Ln} (h : okLn M k l = true) (hu : l.u = false) : l = ln0 := by
  obtain ⟨u, p, d, W⟩ := l
  simp only at hu
  subst hu
  simp [okLn] at h
  obtain ⟨a, b, c⟩ := h
  subst a b c
  rfl
theorem ln0_ok (M : List Int) (k : Int) : okLn M k ln0 = true := by simp [okLn]
theorem okLn_W {M : List Int} {k : Int} {l : Ln} (h : okLn M k l = true) : l.W.length ≤ 4 := by
  cases hu : l.u
  · rw [okLn_free h hu]; simp
  · exact Nat.le_of_eq (okLn_used h hu).Wl
theorem okLn_d {M : List Int} {k : Int} {l : Ln} (h : okLn M k l = true) (hd : l.d = true) : l.u = true := by
  cases hu : l.u
  · rw [okLn_free h hu] at hd; cases hd
  · rfl
/-- The line of a place; where its block begins. -/
def slotOf (a : Int) : Nat := (a / 4 % 4).toNat
abbrev blkA (a : Int) : Int := a - a % 4
theorem slotOf_lt (a : Int) : slotOf a < 4 := by unfold slotOf; omega
theorem slotOf_int (a : Int) : ((slotOf a : Nat) : Int) = a / 4 % 4 := by unfold slotOf; omega
def holdsL (l : Ln) (a : Int) : Bool := l.u && decide (l.p = blkA a)
def heldC (c : Ch) (a : Int) : Bool := holdsL (c.L.getD (slotOf a) ln0) a
def lookC (c : Ch) (a : Int) : Int := if heldC c a = true then (c.L.getD (slotOf a) ln0).W.getD (a % 4).toNat 0 else c.M.getD a.toNat 0
/-- Words written one by one into the memory. -/
def putN (M : List Int) (p : Nat) (W : List Int) : Nat → List Int
  | 0 => M
  | j + 1 => (putN M p W j).set (p + j) (W.getD j 0)
theorem putN_len (M : List Int) (p : Nat) (W : List Int) : ∀ j, (putN M p W j).length = M.length
  | 0 => rfl
  | j + 1 => by rw [putN, List.length_set, putN_len M p W j]
theorem putN_get (M : List Int) (p : Nat) (W : List Int) (hp : p + 4 ≤ M.length) : ∀ j, j ≤ 4 → ∀ i, (putN M p W j).getD i 0 = if p ≤ i ∧ i < p + j then W.getD (i - p) 0 else M.getD i 0
  | 0, _, i => by rw [putN, if_neg (by omega)]
  | j + 1, hj, i => by
    rw [putN, getD_set, putN_get M p W hp j (by omega) i, putN_len]
    by_cases e : p + j = i
    · subst e
      rw [if_pos ⟨rfl, by omega⟩, if_pos ⟨by omega, by omega⟩, show p + j - p = j by omega]
    · rw [if_neg (fun h => e h.1)]
      by_cases h : p ≤ i ∧ i < p + j
      · rw [if_pos h, if_pos ⟨h.1, by omega⟩]
      · rw [if_neg h, if_neg (by omega)]
theorem putN_ok {M : List Int} (hM : M.all okB = true) (p : Nat) {W : List Int} (hW : W.all okB = true) : ∀ j, (putN M p W j).all okB = true
  | 0 => hM
  | j + 1 => ok_set (putN_ok hM p hW j) _ (okB_mk (ok_get hW j).1 (ok_get hW j).2)
def backC (c : Ch) (k : Nat) : Ch := ⟨if (c.L.getD k ln0).d = true then putN c.M (c.L.getD k ln0).p.toNat (c.L.getD k ln0).W 4 else c.M, c.L.set k ln0⟩
/-- Four words of the memory. -/
def four (M : List Int) (p : Nat) : List Int := (List.range 4).map fun j => M.getD (p + j) 0
theorem four_get (M : List Int) (p j : Nat) (hj : j < 4) : (four M p).getD j 0 = M.getD (p + j) 0 := by simp [four, List.getD_eq_getElem?_getD, hj]
theorem four_len (M : List Int) (p : Nat) : (four M p).length = 4 := by simp [four]
theorem four_ok {M : List Int} (hM : M.all okB = true) (p : Nat) : (four M p).all okB = true := by
  rw [List.all_eq_true]
  intro x hx
  obtain ⟨j, _, rfl⟩ := List.mem_map.1 hx
  exact okB_mk (ok_get hM _).1 (ok_get hM _).2
def bringC (c : Ch) (a : Int) : Ch := if heldC c a = true then c else ⟨(backC c (slotOf a)).M, (backC c (slotOf a)).L.set (slotOf a) ⟨true, blkA a, false, four (backC c (slotOf a)).M (blkA a).toNat⟩⟩
def wrL (l : Ln) (a n : Int) : Ln := ⟨l.u, l.p, true, l.W.set (a % 4).toNat n⟩
def writeC (c : Ch) (a n : Int) : Ch := ⟨(bringC c a).M, (bringC c a).L.set (slotOf a) (wrL ((bringC c a).L.getD (slotOf a) ln0) a n)⟩
def layC (c : Ch) (a n : Int) : Ch := if heldC c a = true then ⟨(backC c (slotOf a)).M.set a.toNat n, (backC c (slotOf a)).L⟩ else ⟨c.M.set a.toNat n, c.L⟩
def allC (c : Ch) : List Int := (List.range 256).map fun i : Nat => lookC c (i : Int)
def plcB (a : Int) : Bool := decide (0 ≤ a ∧ a < 256)
theorem plcB_iff (a : Int) : plcB a = true ↔ 0 ≤ a ∧ a < 256 := by simp [plcB]
/-- What the functions answer. -/
def lookA (c : Ch) (a : Int) : Int := if okC c && plcB a then lookC c a else -1
def readA (c : Ch) (a : Int) : Ch := if okC c && plcB a then bringC c a else ch0
def readN (c : Ch) (a : Int) : Int := if okC c && plcB a then lookC (bringC c a) a else -1
def writeA (c : Ch) (a n : Int) : Ch := if okC c && plcB a && okB n then writeC c a n else ch0
def layA (c : Ch) (a n : Int) : Ch := if okC c && plcB a && okB n then layC c a n else ch0
def allA (c : Ch) : List Int := if okC c then allC c else []
theorem getD_setN {l : List Ln} {i j : Nat} {v : Ln} : (l.set i v).getD j ln0 = if i = j ∧ j < l.length then v else l.getD j ln0 := by
  simp only [List.getD_eq_getElem?_getD, List.getElem?_set]
  by_cases h : i = j
  · subst h
    by_cases h2 : i < l.length
    · simp [h2]
    · simp [h2]
  · simp [h]
/-- Blocks of two lines are apart. -/
theorem blk_apart {p q : Int} {k m : Nat} (h1 : p % 4 = 0) (h2 : q % 4 = 0) (h3 : p / 4 % 4 = (k : Int)) (h4 : q / 4 % 4 = (m : Int)) (hkm : k ≠ m) : p + 4 ≤ q ∨ q + 4 ≤ p := by omega
theorem backC_M {c : Ch} (h : OkC c) (k : Nat) (hk : k < 4) : (backC c k).M.all okB = true ∧ (backC c k).M.length = 256 := by
  unfold backC
  by_cases hd : (c.L.getD k ln0).d = true
  · have hl := okLns_at h.L k (by rw [h.Ll]; exact hk)
    have hu := okLn_used hl (okLn_d hl hd)
    simp only [hd, if_true]
    exact ⟨putN_ok h.M _ hu.W 4, by rw [putN_len]; exact h.Ml⟩
  · simp only [hd]
    exact ⟨h.M, h.Ml⟩
/-- The memory behind a line that was let go. -/
theorem backC_get {c : Ch} (h : OkC c) (k : Nat) (hk : k < 4) (i : Nat) : (backC c k).M.getD i 0 = if (c.L.getD k ln0).d = true ∧ (c.L.getD k ln0).p.toNat ≤ i ∧ i < (c.L.getD k ln0).p.toNat + 4 then (c.L.getD k ln0).W.getD (i - (c.L.getD k ln0).p.toNat) 0 else c.M.getD i 0 := by
  unfold backC
  by_cases hd : (c.L.getD k ln0).d = true
  · have hl := okLns_at h.L k (by rw [h.Ll]; exact hk)
    have hu := okLn_used hl (okLn_d hl hd)
    have p0 := hu.p0
    have p1 := hu.p1
    simp only [hd, if_true, true_and]
    rw [putN_get _ _ _ (by have := h.Ml; omega) 4 (Nat.le_refl _) i]
  · rw [if_neg hd, if_neg (fun h => hd h.1)]
theorem backC_ok {c : Ch} (h : OkC c) (k : Nat) (hk : k < 4) : OkC (backC c k) := by
  obtain ⟨hM, hMl⟩ := backC_M h k hk
  refine ⟨hM, hMl, by simp [backC, h.Ll], okLns_of (p := 4) (fun i hi => ?_) (by simp [backC, h.Ll])⟩
  have hg : (backC c k).L.getD i ln0 = if k = i then ln0 else c.L.getD i ln0 := by
    show (c.L.set k ln0).getD i ln0 = _
    rw [getD_setN]
    simp [h.Ll, hi]
  rw [hg]
  split
  · exact ln0_ok _ _
  · rename_i hne
    have hl := okLns_at h.L i (by rw [h.Ll]; exact hi)
    cases hu : (c.L.getD i ln0).u
    · rw [okLn_free hl hu]; exact ln0_ok _ _
    · have hU := okLn_used hl hu
      refine OkU.ok ⟨hU.u, hU.p0, hU.p1, hU.p4, hU.pk, hU.W, hU.Wl, ?_⟩
      rcases hU.s with hd | hs
      · exact .inl hd
      · refine .inr fun j hj => ?_
        rw [hs j hj, backC_get h k hk]
        rw [if_neg]
        rintro ⟨hd, q0, q1⟩
        have hk' := okLns_at h.L k (by rw [h.Ll]; exact hk)
        have hV := okLn_used hk' (okLn_d hk' hd)
        have a0 := hU.p0
        have b0 := hV.p0
        rcases blk_apart hU.p4 hV.p4 hU.pk hV.pk (Ne.symm hne) with h9 | h9 <;> omega
theorem set_ok {M : List Int} {L : List Ln} {k : Nat} {l : Ln} (hl : L.length = 4) (h : okLns M L = true) (hn : okLn M (k : Int) l = true) : okLns M (L.set k l) = true := by
  refine okLns_of (p := 4) (fun i hi => ?_) (by simp [hl])
  rw [getD_setN]
  split
  · rename_i e
    rw [← e.1]; exact hn
  · exact okLns_at h i (by omega)
theorem bringC_ok {c : Ch} (h : OkC c) {a : Int} (ha : plcB a = true) : OkC (bringC c a) := by
  obtain ⟨a0, a1⟩ := (plcB_iff a).1 ha
  unfold bringC
  split
  · exact h
  · have hb := backC_ok h (slotOf a) (slotOf_lt a)
    refine ⟨hb.M, hb.Ml, by simp [hb.Ll], set_ok hb.Ll hb.L (OkU.ok ⟨rfl, ?_, ?_, ?_, ?_, four_ok hb.M _, four_len _ _, .inr fun j hj => four_get _ _ j hj⟩)⟩
    · show 0 ≤ a - a % 4; omega
    · show a - a % 4 ≤ 252; omega
    · show (a - a % 4) % 4 = 0; omega
    · rw [slotOf_int]; show (a - a % 4) / 4 % 4 = a / 4 % 4; omega
/-- Behind bringC the line is there. -/
theorem bringC_held {c : Ch} (h : OkC c) {a : Int} (ha : plcB a = true) : heldC (bringC c a) a = true := by
  unfold bringC
  split
  · assumption
  · have hb := backC_ok h (slotOf a) (slotOf_lt a)
    have hs := slotOf_lt a
    simp [heldC, holdsL, getD_setN, hb.Ll, hs]
theorem held_used {c : Ch} (h : OkC c) {a : Int} (hh : heldC c a = true) : OkU c.M (slotOf a : Int) (c.L.getD (slotOf a) ln0) ∧ (c.L.getD (slotOf a) ln0).p = blkA a := by
  have hl := okLns_at h.L (slotOf a) (by rw [h.Ll]; exact slotOf_lt a)
  simp only [heldC, holdsL, Bool.and_eq_true, decide_eq_true_eq] at hh
  exact ⟨okLn_used hl hh.1, hh.2⟩
theorem wrL_ok {M : List Int} {k : Int} {l : Ln} (h : OkU M k l) {a n : Int} (hn : okB n = true) : OkU M k (wrL l a n) :=
  ⟨h.u, h.p0, h.p1, h.p4, h.pk, ok_set h.W _ hn, by simp [wrL, h.Wl], .inl rfl⟩
theorem writeC_ok {c : Ch} (h : OkC c) {a n : Int} (ha : plcB a = true) (hn : okB n = true) : OkC (writeC c a n) := by
  have hb := bringC_ok h ha
  have hu := (held_used hb (bringC_held h ha)).1
  exact ⟨hb.M, hb.Ml, by simp [writeC, hb.Ll], set_ok hb.Ll hb.L (wrL_ok hu hn).ok⟩
theorem layC_ok {c : Ch} (h : OkC c) {a n : Int} (ha : plcB a = true) (hn : okB n = true) : OkC (layC c a n) := by
  obtain ⟨a0, a1⟩ := (plcB_iff a).1 ha
  have main : ∀ x : Ch, OkC x → heldC x a = false → OkC ⟨x.M.set a.toNat n, x.L⟩ := fun x hx hh => by
    refine ⟨ok_set hx.M _ hn, by simp [hx.Ml], hx.Ll, okLns_of (p := 4) (fun i hi => ?_) (by simp [hx.Ll])⟩
    have hl := okLns_at hx.L i (by rw [hx.Ll]; exact hi)
    show okLn (x.M.set a.toNat n) _ (x.L.getD i ln0) = true
    cases hu : (x.L.getD i ln0).u
    · rw [okLn_free hl hu]; exact ln0_ok _ _
    · have hU := okLn_used hl hu
      refine OkU.ok ⟨hU.u, hU.p0, hU.p1, hU.p4, hU.pk, hU.W, hU.Wl, ?_⟩
      rcases hU.s with hd | hs
      · exact .inl hd
      · refine .inr fun j hj => ?_
        rw [hs j hj, getD_set, if_neg]
        rintro ⟨e, _⟩
        have p0 := hU.p0
        have p4 := hU.p4
        have pk := hU.pk
        have hp : (x.L.getD i ln0).p = blkA a := by show _ = a - a % 4; omega
        have hi' : i = slotOf a := by unfold slotOf; rw [hp] at pk; unfold blkA at pk; omega
        rw [hi'] at hu hp
        rw [heldC, holdsL, hu, hp] at hh
        simp at hh
  unfold layC
  split
  · rename_i hh
    refine main _ (backC_ok h _ (slotOf_lt a)) ?_
    have hs := slotOf_lt a
    simp [heldC, holdsL, backC, getD_setN, h.Ll, hs]
  · rename_i hh
    exact main c h (by simpa using hh)

/-- A line as it lies: its words' address and room beside it. -/
structure La where
  n : Ln
  a : Option Addr
  c : Nat
abbrev la0 : La := ⟨ln0, none, 0⟩
def lac (l : La) : List Value := [.bool l.n.u, .int .i64 l.n.p, .bool l.n.d, .slice l.a l.n.W.length l.c]
abbrev lav (l : La) : Value := .agg #[.bool l.n.u, .int .i64 l.n.p, .bool l.n.d, .slice l.a l.n.W.length l.c]
def clL (X : List La) : List Value := X.flatMap lac
theorem clL_len (X : List La) : (clL X).length = 4 * X.length := by
  induction X with
  | nil => rfl
  | cons x r ih => simp only [clL, List.flatMap_cons, List.length_append, List.length_cons] at *; rw [ih]; simp [lac]; omega
theorem clL_at : ∀ (X : List La) (i : Nat), i < X.length → (clL X)[4 * i]? = some (.bool (X.getD i la0).n.u) ∧ (clL X)[4 * i + 1]? = some (.int .i64 (X.getD i la0).n.p) ∧ (clL X)[4 * i + 2]? = some (.bool (X.getD i la0).n.d) ∧ (clL X)[4 * i + 3]? = some (.slice (X.getD i la0).a (X.getD i la0).n.W.length (X.getD i la0).c)
  | [], i, h => absurd h (by simp)
  | x :: r, 0, _ => by simp [clL, lac]
  | x :: r, i + 1, h => by
    have ih := clL_at r i (by simpa using h)
    have e : ∀ j, (clL (x :: r))[4 * (i + 1) + j]? = (clL r)[4 * i + j]? := fun j => by
      show (lac x ++ clL r)[4 * (i + 1) + j]? = _
      rw [List.getElem?_append_right (by simp [lac]; omega)]
      congr 1
      simp [lac]; omega
    have e0 := e 0
    simp only [Nat.add_zero] at e0
    rw [e0, e 1, e 2, e 3]
    simpa using ih
theorem clL_one (X : List La) : ∀ v ∈ clL X, v.oneCell' = true := fun v hv => by
  obtain ⟨x, _, hx⟩ := List.mem_flatMap.1 hv
  simp [lac] at hx
  rcases hx with rfl | rfl | rfl | rfl <;> rfl
theorem clL_app (X Y : List La) : clL (X ++ Y) = clL X ++ clL Y := by simp [clL]
abbrev lns (X : List La) : List Ln := X.map La.n
theorem lns_get (X : List La) (i : Nat) : (lns X).getD i ln0 = (X.getD i la0).n := by
  simp only [lns, List.getD_eq_getElem?_getD, List.getElem?_map]
  cases X[i]? <;> rfl
theorem lns_set (X : List La) (i : Nat) (y : La) : lns (X.set i y) = (lns X).set i y.n := by simp [lns, List.map_set]
theorem getD_setA {l : List La} {i j : Nat} {v : La} : (l.set i v).getD j la0 = if i = j ∧ j < l.length then v else l.getD j la0 := by
  simp only [List.getD_eq_getElem?_getD, List.getElem?_set]
  by_cases h : i = j
  · subst h
    by_cases h2 : i < l.length
    · simp [h2]
    · simp [h2]
  · simp [h]
/-- Words of line i, as they are read. -/
abbrev WSrc (u : World) (l : La) : Prop := Src u l.n.W.length (ivl l.n.W) l.a
/-- Lines are read at ao. -/
structure SrcL (u : World) (X : List La) (ao : Option Addr) : Prop where
  at0 : 0 < X.length → ∃ g o, ao = some ⟨g, o, none⟩ ∧ g < u.heap.size ∧ u.rangeAt g o (clL X)
  wd : ∀ i, i < X.length → WSrc u (X.getD i la0)
theorem SrcL.fr {u u' : World} {X : List La} {ao : Option Addr} (h : SrcL u X ao) (f : Fr u u') : SrcL u' X ao :=
  ⟨fun h0 => by
    obtain ⟨g, o, e, hl, hc⟩ := h.at0 h0
    exact ⟨g, o, e, Nat.lt_of_lt_of_le hl f.size, range_fr hc f hl⟩, fun i hi => (h.wd i hi).fr f⟩
theorem line_at {u : World} {g o : Nat} {X : List La} (h : u.rangeAt g o (clL X)) (i : Nat) (hi : i < X.length) : u.cell? ⟨g, o + i * 4, none⟩ = some (.bool (X.getD i la0).n.u) ∧ u.cell? ⟨g, o + i * 4 + 1, none⟩ = some (.int .i64 (X.getD i la0).n.p) ∧ u.cell? ⟨g, o + i * 4 + 2, none⟩ = some (.bool (X.getD i la0).n.d) ∧ u.cell? ⟨g, o + i * 4 + 3, none⟩ = some (.slice (X.getD i la0).a (X.getD i la0).n.W.length (X.getD i la0).c) := by
  obtain ⟨h0, h1, h2, h3⟩ := clL_at X i hi
  have e0 := h _ _ h0
  have e1 := h _ _ h1
  have e2 := h _ _ h2
  have e3 := h _ _ h3
  rw [show o + 4 * i = o + i * 4 by omega] at e0
  rw [show o + (4 * i + 1) = o + i * 4 + 1 by omega] at e1
  rw [show o + (4 * i + 2) = o + i * 4 + 2 by omega] at e2
  rw [show o + (4 * i + 3) = o + i * 4 + 3 by omega] at e3
  exact ⟨e0, e1, e2, e3⟩
/-- A cache, as it is read somewhere. -/
structure SrcC (u : World) (M : List Int) (X : List La) (aM aL : Option Addr) : Prop where
  M : Src u M.length (ivl M) aM
  L : SrcL u X aL
theorem SrcC.fr {u u' : World} {M : List Int} {X : List La} {aM aL : Option Addr} (h : SrcC u M X aM aL) (f : Fr u u') : SrcC u' M X aM aL := ⟨h.M.fr f, h.L.fr f⟩
/-- How many numbers a cache has, at most. -/
structure FewC (M : List Int) (X : List La) : Prop where
  M : M.length ≤ 1048576
  L : X.length ≤ 1048576
  W : ∀ i, i < X.length → (X.getD i la0).n.W.length ≤ 1048576
/-- Lines lie in block g, and may be written. -/
structure RoL (u : World) (g : Nat) (X : List La) : Prop where
  lt : g < u.heap.size
  rng : u.rangeAt g 0 (clL X)
  thr : u.there g 0 (4 * X.length)
theorem RoL.but {L : List Nat} {u u' : World} {g : Nat} {X : List La} (h : RoL u g X) (f : But L u u') (hn : g ∉ L) : RoL u' g X :=
  ⟨Nat.lt_of_lt_of_le h.lt f.size, range_but h.rng f h.lt hn, there_but h.thr f h.lt hn⟩
theorem RoL.fr {u u' : World} {g : Nat} {X : List La} (h : RoL u g X) (f : Fr u u') : RoL u' g X := h.but (L := []) (But.of f) (by simp)
theorem RoL.setL {u : World} {g : Nat} {X : List La} (h : RoL u g X) (k : Nat) (y : La) (hk : k < X.length) : RoL (u.setCells g (k * 4) (lac y)) g (X.set k y) := by
  have hb : But [g] u (u.setCells g (k * 4) (lac y)) := But.setCells g (.inl (by simp)) _ _ _ (But.refl _ _)
  refine ⟨Nat.lt_of_lt_of_le h.lt hb.size, fun j v hv => ?_, by rw [List.length_set]; exact World.there_setCells h.thr _ _ _⟩
  have hj : j < 4 * X.length := by
    have := (List.getElem?_eq_some_iff.1 hv).1
    rw [clL_len, List.length_set] at this
    exact this
  obtain ⟨i, r, rfl, hr⟩ : ∃ i r, j = 4 * i + r ∧ r < 4 := ⟨j / 4, j % 4, by omega, by omega⟩
  have hi : i < X.length := by omega
  have hc := clL_at (X.set k y) i (by rw [List.length_set]; exact hi)
  rw [getD_setA] at hc
  rw [Nat.zero_add]
  by_cases e : k = i
  · subst e
    rw [if_pos ⟨rfl, hi⟩] at hc
    have hin := World.cell?_setCells_in g (lac y) (k * 4) u (fun j hj => by
      have hj4 : j < 4 := hj
      have := (h.thr (k * 4 + j) (by omega)).1
      rwa [Nat.zero_add] at this) r hr
    rw [show 4 * k + r = k * 4 + r by omega, hin]
    rcases r with _ | _ | _ | _ | r
    · rw [Nat.add_zero, hc.1] at hv; exact hv
    · rw [hc.2.1] at hv; exact hv
    · rw [hc.2.2.1] at hv; exact hv
    · rw [hc.2.2.2] at hv; exact hv
    · omega
  · rw [if_neg (fun h => e h.1)] at hc
    rw [World.cell?_setCells_out g (lac y) (k * 4) u ⟨g, 4 * i + r, none⟩ (fun _ _ => by
      show 4 * i + r < k * 4 ∨ k * 4 + 4 ≤ 4 * i + r
      omega)]
    have hS := clL_at X i hi
    have := h.rng (4 * i + r) v (by
      rcases r with _ | _ | _ | _ | r
      · rw [Nat.add_zero, hS.1]; rw [Nat.add_zero, hc.1] at hv; exact hv
      · rw [hS.2.1]; rw [hc.2.1] at hv; exact hv
      · rw [hS.2.2.1]; rw [hc.2.2.1] at hv; exact hv
      · rw [hS.2.2.2]; rw [hc.2.2.2] at hv; exact hv
      · omega)
    rwa [Nat.zero_add] at this
theorem RoL.slot {u : World} {g : Nat} {X : List La} (h : RoL u g X) (i : Nat) (hi : i < X.length) : u.cell? ⟨g, i * 4, none⟩ = some (.bool (X.getD i la0).n.u) ∧ u.cell? ⟨g, i * 4 + 1, none⟩ = some (.int .i64 (X.getD i la0).n.p) ∧ u.cell? ⟨g, i * 4 + 2, none⟩ = some (.bool (X.getD i la0).n.d) ∧ u.cell? ⟨g, i * 4 + 3, none⟩ = some (.slice (X.getD i la0).a (X.getD i la0).n.W.length (X.getD i la0).c) := by
  have := line_at h.rng i hi
  simpa using this
theorem RoL.there4 {u : World} {g : Nat} {X : List La} (h : RoL u g X) (i : Nat) (hi : i < X.length) : u.there g (i * 4) 4 := fun j hj => by
  have := h.thr (i * 4 + j) (by omega)
  rwa [Nat.zero_add] at this
theorem line_all (y : La) : #[Value.bool y.n.u, Value.int .i64 y.n.p, Value.bool y.n.d, Value.slice y.a y.n.W.length y.c].all (·.oneCell') = true :=
  all_oneCell_toArray (cs := lac y) (by intro v hv; simp [lac] at hv; rcases hv with rfl | rfl | rfl | rfl <;> rfl)
theorem info_line : (Try.prog.info? 59).map (·.size) = some 4 := by kernel_rfl
section
variable {Q : Exit → Act → World → Prop}
/-- A line is stored. -/
theorem wpList_store_line {ops : Array Oper} {rest : List Oper} {op : Oper} {a : Act} {w : World} (hgd : op.guard = none) (x z : Operand) (ho : op.op = .store 59 x z)
    (b o : Nat) (y : La) (hx : a.eval x = .pointer (some ⟨b, o, none⟩)) (hy : a.eval z = lav y) (ht : w.there b o 4) (u : World) (hu : w.setCells b o (lac y) = u)
    (h : wpList Try.prog ops Q rest (a.put op.dst undef) u) : wpList Try.prog ops Q (op :: rest) a w := by
  subst hu
  exact wpList_store_mid hgd 59 x z ho b o _ hx hy ht info_line (line_all y) h
theorem wp_store_line {K : Act → World → Prop} {op : Oper} {a : Act} {w : World} (x z : Operand) (ho : op.op = .store 59 x z)
    (b o : Nat) (y : La) (hx : a.eval x = .pointer (some ⟨b, o, none⟩)) (hy : a.eval z = lav y) (ht : w.there b o 4) (u : World) (hu : w.setCells b o (lac y) = u)
    (h : K (a.put op.dst undef) u) : op.wp Try.prog a w K Q := by
  subst hu
  exact wp_store_mid 59 x z ho b o _ hx hy ht info_line (line_all y) h
end
theorem rol_block {u : World} {g : Nat} {X : List La} {cur : Array Value} {e : TypeId} (hg : u.heap[g]? = some (.cells cur e (0, 0))) (hx : ∀ (j : Nat) (v : Value), (clL X)[j]? = some v → cur[j]? = some v) : RoL u g X := by
  have hc : ∀ j, u.cell? ⟨g, j, none⟩ = cur[j]? := fun j => by simp [World.cell?, hg]
  refine ⟨?_, fun j v hv => by rw [Nat.zero_add, hc]; exact hx j v hv, fun j hj => ?_⟩
  · by_cases hh : g < u.heap.size
    · exact hh
    · rw [Array.getElem?_eq_none (by omega)] at hg; cases hg
  · rw [Nat.zero_add]
    refine ⟨?_, by simp [World.frozen?, hg]⟩
    have hl : j < (clL X).length := by rw [clL_len]; exact hj
    rw [hc, hx j _ (List.getElem?_eq_getElem hl)]
    rfl
theorem rol_new (w : World) (X : List La) (zs : Array Value) (e : TypeId) : RoL (w.alloc (.cells ((clL X).toArray ++ zs) e)) w.heap.size X := by
  refine rol_block (cur := (clL X).toArray ++ zs) (heap_alloc_new w _) (fun j v hv => ?_)
  have hl : j < (clL X).length := (List.getElem?_eq_some_iff.1 hv).1
  rw [Array.getElem?_append_left (by simpa using hl)]
  simpa using hv
theorem rol_own {u : World} {B g n c : Nat} {e : TypeId} {X : List La} (h : u.ownsRow B e 4 (.slice (some ⟨g, 0, none⟩) n c) n (clL X)) : RoL u g X ∧ B ≤ g := by
  obtain ⟨hl, hc⟩ := h
  rcases hc with ⟨h, _⟩ | ⟨g', cap, cur, hv, hB, hg, hcap, _, hcs, hxs⟩
  · cases h
  · cases hv
    refine ⟨rol_block hg (fun j v hv => ?_), hB⟩
    have hj : j < (clL X).length := (List.getElem?_eq_some_iff.1 hv).1
    have h1 : (cur.toList.take (n * 4))[j]? = (clL X)[j]? := by rw [hxs]
    rw [List.getElem?_take_of_lt (by omega), hv] at h1
    simpa using h1
/-- Blocks of a line's words. -/
abbrev wbk (l : La) : List Nat := bkS l.n.W.length l.a
/-- Lines' words that a call owns, apart from each other. -/
structure WdO (B : Nat) (u : World) (X : List La) : Prop where
  wd : ∀ i, i < X.length → Vc B u (X.getD i la0).n.W.length (ivl (X.getD i la0).n.W) (X.getD i la0).a
  ap : ∀ i j, i < X.length → j < X.length → i ≠ j → ∀ k, k ∈ wbk (X.getD i la0) → k ∉ wbk (X.getD j la0)
theorem WdO.but {B : Nat} {L : List Nat} {u u' : World} {X : List La} (h : WdO B u X) (f : But L u u') (hn : ∀ i, i < X.length → ∀ k, k ∈ wbk (X.getD i la0) → k ∉ L) : WdO B u' X :=
  ⟨fun i hi => (h.wd i hi).but' f (hn i hi), h.ap⟩
theorem WdO.fr {B : Nat} {u u' : World} {X : List La} (h : WdO B u X) (f : Fr u u') : WdO B u' X := ⟨fun i hi => (h.wd i hi).fr f, h.ap⟩
theorem WdO.mono {B B' : Nat} {u : World} {X : List La} (h : WdO B u X) (hB : B' ≤ B) : WdO B' u X := ⟨fun i hi => (h.wd i hi).mono hB, h.ap⟩
theorem Vc.bk {B : Nat} {u : World} {n : Nat} {c : Nat → Value} {ao : Option Addr} (h : Vc B u n c ao) : ∀ k, k ∈ bkS n ao → B ≤ k ∧ k < u.heap.size := fun k hk => by
  obtain ⟨h0, b, rfl, rfl⟩ := mem_bkS hk
  obtain ⟨g, e, hB, hl, _⟩ := h.at0 h0
  cases e
  exact ⟨hB, hl⟩
theorem WdO.bk {B : Nat} {u : World} {X : List La} (h : WdO B u X) (i : Nat) (hi : i < X.length) : ∀ k, k ∈ wbk (X.getD i la0) → B ≤ k ∧ k < u.heap.size := (h.wd i hi).bk
/-- Lines that a call owns: in block g, their words apart from it and from each other. -/
structure OwL (B : Nat) (u : World) (g : Nat) (X : List La) : Prop where
  b : B ≤ g
  r : RoL u g X
  w : WdO B u X
  ap : ∀ i, i < X.length → g ∉ wbk (X.getD i la0)
theorem OwL.src {B : Nat} {u : World} {g : Nat} {X : List La} (h : OwL B u g X) : SrcL u X (some ⟨g, 0, none⟩) :=
  ⟨fun _ => ⟨g, 0, rfl, h.r.lt, h.r.rng⟩, fun i hi => (h.w.wd i hi).src⟩
theorem OwL.fr {B : Nat} {u u' : World} {g : Nat} {X : List La} (h : OwL B u g X) (f : Fr u u') : OwL B u' g X := ⟨h.b, h.r.fr f, h.w.fr f, h.ap⟩
theorem OwL.but {B : Nat} {L : List Nat} {u u' : World} {g : Nat} {X : List La} (h : OwL B u g X) (f : But L u u') (h0 : g ∉ L) (hn : ∀ i, i < X.length → ∀ k, k ∈ wbk (X.getD i la0) → k ∉ L) : OwL B u' g X :=
  ⟨h.b, h.r.but f h0, h.w.but f hn, h.ap⟩
theorem OwL.mono {B B' : Nat} {u : World} {g : Nat} {X : List La} (h : OwL B u g X) (hB : B' ≤ B) : OwL B' u g X := ⟨by have := h.b; omega, h.r, h.w.mono hB, h.ap⟩
/-- A line of them is stored anew: its words are apart from all others. -/
theorem OwL.setL {B : Nat} {u : World} {g : Nat} {X : List La} (h : OwL B u g X) (k : Nat) (y : La) (hk : k < X.length) (hy : Vc B u y.n.W.length (ivl y.n.W) y.a) (hg : g ∉ wbk y) (hap : ∀ i, i < X.length → i ≠ k → ∀ m, m ∈ wbk y → m ∉ wbk (X.getD i la0)) : OwL B (u.setCells g (k * 4) (lac y)) g (X.set k y) := by
  have hb : But [g] u (u.setCells g (k * 4) (lac y)) := But.setCells g (.inl (by simp)) _ _ _ (But.refl _ _)
  refine ⟨h.b, h.r.setL k y hk, ⟨fun i hi => ?_, fun i j hi hj hij m h1 h2 => ?_⟩, fun i hi => ?_⟩
  · rw [List.length_set] at hi
    rw [getD_setA]
    split
    · exact hy.but' hb (fun m hm hx => by rw [List.mem_singleton.1 hx] at hm; exact hg hm)
    · exact (h.w.wd i hi).but' hb (fun m hm hx => by rw [List.mem_singleton.1 hx] at hm; exact h.ap i hi hm)
  · rw [List.length_set] at hi hj
    rw [getD_setA] at h1 h2
    split at h1
    · rename_i e
      rw [if_neg (fun e' => hij (e.1.symm.trans e'.1))] at h2
      exact hap j hj (fun e' => hij (e.1.symm.trans e'.symm)) m h1 h2
    · split at h2
      · rename_i e
        exact hap i hi (fun e' => hij (e'.trans e.1)) m h2 h1
      · exact h.w.ap i j hi hj hij m h1 h2
  · rw [List.length_set] at hi
    rw [getD_setA]
    split
    · exact hg
    · exact h.ap i hi
/-- A cache that a call owns. -/
structure OwK (B : Nat) (u : World) (M : List Int) (X : List La) (gM gL : Nat) : Prop where
  b : B ≤ gM
  M : Ro u gM M
  L : OwL B u gL X
  ap : gM ≠ gL
  aw : ∀ i, i < X.length → gM ∉ wbk (X.getD i la0)
theorem OwK.src {B : Nat} {u : World} {M : List Int} {X : List La} {gM gL : Nat} (h : OwK B u M X gM gL) : SrcC u M X (some ⟨gM, 0, none⟩) (some ⟨gL, 0, none⟩) := ⟨h.M.src, h.L.src⟩
theorem OwK.fr {B : Nat} {u u' : World} {M : List Int} {X : List La} {gM gL : Nat} (h : OwK B u M X gM gL) (f : Fr u u') : OwK B u' M X gM gL := ⟨h.b, h.M.fr f, h.L.fr f, h.ap, h.aw⟩
theorem OwK.mono {B B' : Nat} {u : World} {M : List Int} {X : List La} {gM gL : Nat} (h : OwK B u M X gM gL) (hB : B' ≤ B) : OwK B' u M X gM gL := ⟨by have := h.b; omega, h.M, h.L.mono hB, h.ap, h.aw⟩
theorem OwK.but {B : Nat} {L : List Nat} {u u' : World} {M : List Int} {X : List La} {gM gL : Nat} (h : OwK B u M X gM gL) (f : But L u u') (hL : ∀ k, k ∈ L → k < B ∨ u.heap.size ≤ k) : OwK B u' M X gM gL := by
  have hl := h.L.b
  have hb := h.b
  have h1 := h.M.lt
  have h2 := h.L.r.lt
  refine ⟨h.b, h.M.but f (fun hm => by have := hL _ hm; omega), h.L.but f (fun hm => by have := hL _ hm; omega) (fun i hi k hk hm => ?_), h.ap, h.aw⟩
  have := hL _ hm
  have := h.L.w.bk i hi k hk
  omega
theorem OwK.setM {B : Nat} {u : World} {M : List Int} {X : List La} {gM gL : Nat} (h : OwK B u M X gM gL) (i : Nat) (v : Int) (hi : i < M.length) : OwK B (u.setCell ⟨gM, i, none⟩ (.int .i64 v)) (M.set i v) X gM gL := by
  have hb : But [gM] u (u.setCell ⟨gM, i, none⟩ (.int .i64 v)) := (But.refl _ _).set _ _ _ (.inl (by simp))
  exact ⟨h.b, h.M.set i v hi, h.L.but hb (by have := h.ap; simp; omega) (fun j hj k hk hm => by rw [List.mem_singleton.1 hm] at hk; exact h.aw j hj hk), h.ap, h.aw⟩
theorem OwK.setL {B : Nat} {u : World} {M : List Int} {X : List La} {gM gL : Nat} (h : OwK B u M X gM gL) (k : Nat) (y : La) (hk : k < X.length) (hy : Vc B u y.n.W.length (ivl y.n.W) y.a) (hg : gL ∉ wbk y) (hm : gM ∉ wbk y) (hap : ∀ i, i < X.length → i ≠ k → ∀ m, m ∈ wbk y → m ∉ wbk (X.getD i la0)) : OwK B (u.setCells gL (k * 4) (lac y)) M (X.set k y) gM gL := by
  have hb : But [gL] u (u.setCells gL (k * 4) (lac y)) := But.setCells gL (.inl (by simp)) _ _ _ (But.refl _ _)
  refine ⟨h.b, h.M.but hb (by have := h.ap; simp; omega), h.L.setL k y hk hy hg hap, h.ap, fun i hi => ?_⟩
  rw [List.length_set] at hi
  rw [getD_setA]
  split
  · exact hm
  · exact h.aw i hi

end Go.Proofs.Ytoacgjjpipdkjaa
