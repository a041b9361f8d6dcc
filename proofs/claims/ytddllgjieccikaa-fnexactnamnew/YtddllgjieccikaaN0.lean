/- Places, as plain data: what is ok, what is taken, put, let go, given back. -/
import Derived.Test.YtddllgjieccikaaNr
namespace Go.Proofs.Ytddllgjieccikaa
open Go.RowKit
set_option linter.unusedVariables false
set_option linter.unusedSimpArgs false
/-- Which place holds each register, which are free, what they hold, and whether that is there. -/
structure Nm where
  M : List Int
  F : List Int
  V : List Int
  H : List Bool
def phyB (p : Int) : Bool := decide (0 ≤ p) && decide (p < 20)
theorem phyB_true {p : Int} (h : phyB p = true) : 0 ≤ p ∧ p < 20 := by simpa [phyB] using h
theorem phyB_false {p : Int} (h : phyB p = false) : p < 0 ∨ 20 ≤ p := by simp [phyB] at h; omega
/-- Places, each once. -/
def okA (l : List Int) : Prop := (∀ x, x ∈ l → phyB x = true) ∧ l.Nodup
instance (l : List Int) : Decidable (okA l) := inferInstanceAs (Decidable (_ ∧ _))
def apB (l : List Int) : Bool := decide (okA l)
theorem okA_nil : okA [] := ⟨fun x h => (by cases h), List.nodup_nil⟩
theorem okA_snoc {l : List Int} {x : Int} : okA (l ++ [x]) ↔ okA l ∧ phyB x = true ∧ x ∉ l := by
  unfold okA
  rw [List.nodup_append]
  constructor
  · rintro ⟨h1, h2, h3, h4⟩
    exact ⟨⟨fun y hy => h1 y (by simp [hy]), h2⟩, h1 x (by simp), fun hx => h4 x hx x (by simp) rfl⟩
  · rintro ⟨⟨h1, h2⟩, h3, h4⟩
    refine ⟨fun y hy => ?_, h2, by simp, fun a ha b hb e => ?_⟩
    · rcases List.mem_append.1 hy with hy | hy
      · exact h1 y hy
      · rw [List.mem_singleton.1 hy]; exact h3
    · rw [List.mem_singleton.1 hb] at e
      exact h4 (e ▸ ha)
theorem okA_pre {a b : List Int} (h : okA (a ++ b)) : okA a := ⟨fun x hx => h.1 x (List.mem_append_left _ hx), (List.nodup_append.1 h.2).1⟩
theorem take_snoc (l : List Int) (p : Nat) (hp : p < l.length) : l.take (p + 1) = l.take p ++ [l.getD p 0] := by
  rw [List.take_add_one, List.getElem?_eq_getElem hp]
  simp [List.getD_eq_getElem?_getD, List.getElem?_eq_getElem hp]
/-- Not so many different numbers below a bound. -/
theorem nodup_bd : ∀ (n : Nat) (l : List Int), l.Nodup → (∀ x, x ∈ l → 0 ≤ x ∧ x < n) → l.length ≤ n
  | 0, l, _, h => by
    cases l with
    | nil => simp
    | cons x r => have := h x (by simp); omega
  | n + 1, l, hd, h => by
    have h1 := nodup_bd n (l.erase (n : Int)) (hd.erase _) (fun x hx => by
      have h2 := h x (List.mem_of_mem_erase hx)
      have h3 : x ≠ (n : Int) := fun e => by
        rw [e] at hx
        exact (List.Nodup.mem_erase_iff hd).1 hx |>.1 rfl
      omega)
    rw [List.length_erase] at h1
    split at h1 <;> omega
theorem okA_len {l : List Int} (h : okA l) : l.length ≤ 20 := nodup_bd 20 l h.2 (fun x hx => by have := phyB_true (h.1 x hx); omega)
structure OkN (s : Nm) : Prop where
  Ml : s.M.length = 8
  Hl : s.H.length = 20
  V : s.V.all okB = true
  Vl : s.V.length = 20
  m0 : s.M.getD 0 0 = 0
  v0 : s.V.getD 0 0 = 0
  h0 : s.H.getD 0 false = true
  ap : okA (s.M ++ s.F)
def okN (s : Nm) : Bool := decide (s.M.length = 8) && (decide (s.H.length = 20) && (wordsB s.V 20 && (decide (s.M.getD 0 0 = 0) && (decide (s.V.getD 0 0 = 0) && (s.H.getD 0 false && apB (s.M ++ s.F))))))
theorem okN_iff (s : Nm) : okN s = true ↔ OkN s := by
  simp only [okN, wordsB, apB, Bool.and_eq_true, decide_eq_true_eq]
  exact ⟨fun ⟨a, b, ⟨c, d⟩, e, f, g, h⟩ => ⟨a, b, c, d, e, f, g, h⟩, fun ⟨a, b, c, d, e, f, g, h⟩ => ⟨a, b, ⟨c, d⟩, e, f, g, h⟩⟩
theorem OkN.Fl {s : Nm} (h : OkN s) : s.F.length ≤ 12 := by
  have := okA_len h.ap
  rw [List.length_append, h.Ml] at this
  omega
theorem getD_mem {l : List Int} {i : Nat} (h : i < l.length) : l.getD i 0 ∈ l := by
  rw [List.getD_eq_getElem?_getD, List.getElem?_eq_getElem h]
  exact List.getElem_mem h
theorem OkN.mp {s : Nm} (h : OkN s) (i : Nat) (hi : i < 8) : 0 ≤ s.M.getD i 0 ∧ s.M.getD i 0 < 20 := phyB_true (h.ap.1 _ (List.mem_append_left _ (getD_mem (by rw [h.Ml]; exact hi))))
theorem OkN.fp {s : Nm} (h : OkN s) (i : Nat) (hi : i < s.F.length) : 0 ≤ s.F.getD i 0 ∧ s.F.getD i 0 < 20 := phyB_true (h.ap.1 _ (List.mem_append_right _ (getD_mem hi)))
abbrev nm0 : Nm := ⟨[], [], [], []⟩
def regB (d : Int) : Bool := decide (1 ≤ d) && decide (d < 8)
def hasB (l : List Int) (p : Int) : Bool := l.contains p
/-- Neither a register's nor free. -/
def looseB (s : Nm) (p : Int) : Bool := phyB p && (!hasB s.M p && !hasB s.F p)
def takeG (s : Nm) (d : Int) : Nm := ⟨s.M.set d.toNat (s.F.getD 0 0), s.F.drop 1, s.V, s.H.set (s.F.getD 0 0).toNat false⟩
def putG (s : Nm) (p n : Int) : Nm := ⟨s.M, s.F, s.V.set p.toNat n, s.H.set p.toNat true⟩
def freeG (s : Nm) (p : Int) : Nm := ⟨s.M, s.F ++ [p], s.V, s.H⟩
def backG (s : Nm) (d now old : Int) : Nm := ⟨s.M.set d.toNat old, s.F ++ [now], s.V, s.H⟩
/-- What is answered. -/
def takeT (s : Nm) (d : Int) : Nm × Int × Int × Bool :=
  if okN s && regB d then (if s.F.length = 0 then (s, 0, 0, false) else (takeG s d, s.F.getD 0 0, s.M.getD d.toNat 0, true)) else (nm0, 0, 0, false)
def putA (s : Nm) (p n : Int) : Nm := if okN s && (phyB p && (decide (p ≠ 0) && okB n)) then putG s p n else nm0
def freeA (s : Nm) (p : Int) : Nm := if okN s && looseB s p then freeG s p else nm0
def backA (s : Nm) (d now old : Int) : Nm := if okN s && (regB d && (decide (s.M.getD d.toNat 0 = now) && looseB s old)) then backG s d now old else nm0
def getA (s : Nm) (d : Int) : Int × Bool := if okN s && (decide (0 ≤ d) && decide (d < 8)) then (s.V.getD (s.M.getD d.toNat 0).toNat 0, s.H.getD (s.M.getD d.toNat 0).toNat false) else (0, false)
def newN : Nm := ⟨[0, 1, 2, 3, 4, 5, 6, 7], [8, 9, 10, 11, 12, 13, 14, 15, 16, 17, 18, 19], List.replicate 20 0, List.replicate 20 true⟩
theorem newN_ok : okN newN = true := by decide +kernel
/-- The rows of places. -/
def rwN (x : Nm) (aM aF aV aH : Option Addr) : List Rw := [⟨x.M.length, ivl x.M, aM⟩, ⟨x.F.length, ivl x.F, aF⟩, ⟨x.V.length, ivl x.V, aV⟩, ⟨x.H.length, bvl x.H, aH⟩]
/-- Places, as they are read somewhere. -/
structure SrcN (u : World) (x : Nm) (aM aF aV aH : Option Addr) : Prop where
  M : Src u x.M.length (ivl x.M) aM
  F : Src u x.F.length (ivl x.F) aF
  V : Src u x.V.length (ivl x.V) aV
  H : Src u x.H.length (bvl x.H) aH
theorem SrcN.fr {u u' : World} {x : Nm} {aM aF aV aH : Option Addr} (h : SrcN u x aM aF aV aH) (f : Fr u u') : SrcN u' x aM aF aV aH := ⟨h.M.fr f, h.F.fr f, h.V.fr f, h.H.fr f⟩
/-- Places that were handed over. -/
abbrev VcNm (B : Nat) (u : World) (x : Nm) (aM aF aV aH : Option Addr) : Prop := Rws B u (rwN x aM aF aV aH)
theorem VcNm.M {B : Nat} {u : World} {x : Nm} {aM aF aV aH : Option Addr} (h : VcNm B u x aM aF aV aH) : Vo B u x.M.length (ivl x.M) aM := h.all ⟨x.M.length, ivl x.M, aM⟩ (by simp [rwN])
theorem VcNm.F {B : Nat} {u : World} {x : Nm} {aM aF aV aH : Option Addr} (h : VcNm B u x aM aF aV aH) : Vo B u x.F.length (ivl x.F) aF := h.all ⟨x.F.length, ivl x.F, aF⟩ (by simp [rwN])
theorem VcNm.V {B : Nat} {u : World} {x : Nm} {aM aF aV aH : Option Addr} (h : VcNm B u x aM aF aV aH) : Vo B u x.V.length (ivl x.V) aV := h.all ⟨x.V.length, ivl x.V, aV⟩ (by simp [rwN])
theorem VcNm.H {B : Nat} {u : World} {x : Nm} {aM aF aV aH : Option Addr} (h : VcNm B u x aM aF aV aH) : Vo B u x.H.length (bvl x.H) aH := h.all ⟨x.H.length, bvl x.H, aH⟩ (by simp [rwN])
theorem VcNm.src {B : Nat} {u : World} {x : Nm} {aM aF aV aH : Option Addr} (h : VcNm B u x aM aF aV aH) : SrcN u x aM aF aV aH := ⟨h.M.src, h.F.src, h.V.src, h.H.src⟩
theorem VcNm.nil (B : Nat) (u : World) (aM aF aV aH : Option Addr) : VcNm B u nm0 aM aF aV aH := by
  refine ⟨fun r hr => ?_, ?_⟩
  · simp only [rwN, List.mem_cons, List.not_mem_nil, or_false] at hr
    rcases hr with rfl | rfl | rfl | rfl <;> exact Vo.nil _ _ _ _
  · simp [blkR, rwN, Rw.b, bkS]
/-- Four rows that may be written, in blocks apart. -/
structure Own6 (u : World) (g1 g2 g3 g4 : Nat) (x : Nm) : Prop where
  M : Ro u g1 x.M
  F : Ro u g2 x.F
  V : Ro u g3 x.V
  H : RoB u g4 x.H
  a12 : g1 ≠ g2
  a13 : g1 ≠ g3
  a14 : g1 ≠ g4
  a23 : g2 ≠ g3
  a24 : g2 ≠ g4
  a34 : g3 ≠ g4
theorem vo_ro {B : Nat} {u : World} {g : Nat} {xs : List Int} (h : Ro u g xs) (hB : B ≤ g) : Vo B u xs.length (ivl xs) (some ⟨g, 0, none⟩) := (h.vc hB).vo
theorem vo_rob {B : Nat} {u : World} {g : Nat} {xs : List Bool} (h : RoB u g xs) (hB : B ≤ g) : Vo B u xs.length (bvl xs) (some ⟨g, 0, none⟩) := (h.vc hB).vo
/-- Rows at these places, of which those that are not empty lie apart. -/
theorem VcNm.mk' {B : Nat} {u : World} {x : Nm} {aM aF aV aH : Option Addr} (h1 : Vo B u x.M.length (ivl x.M) aM) (h2 : Vo B u x.F.length (ivl x.F) aF) (h3 : Vo B u x.V.length (ivl x.V) aV) (h4 : Vo B u x.H.length (bvl x.H) aH)
    (a12 : ∀ k, k ∈ bkS x.M.length aM → k ∉ bkS x.F.length aF) (a13 : ∀ k, k ∈ bkS x.M.length aM → k ∉ bkS x.V.length aV) (a14 : ∀ k, k ∈ bkS x.M.length aM → k ∉ bkS x.H.length aH)
    (a23 : ∀ k, k ∈ bkS x.F.length aF → k ∉ bkS x.V.length aV) (a24 : ∀ k, k ∈ bkS x.F.length aF → k ∉ bkS x.H.length aH) (a34 : ∀ k, k ∈ bkS x.V.length aV → k ∉ bkS x.H.length aH) : VcNm B u x aM aF aV aH := by
  refine Rws.cons (Rws.cons (Rws.cons (Rws.cons (Rws.nil _ _) h4 (fun k _ => by simp [blkR])) h3 (fun k hk hn => ?_)) h2 (fun k hk hn => ?_)) h1 (fun k hk hn => ?_)
  · simp only [blkR, List.flatMap_cons, List.flatMap_nil, List.append_nil] at hn
    exact a34 k hk hn
  · simp only [blkR, List.flatMap_cons, List.flatMap_nil, List.append_nil, List.mem_append] at hn
    rcases hn with hn | hn
    · exact a23 k hk hn
    · exact a24 k hk hn
  · simp only [blkR, List.flatMap_cons, List.flatMap_nil, List.append_nil, List.mem_append] at hn
    rcases hn with hn | hn | hn
    · exact a12 k hk hn
    · exact a13 k hk hn
    · exact a14 k hk hn
theorem bkS_new {n g k : Nat} (h : k ∈ bkS n (some ⟨g, 0, none⟩)) : k = g := by
  obtain ⟨_, b, e, rfl⟩ := mem_bkS h
  cases e
  rfl
theorem bkS_ap {n m g g' : Nat} (h : g ≠ g') : ∀ k, k ∈ bkS n (some ⟨g, 0, none⟩) → k ∉ bkS m (some ⟨g', 0, none⟩) := fun k h1 h2 => h ((bkS_new h1).symm.trans (bkS_new h2))
theorem Own6.vc {B : Nat} {u : World} {g1 g2 g3 g4 : Nat} {x : Nm} (h : Own6 u g1 g2 g3 g4 x) (h1 : B ≤ g1) (h2 : B ≤ g2) (h3 : B ≤ g3) (h4 : B ≤ g4) : VcNm B u x (some ⟨g1, 0, none⟩) (some ⟨g2, 0, none⟩) (some ⟨g3, 0, none⟩) (some ⟨g4, 0, none⟩) :=
  VcNm.mk' (vo_ro h.M h1) (vo_ro h.F h2) (vo_ro h.V h3) (vo_rob h.H h4) (bkS_ap h.a12) (bkS_ap h.a13) (bkS_ap h.a14) (bkS_ap h.a23) (bkS_ap h.a24) (bkS_ap h.a34)
/-- Behind a call that answers places in new rows. -/
def NmP (x : Nm) (w : World) (e : Ending) (w' : World) : Prop := ∃ aM aF aV aH cM cF cV cH, e = .returned (.agg #[.slice aM x.M.length cM, .slice aF x.F.length cF, .slice aV x.V.length cV, .slice aH x.H.length cH]) ∧ VcNm w.heap.size w' x aM aF aV aH ∧ Fr w w'
/-- How many there are, at most. -/
structure FewN (x : Nm) : Prop where
  M : x.M.length ≤ 1048576
  F : x.F.length ≤ 1048576
  V : x.V.length ≤ 1048576
  H : x.H.length ≤ 1048576
theorem OkN.few {x : Nm} (h : OkN x) : FewN x := ⟨by rw [h.Ml]; omega, by have := h.Fl; omega, by rw [h.Vl]; omega, by rw [h.Hl]; omega⟩

end Go.Proofs.Ytddllgjieccikaa
