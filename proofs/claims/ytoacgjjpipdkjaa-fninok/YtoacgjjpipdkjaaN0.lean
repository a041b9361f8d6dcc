/- Places, as plain data: what is ok, what is taken, put, let go, given back. What is a place, a register; what is among some; places apart: of both. Places apart, of both. -/
import Derived.Test.YtoacgjjpipdkjaaNb0
namespace Go.Proofs.Ytoacgjjpipdkjaa
open Go.RowKit
set_option linter.unusedVariables false
set_option linter.unusedSimpArgs false
/-- Which place holds each register, which are free, what they hold, and whether that is there. -/
structure Nm where
  M : List Int
  F : List Int
  V : List Int
  H : List Bool
def phyB (p : Int) : Bool := decide (0 ≤ p) && decide (p < 20)
theorem phyB_true {p : Int} (h : phyB p = true) : 0 ≤ p ∧ p < 20 := by simpa [phyB] using h
/-- Places, each once. -/
def okA (l : List Int) : Prop := (∀ x, x ∈ l → phyB x = true) ∧ l.Nodup
instance (l : List Int) : Decidable (okA l) := inferInstanceAs (Decidable (_ ∧ _))
/-- Not so many different numbers below a bound. -/
theorem nodup_bd : ∀ (n : Nat) (l : List Int), l.Nodup → (∀ x, x ∈ l → 0 ≤ x ∧ x < n) → l.length ≤ n
  | 0, l, _, h => by
    cases l with
    | nil => simp
    | cons x r => have := h x (by simp); omega
  | n + 1, l, hd, h => by
    have h1 := nodup_bd n (l.erase (n : Int)) (hd.erase _) (fun x hx => by
      have h2 := h x (List.mem_of_mem_erase hx)
      have h3 : x ≠ (n : Int) := fun e => by
        rw [e] at hx
        exact (List.Nodup.mem_erase_iff hd).1 hx |>.1 rfl
      omega)
    rw [List.length_erase] at h1
    split at h1 <;> omega
theorem okA_len {l : List Int} (h : okA l) : l.length ≤ 20 := nodup_bd 20 l h.2 (fun x hx => by have := phyB_true (h.1 x hx); omega)
structure OkN (s : Nm) : Prop where
  Ml : s.M.length = 8
  Hl : s.H.length = 20
  V : s.V.all okB = true
  Vl : s.V.length = 20
  m0 : s.M.getD 0 0 = 0
  v0 : s.V.getD 0 0 = 0
  h0 : s.H.getD 0 false = true
  ap : okA (s.M ++ s.F)
theorem OkN.Fl {s : Nm} (h : OkN s) : s.F.length ≤ 12 := by
  have := okA_len h.ap
  rw [List.length_append, h.Ml] at this
  omega
abbrev nm0 : Nm := ⟨[], [], [], []⟩
/-- The rows of places. -/
def rwN (x : Nm) (aM aF aV aH : Option Addr) : List Rw := [⟨x.M.length, ivl x.M, aM⟩, ⟨x.F.length, ivl x.F, aF⟩, ⟨x.V.length, ivl x.V, aV⟩, ⟨x.H.length, bvl x.H, aH⟩]
/-- Places, as they are read somewhere. -/
structure SrcN (u : World) (x : Nm) (aM aF aV aH : Option Addr) : Prop where
  M : Src u x.M.length (ivl x.M) aM
  F : Src u x.F.length (ivl x.F) aF
  V : Src u x.V.length (ivl x.V) aV
  H : Src u x.H.length (bvl x.H) aH
theorem SrcN.fr {u u' : World} {x : Nm} {aM aF aV aH : Option Addr} (h : SrcN u x aM aF aV aH) (f : Fr u u') : SrcN u' x aM aF aV aH := ⟨h.M.fr f, h.F.fr f, h.V.fr f, h.H.fr f⟩
/-- Places that were handed over. -/
abbrev VcNm (B : Nat) (u : World) (x : Nm) (aM aF aV aH : Option Addr) : Prop := Rws B u (rwN x aM aF aV aH)
theorem VcNm.M {B : Nat} {u : World} {x : Nm} {aM aF aV aH : Option Addr} (h : VcNm B u x aM aF aV aH) : Vo B u x.M.length (ivl x.M) aM := h.all ⟨x.M.length, ivl x.M, aM⟩ (by simp [rwN])
theorem VcNm.F {B : Nat} {u : World} {x : Nm} {aM aF aV aH : Option Addr} (h : VcNm B u x aM aF aV aH) : Vo B u x.F.length (ivl x.F) aF := h.all ⟨x.F.length, ivl x.F, aF⟩ (by simp [rwN])
theorem VcNm.V {B : Nat} {u : World} {x : Nm} {aM aF aV aH : Option Addr} (h : VcNm B u x aM aF aV aH) : Vo B u x.V.length (ivl x.V) aV := h.all ⟨x.V.length, ivl x.V, aV⟩ (by simp [rwN])
theorem VcNm.H {B : Nat} {u : World} {x : Nm} {aM aF aV aH : Option Addr} (h : VcNm B u x aM aF aV aH) : Vo B u x.H.length (bvl x.H) aH := h.all ⟨x.H.length, bvl x.H, aH⟩ (by simp [rwN])
theorem VcNm.src {B : Nat} {u : World} {x : Nm} {aM aF aV aH : Option Addr} (h : VcNm B u x aM aF aV aH) : SrcN u x aM aF aV aH := ⟨h.M.src, h.F.src, h.V.src, h.H.src⟩
theorem VcNm.nil (B : Nat) (u : World) (aM aF aV aH : Option Addr) : VcNm B u nm0 aM aF aV aH := by
  refine ⟨fun r hr => ?_, ?_⟩
  · simp only [rwN, List.mem_cons, List.not_mem_nil, or_false] at hr
    rcases hr with rfl | rfl | rfl | rfl <;> exact Vo.nil _ _ _ _
  · simp [blkR, rwN, Rw.b, bkS]
/-- Four rows that may be written, in blocks apart. -/
structure Own6 (u : World) (g1 g2 g3 g4 : Nat) (x : Nm) : Prop where
  M : Ro u g1 x.M
  F : Ro u g2 x.F
  V : Ro u g3 x.V
  H : RoB u g4 x.H
  a12 : g1 ≠ g2
  a13 : g1 ≠ g3
  a14 : g1 ≠ g4
  a23 : g2 ≠ g3
  a24 : g2 ≠ g4
  a34 : g3 ≠ g4
theorem vo_ro {B : Nat} {u : World} {g : Nat} {xs : List Int} (h : Ro u g xs) (hB : B ≤ g) : Vo B u xs.length (ivl xs) (some ⟨g, 0, none⟩) := (h.vc hB).vo
theorem vo_rob {B : Nat} {u : World} {g : Nat} {xs : List Bool} (h : RoB u g xs) (hB : B ≤ g) : Vo B u xs.length (bvl xs) (some ⟨g, 0, none⟩) := (h.vc hB).vo
/-- Rows at these places, of which those that are not empty lie apart. -/
theorem VcNm.mk' {B : Nat} {u : World} {x : Nm} {aM aF aV aH : Option Addr} (h1 : Vo B u x.M.length (ivl x.M) aM) (h2 : Vo B u x.F.length (ivl x.F) aF) (h3 : Vo B u x.V.length (ivl x.V) aV) (h4 : Vo B u x.H.length (bvl x.H) aH)
    (a12 : ∀ k, k ∈ bkS x.M.length aM → k ∉ bkS x.F.length aF) (a13 : ∀ k, k ∈ bkS x.M.length aM → k ∉ bkS x.V.length aV) (a14 : ∀ k, k ∈ bkS x.M.length aM → k ∉ bkS x.H.length aH)
    (a23 : ∀ k, k ∈ bkS x.F.length aF → k ∉ bkS x.V.length aV) (a24 : ∀ k, k ∈ bkS x.F.length aF → k ∉ bkS x.H.length aH) (a34 : ∀ k, k ∈ bkS x.V.length aV → k ∉ bkS x.H.length aH) : VcNm B u x aM aF aV aH := by
  refine Rws.cons (Rws.cons (Rws.cons (Rws.cons (Rws.nil _ _) h4 (fun k _ => by simp [blkR])) h3 (fun k hk hn => ?_)) h2 (fun k hk hn => ?_)) h1 (fun k hk hn => ?_)
  · simp only [blkR, List.flatMap_cons, List.flatMap_nil, List.append_nil] at hn
    exact a34 k hk hn
  · simp only [blkR, List.flatMap_cons, List.flatMap_nil, List.append_nil, List.mem_append] at hn
    rcases hn with hn | hn
    · exact a23 k hk hn
    · exact a24 k hk hn
  · simp only [blkR, List.flatMap_cons, List.flatMap_nil, List.append_nil, List.mem_append] at hn
    rcases hn with hn | hn | hn
    · exact a12 k hk hn
    · exact a13 k hk hn
    · exact a14 k hk hn
theorem bkS_new {n g k : Nat} (h : k ∈ bkS n (some ⟨g, 0, none⟩)) : k = g := by
  obtain ⟨_, b, e, rfl⟩ := mem_bkS h
  cases e
  rfl
theorem bkS_ap {n m g g' : Nat} (h : g ≠ g') : ∀ k, k ∈ bkS n (some ⟨g, 0, none⟩) → k ∉ bkS m (some ⟨g', 0, none⟩) := fun k h1 h2 => h ((bkS_new h1).symm.trans (bkS_new h2))
theorem Own6.vc {B : Nat} {u : World} {g1 g2 g3 g4 : Nat} {x : Nm} (h : Own6 u g1 g2 g3 g4 x) (h1 : B ≤ g1) (h2 : B ≤ g2) (h3 : B ≤ g3) (h4 : B ≤ g4) : VcNm B u x (some ⟨g1, 0, none⟩) (some ⟨g2, 0, none⟩) (some ⟨g3, 0, none⟩) (some ⟨g4, 0, none⟩) :=
  VcNm.mk' (vo_ro h.M h1) (vo_ro h.F h2) (vo_ro h.V h3) (vo_rob h.H h4) (bkS_ap h.a12) (bkS_ap h.a13) (bkS_ap h.a14) (bkS_ap h.a23) (bkS_ap h.a24) (bkS_ap h.a34)
/-- How many there are, at most. -/
structure FewN (x : Nm) : Prop where
  M : x.M.length ≤ 1048576
  F : x.F.length ≤ 1048576
  V : x.V.length ≤ 1048576
  H : x.H.length ≤ 1048576
theorem OkN.few {x : Nm} (h : OkN x) : FewN x := ⟨by rw [h.Ml]; omega, by have := h.Fl; omega, by rw [h.Vl]; omega, by rw [h.Hl]; omega⟩
end Go.Proofs.Ytoacgjjpipdkjaa
