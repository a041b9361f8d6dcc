/- Answers that are places are not too long. -/
import Derived.Test.YtddllgjieccikaaNh2
namespace Go.Proofs.Ytddllgjieccikaa
open Go.RowKit
set_option linter.unusedVariables false
theorem few_put (x : Nm) (p n : Int) (h : FewN x) : FewN (putA x p n) := by
  unfold putA
  split
  · exact ⟨h.M, h.F, by simpa [putG] using h.V, by simpa [putG] using h.H⟩
  · exact ⟨by simp, by simp, by simp, by simp⟩
theorem few_free (x : Nm) (p : Int) : FewN (freeA x p) := by
  unfold freeA
  split
  · rename_i h
    simp only [Bool.and_eq_true] at h
    have ho := (okN_iff x).1 h.1
    have := ho.Fl
    refine ⟨by rw [show (freeG x p).M = x.M from rfl, ho.Ml]; omega, by simp [freeG]; omega, by rw [show (freeG x p).V = x.V from rfl, ho.Vl]; omega, by rw [show (freeG x p).H = x.H from rfl, ho.Hl]; omega⟩
  · exact ⟨by simp, by simp, by simp, by simp⟩
theorem few_back (x : Nm) (d now old : Int) : FewN (backA x d now old) := by
  unfold backA
  split
  · rename_i h
    simp only [Bool.and_eq_true] at h
    have ho := (okN_iff x).1 h.1
    have := ho.Fl
    refine ⟨by simp [backG, ho.Ml], by simp [backG]; omega, by simp [backG, ho.Vl], by simp [backG, ho.Hl]⟩
  · exact ⟨by simp, by simp, by simp, by simp⟩
theorem few_take (x : Nm) (d : Int) (h : FewN x) : FewN (takeT x d).1 := by
  unfold takeT
  split
  · split
    · exact h
    · refine ⟨by simpa [takeG] using h.M, by have := h.F; simp [takeG]; omega, h.V, by simpa [takeG] using h.H⟩
  · exact ⟨by simp, by simp, by simp, by simp⟩
/-- Places somewhere, as a value. -/
def ToNH (x : Nm) (v : Value) (u : World) : Prop := ∃ g1 g2 g3 g4, v = .agg #[.slice (some ⟨g1, 0, none⟩) x.M.length x.M.length, .slice (some ⟨g2, 0, none⟩) x.F.length x.F.length, .slice (some ⟨g3, 0, none⟩) x.V.length x.V.length, .slice (some ⟨g4, 0, none⟩) x.H.length x.H.length] ∧ SrcN u x (some ⟨g1, 0, none⟩) (some ⟨g2, 0, none⟩) (some ⟨g3, 0, none⟩) (some ⟨g4, 0, none⟩)
theorem src_but0 {u u' : World} {n : Nat} {c : Nat → Value} {ao : Option Addr} (h : Src u n c ao) (f : But [] u u') : Src u' n c ao := fun h0 => by
  obtain ⟨g, o, e, l, k⟩ := h h0
  exact ⟨g, o, e, Nat.lt_of_lt_of_le l f.size, fun i hi => by rw [f.cell l (by simp)]; exact k i hi⟩
theorem ToNH.but {x : Nm} {v : Value} {u u' : World} (h : ToNH x v u) (f : But [] u u') : ToNH x v u' := by
  obtain ⟨g1, g2, g3, g4, e, s⟩ := h
  exact ⟨g1, g2, g3, g4, e, ⟨src_but0 s.M f, src_but0 s.F f, src_but0 s.V f, src_but0 s.H f⟩⟩
theorem VcNm.mk_src {B : Nat} {u : World} {x : Nm} {aM aF aV aH : Option Addr} (h : VcNm B u x aM aF aV aH) : SrcN u x aM aF aV aH := VcNm.src h

end Go.Proofs.Ytddllgjieccikaa
