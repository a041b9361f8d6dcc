/- A row from its second number on. -/
import Derived.Test.YtmkinbnopgfljaaPh
import Derived.Test.YtmkinbnopgfljaaPl8
import Derived.Test.YtmkinbnopgfljaaPl5
namespace Go.Proofs.Ytmkinbnopgfljaa
open Go.RowKit
set_option linter.unusedVariables false
set_option linter.unusedSimpArgs false
theorem src_off {u : World} {xs : List Int} {g o : Nat} (hg : g < u.heap.size) (hc : ∀ i, i < xs.length → u.cell? ⟨g, o + i, none⟩ = some (ivl xs i)) : Src u xs.length (ivl xs) (some ⟨g, o, none⟩) := fun _ => ⟨g, o, rfl, hg, hc⟩
theorem slice_run (g o n m c : Nat) (hm : n = m + 1) (v : World) :
    (Instr.slice 22 (.slice (some ⟨g, o, none⟩) n c) (some (.int .i64 1)) none none).run Try.prog v = .ok (.slice (some ⟨g, if c = 1 then o else o + 1, none⟩) m (c - 1)) v := by
  have ht : Try.prog.underlying 22 = some (.slice (Try.prog.elem 22)) := by kernel_rfl
  have hs : ∀ v : World, (sizeOf (Try.prog.elem 22)).run Try.prog v = .ok 1 v := fun _ => by kernel_rfl
  rw [run_slice_l (t := 22) (a := some ⟨g, o, none⟩) (len := n) (cap := c) (ht := ht) (kl := .i64) (l := 1) (h0 := by omega) (h1 := by omega), hs]
  subst hm
  by_cases h : c = 1
  · subst h
    simp [Result.andThen, sliced]
  · simp [Result.andThen, sliced, h, Addr.add]
theorem slice_runAt (g o n m c : Nat) (hm : n = m + 1) (v : World) :
    (Instr.sliceAt 22 (.slice (some ⟨g, o, none⟩) n c) (some (.int .i64 1)) none none).run Try.prog v = .ok (.slice (some ⟨g, if c = 1 then o else o + 1, none⟩) m (c - 1)) v := by
  have ht : Try.prog.underlying 22 = some (.slice (Try.prog.elem 22)) := by kernel_rfl
  rw [run_sliceAt_slice (h := ht)]
  exact slice_run g o n m c hm v
/-- A row from its second number on: what is read there is no longer. -/
theorem slice_cut (xs : List Int) (g o n m c : Nat) (hn : xs.length = n) (hm : n = m + 1) (u : World) (hc : ∀ i, i < n → u.cell? ⟨g, o + i, none⟩ = some (ivl xs i)) (hg : g < u.heap.size) :
    ∃ (o' cx : Nat), (∀ v : World, (Instr.slice 22 (.slice (some ⟨g, o, none⟩) n c) (some (.int .i64 1)) none none).run Try.prog v = .ok (.slice (some ⟨g, o', none⟩) m cx) v) ∧
      (∀ v : World, (Instr.sliceAt 22 (.slice (some ⟨g, o, none⟩) n c) (some (.int .i64 1)) none none).run Try.prog v = .ok (.slice (some ⟨g, o', none⟩) m cx) v) ∧
      ∃ ys : List Int, ys.length = m ∧ ∀ i, i < m → u.cell? ⟨g, o' + i, none⟩ = some (ivl ys i) := by
  refine ⟨_, _, slice_run g o n m c hm, slice_runAt g o n m c hm, ?_⟩
  by_cases h : c = 1
  · refine ⟨xs.take m, by simp; omega, fun i hi => ?_⟩
    rw [if_pos h, hc i (by omega)]
    simp only [ivl, List.getD_eq_getElem?_getD, List.getElem?_take_of_lt hi]
  · refine ⟨xs.drop 1, by simp; omega, fun i hi => ?_⟩
    rw [if_neg h, Nat.add_assoc, hc (1 + i) (by omega)]
    simp only [ivl, List.getD_eq_getElem?_getD, List.getElem?_drop]
theorem own_one (w : World) (x : Int) (n : Nat) (hn : w.heap.size = n) : (w.alloc (.cells #[.int .i64 x] 3)).ownsRow n 3 1 (.slice (some ⟨n, 0, none⟩) 1 1) 1 [.int .i64 x] := by
  subst hn
  have h := ca_own (xs := [x]) (ca_new w [x] #[] 1 ⟨by simp, by decide⟩) (ro_new w [x] #[] 3) (Nat.le_refl _)
  simpa using h
theorem okS_short {s : St} (h : s.R.length ≠ 8 ∨ s.M.length ≠ 256 ∨ s.R.getD 0 0 ≠ 0) : okS s = false := by
  cases e : okS s
  · rfl
  · have hk := (okS_iff s).1 e
    have := hk.Rl
    have := hk.Ml
    have := hk.r0
    omega
/-- A value that is a machine. -/
def MQ (t : St) (v : Value) (u : World) : Prop := ∃ B aR aC aM cR cC cM, v = .agg #[.int .i64 (t).pc, .slice aR (t).R.length cR, .slice aC (t).C.length cC, .slice aM (t).M.length cM] ∧ VcS B u t aR aC aM
theorem MQ.but {t : St} {v : Value} {u u' : World} (h : MQ t v u) (f : But [] u u') : MQ t v u' := by
  obtain ⟨B, aR, aC, aM, cR, cC, cM, e, V⟩ := h
  exact ⟨B, aR, aC, aM, cR, cC, cM, e, V.but f (fun b _ => by simp)⟩
/-- A value that is a row of noughts. -/
def ZQ (n : Nat) (v : Value) (u : World) : Prop := ∃ g, v = .slice (some ⟨g, 0, none⟩) n n ∧ Ro u g (zeros n)
theorem ZQ.but {n : Nat} {v : Value} {u u' : World} (h : ZQ n v u) (f : But [] u u') : ZQ n v u' := by
  obtain ⟨g, e, r⟩ := h
  exact ⟨g, e, r.but f (by simp)⟩
theorem zeros_at (n i : Nat) : (zeros n).getD i 0 = 0 := by
  simp only [zeros, List.getD_eq_getElem?_getD, List.getElem?_replicate]
  split <;> rfl
theorem newM_at (ws : List Int) (p : Nat) : (newM ws).getD p 0 = if p < ws.length then ws.getD p 0 else 0 := by
  simp only [newM, List.getD_eq_getElem?_getD, List.getElem?_append]
  split
  · rfl
  · have := zeros_at (256 - ws.length) (p - ws.length)
    simpa [List.getD_eq_getElem?_getD] using this
theorem goodW_no {ws : List Int} (h : goodW ws = false) (hl : ws.length ≤ 256) (hok : ∀ i, i < ws.length → okB (ws.getD i 0) = true) : False := by
  have : ws.all okB = true := all_take hok (Nat.le_refl _)
  simp [goodW, hl, this] at h
theorem goodW_yes {ws : List Int} (h : goodW ws = true) : ws.length ≤ 256 ∧ ∀ i, i < ws.length → okB (ws.getD i 0) = true := by
  simp only [goodW, Bool.and_eq_true, decide_eq_true_eq] at h
  exact ⟨h.1, fun i hi => okB_mk (ok_get h.2 i).1 (ok_get h.2 i).2⟩

end Go.Proofs.Ytmkinbnopgfljaa
