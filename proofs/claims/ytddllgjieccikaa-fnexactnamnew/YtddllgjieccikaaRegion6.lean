/- A region that draws its order, in which an operation may turn a new block that an earlier slot leads to (append in place): that slot is spent. No program is named here. -/
import Derived.Test.YtddllgjieccikaaRegion4
import Derived.Test.YtddllgjieccikaaCod
namespace Go.Proofs.Ytddllgjieccikaa
open Go.RowKit
set_option linter.unusedVariables false
theorem fr_new {w0 w w' : World} {g : Nat} (h : Fr w0 w) (f : But [g] w w') (hg : w0.heap.size ≤ g) : Fr w0 w' :=
  ⟨f.os.trans h.os, f.tape.trans h.tape, f.output.trans h.output, Nat.le_trans h.size f.size, fun k hk => (f.block k (Nat.lt_of_lt_of_le hk h.size) (by simp; omega)).trans (h.block k hk)⟩
section
variable {P : Program} {ops : Array Oper} {Q : Exit → Act → World → Prop}
structure JS (ops : Array Oper) (sp : List (Nat × Nat)) (SF : Nat → Value → World → Prop) (w0 : World) (L : Nat → Bool) (x : Nat → Value) (w : World) : Prop where
  fr : Fr w0 w
  sf : ∀ i, L i = true → (∀ p, p ∈ sp → p.2 = i → L p.1 = false) → SF i (x i) w
/-- sp: (i, d): operation i may turn the new block that slot d leads to, and d is spent then. -/
theorem wp_region_spend {id : Nat} {a0 : Act} {w0 : World} (n : Nat) (sp : List (Nat × Nat)) (SF : Nat → Value → World → Prop)
    (mono : ∀ j v w w', w0.heap.size ≤ w.heap.size → SF j v w → Fr w w' → SF j v w')
    (mono2 : ∀ j v w w' g, w0.heap.size ≤ w.heap.size → (∀ p, p ∈ sp → p.2 ≠ j ∧ p.1 ≠ j) → SF j v w → w0.heap.size ≤ g → But [g] w w' → SF j v w') (hm : P.follows .mixedOrders = true)
    (hf : fwd .any ops = true) (hn : a0.tmps.size = n) (hd : dstsOk2 ops n = true)
    (step : ∀ i o, ops[i]? = some o → ∀ a w, Fr w0 w → Like ops a0 a → (∀ e ∈ o.after, Region.binds .any e = true → (∀ p, p ∈ sp → p.2 = e.on → p.1 = i) → ∀ oe, ops[e.on]? = some oe → SF e.on (dstVal oe a) w) →
      wpOp P ops Q i (fun a' w' => ∃ v, a' = a.put o.dst v ∧ (o.dst = none → v = undef) ∧ SF i v w' ∧ (Fr w w' ∨ ((∃ d, (i, d) ∈ sp ∧ ∀ p, p ∈ sp → p = (i, d)) ∧ ∃ g, w0.heap.size ≤ g ∧ But [g] w w'))) a w)
    (fin : ∀ (a : Act) (w : World), Fr w0 w → Like ops a0 a → (∀ i o, ops[i]? = some o → (∀ p, p ∈ sp → p.2 ≠ i) → SF i (dstVal o a) w) → Q .normal a w) :
    (Code.region id ops true).wp P Q a0 w0 := by
  have inb : ∀ (i : Nat) (o : Oper), ops[i]? = some o → i < ops.size := fun i o ho => by
    by_cases hh : i < ops.size
    · exact hh
    · rw [Array.getElem?_eq_none (by omega)] at ho; cases ho
  refine wp_region_joint n (JS ops sp SF w0) hm hf hn hd ⟨Below.drew (Below.refl _ _), fun i h => (by cases h)⟩ ?_ ?_
  · intro i o ho L x a w hJ hLi hL hdep
    refine wpOp_mono ?_ (step i o ho a w hJ.fr hL (fun e he hb hs oe hoe => by
      obtain ⟨h1, h2⟩ := hdep e he hb
      rw [h2 oe hoe]
      exact hJ.sf _ h1 (fun p hp h => by rw [hs p hp h]; exact hLi)))
    rintro a' w' ⟨v, ha, hv0, hv, hB⟩
    refine ⟨v, ha, hv0, ?_, fun j hj hs => ?_⟩
    · rcases hB with hB | ⟨_, g, hg, hB⟩
      · exact Fr.trans hJ.fr hB
      · exact fr_new hJ.fr hB hg
    · by_cases e : j = i
      · subst e; simp only [if_pos]; exact hv
      · simp only [if_neg e] at hj ⊢
        have hs' : ∀ p, p ∈ sp → p.2 = j → L p.1 = false := fun p hp h => by
          have := hs p hp h
          by_cases e2 : p.1 = i
          · rw [e2]; exact hLi
          · simpa only [if_neg e2] using this
        rcases hB with hB | ⟨⟨d, hd, hall⟩, g, hg, hB⟩
        · exact mono j _ w w' hJ.fr.size (hJ.sf j hj hs') hB
        · refine mono2 j _ w w' g hJ.fr.size (fun p hp => ⟨fun h => ?_, fun h => ?_⟩) (hJ.sf j hj hs') hg hB
          · have := hs p hp h
            rw [hall p hp] at this
            simp at this
          · rw [hall p hp] at h
            exact e h.symm
  · intro L x a w hall hJ hL hx
    refine fin a w hJ.fr hL (fun i o ho hs => by rw [hx i o ho]; exact hJ.sf i (hall i (inb i o ho)) (fun p hp h => absurd h (hs p hp)))
end

end Go.Proofs.Ytddllgjieccikaa
