/- A region that draws its order: each operation turns listed blocks alone, the world keeps a fact that falls with each operation. No program is named here. -/
import Derived.Test.YtbjapncfgancoaaDoorRegion3
namespace Go.Proofs.YtbjapncfgancoaaDoor
open Go.RowKit
set_option linter.unusedVariables false
/-- How many operations are still to come. -/
def leftN (L : Nat → Bool) : Nat → Nat
  | 0 => 0
  | k + 1 => leftN L k + (if L k then 0 else 1)
theorem leftN_out {L : Nat → Bool} {i : Nat} : ∀ k, k ≤ i → leftN (fun j => if j = i then true else L j) k = leftN L k
  | 0, _ => rfl
  | k + 1, h => by
    have e : ¬ k = i := by omega
    have ih := leftN_out (L := L) (i := i) k (by omega)
    simp only [leftN, if_neg e, ih]
theorem leftN_in {L : Nat → Bool} {i : Nat} (hi : L i = false) : ∀ k, i < k → leftN (fun j => if j = i then true else L j) k + 1 = leftN L k
  | 0, h => by omega
  | k + 1, h => by
    by_cases e : k = i
    · subst e
      have ih := leftN_out (L := L) (i := k) k (Nat.le_refl _)
      simp only [leftN, if_pos, hi, ih]
      simp
    · have := leftN_in hi k (by omega)
      simp only [leftN, if_neg e]
      omega
theorem leftN_all {L : Nat → Bool} : ∀ k, (∀ i, i < k → L i = true) → leftN L k = 0
  | 0, _ => rfl
  | k + 1, h => by simp only [leftN, leftN_all k (fun i hi => h i (by omega)), h k (by omega), if_true]
theorem leftN_none : ∀ k, leftN (fun _ => false) k = k
  | 0 => rfl
  | k + 1 => by simp [leftN, leftN_none k]
section
variable {P : Program} {ops : Array Oper} {Q : Exit → Act → World → Prop}
structure JL (ops : Array Oper) (Lb : Nat → List Nat) (Wd : Nat → World → Prop) (SF : Nat → Value → World → Prop) (w0 : World) (L : Nat → Bool) (x : Nat → Value) (w : World) : Prop where
  fr : ∀ L', (∀ j, L j = true → ∀ k, k ∈ Lb j → k ∈ L') → But L' w0 w
  sz : w0.heap.size ≤ w.heap.size
  sf : ∀ i, L i = true → SF i (x i) w
  dn : ∀ j i, L j = true → depOn ops j i = true → L i = true
  wd : Wd (leftN L ops.size) w
theorem wp_region_lots {id : Nat} {a0 : Act} {w0 : World} (n : Nat) (Lb : Nat → List Nat) (Wd : Nat → World → Prop) (SF : Nat → Value → World → Prop)
    (mono : ∀ i j v w w', i ≠ j → w0.heap.size ≤ w.heap.size → SF j v w → But (Lb i) w w' → SF j v w') (hm : P.follows .mixedOrders = true)
    (hf : fwd .any ops = true) (hn : a0.tmps.size = n) (hd : dstsOk2 ops n = true) (start : Wd ops.size w0.drew)
    (step : ∀ i o, ops[i]? = some o → ∀ f a w, Wd (f + 1) w → (∀ L', (∀ j, j ≠ i → depOn ops j i = false → ∀ k, k ∈ Lb j → k ∈ L') → But L' w0 w) → w0.heap.size ≤ w.heap.size → Like ops a0 a → (∀ e ∈ o.after, Region.binds .any e = true → ∀ oe, ops[e.on]? = some oe → SF e.on (dstVal oe a) w) →
      wpOp P ops Q i (fun a' w' => ∃ v, a' = a.put o.dst v ∧ (o.dst = none → v = undef) ∧ SF i v w' ∧ But (Lb i) w w' ∧ Wd f w') a w)
    (fin : ∀ (a : Act) (w : World), Wd 0 w → w0.heap.size ≤ w.heap.size → (∀ L', (∀ j k, k ∈ Lb j → k ∈ L') → But L' w0 w) → Like ops a0 a → (∀ i o, ops[i]? = some o → SF i (dstVal o a) w) → Q .normal a w) :
    (Code.region id ops true).wp P Q a0 w0 := by
  have inb : ∀ (i : Nat) (o : Oper), ops[i]? = some o → i < ops.size := fun i o ho => by
    by_cases hh : i < ops.size
    · exact hh
    · rw [Array.getElem?_eq_none (by omega)] at ho; cases ho
  refine wp_region_joint n (JL ops Lb Wd SF w0) hm hf hn hd ⟨fun L' _ => (But.refl _ _).drew, Nat.le_refl _, fun i h => (by cases h), fun j i h => (by cases h), by rw [leftN_none]; exact start⟩ ?_ ?_
  · intro i o ho L x a w hJ hLi hL hdep
    have hi := inb i o ho
    have hc := leftN_in hLi ops.size hi
    have hw := hJ.wd
    rw [← hc] at hw
    refine wpOp_mono ?_ (step i o ho _ a w hw (fun L' hL' => hJ.fr L' (fun j hj => hL' j (fun e => by subst e; rw [hLi] at hj; cases hj) (by
      cases hdj : depOn ops j i with
      | false => rfl
      | true => rw [hJ.dn j i hj hdj] at hLi; cases hLi))) hJ.sz hL (fun e he hb oe hoe => by
      obtain ⟨h1, h2⟩ := hdep e he hb
      rw [h2 oe hoe]; exact hJ.sf _ h1))
    rintro a' w' ⟨v, ha, hv0, hv, hB, hW⟩
    refine ⟨v, ha, hv0, fun L' hL' => (hJ.fr L' (fun j hj k hk => hL' j (by show (if j = i then true else L j) = true; split; rfl; exact hj) k hk)).trans (hB.mono fun k hk _ => hL' i (by show (if i = i then true else L i) = true; rw [if_pos rfl]) k hk), Nat.le_trans hJ.sz hB.size, fun j hj => ?_, fun j k hj hjk => ?_, hW⟩
    · by_cases e : j = i
      · subst e; simp only [if_pos]; exact hv
      · simp only [if_neg e] at hj ⊢
        exact mono i j _ w w' (Ne.symm e) hJ.sz (hJ.sf j hj) hB
    · by_cases e : k = i
      · simp only [if_pos e]
      · simp only [if_neg e]
        by_cases e2 : j = i
        · subst e2
          unfold depOn at hjk
          rw [ho] at hjk
          simp only [Option.map_some, Option.getD_some] at hjk
          obtain ⟨t, ht, h2⟩ := Array.any_eq_true'.mp hjk
          simp only [Bool.and_eq_true, beq_iff_eq] at h2
          have := (hdep t ht h2.1).1
          rwa [h2.2] at this
        · simp only [if_neg e2] at hj
          exact hJ.dn j k hj hjk
  · intro L x a w hall hJ hL hx
    have hw := hJ.wd
    rw [leftN_all _ hall] at hw
    exact fin a w hw hJ.sz (fun L' hL' => hJ.fr L' (fun j _ k hk => hL' j k hk)) hL (fun i o ho => by rw [hx i o ho]; exact hJ.sf i (hall i (inb i o ho)))
theorem SK.but {b : Nat} {k : SK} {v : Value} {w w' : World} {L : List Nat} (h : k.holds b v w) (hg : But L w w') (hL : ∀ x, x ∈ L → x ≤ b) : k.holds b v w' := by
  cases k with
  | ptr => exact h
  | int p => exact h
  | row len p =>
    obtain ⟨g, h1, h2, h3, h4⟩ := h
    exact ⟨g, h1, Nat.lt_of_lt_of_le h2 hg.size, h3, fun i hi => by rw [hg.cell h2 (fun m => by have := hL g m; omega)]; exact h4 i hi⟩
  | cell p =>
    obtain ⟨g, o, h1, h2, h3, n, h4, h5⟩ := h
    exact ⟨g, o, h1, Nat.lt_of_lt_of_le h2 hg.size, h3, n, h4, by rw [hg.cell h2 (fun m => by have := hL g m; omega)]; exact h5⟩
end

end Go.Proofs.YtbjapncfgancoaaDoor
