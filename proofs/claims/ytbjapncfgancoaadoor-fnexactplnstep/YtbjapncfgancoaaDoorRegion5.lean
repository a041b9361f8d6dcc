/- A region that draws its order, as in Region4; what lies behind by several steps counts, too. No program is named here. -/
import Derived.Test.YtbjapncfgancoaaDoorRegion4
namespace Go.Proofs.YtbjapncfgancoaaDoor
open Go.RowKit
set_option linter.unusedVariables false
/-- Operation j comes up behind operation i, by so many steps at most. -/
def depT (ops : Array Oper) : Nat → Nat → Nat → Bool
  | 0, j, i => depOn ops j i
  | f + 1, j, i => depOn ops j i || (((ops[j]?).map fun o => o.after.any fun e => Region.binds .any e && depT ops f e.on i).getD false)
theorem depT_done {ops : Array Oper} {L : Nat → Bool} (dn : ∀ j i, L j = true → depOn ops j i = true → L i = true) : ∀ f j i, L j = true → depT ops f j i = true → L i = true
  | 0, j, i, h, hd => dn j i h hd
  | f + 1, j, i, h, hd => by
    simp only [depT, Bool.or_eq_true] at hd
    rcases hd with hd | hd
    · exact dn j i h hd
    · cases ho : ops[j]? with
      | none => rw [ho] at hd; simp at hd
      | some o =>
        rw [ho] at hd
        simp only [Option.map_some, Option.getD_some] at hd
        obtain ⟨t, ht, h2⟩ := Array.any_eq_true'.mp hd
        simp only [Bool.and_eq_true] at h2
        have hk : L t.on = true := dn j t.on h (by
          unfold depOn
          rw [ho]
          simp only [Option.map_some, Option.getD_some]
          exact Array.any_eq_true'.mpr ⟨t, ht, by simp [h2.1]⟩)
        exact depT_done dn f t.on i hk h2.2
theorem depT_no {ops : Array Oper} {f j i : Nat} (h : depT ops f j i = false) (h1 : depT ops f j i = true) : False := by rw [h] at h1; cases h1
section
variable {P : Program} {ops : Array Oper} {Q : Exit → Act → World → Prop}
structure JT (ops : Array Oper) (Lb : Nat → List Nat) (Wd : Nat → World → Prop) (SF : Nat → Value → World → Prop) (w0 : World) (L : Nat → Bool) (x : Nat → Value) (w : World) : Prop where
  fr : ∀ L', (∀ j, L j = true → ∀ k, k ∈ Lb j → k ∈ L') → But L' w0 w
  sz : w0.heap.size ≤ w.heap.size
  sf : ∀ i, L i = true → SF i (x i) w
  dn : ∀ j i, L j = true → depOn ops j i = true → L i = true
  wd : Wd (leftN L ops.size) w
theorem wp_region_lots2 {id : Nat} {a0 : Act} {w0 : World} (n : Nat) (Lb : Nat → List Nat) (Wd : Nat → World → Prop) (SF : Nat → Value → World → Prop)
    (mono : ∀ i j v w w', i ≠ j → w0.heap.size ≤ w.heap.size → SF j v w → But (Lb i) w w' → SF j v w') (hm : P.follows .mixedOrders = true)
    (hf : fwd .any ops = true) (hn : a0.tmps.size = n) (hd : dstsOk2 ops n = true) (start : Wd ops.size w0.drew)
    (step : ∀ i o, ops[i]? = some o → ∀ f a w, Wd (f + 1) w → (∀ L', (∀ j, j ≠ i → depT ops 8 j i = false → ∀ k, k ∈ Lb j → k ∈ L') → But L' w0 w) → w0.heap.size ≤ w.heap.size → Like ops a0 a → (∀ e ∈ o.after, Region.binds .any e = true → ∀ oe, ops[e.on]? = some oe → SF e.on (dstVal oe a) w) →
      wpOp P ops Q i (fun a' w' => ∃ v, a' = a.put o.dst v ∧ (o.dst = none → v = undef) ∧ SF i v w' ∧ But (Lb i) w w' ∧ Wd f w') a w)
    (fin : ∀ (a : Act) (w : World), Wd 0 w → w0.heap.size ≤ w.heap.size → (∀ L', (∀ j k, k ∈ Lb j → k ∈ L') → But L' w0 w) → Like ops a0 a → (∀ i o, ops[i]? = some o → SF i (dstVal o a) w) → Q .normal a w) :
    (Code.region id ops true).wp P Q a0 w0 := by
  have inb : ∀ (i : Nat) (o : Oper), ops[i]? = some o → i < ops.size := fun i o ho => by
    by_cases hh : i < ops.size
    · exact hh
    · rw [Array.getElem?_eq_none (by omega)] at ho; cases ho
  refine wp_region_joint n (JT ops Lb Wd SF w0) hm hf hn hd ⟨fun L' _ => (But.refl _ _).drew, Nat.le_refl _, fun i h => (by cases h), fun j i h => (by cases h), by rw [leftN_none]; exact start⟩ ?_ ?_
  · intro i o ho L x a w hJ hLi hL hdep
    have hi := inb i o ho
    have hc := leftN_in hLi ops.size hi
    have hw := hJ.wd
    rw [← hc] at hw
    refine wpOp_mono ?_ (step i o ho _ a w hw (fun L' hL' => hJ.fr L' (fun j hj => hL' j (fun e => by subst e; rw [hLi] at hj; cases hj) (by
      cases hdj : depT ops 8 j i with
      | false => rfl
      | true => rw [depT_done hJ.dn 8 j i hj hdj] at hLi; cases hLi))) hJ.sz hL (fun e he hb oe hoe => by
      obtain ⟨h1, h2⟩ := hdep e he hb
      rw [h2 oe hoe]; exact hJ.sf _ h1))
    rintro a' w' ⟨v, ha, hv0, hv, hB, hW⟩
    refine ⟨v, ha, hv0, fun L' hL' => (hJ.fr L' (fun j hj k hk => hL' j (by show (if j = i then true else L j) = true; split; rfl; exact hj) k hk)).trans (hB.mono fun k hk _ => hL' i (by show (if i = i then true else L i) = true; rw [if_pos rfl]) k hk), Nat.le_trans hJ.sz hB.size, fun j hj => ?_, fun j k hj hjk => ?_, hW⟩
    · by_cases e : j = i
      · subst e; simp only [if_pos]; exact hv
      · simp only [if_neg e] at hj ⊢
        exact mono i j _ w w' (Ne.symm e) hJ.sz (hJ.sf j hj) hB
    · by_cases e : k = i
      · simp only [if_pos e]
      · simp only [if_neg e]
        by_cases e2 : j = i
        · subst e2
          unfold depOn at hjk
          rw [ho] at hjk
          simp only [Option.map_some, Option.getD_some] at hjk
          obtain ⟨t, ht, h2⟩ := Array.any_eq_true'.mp hjk
          simp only [Bool.and_eq_true, beq_iff_eq] at h2
          have := (hdep t ht h2.1).1
          rwa [h2.2] at this
        · simp only [if_neg e2] at hj
          exact hJ.dn j k hj hjk
  · intro L x a w hall hJ hL hx
    have hw := hJ.wd
    rw [leftN_all _ hall] at hw
    exact fin a w hw hJ.sz (fun L' hL' => hJ.fr L' (fun j _ k hk => hL' j k hk)) hL (fun i o ho => by rw [hx i o ho]; exact hJ.sf i (hall i (inb i o ho)))
end

end Go.Proofs.YtbjapncfgancoaaDoor
