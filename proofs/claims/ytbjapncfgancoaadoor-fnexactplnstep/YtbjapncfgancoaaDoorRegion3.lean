/- A region that draws its order, by an invariant on all slots together; new rows lie apart. No program is named here. -/
import Derived.Below
import Derived.Deep.QuietTactic
import Derived.Test.YtbjapncfgancoaaDoorRegion
namespace Go.Proofs.YtbjapncfgancoaaDoor
open Go.RowKit
set_option linter.unusedVariables false

/-- Nothing that was there has turned, but the listed blocks. -/
structure But (L : List Nat) (w w' : World) : Prop where
  os : w'.os = w.os
  tape : w'.tape = w.tape
  output : w'.output = w.output
  size : w.heap.size ≤ w'.heap.size
  block : ∀ k, k < w.heap.size → k ∉ L → w'.heap[k]? = w.heap[k]?
theorem But.refl (L : List Nat) (w : World) : But L w w := ⟨rfl, rfl, rfl, Nat.le_refl _, fun _ _ _ => rfl⟩
theorem But.trans {L : List Nat} {a b c : World} (h : But L a b) (k : But L b c) : But L a c :=
  ⟨k.os.trans h.os, k.tape.trans h.tape, k.output.trans h.output, Nat.le_trans h.size k.size, fun i hi hn => (k.block i (Nat.lt_of_lt_of_le hi h.size) hn).trans (h.block i hi hn)⟩
theorem But.of {L : List Nat} {w w' : World} (f : Below w.heap.size w w') : But L w w' := ⟨f.os, f.tape, f.output, f.size, fun k hk _ => f.block k hk⟩
theorem But.mono {L L' : List Nat} {w w' : World} (h : But L w w') (hs : ∀ k, k ∈ L → k < w.heap.size → k ∈ L') : But L' w w' :=
  ⟨h.os, h.tape, h.output, h.size, fun k hk hn => h.block k hk (fun hm => hn (hs k hm hk))⟩
theorem But.set {L : List Nat} {w w' : World} (h : But L w w') (g j : Nat) (v : Value) (hg : g ∈ L ∨ w.heap.size ≤ g) : But L w (w'.setCell ⟨g, j, none⟩ v) :=
  ⟨h.os, h.tape, h.output, Nat.le_trans h.size (by simp [World.setCell]), fun k hk hn => by
    rw [Below.heap_setCell _ _ _ _ (by show k ≠ g; intro e; subst e; rcases hg with hg | hg; exact hn hg; omega)]; exact h.block k hk hn⟩
theorem But.alloc {L : List Nat} {w w' : World} (h : But L w w') (o : Obj) : But L w (w'.alloc o) := h.trans (But.of ((Below.refl _ _).alloc (Nat.le_refl _) _))
theorem But.drew {L : List Nat} {w w' : World} (h : But L w w') : But L w w'.drew := ⟨h.os, h.tape, h.output, h.size, h.block⟩
theorem But.drewN {L : List Nat} {w w' : World} (h : But L w w') (n : Nat) : But L w (w'.drewN n) := ⟨h.os, h.tape, h.output, h.size, h.block⟩
theorem But.below {L : List Nat} {w w' : World} {B : Nat} (h : But L w w') (hB : B ≤ w.heap.size) (hL : ∀ k, k ∈ L → B ≤ k) : Below B w w' :=
  ⟨h.os, h.tape, h.output, h.size, fun k hk => h.block k (by omega) (fun hm => by have := hL k hm; omega)⟩
theorem But.cell {L : List Nat} {w w' : World} (h : But L w w') {g i : Nat} (hg : g < w.heap.size) (hn : g ∉ L) : w'.cell? ⟨g, i, none⟩ = w.cell? ⟨g, i, none⟩ := World.cell?_of_block (h.block g hg hn)
theorem But.frozen {L : List Nat} {w w' : World} (h : But L w w') {g i : Nat} (hg : g < w.heap.size) (hn : g ∉ L) : w'.frozen? ⟨g, i, none⟩ = w.frozen? ⟨g, i, none⟩ := World.frozen?_of_block (h.block g hg hn)

theorem fr_but {w u0 u : World} {L : List Nat} (f : Below w.heap.size w u0) (h : But L u0 u) (hL : ∀ k, k ∈ L → w.heap.size ≤ k) : Below w.heap.size w u := Below.trans f (h.below f.size hL)
theorem lb0_in (j k : Nat) (h : k ∈ ([] : List Nat)) : k ∈ ([] : List Nat) := h
theorem lb1_in {m z : Nat} (j k : Nat) (h : k ∈ (if j = m then [z] else [] : List Nat)) : k ∈ [z] := by
  by_cases e : j = m
  · rwa [if_pos e] at h
  · rw [if_neg e] at h; cases h
theorem lb1_out {m z : Nat} (j : Nat) (hj : j ≠ m) (k : Nat) (h : k ∈ (if j = m then [z] else [] : List Nat)) : k ∈ ([] : List Nat) := by rwa [if_neg hj] at h
theorem lb2_in {m z m' z' : Nat} (j k : Nat) (h : k ∈ (if j = m then [z] else if j = m' then [z'] else [] : List Nat)) : k ∈ [z, z'] := by
  by_cases e : j = m
  · rw [if_pos e] at h; exact List.mem_cons.2 (.inl (List.mem_singleton.1 h))
  · rw [if_neg e] at h
    exact List.mem_cons_of_mem _ (lb1_in j k h)
theorem lb2_out {m z m' z' : Nat} (j : Nat) (hj : j ≠ m) (k : Nat) (h : k ∈ (if j = m then [z] else if j = m' then [z'] else [] : List Nat)) : k ∈ [z'] := by
  rw [if_neg hj] at h
  exact lb1_in j k h
theorem lb2_out' {m z m' z' : Nat} (j : Nat) (hj : j ≠ m') (k : Nat) (h : k ∈ (if j = m then [z] else if j = m' then [z'] else [] : List Nat)) : k ∈ [z] := by
  by_cases e : j = m
  · rwa [if_pos e] at h
  · rw [if_neg e, if_neg hj] at h; cases h
section
variable {P : Program} {ops : Array Oper} {Q : Exit → Act → World → Prop}
theorem wp_region_joint {id : Nat} {a0 : Act} {w0 : World} (n : Nat) (J : (Nat → Bool) → (Nat → Value) → World → Prop) (hm : P.follows .mixedOrders = true)
    (hf : fwd .any ops = true) (hn : a0.tmps.size = n) (hd : dstsOk2 ops n = true) (start : J (fun _ => false) (fun _ => undef) w0.drew)
    (step : ∀ i o, ops[i]? = some o → ∀ L x a w, J L x w → L i = false → Like ops a0 a → (∀ e ∈ o.after, Region.binds .any e = true → L e.on = true ∧ ∀ oe, ops[e.on]? = some oe → dstVal oe a = x e.on) →
      wpOp P ops Q i (fun a' w' => ∃ v, a' = a.put o.dst v ∧ (o.dst = none → v = undef) ∧ J (fun j => if j = i then true else L j) (fun j => if j = i then v else x j) w') a w)
    (fin : ∀ L x a w, (∀ i, i < ops.size → L i = true) → J L x w → Like ops a0 a → (∀ i o, ops[i]? = some o → dstVal o a = x i) → Q .normal a w) :
    (Code.region id ops true).wp P Q a0 w0 := by
  subst hn
  refine wp_region_any hm ?_
  show wpAny P .any ops Q ops.size (Array.replicate ops.size false) a0 w0.drew
  refine wpAny_inv (I := fun f listed a w => listed.size = ops.size ∧ listed.toList.count false = f ∧ Like ops a0 a ∧ ∃ x, J (fun j => listed.getD j false) x w ∧ ∀ i o, ops[i]? = some o → listed.getD i false = true → dstVal o a = x i) ?_ ?_ ?_ _ _ _ _ ?_
  · rintro f listed a w i ⟨hs, hc, hL, x, hW, hF⟩ hi
    obtain ⟨o, ho, hl, hdep⟩ := mem_ready hi
    have hilt : i < ops.size := by
      by_cases hh : i < ops.size
      · exact hh
      · rw [Array.getElem?_eq_none (by omega)] at ho; cases ho
    have hl' : listed.getD i false = false := by
      have e : listed.getD i true = listed.getD i false := by simp [Array.getD, show i < listed.size by omega]
      rw [← e]; exact hl
    refine wpOp_mono ?_ (step i o ho (fun j => listed.getD j false) x a w hW hl' hL (fun e he hb => ⟨hdep e he hb, fun oe hoe => hF _ _ hoe (hdep e he hb)⟩))
    rintro a' w' ⟨v, rfl, hv0, hW'⟩
    refine ⟨by simpa using hs, ?_, ?_, (fun j => if j = i then v else x j), ?_, ?_⟩
    · have hil : i < listed.toList.length := by simpa using (by omega : i < listed.size)
      have hli : listed.toList[i] = false := by
        have : listed.getD i true = listed.toList[i] := by simp [Array.getD, show i < listed.size by omega]
        rw [← this]; exact hl
      have h1 := List.count_set (a := true) (b := false) (h := hil)
      rw [hli] at h1
      have h2 : (listed.setIfInBounds i true).toList = listed.toList.set i true := by simp
      rw [h2, h1, hc]
      rfl
    · cases hdo : o.dst with
      | none => exact hL
      | some d =>
        refine ⟨hL.1, by simpa [Act.put] using hL.2.1, fun k hk => ?_⟩
        show (a.tmps.setIfInBounds d v).getD k undef = _
        rw [getD_set_ne _ _ _ _ (fun h => hk i o ho (by rw [hdo, h]))]
        exact hL.2.2 k hk
    · have e : (fun j => (listed.setIfInBounds i true).getD j false) = fun j => if j = i then true else listed.getD j false := by
        funext j
        by_cases hj : j = i
        · subst hj
          simp [Array.getD_eq_getD_getElem?, show j < listed.size by omega]
        · rw [if_neg hj, Array.getD_eq_getD_getElem?, Array.getD_eq_getD_getElem?, Array.getElem?_setIfInBounds_ne (Ne.symm hj)]
      rw [e]; exact hW'
    · intro j oj hoj hlj
      by_cases hij : i = j
      · subst hij
        rw [ho] at hoj
        obtain rfl : o = oj := by injection hoj
        show dstVal o (a.put o.dst v) = if i = i then v else x i
        rw [if_pos rfl]
        cases hdo : o.dst with
        | none =>
          have e : dstVal o (a.put none v) = undef := by simp only [dstVal, hdo]
          rw [e, ← hv0 hdo]
        | some d =>
          have hlt : d < a.tmps.size := Nat.lt_of_lt_of_eq (dstsOk2_lt hd ho hdo) hL.2.1.symm
          simp only [dstVal, hdo]
          exact getD_set_eq a.tmps d v hlt
      · have e : dstVal oj (a.put o.dst v) = dstVal oj a := by
          cases hdo : o.dst with
          | none => rfl
          | some d =>
            have hne := dstsOk2_ne hd ho hoj hij hdo
            unfold dstVal
            cases hdj : oj.dst with
            | none => rfl
            | some k =>
              show (a.tmps.setIfInBounds d v).getD k undef = _
              exact getD_set_ne _ _ _ _ (fun h => hne (by rw [hdo, hdj, h]))
        show dstVal oj (a.put o.dst v) = if j = i then v else x j
        rw [e, if_neg (Ne.symm hij)]
        refine hF j oj hoj ?_
        rw [← hlj]
        simp [Array.getD_eq_getD_getElem?, Array.getElem?_setIfInBounds_ne hij]
  · rintro f listed a w ⟨hs, hc, hL, x, hW, hF⟩ hr
    have hall := all_listed hf hs hr
    refine fin _ x a w hall hW hL (fun i o ho => hF i o ho (hall i ?_))
    by_cases hh : i < ops.size
    · exact hh
    · rw [Array.getElem?_eq_none (by omega)] at ho; cases ho
  · rintro listed a w ⟨hs, hc, hL, x, hW, hF⟩
    apply List.eq_nil_iff_forall_not_mem.mpr
    intro i hi
    obtain ⟨o, ho, hl, _⟩ := mem_ready hi
    have hilt : i < ops.size := by
      by_cases hh : i < ops.size
      · exact hh
      · rw [Array.getElem?_eq_none (by omega)] at ho; cases ho
    have hm : false ∈ listed.toList := by
      have : listed.getD i true = listed[i]'(by omega) := by simp [Array.getD, show i < listed.size by omega]
      rw [hl] at this
      rw [this]
      simp
    have := List.count_pos_iff.mpr hm
    omega
  · refine ⟨by simp, by simp, ⟨rfl, rfl, fun _ _ => rfl⟩, fun _ => undef, ?_, fun i o ho hl => ?_⟩
    · have e : (fun j => (Array.replicate ops.size false).getD j false) = fun _ => false := by
        funext j
        by_cases hh : j < ops.size
        · simp [Array.getD, hh]
        · simp [Array.getD, hh]
      rw [e]; exact start
    · exfalso
      by_cases hh : i < ops.size
      · simp [Array.getD, hh] at hl
      · simp [Array.getD, hh] at hl

/-- Operation j comes up behind operation i. -/
def depOn (ops : Array Oper) (j i : Nat) : Bool := ((ops[j]?).map fun o => o.after.any fun e => Region.binds .any e && e.on == i).getD false
/-- Operation z comes up behind all others. -/
def lastAll (ops : Array Oper) (z : Nat) : Bool := (List.range ops.size).all fun i => i == z || depOn ops z i
theorem lastAll_dep {ops : Array Oper} {z : Nat} (h : lastAll ops z = true) {i : Nat} (hi : i < ops.size) (hz : i ≠ z) : depOn ops z i = true := by
  have := List.all_eq_true.1 h i (List.mem_range.2 hi)
  simpa [hz] using this
/-- The block that a value leads to. -/
def blkOf : Value → Option Nat
  | .slice (some a) _ _ => some a.block
  | .pointer (some a) => some a.block
  | _ => none
/-- The last operation (it comes up behind all others) by itself, in whatever order the others came. -/
theorem wp_region_tail {id : Nat} {a0 : Act} {w0 : World} (n z : Nat) (J : (Nat → Bool) → (Nat → Value) → World → Prop) (hm : P.follows .mixedOrders = true)
    (hf : fwd .any ops = true) (hn : a0.tmps.size = n) (hd : dstsOk2 ops n = true) (hz : lastAll ops z = true) (hzs : z < ops.size) (start : J (fun _ => false) (fun _ => undef) w0.drew)
    (step : ∀ i o, ops[i]? = some o → i ≠ z → ∀ L x a w, J L x w → L i = false → Like ops a0 a → (∀ e ∈ o.after, Region.binds .any e = true → L e.on = true ∧ ∀ oe, ops[e.on]? = some oe → dstVal oe a = x e.on) →
      wpOp P ops Q i (fun a' w' => ∃ v, a' = a.put o.dst v ∧ (o.dst = none → v = undef) ∧ J (fun j => if j = i then true else L j) (fun j => if j = i then v else x j) w') a w)
    (fin : ∀ L x a w, (∀ i, i < ops.size → i ≠ z → L i = true) → J L x w → Like ops a0 a → (∀ i o, ops[i]? = some o → i ≠ z → dstVal o a = x i) → wpOp P ops Q z (fun a' w' => Q .normal a' w') a w) :
    (Code.region id ops true).wp P Q a0 w0 := by
  subst hn
  refine wp_region_any hm ?_
  show wpAny P .any ops Q ops.size (Array.replicate ops.size false) a0 w0.drew
  refine wpAny_inv (I := fun f listed a w => listed.size = ops.size ∧ listed.toList.count false = f ∧ ((listed.getD z false = false ∧ Like ops a0 a ∧ ∃ x, J (fun j => listed.getD j false) x w ∧ ∀ i o, ops[i]? = some o → listed.getD i false = true → dstVal o a = x i) ∨ ((∀ i, i < ops.size → listed.getD i false = true) ∧ Q .normal a w))) ?_ ?_ ?_ _ _ _ _ ?_
  · rintro f listed a w i ⟨hs, hc, hD⟩ hi
    obtain ⟨o, ho, hl, hdep⟩ := mem_ready hi
    have hilt : i < ops.size := by
      by_cases hh : i < ops.size
      · exact hh
      · rw [Array.getElem?_eq_none (by omega)] at ho; cases ho
    have hl' : listed.getD i false = false := by
      have e : listed.getD i true = listed.getD i false := by simp [Array.getD, show i < listed.size by omega]
      rw [← e]; exact hl
    have hcnt : (listed.setIfInBounds i true).toList.count false = f := by
      have hil : i < listed.toList.length := by simpa using (by omega : i < listed.size)
      have hli : listed.toList[i] = false := by
        have : listed.getD i true = listed.toList[i] := by simp [Array.getD, show i < listed.size by omega]
        rw [← this]; exact hl
      have h1 := List.count_set (a := true) (b := false) (h := hil)
      rw [hli] at h1
      have h2 : (listed.setIfInBounds i true).toList = listed.toList.set i true := by simp
      rw [h2, h1, hc]
      rfl
    have hset : ∀ j, j ≠ i → (listed.setIfInBounds i true).getD j false = listed.getD j false := fun j hj => by
      rw [Array.getD_eq_getD_getElem?, Array.getD_eq_getD_getElem?, Array.getElem?_setIfInBounds_ne (Ne.symm hj)]
    have hself : (listed.setIfInBounds i true).getD i false = true := by
      simp [Array.getD_eq_getD_getElem?, show i < listed.size by omega]
    rcases hD with ⟨hzl, hL, x, hW, hF⟩ | ⟨hall, _⟩
    · by_cases hiz : i = z
      · subst hiz
        have hoth : ∀ j, j < ops.size → j ≠ i → listed.getD j false = true := fun j hj hji => by
          have := lastAll_dep hz hj hji
          unfold depOn at this
          rw [ho] at this
          simp only [Option.map_some, Option.getD_some] at this
          obtain ⟨t, ht, h2⟩ := Array.any_eq_true'.mp this
          simp only [Bool.and_eq_true, beq_iff_eq] at h2
          have := hdep t ht h2.1
          rwa [h2.2] at this
        refine wpOp_mono ?_ (fin (fun j => listed.getD j false) x a w hoth hW hL (fun j oj hoj hji => hF j oj hoj (hoth j (by
          by_cases hh : j < ops.size
          · exact hh
          · rw [Array.getElem?_eq_none (by omega)] at hoj; cases hoj) hji)))
        intro a' w' hq
        refine ⟨by simpa using hs, hcnt, .inr ⟨fun j hj => ?_, hq⟩⟩
        by_cases hji : j = i
        · rw [hji]; exact hself
        · rw [hset j hji]; exact hoth j hj hji
      · refine wpOp_mono ?_ (step i o ho hiz (fun j => listed.getD j false) x a w hW hl' hL (fun e he hb => ⟨hdep e he hb, fun oe hoe => hF _ _ hoe (hdep e he hb)⟩))
        rintro a' w' ⟨v, rfl, hv0, hW'⟩
        refine ⟨by simpa using hs, hcnt, .inl ⟨by rw [hset z (Ne.symm hiz)]; exact hzl, ?_, (fun j => if j = i then v else x j), ?_, ?_⟩⟩
        · cases hdo : o.dst with
          | none => exact hL
          | some d =>
            refine ⟨hL.1, by simpa [Act.put] using hL.2.1, fun k hk => ?_⟩
            show (a.tmps.setIfInBounds d v).getD k undef = _
            rw [getD_set_ne _ _ _ _ (fun h => hk i o ho (by rw [hdo, h]))]
            exact hL.2.2 k hk
        · have e : (fun j => (listed.setIfInBounds i true).getD j false) = fun j => if j = i then true else listed.getD j false := by
            funext j
            by_cases hj : j = i
            · subst hj
              rw [hself, if_pos rfl]
            · rw [hset j hj, if_neg hj]
          rw [e]; exact hW'
        · intro j oj hoj hlj
          by_cases hij : i = j
          · subst hij
            rw [ho] at hoj
            obtain rfl : o = oj := by injection hoj
            show dstVal o (a.put o.dst v) = if i = i then v else x i
            rw [if_pos rfl]
            cases hdo : o.dst with
            | none =>
              have e : dstVal o (a.put none v) = undef := by simp only [dstVal, hdo]
              rw [e, ← hv0 hdo]
            | some d =>
              have hlt : d < a.tmps.size := Nat.lt_of_lt_of_eq (dstsOk2_lt hd ho hdo) hL.2.1.symm
              simp only [dstVal, hdo]
              exact getD_set_eq a.tmps d v hlt
          · have e : dstVal oj (a.put o.dst v) = dstVal oj a := by
              cases hdo : o.dst with
              | none => rfl
              | some d =>
                have hne := dstsOk2_ne hd ho hoj hij hdo
                unfold dstVal
                cases hdj : oj.dst with
                | none => rfl
                | some k =>
                  show (a.tmps.setIfInBounds d v).getD k undef = _
                  exact getD_set_ne _ _ _ _ (fun h => hne (by rw [hdo, hdj, h]))
            show dstVal oj (a.put o.dst v) = if j = i then v else x j
            rw [e, if_neg (Ne.symm hij)]
            refine hF j oj hoj ?_
            rw [← hlj, hset j (Ne.symm hij)]
    · rw [hall i hilt] at hl'; cases hl'
  · rintro f listed a w ⟨hs, hc, hD⟩ hr
    have hall := all_listed hf hs hr
    rcases hD with ⟨hzl, _⟩ | ⟨_, hq⟩
    · rw [hall z hzs] at hzl; cases hzl
    · exact hq
  · rintro listed a w ⟨hs, hc, hD⟩
    apply List.eq_nil_iff_forall_not_mem.mpr
    intro i hi
    obtain ⟨o, ho, hl, _⟩ := mem_ready hi
    have hilt : i < ops.size := by
      by_cases hh : i < ops.size
      · exact hh
      · rw [Array.getElem?_eq_none (by omega)] at ho; cases ho
    have hm : false ∈ listed.toList := by
      have : listed.getD i true = listed[i]'(by omega) := by simp [Array.getD, show i < listed.size by omega]
      rw [hl] at this
      rw [this]
      simp
    have := List.count_pos_iff.mpr hm
    omega
  · refine ⟨by simp, by simp, .inl ⟨by simp [Array.getD, hzs], ⟨rfl, rfl, fun _ _ => rfl⟩, fun _ => undef, ?_, fun i o ho hl => ?_⟩⟩
    · have e : (fun j => (Array.replicate ops.size false).getD j false) = fun _ => false := by
        funext j
        by_cases hh : j < ops.size
        · simp [Array.getD, hh]
        · simp [Array.getD, hh]
      rw [e]; exact start
    · exfalso
      by_cases hh : i < ops.size
      · simp [Array.getD, hh] at hl
      · simp [Array.getD, hh] at hl
/-- Slots, of which those that 'own' names lead to new blocks, apart. -/
structure JA (ops : Array Oper) (Lb : Nat → List Nat) (own : Nat → Bool) (SF : Nat → Value → World → Prop) (w0 : World) (L : Nat → Bool) (x : Nat → Value) (w : World) : Prop where
  fr : ∀ L', (∀ j, L j = true → ∀ k, k ∈ Lb j → k ∈ L') → But L' w0 w
  sz : w0.heap.size ≤ w.heap.size
  sf : ∀ i, L i = true → SF i (x i) w
  ap : ∀ i j, i ≠ j → own i = true → own j = true → L i = true → L j = true → ∀ p q, blkOf (x i) = some p → blkOf (x j) = some q → p ≠ q
  nw : ∀ i, own i = true → L i = true → ∀ p, blkOf (x i) = some p → w0.heap.size ≤ p ∧ p < w.heap.size
  dn : ∀ j i, L j = true → depOn ops j i = true → L i = true
/-- A region that draws its order and ends in one operation: what the others leave in their slots, whatever their order; then the last. -/
theorem wp_region_rows {id : Nat} {a0 : Act} {w0 : World} (n z : Nat) (La : List Nat) (Lb : Nat → List Nat) (hLa : ∀ j k, k ∈ Lb j → k ∈ La) (own : Nat → Bool) (SF : Nat → Value → World → Prop)
    (mono : ∀ i j v w w', i < ops.size → i ≠ j → depOn ops j i = false → w0.heap.size ≤ w.heap.size → SF j v w → But (Lb i) w w' → SF j v w') (hm : P.follows .mixedOrders = true)
    (hf : fwd .any ops = true) (hn : a0.tmps.size = n) (hd : dstsOk2 ops n = true) (hz : lastAll ops z = true) (hzs : z < ops.size)
    (step : ∀ i o, ops[i]? = some o → i ≠ z → ∀ a w, (∀ L', (∀ j, j ≠ i → ∀ k, k ∈ Lb j → k ∈ L') → But L' w0 w) → Like ops a0 a → (∀ e ∈ o.after, Region.binds .any e = true → ∀ oe, ops[e.on]? = some oe → SF e.on (dstVal oe a) w) →
      (∀ e ∈ o.after, ∀ f ∈ o.after, Region.binds .any e = true → Region.binds .any f = true → e.on ≠ f.on → own e.on = true → own f.on = true → ∀ oe of, ops[e.on]? = some oe → ops[f.on]? = some of → ∀ p q, blkOf (dstVal oe a) = some p → blkOf (dstVal of a) = some q → p ≠ q) →
      (∀ e ∈ o.after, Region.binds .any e = true → own e.on = true → ∀ oe, ops[e.on]? = some oe → ∀ p, blkOf (dstVal oe a) = some p → w0.heap.size ≤ p ∧ p < w.heap.size) →
      wpOp P ops Q i (fun a' w' => ∃ v, a' = a.put o.dst v ∧ (o.dst = none → v = undef) ∧ SF i v w' ∧ But (Lb i) w w' ∧ (own i = true → ∀ p, blkOf v = some p → w.heap.size ≤ p ∧ p < w'.heap.size)) a w)
    (fin : ∀ (a : Act) (w : World), But La w0 w → Like ops a0 a → (∀ i o, ops[i]? = some o → i ≠ z → SF i (dstVal o a) w) →
      (∀ i j oi oj, ops[i]? = some oi → ops[j]? = some oj → i ≠ z → j ≠ z → i ≠ j → own i = true → own j = true → ∀ p q, blkOf (dstVal oi a) = some p → blkOf (dstVal oj a) = some q → p ≠ q) →
      (∀ i o, ops[i]? = some o → i ≠ z → own i = true → ∀ p, blkOf (dstVal o a) = some p → w0.heap.size ≤ p ∧ p < w.heap.size) → wpOp P ops Q z (fun a' w' => Q .normal a' w') a w) :
    (Code.region id ops true).wp P Q a0 w0 := by
  have inb : ∀ (i : Nat) (o : Oper), ops[i]? = some o → i < ops.size := fun i o ho => by
    by_cases hh : i < ops.size
    · exact hh
    · rw [Array.getElem?_eq_none (by omega)] at ho; cases ho
  refine wp_region_tail n z (JA ops Lb own SF w0) hm hf hn hd hz hzs ⟨fun L' _ => (But.refl _ _).drew, Nat.le_refl _, fun i h => (by cases h), fun i j _ _ _ h => (by cases h), fun i _ h => (by cases h), fun j i h => (by cases h)⟩ ?_ ?_
  · intro i o ho hiz L x a w hJ hLi hL hdep
    have hi := inb i o ho
    refine wpOp_mono ?_ (step i o ho hiz a w (fun L' hL' => hJ.fr L' (fun j hj => hL' j (fun e => by subst e; rw [hLi] at hj; cases hj))) hL (fun e he hb oe hoe => by
      obtain ⟨h1, h2⟩ := hdep e he hb
      rw [h2 oe hoe]; exact hJ.sf _ h1) (fun e he f hf' hbe hbf hne oe' of' oe of hoe hof p q hp hq => by
      obtain ⟨h1, h2⟩ := hdep e he hbe
      obtain ⟨h3, h4⟩ := hdep f hf' hbf
      rw [h2 oe hoe] at hp
      rw [h4 of hof] at hq
      exact hJ.ap _ _ hne oe' of' h1 h3 p q hp hq) (fun e he hb ow oe hoe p hp => by
      obtain ⟨h1, h2⟩ := hdep e he hb
      rw [h2 oe hoe] at hp
      exact hJ.nw _ ow h1 p hp))
    rintro a' w' ⟨v, ha, hv0, hv, hB, hO⟩
    refine ⟨v, ha, hv0, fun L' hL' => (hJ.fr L' (fun j hj k hk => hL' j (by show (if j = i then true else L j) = true; split; rfl; exact hj) k hk)).trans (hB.mono fun k hk _ => hL' i (by show (if i = i then true else L i) = true; rw [if_pos rfl]) k hk), Nat.le_trans hJ.sz hB.size, fun j hj => ?_, fun j k hjk oj ok hj hk p q hp hq => ?_, fun j oj hj p hp => ?_, fun j k hj hjk => ?_⟩
    · by_cases e : j = i
      · subst e; simp only [if_pos]; exact hv
      · simp only [if_neg e] at hj ⊢
        refine mono i j _ w w' hi (Ne.symm e) ?_ hJ.sz (hJ.sf j hj) hB
        cases hdj : depOn ops j i with
        | false => rfl
        | true => rw [hJ.dn j i hj hdj] at hLi; cases hLi
    · by_cases e : j = i
      · subst e
        simp only [if_pos] at hp
        simp only [if_neg (Ne.symm hjk)] at hk hq
        have h1 := hO oj p hp
        have h2 := hJ.nw k ok hk q hq
        omega
      · simp only [if_neg e] at hj hp
        by_cases e2 : k = i
        · subst e2
          simp only [if_pos] at hq
          have h1 := hO ok q hq
          have h2 := hJ.nw j oj hj p hp
          omega
        · simp only [if_neg e2] at hk hq
          exact hJ.ap j k hjk oj ok hj hk p q hp hq
    · by_cases e : j = i
      · subst e
        simp only [if_pos] at hp
        have h1 := hO oj p hp
        have := hJ.sz
        omega
      · simp only [if_neg e] at hj hp
        have h1 := hJ.nw j oj hj p hp
        have := hB.size
        omega
    · by_cases e : k = i
      · simp only [if_pos e]
      · simp only [if_neg e]
        by_cases e2 : j = i
        · subst e2
          unfold depOn at hjk
          rw [ho] at hjk
          simp only [Option.map_some, Option.getD_some] at hjk
          obtain ⟨t, ht, h2⟩ := Array.any_eq_true'.mp hjk
          simp only [Bool.and_eq_true, beq_iff_eq] at h2
          have := (hdep t ht h2.1).1
          rwa [h2.2] at this
        · simp only [if_neg e2] at hj
          exact hJ.dn j k hj hjk
  · intro L x a w hall hJ hL hx
    refine fin a w (hJ.fr La (fun j _ k hk => hLa j k hk)) hL (fun i o ho hiz => ?_) (fun i j oi oj hoi hoj hiz hjz hij owi owj p q hp hq => ?_) (fun i o ho hiz ow p hp => ?_)
    · rw [hx i o ho hiz]; exact hJ.sf i (hall i (inb i o ho) hiz)
    · rw [hx i oi hoi hiz] at hp
      rw [hx j oj hoj hjz] at hq
      exact hJ.ap i j hij owi owj (hall i (inb i oi hoi) hiz) (hall j (inb j oj hoj) hjz) p q hp hq
    · rw [hx i o ho hiz] at hp
      exact hJ.nw i ow (hall i (inb i o ho) hiz) p hp
end

end Go.Proofs.YtbjapncfgancoaaDoor
