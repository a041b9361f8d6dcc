/- A region that draws its order, by an invariant: each operation leaves in its slot what 'SF' says, whatever came ahead of it; the world grows but for one block. No program is named here. -/
import Derived.WalkKit
import Derived.RegionTactic
import Derived.Laws.AppendOwn
namespace Go.Proofs.YtbjapncfgancoaaDoor
open Go.RowKit
set_option linter.unusedVariables false

section
variable {P : Program} {ops : Array Oper} {Q : Exit → Act → World → Prop} {md : Region.Mode}

theorem wpAny_inv {I : Nat → Array Bool → Act → World → Prop}
    (step : ∀ f listed a w i, I (f + 1) listed a w → i ∈ Region.ready md ops listed → wpOp P ops Q i (I f (listed.setIfInBounds i true)) a w)
    (fin : ∀ f listed a w, I f listed a w → Region.ready md ops listed = [] → Q .normal a w)
    (zero : ∀ listed a w, I 0 listed a w → Region.ready md ops listed = []) :
    ∀ f listed a w, I f listed a w → wpAny P md ops Q f listed a w
  | 0, listed, a, w, h => ⟨zero _ _ _ h, fin _ _ _ _ h (zero _ _ _ h)⟩
  | f + 1, listed, a, w, h => ⟨fun hr => fin _ _ _ _ h hr, fun i hi => wpOp_mono (fun a w h => wpAny_inv step fin zero f _ a w h) (step f listed a w i h hi)⟩

/-- What it is to be ready. -/
theorem mem_ready {listed : Array Bool} {i : Nat} (h : i ∈ Region.ready md ops listed) :
    ∃ o, ops[i]? = some o ∧ listed.getD i true = false ∧ ∀ e ∈ o.after, Region.binds md e = true → listed.getD e.on false = true := by
  simp only [Region.ready, List.mem_filter, List.mem_range, Bool.and_eq_true, Bool.not_eq_true'] at h
  obtain ⟨hi, h1, h2⟩ := h
  have ho : ops[i]? = some ops[i] := Array.getElem?_eq_getElem hi
  refine ⟨ops[i], ho, h1, fun e he hb => ?_⟩
  rw [ho] at h2
  simp only [Option.map_some, Option.getD_some] at h2
  have := Array.all_eq_true'.mp h2 e he
  simpa [hb] using this

/-- Each edge that binds leads back. -/
def fwd (md : Region.Mode) (ops : Array Oper) : Bool := (List.range ops.size).all fun i => ((ops[i]?).map (·.after.all fun e => !Region.binds md e || decide (e.on < i))).getD true

theorem all_listed (hf : fwd md ops = true) {listed : Array Bool} (hs : listed.size = ops.size) (hr : Region.ready md ops listed = []) : ∀ i, i < ops.size → listed.getD i false = true := by
  intro i
  induction i using Nat.strongRecOn with
  | _ i ih =>
    intro hi
    have ho : ops[i]? = some ops[i] := Array.getElem?_eq_getElem hi
    by_cases hl : listed.getD i false = true
    · exact hl
    · exfalso
      have hl' : listed.getD i true = false := by
        have e : listed.getD i true = listed.getD i false := by simp [Array.getD, show i < listed.size by omega]
        rw [e]; simpa using hl
      have hm : i ∈ Region.ready md ops listed := by
        simp only [Region.ready, List.mem_filter, List.mem_range, Bool.and_eq_true, Bool.not_eq_true']
        refine ⟨hi, hl', ?_⟩
        rw [ho]
        simp only [Option.map_some, Option.getD_some]
        refine Array.all_eq_true'.mpr fun e he => ?_
        by_cases hb : Region.binds md e = true
        · have h1 := List.all_eq_true.mp hf i (List.mem_range.mpr hi)
          rw [ho] at h1
          simp only [Option.map_some, Option.getD_some] at h1
          have h2 := Array.all_eq_true'.mp h1 e he
          simp only [hb, Bool.not_true, Bool.false_or, decide_eq_true_eq] at h2
          simp [hb, ih e.on h2 (by omega)]
        · simp [hb]
      rw [hr] at hm
      cases hm

/-- What stands in an operation's slot. -/
def dstVal (o : Oper) (a : Act) : Value := match o.dst with | some d => a.tmps.getD d undef | none => undef
/-- The frame is as it was, but for the slots that the region writes. -/
def Like (ops : Array Oper) (a0 a : Act) : Prop := a.defers = a0.defers ∧ a.tmps.size = a0.tmps.size ∧ ∀ k : Nat, (∀ (i : Nat) (o : Oper), ops[i]? = some o → o.dst ≠ some k) → a.tmps.getD k undef = a0.tmps.getD k undef
/-- Each operation has a slot of its own, within the frame. -/
def dstsOk (ops : Array Oper) (n : Nat) : Bool := (List.range ops.size).all fun i => ((ops[i]?).map fun oi => (oi.dst.map fun d => decide (d < n)).getD false && (List.range ops.size).all fun j => i == j || ((ops[j]?).map fun oj => !(oi.dst == oj.dst)).getD true).getD true

theorem dstsOk_lt {n : Nat} (h : dstsOk ops n = true) {i : Nat} {o : Oper} (ho : ops[i]? = some o) : ∃ d, o.dst = some d ∧ d < n := by
  have hi : i < ops.size := by
    by_cases hh : i < ops.size
    · exact hh
    · rw [Array.getElem?_eq_none (by omega)] at ho; cases ho
  have h1 := List.all_eq_true.mp h i (List.mem_range.mpr hi)
  rw [ho] at h1
  simp only [Option.map_some, Option.getD_some, Bool.and_eq_true] at h1
  cases hd : o.dst with
  | none => rw [hd] at h1; simp at h1
  | some d => rw [hd] at h1; exact ⟨d, rfl, by simpa using h1.1⟩
theorem dstsOk_ne {n : Nat} (h : dstsOk ops n = true) {i j : Nat} {o p : Oper} (ho : ops[i]? = some o) (hp : ops[j]? = some p) (hij : i ≠ j) : o.dst ≠ p.dst := by
  have hi : i < ops.size := by
    by_cases hh : i < ops.size
    · exact hh
    · rw [Array.getElem?_eq_none (by omega)] at ho; cases ho
  have hj : j < ops.size := by
    by_cases hh : j < ops.size
    · exact hh
    · rw [Array.getElem?_eq_none (by omega)] at hp; cases hp
  have h1 := List.all_eq_true.mp h i (List.mem_range.mpr hi)
  rw [ho] at h1
  simp only [Option.map_some, Option.getD_some, Bool.and_eq_true] at h1
  have h2 := List.all_eq_true.mp h1.2 j (List.mem_range.mpr hj)
  rw [hp] at h2
  simpa [hij] using h2

theorem getD_set_ne (xs : Array Value) (d k : Nat) (v : Value) (h : d ≠ k) : (xs.setIfInBounds d v).getD k undef = xs.getD k undef := by
  simp only [Array.getD_eq_getD_getElem?, Array.getElem?_setIfInBounds_ne h]
theorem getD_set_eq (xs : Array Value) (d : Nat) (v : Value) (h : d < xs.size) : (xs.setIfInBounds d v).getD d undef = v := by
  simp [Array.getD_eq_getD_getElem?, h]

theorem wp_region_plan {id : Nat} {a0 : Act} {w0 : World} (b n : Nat) (Wd : Nat → World → Prop) (SF : Nat → Value → World → Prop) (hm : P.follows .mixedOrders = true)
    (hf : fwd .any ops = true) (hn : a0.tmps.size = n) (hd : dstsOk ops n = true) (mono : ∀ i v w w', SF i v w → w.grownBy w' (some b) → SF i v w') (start : Wd ops.size w0.drew)
    (step : ∀ i o, ops[i]? = some o → ∀ f a w, Wd (f + 1) w → w0.heap.size ≤ w.heap.size → Like ops a0 a → (∀ e ∈ o.after, Region.binds .any e = true → ∀ oe, ops[e.on]? = some oe → SF e.on (dstVal oe a) w) →
      wpOp P ops Q i (fun a' w' => ∃ v, a' = a.put o.dst v ∧ SF i v w' ∧ w.grownBy w' (some b) ∧ Wd f w') a w)
    (fin : ∀ f a w, Wd f w → w0.grownBy w (some b) → Like ops a0 a → (∀ i o, ops[i]? = some o → SF i (dstVal o a) w) → Q .normal a w) :
    (Code.region id ops true).wp P Q a0 w0 := by
  subst hn
  refine wp_region_any hm ?_
  show wpAny P .any ops Q ops.size (Array.replicate ops.size false) a0 w0.drew
  refine wpAny_inv (I := fun f listed a w => listed.size = ops.size ∧ listed.toList.count false = f ∧ Wd f w ∧ w0.grownBy w (some b) ∧ Like ops a0 a ∧ ∀ i o, ops[i]? = some o → listed.getD i false = true → SF i (dstVal o a) w) ?_ ?_ ?_ _ _ _ _ ?_
  · rintro f listed a w i ⟨hs, hc, hW, hg, hL, hF⟩ hi
    obtain ⟨o, ho, hl, hdep⟩ := mem_ready hi
    have hilt : i < ops.size := by
      by_cases hh : i < ops.size
      · exact hh
      · rw [Array.getElem?_eq_none (by omega)] at ho; cases ho
    obtain ⟨d, hdo, hdn⟩ := dstsOk_lt hd ho
    refine wpOp_mono ?_ (step i o ho f a w hW hg.size hL (fun e he hb oe hoe => hF _ _ hoe (hdep e he hb)))
    rintro a' w' ⟨v, rfl, hv, hg', hW'⟩
    refine ⟨by simpa using hs, ?_, hW', ⟨hg'.os.trans hg.os, hg'.tape.trans hg.tape, hg'.output.trans hg.output, Nat.le_trans hg.size hg'.size, fun k hk hne => (hg'.block k (Nat.lt_of_lt_of_le hk hg.size) hne).trans (hg.block k hk hne)⟩, ?_, ?_⟩
    · have hil : i < listed.toList.length := by simpa using (by omega : i < listed.size)
      have hli : listed.toList[i] = false := by
        have : listed.getD i true = listed.toList[i] := by simp [Array.getD, show i < listed.size by omega]
        rw [← this]; exact hl
      have h1 := List.count_set (a := true) (b := false) (h := hil)
      rw [hli] at h1
      have h2 : (listed.setIfInBounds i true).toList = listed.toList.set i true := by simp
      rw [h2, h1, hc]
      rfl
    · refine ⟨by rw [hdo]; exact hL.1, by rw [hdo]; simpa [Act.put] using hL.2.1, fun k hk => ?_⟩
      rw [hdo]
      show (a.tmps.setIfInBounds d v).getD k undef = _
      rw [getD_set_ne _ _ _ _ (fun h => hk i o ho (by rw [hdo, h]))]
      exact hL.2.2 k hk
    · intro j oj hoj hlj
      by_cases hij : i = j
      · subst hij
        rw [ho] at hoj
        obtain rfl : o = oj := by injection hoj
        have : dstVal o (a.put o.dst v) = v := by
          simp only [dstVal, hdo]
          have hlt : d < a.tmps.size := Nat.lt_of_lt_of_eq hdn hL.2.1.symm
          exact getD_set_eq a.tmps d v hlt
        rw [this]; exact hv
      · have hne := dstsOk_ne hd ho hoj hij
        have : dstVal oj (a.put o.dst v) = dstVal oj a := by
          unfold dstVal
          cases hdj : oj.dst with
          | none => rfl
          | some k =>
            rw [hdo]
            show (a.tmps.setIfInBounds d v).getD k undef = _
            exact getD_set_ne _ _ _ _ (fun h => hne (by rw [hdo, hdj, h]))
        rw [this]
        refine mono _ _ _ _ (hF j oj hoj ?_) hg'
        rw [← hlj]
        simp [Array.getD_eq_getD_getElem?, Array.getElem?_setIfInBounds_ne hij]
  · rintro f listed a w ⟨hs, hc, hW, hg, hL, hF⟩ hr
    refine fin f a w hW hg hL (fun i o ho => hF i o ho (all_listed hf hs hr i ?_))
    by_cases hh : i < ops.size
    · exact hh
    · rw [Array.getElem?_eq_none (by omega)] at ho; cases ho
  · rintro listed a w ⟨hs, hc, hW, hg, hL, hF⟩
    apply List.eq_nil_iff_forall_not_mem.mpr
    intro i hi
    obtain ⟨o, ho, hl, _⟩ := mem_ready hi
    have hilt : i < ops.size := by
      by_cases hh : i < ops.size
      · exact hh
      · rw [Array.getElem?_eq_none (by omega)] at ho; cases ho
    have hm : false ∈ listed.toList := by
      have : listed.getD i true = listed[i]'(by omega) := by simp [Array.getD, show i < listed.size by omega]
      rw [hl] at this
      rw [this]
      simp
    have := List.count_pos_iff.mpr hm
    omega
  · refine ⟨by simp, by simp, start, ⟨rfl, rfl, rfl, Nat.le_refl _, fun _ _ _ => rfl⟩, ⟨rfl, rfl, fun _ _ => rfl⟩, fun i o ho hl => ?_⟩
    exfalso
    by_cases hh : i < ops.size
    · simp [Array.getD, hh] at hl
    · simp [Array.getD, hh] at hl

/-- Each operation that has a slot has one of its own, within the frame. -/
def dstsOk2 (ops : Array Oper) (n : Nat) : Bool := (List.range ops.size).all fun i => ((ops[i]?).map fun oi => (oi.dst.map fun d => decide (d < n)).getD true && (List.range ops.size).all fun j => i == j || ((ops[j]?).map fun oj => oi.dst.isNone || !(oi.dst == oj.dst)).getD true).getD true
theorem dstsOk2_lt {n : Nat} (h : dstsOk2 ops n = true) {i : Nat} {o : Oper} (ho : ops[i]? = some o) {d : Tmp} (hd : o.dst = some d) : d < n := by
  have hi : i < ops.size := by
    by_cases hh : i < ops.size
    · exact hh
    · rw [Array.getElem?_eq_none (by omega)] at ho; cases ho
  have h1 := List.all_eq_true.mp h i (List.mem_range.mpr hi)
  rw [ho] at h1
  simp only [Option.map_some, Option.getD_some, Bool.and_eq_true] at h1
  rw [hd] at h1
  simpa using h1.1
theorem dstsOk2_ne {n : Nat} (h : dstsOk2 ops n = true) {i j : Nat} {o p : Oper} (ho : ops[i]? = some o) (hp : ops[j]? = some p) (hij : i ≠ j) {d : Tmp} (hd : o.dst = some d) : o.dst ≠ p.dst := by
  have hi : i < ops.size := by
    by_cases hh : i < ops.size
    · exact hh
    · rw [Array.getElem?_eq_none (by omega)] at ho; cases ho
  have hj : j < ops.size := by
    by_cases hh : j < ops.size
    · exact hh
    · rw [Array.getElem?_eq_none (by omega)] at hp; cases hp
  have h1 := List.all_eq_true.mp h i (List.mem_range.mpr hi)
  rw [ho] at h1
  simp only [Option.map_some, Option.getD_some, Bool.and_eq_true] at h1
  have h2 := List.all_eq_true.mp h1.2 j (List.mem_range.mpr hj)
  rw [hp] at h2
  simpa [hij, hd] using h2
/-- A region that draws its order: the slots' values are pure facts ('SF'); the world is told by what has come up ('Wd L': L i says that operation i has). Stores may stand in it. -/
theorem wp_region_done {id : Nat} {a0 : Act} {w0 : World} (n : Nat) (SF : Nat → Value → Prop) (Wd : (Nat → Bool) → World → Prop) (hm : P.follows .mixedOrders = true)
    (hf : fwd .any ops = true) (hn : a0.tmps.size = n) (hd : dstsOk2 ops n = true) (start : Wd (fun _ => false) w0.drew)
    (step : ∀ i o, ops[i]? = some o → ∀ L a w, Wd L w → L i = false → Like ops a0 a → (∀ e ∈ o.after, Region.binds .any e = true → L e.on = true ∧ ∀ oe, ops[e.on]? = some oe → SF e.on (dstVal oe a)) →
      wpOp P ops Q i (fun a' w' => ∃ v, a' = a.put o.dst v ∧ (o.dst = none → v = undef) ∧ SF i v ∧ Wd (fun j => if j = i then true else L j) w') a w)
    (fin : ∀ L a w, (∀ i, i < ops.size → L i = true) → Wd L w → Like ops a0 a → (∀ i o, ops[i]? = some o → SF i (dstVal o a)) → Q .normal a w) :
    (Code.region id ops true).wp P Q a0 w0 := by
  subst hn
  refine wp_region_any hm ?_
  show wpAny P .any ops Q ops.size (Array.replicate ops.size false) a0 w0.drew
  refine wpAny_inv (I := fun f listed a w => listed.size = ops.size ∧ listed.toList.count false = f ∧ Wd (fun j => listed.getD j false) w ∧ Like ops a0 a ∧ ∀ i o, ops[i]? = some o → listed.getD i false = true → SF i (dstVal o a)) ?_ ?_ ?_ _ _ _ _ ?_
  · rintro f listed a w i ⟨hs, hc, hW, hL, hF⟩ hi
    obtain ⟨o, ho, hl, hdep⟩ := mem_ready hi
    have hilt : i < ops.size := by
      by_cases hh : i < ops.size
      · exact hh
      · rw [Array.getElem?_eq_none (by omega)] at ho; cases ho
    have hl' : listed.getD i false = false := by
      have e : listed.getD i true = listed.getD i false := by simp [Array.getD, show i < listed.size by omega]
      rw [← e]; exact hl
    refine wpOp_mono ?_ (step i o ho (fun j => listed.getD j false) a w hW hl' hL (fun e he hb => ⟨hdep e he hb, fun oe hoe => hF _ _ hoe (hdep e he hb)⟩))
    rintro a' w' ⟨v, rfl, hv0, hv, hW'⟩
    refine ⟨by simpa using hs, ?_, ?_, ?_, ?_⟩
    · have hil : i < listed.toList.length := by simpa using (by omega : i < listed.size)
      have hli : listed.toList[i] = false := by
        have : listed.getD i true = listed.toList[i] := by simp [Array.getD, show i < listed.size by omega]
        rw [← this]; exact hl
      have h1 := List.count_set (a := true) (b := false) (h := hil)
      rw [hli] at h1
      have h2 : (listed.setIfInBounds i true).toList = listed.toList.set i true := by simp
      rw [h2, h1, hc]
      rfl
    · have e : (fun j => (listed.setIfInBounds i true).getD j false) = fun j => if j = i then true else listed.getD j false := by
        funext j
        by_cases hj : j = i
        · subst hj
          simp [Array.getD_eq_getD_getElem?, show j < listed.size by omega]
        · rw [if_neg hj, Array.getD_eq_getD_getElem?, Array.getD_eq_getD_getElem?, Array.getElem?_setIfInBounds_ne (Ne.symm hj)]
      rw [e]; exact hW'
    · cases hdo : o.dst with
      | none => exact hL
      | some d =>
        refine ⟨hL.1, by simpa [Act.put] using hL.2.1, fun k hk => ?_⟩
        show (a.tmps.setIfInBounds d v).getD k undef = _
        rw [getD_set_ne _ _ _ _ (fun h => hk i o ho (by rw [hdo, h]))]
        exact hL.2.2 k hk
    · intro j oj hoj hlj
      by_cases hij : i = j
      · subst hij
        rw [ho] at hoj
        obtain rfl : o = oj := by injection hoj
        cases hdo : o.dst with
        | none =>
          have e : dstVal o (a.put none v) = undef := by simp only [dstVal, hdo]
          rw [e, ← hv0 hdo]; exact hv
        | some d =>
          have hlt : d < a.tmps.size := Nat.lt_of_lt_of_eq (dstsOk2_lt hd ho hdo) hL.2.1.symm
          have e : dstVal o (a.put (some d) v) = v := by
            simp only [dstVal, hdo]
            exact getD_set_eq a.tmps d v hlt
          rw [e]; exact hv
      · have e : dstVal oj (a.put o.dst v) = dstVal oj a := by
          cases hdo : o.dst with
          | none => rfl
          | some d =>
            have hne := dstsOk2_ne hd ho hoj hij hdo
            unfold dstVal
            cases hdj : oj.dst with
            | none => rfl
            | some k =>
              show (a.tmps.setIfInBounds d v).getD k undef = _
              exact getD_set_ne _ _ _ _ (fun h => hne (by rw [hdo, hdj, h]))
        rw [e]
        refine hF j oj hoj ?_
        rw [← hlj]
        simp [Array.getD_eq_getD_getElem?, Array.getElem?_setIfInBounds_ne hij]
  · rintro f listed a w ⟨hs, hc, hW, hL, hF⟩ hr
    have hall := all_listed hf hs hr
    refine fin _ a w hall hW hL (fun i o ho => hF i o ho (hall i ?_))
    by_cases hh : i < ops.size
    · exact hh
    · rw [Array.getElem?_eq_none (by omega)] at ho; cases ho
  · rintro listed a w ⟨hs, hc, hW, hL, hF⟩
    apply List.eq_nil_iff_forall_not_mem.mpr
    intro i hi
    obtain ⟨o, ho, hl, _⟩ := mem_ready hi
    have hilt : i < ops.size := by
      by_cases hh : i < ops.size
      · exact hh
      · rw [Array.getElem?_eq_none (by omega)] at ho; cases ho
    have hm : false ∈ listed.toList := by
      have : listed.getD i true = listed[i]'(by omega) := by simp [Array.getD, show i < listed.size by omega]
      rw [hl] at this
      rw [this]
      simp
    have := List.count_pos_iff.mpr hm
    omega
  · refine ⟨by simp, by simp, ?_, ⟨rfl, rfl, fun _ _ => rfl⟩, fun i o ho hl => ?_⟩
    · have e : (fun j => (Array.replicate ops.size false).getD j false) = fun _ => false := by
        funext j
        by_cases hh : j < ops.size
        · simp [Array.getD, hh]
        · simp [Array.getD, hh]
      rw [e]; exact start
    · exfalso
      by_cases hh : i < ops.size
      · simp [Array.getD, hh] at hl
      · simp [Array.getD, hh] at hl

/-- The frame behind a region that draws: as it was, but for the slots that the region writes. -/
def dstsIn (ops : Array Oper) (ds : List Nat) : Bool := (List.range ops.size).all fun i => ((ops[i]?).map fun o => (o.dst.map fun d => ds.contains d).getD true).getD true
theorem foldl_size (y : Nat → Value) : ∀ (ds : List Nat) (t : Array Value), (ds.foldl (fun t d => t.setIfInBounds d (y d)) t).size = t.size
  | [], _ => rfl
  | d :: ds, t => by rw [List.foldl_cons, foldl_size y ds]; simp
theorem foldl_in (y : Nat → Value) (k : Nat) : ∀ (ds : List Nat) (t : Array Value), k < t.size → (k ∈ ds ∨ t.getD k undef = y k) → (ds.foldl (fun t d => t.setIfInBounds d (y d)) t).getD k undef = y k
  | [], t, _, h => by rcases h with h | h; cases h; exact h
  | d :: ds, t, hk, h => by
    rw [List.foldl_cons]
    refine foldl_in y k ds _ (by simpa using hk) ?_
    by_cases hd : d = k
    · subst hd; exact .inr (getD_set_eq _ _ _ hk)
    · rcases h with h | h
      · rcases List.mem_cons.1 h with h | h
        · exact absurd h.symm hd
        · exact .inl h
      · exact .inr (by rw [getD_set_ne _ _ _ _ hd]; exact h)
theorem foldl_out (y : Nat → Value) (k : Nat) : ∀ (ds : List Nat) (t : Array Value), k ∉ ds → (ds.foldl (fun t d => t.setIfInBounds d (y d)) t).getD k undef = t.getD k undef
  | [], _, _ => rfl
  | d :: ds, t, h => by
    rw [List.foldl_cons, foldl_out y k ds _ (fun hm => h (List.mem_cons_of_mem _ hm)), getD_set_ne _ _ _ _ (fun e => h (by rw [e]; exact List.mem_cons_self))]
theorem Like.puts {a0 a : Act} (hL : Like ops a0 a) (ds : List Nat) (hd : dstsIn ops ds = true) : ∃ y : Nat → Value, a = ⟨ds.foldl (fun t d => t.setIfInBounds d (y d)) a0.tmps, a0.defers⟩ ∧ ∀ d, a.tmps.getD d undef = y d := by
  refine ⟨fun d => a.tmps.getD d undef, ?_, fun _ => rfl⟩
  obtain ⟨tm, df⟩ := a
  obtain ⟨h1, h2, h3⟩ := hL
  simp only at h1 h2 h3 ⊢
  subst h1
  congr 1
  have key : ∀ k, k < tm.size → tm.getD k undef = (ds.foldl (fun t d => t.setIfInBounds d (tm.getD d undef)) a0.tmps).getD k undef := by
    intro k hk
    by_cases hm : k ∈ ds
    · rw [foldl_in (fun d => tm.getD d undef) k ds a0.tmps (by omega) (.inl hm)]
    · rw [foldl_out (fun d => tm.getD d undef) k ds a0.tmps hm]
      refine h3 k fun i o ho hdo => hm ?_
      have hi : i < ops.size := by
        by_cases hh : i < ops.size
        · exact hh
        · rw [Array.getElem?_eq_none (by omega)] at ho; cases ho
      have h1 := List.all_eq_true.mp hd i (List.mem_range.mpr hi)
      rw [ho] at h1
      simp only [Option.map_some, Option.getD_some, hdo] at h1
      simpa using h1
  refine Array.ext (by rw [foldl_size]; exact h2) fun k hk hk' => ?_
  have := key k hk
  rw [Array.getD_eq_getD_getElem?, Array.getD_eq_getD_getElem?, Array.getElem?_eq_getElem hk, Array.getElem?_eq_getElem hk'] at this
  simpa using this

/-- What a slot of a draw holds: the reader; a number; a short row of numbers, or a cell of one, in a block behind the reader's. -/
inductive SK where
  | ptr
  | int (p : Int → Prop)
  | row (len : Nat) (p : Int → Prop)
  | cell (p : Int → Prop)
def SK.holds (b : Nat) : SK → Value → World → Prop
  | .ptr, v, _ => v = .pointer (some ⟨b, 0, none⟩)
  | .int p, v, _ => ∃ x : Int, p x ∧ v = .int .i64 x
  | .row len p, v, u => ∃ g, b < g ∧ g < u.heap.size ∧ v = .slice (some ⟨g, 0, none⟩) len len ∧ ∀ i, i < len → ∃ n, p n ∧ u.cell? ⟨g, i, none⟩ = some (.int .i64 n)
  | .cell p, v, u => ∃ g o, b < g ∧ g < u.heap.size ∧ v = .pointer (some ⟨g, o, none⟩) ∧ ∃ n, p n ∧ u.cell? ⟨g, o, none⟩ = some (.int .i64 n)
theorem cell_kept {w w1 : World} {b : Nat} (hg : w.grownBy w1 (some b)) (k o : Nat) (hk : k < w.heap.size) (hne : b < k) : w1.cell? ⟨k, o, none⟩ = w.cell? ⟨k, o, none⟩ :=
  World.cell?_of_block (w := w) (hg.block k hk (fun e => by injection e; omega))
theorem SK.mono {b : Nat} {k : SK} {v : Value} {w w' : World} (h : k.holds b v w) (hg : w.grownBy w' (some b)) : k.holds b v w' := by
  cases k with
  | ptr => exact h
  | int p => exact h
  | row len p =>
    obtain ⟨g, h1, h2, h3, h4⟩ := h
    exact ⟨g, h1, Nat.lt_of_lt_of_le h2 hg.size, h3, fun i hi => by rw [cell_kept hg g i h2 h1]; exact h4 i hi⟩
  | cell p =>
    obtain ⟨g, o, h1, h2, h3, n, h4, h5⟩ := h
    exact ⟨g, o, h1, Nat.lt_of_lt_of_le h2 hg.size, h3, n, h4, by rw [cell_kept hg g o h2 h1]; exact h5⟩

/-- No operation writes this slot. -/
def freeSlot (ops : Array Oper) (k : Nat) : Bool := (List.range ops.size).all fun i => ((ops[i]?).map fun o => !(o.dst == some k)).getD true
theorem Like.slot {a0 a : Act} (hL : Like ops a0 a) (k : Nat) (h : freeSlot ops k = true) : a.tmps.getD k undef = a0.tmps.getD k undef := by
  refine hL.2.2 k fun i o ho => ?_
  have hi : i < ops.size := by
    by_cases hh : i < ops.size
    · exact hh
    · rw [Array.getElem?_eq_none (by omega)] at ho; cases ho
  have h1 := List.all_eq_true.mp h i (List.mem_range.mpr hi)
  rw [ho] at h1
  simpa using h1
end

end Go.Proofs.YtbjapncfgancoaaDoor
