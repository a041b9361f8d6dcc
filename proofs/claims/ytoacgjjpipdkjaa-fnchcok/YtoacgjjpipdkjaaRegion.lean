/- A region that draws its order, by an invariant: each operation leaves in its slot what 'SF' says, whatever came ahead of it; the world grows but for one block. No program is named here. A region that draws its order, by an invariant on all slots together; new rows lie apart. No program is named here. A region that draws its order: each operation turns listed blocks alone, the world keeps a fact that falls with each operation. No program is named here. -/
import Derived.WalkKit
import Derived.RegionTactic
import Derived.Laws.AppendOwn
import Derived.Below
import Derived.Deep.QuietTactic
namespace Go.Proofs.Ytoacgjjpipdkjaa
open Go.RowKit
set_option linter.unusedVariables false

section
variable {P : Program} {ops : Array Oper} {Q : Exit → Act → World → Prop} {md : Region.Mode}

theorem wpAny_inv {I : Nat → Array Bool → Act → World → Prop}
    (step : ∀ f listed a w i, I (f + 1) listed a w → i ∈ Region.ready md ops listed → wpOp P ops Q i (I f (listed.setIfInBounds i true)) a w)
    (fin : ∀ f listed a w, I f listed a w → Region.ready md ops listed = [] → Q .normal a w)
    (zero : ∀ listed a w, I 0 listed a w → Region.ready md ops listed = []) :
    ∀ f listed a w, I f listed a w → wpAny P md ops Q f listed a w
  | 0, listed, a, w, h => ⟨zero _ _ _ h, fin _ _ _ _ h (zero _ _ _ h)⟩
  | f + 1, listed, a, w, h => ⟨fun hr => fin _ _ _ _ h hr, fun i hi => wpOp_mono (fun a w h => wpAny_inv step fin zero f _ a w h) (step f listed a w i h hi)⟩

/-- What it is to be ready. -/
theorem mem_ready {listed : Array Bool} {i : Nat} (h : i ∈ Region.ready md ops listed) :
    ∃ o, ops[i]? = some o ∧ listed.getD i true = false ∧ ∀ e ∈ o.after, Region.binds md e = true → listed.getD e.on false = true := by
  simp only [Region.ready, List.mem_filter, List.mem_range, Bool.and_eq_true, Bool.not_eq_true'] at h
  obtain ⟨hi, h1, h2⟩ := h
  have ho : ops[i]? = some ops[i] := Array.getElem?_eq_getElem hi
  refine ⟨ops[i], ho, h1, fun e he hb => ?_⟩
  rw [ho] at h2
  simp only [Option.map_some, Option.getD_some] at h2
  have := Array.all_eq_true'.mp h2 e he
  simpa [hb] using this

/-- Each edge that binds leads back. -/
def fwd (md : Region.Mode) (ops : Array Oper) : Bool := (List.range ops.size).all fun i => ((ops[i]?).map (·.after.all fun e => !Region.binds md e || decide (e.on < i))).getD true

theorem all_listed (hf : fwd md ops = true) {listed : Array Bool} (hs : listed.size = ops.size) (hr : Region.ready md ops listed = []) : ∀ i, i < ops.size → listed.getD i false = true := by
  intro i
  induction i using Nat.strongRecOn with
  | _ i ih =>
    intro hi
    have ho : ops[i]? = some ops[i] := Array.getElem?_eq_getElem hi
    by_cases hl : listed.getD i false = true
    · exact hl
    · exfalso
      have hl' : listed.getD i true = false := by
        have e : listed.getD i true = listed.getD i false := by simp [Array.getD, show i < listed.size by omega]
        rw [e]; simpa using hl
      have hm : i ∈ Region.ready md ops listed := by
        simp only [Region.ready, List.mem_filter, List.mem_range, Bool.and_eq_true, Bool.not_eq_true']
        refine ⟨hi, hl', ?_⟩
        rw [ho]
        simp only [Option.map_some, Option.getD_some]
        refine Array.all_eq_true'.mpr fun e he => ?_
        by_cases hb : Region.binds md e = true
        · have h1 := List.all_eq_true.mp hf i (List.mem_range.mpr hi)
          rw [ho] at h1
          simp only [Option.map_some, Option.getD_some] at h1
          have h2 := Array.all_eq_true'.mp h1 e he
          simp only [hb, Bool.not_true, Bool.false_or, decide_eq_true_eq] at h2
          simp [hb, ih e.on h2 (by omega)]
        · simp [hb]
      rw [hr] at hm
      cases hm

/-- What stands in an operation's slot. -/
def dstVal (o : Oper) (a : Act) : Value := match o.dst with | some d => a.tmps.getD d undef | none => undef
/-- The frame is as it was, but for the slots that the region writes. -/
def Like (ops : Array Oper) (a0 a : Act) : Prop := a.defers = a0.defers ∧ a.tmps.size = a0.tmps.size ∧ ∀ k : Nat, (∀ (i : Nat) (o : Oper), ops[i]? = some o → o.dst ≠ some k) → a.tmps.getD k undef = a0.tmps.getD k undef
theorem getD_set_ne (xs : Array Value) (d k : Nat) (v : Value) (h : d ≠ k) : (xs.setIfInBounds d v).getD k undef = xs.getD k undef := by
  simp only [Array.getD_eq_getD_getElem?, Array.getElem?_setIfInBounds_ne h]
theorem getD_set_eq (xs : Array Value) (d : Nat) (v : Value) (h : d < xs.size) : (xs.setIfInBounds d v).getD d undef = v := by
  simp [Array.getD_eq_getD_getElem?, h]

/-- Each operation that has a slot has one of its own, within the frame. -/
def dstsOk2 (ops : Array Oper) (n : Nat) : Bool := (List.range ops.size).all fun i => ((ops[i]?).map fun oi => (oi.dst.map fun d => decide (d < n)).getD true && (List.range ops.size).all fun j => i == j || ((ops[j]?).map fun oj => oi.dst.isNone || !(oi.dst == oj.dst)).getD true).getD true
theorem dstsOk2_lt {n : Nat} (h : dstsOk2 ops n = true) {i : Nat} {o : Oper} (ho : ops[i]? = some o) {d : Tmp} (hd : o.dst = some d) : d < n := by
  have hi : i < ops.size := by
    by_cases hh : i < ops.size
    · exact hh
    · rw [Array.getElem?_eq_none (by omega)] at ho; cases ho
  have h1 := List.all_eq_true.mp h i (List.mem_range.mpr hi)
  rw [ho] at h1
  simp only [Option.map_some, Option.getD_some, Bool.and_eq_true] at h1
  rw [hd] at h1
  simpa using h1.1
theorem dstsOk2_ne {n : Nat} (h : dstsOk2 ops n = true) {i j : Nat} {o p : Oper} (ho : ops[i]? = some o) (hp : ops[j]? = some p) (hij : i ≠ j) {d : Tmp} (hd : o.dst = some d) : o.dst ≠ p.dst := by
  have hi : i < ops.size := by
    by_cases hh : i < ops.size
    · exact hh
    · rw [Array.getElem?_eq_none (by omega)] at ho; cases ho
  have hj : j < ops.size := by
    by_cases hh : j < ops.size
    · exact hh
    · rw [Array.getElem?_eq_none (by omega)] at hp; cases hp
  have h1 := List.all_eq_true.mp h i (List.mem_range.mpr hi)
  rw [ho] at h1
  simp only [Option.map_some, Option.getD_some, Bool.and_eq_true] at h1
  have h2 := List.all_eq_true.mp h1.2 j (List.mem_range.mpr hj)
  rw [hp] at h2
  simpa [hij, hd] using h2
/-- The frame behind a region that draws: as it was, but for the slots that the region writes. -/
def dstsIn (ops : Array Oper) (ds : List Nat) : Bool := (List.range ops.size).all fun i => ((ops[i]?).map fun o => (o.dst.map fun d => ds.contains d).getD true).getD true
theorem foldl_size (y : Nat → Value) : ∀ (ds : List Nat) (t : Array Value), (ds.foldl (fun t d => t.setIfInBounds d (y d)) t).size = t.size
  | [], _ => rfl
  | d :: ds, t => by rw [List.foldl_cons, foldl_size y ds]; simp
theorem foldl_in (y : Nat → Value) (k : Nat) : ∀ (ds : List Nat) (t : Array Value), k < t.size → (k ∈ ds ∨ t.getD k undef = y k) → (ds.foldl (fun t d => t.setIfInBounds d (y d)) t).getD k undef = y k
  | [], t, _, h => by rcases h with h | h; cases h; exact h
  | d :: ds, t, hk, h => by
    rw [List.foldl_cons]
    refine foldl_in y k ds _ (by simpa using hk) ?_
    by_cases hd : d = k
    · subst hd; exact .inr (getD_set_eq _ _ _ hk)
    · rcases h with h | h
      · rcases List.mem_cons.1 h with h | h
        · exact absurd h.symm hd
        · exact .inl h
      · exact .inr (by rw [getD_set_ne _ _ _ _ hd]; exact h)
theorem foldl_out (y : Nat → Value) (k : Nat) : ∀ (ds : List Nat) (t : Array Value), k ∉ ds → (ds.foldl (fun t d => t.setIfInBounds d (y d)) t).getD k undef = t.getD k undef
  | [], _, _ => rfl
  | d :: ds, t, h => by
    rw [List.foldl_cons, foldl_out y k ds _ (fun hm => h (List.mem_cons_of_mem _ hm)), getD_set_ne _ _ _ _ (fun e => h (by rw [e]; exact List.mem_cons_self))]
theorem Like.puts {a0 a : Act} (hL : Like ops a0 a) (ds : List Nat) (hd : dstsIn ops ds = true) : ∃ y : Nat → Value, a = ⟨ds.foldl (fun t d => t.setIfInBounds d (y d)) a0.tmps, a0.defers⟩ ∧ ∀ d, a.tmps.getD d undef = y d := by
  refine ⟨fun d => a.tmps.getD d undef, ?_, fun _ => rfl⟩
  obtain ⟨tm, df⟩ := a
  obtain ⟨h1, h2, h3⟩ := hL
  simp only at h1 h2 h3 ⊢
  subst h1
  congr 1
  have key : ∀ k, k < tm.size → tm.getD k undef = (ds.foldl (fun t d => t.setIfInBounds d (tm.getD d undef)) a0.tmps).getD k undef := by
    intro k hk
    by_cases hm : k ∈ ds
    · rw [foldl_in (fun d => tm.getD d undef) k ds a0.tmps (by omega) (.inl hm)]
    · rw [foldl_out (fun d => tm.getD d undef) k ds a0.tmps hm]
      refine h3 k fun i o ho hdo => hm ?_
      have hi : i < ops.size := by
        by_cases hh : i < ops.size
        · exact hh
        · rw [Array.getElem?_eq_none (by omega)] at ho; cases ho
      have h1 := List.all_eq_true.mp hd i (List.mem_range.mpr hi)
      rw [ho] at h1
      simp only [Option.map_some, Option.getD_some, hdo] at h1
      simpa using h1
  refine Array.ext (by rw [foldl_size]; exact h2) fun k hk hk' => ?_
  have := key k hk
  rw [Array.getD_eq_getD_getElem?, Array.getD_eq_getD_getElem?, Array.getElem?_eq_getElem hk, Array.getElem?_eq_getElem hk'] at this
  simpa using this

/-- What a slot of a draw holds: the reader; a number; a short row of numbers, or a cell of one, in a block behind the reader's. -/
inductive SK where
  | ptr
  | int (p : Int → Prop)
  | row (len : Nat) (p : Int → Prop)
  | cell (p : Int → Prop)
def SK.holds (b : Nat) : SK → Value → World → Prop
  | .ptr, v, _ => v = .pointer (some ⟨b, 0, none⟩)
  | .int p, v, _ => ∃ x : Int, p x ∧ v = .int .i64 x
  | .row len p, v, u => ∃ g, b < g ∧ g < u.heap.size ∧ v = .slice (some ⟨g, 0, none⟩) len len ∧ ∀ i, i < len → ∃ n, p n ∧ u.cell? ⟨g, i, none⟩ = some (.int .i64 n)
  | .cell p, v, u => ∃ g o, b < g ∧ g < u.heap.size ∧ v = .pointer (some ⟨g, o, none⟩) ∧ ∃ n, p n ∧ u.cell? ⟨g, o, none⟩ = some (.int .i64 n)
theorem cell_kept {w w1 : World} {b : Nat} (hg : w.grownBy w1 (some b)) (k o : Nat) (hk : k < w.heap.size) (hne : b < k) : w1.cell? ⟨k, o, none⟩ = w.cell? ⟨k, o, none⟩ :=
  World.cell?_of_block (w := w) (hg.block k hk (fun e => by injection e; omega))
theorem SK.mono {b : Nat} {k : SK} {v : Value} {w w' : World} (h : k.holds b v w) (hg : w.grownBy w' (some b)) : k.holds b v w' := by
  cases k with
  | ptr => exact h
  | int p => exact h
  | row len p =>
    obtain ⟨g, h1, h2, h3, h4⟩ := h
    exact ⟨g, h1, Nat.lt_of_lt_of_le h2 hg.size, h3, fun i hi => by rw [cell_kept hg g i h2 h1]; exact h4 i hi⟩
  | cell p =>
    obtain ⟨g, o, h1, h2, h3, n, h4, h5⟩ := h
    exact ⟨g, o, h1, Nat.lt_of_lt_of_le h2 hg.size, h3, n, h4, by rw [cell_kept hg g o h2 h1]; exact h5⟩

/-- No operation writes this slot. -/
def freeSlot (ops : Array Oper) (k : Nat) : Bool := (List.range ops.size).all fun i => ((ops[i]?).map fun o => !(o.dst == some k)).getD true
theorem Like.slot {a0 a : Act} (hL : Like ops a0 a) (k : Nat) (h : freeSlot ops k = true) : a.tmps.getD k undef = a0.tmps.getD k undef := by
  refine hL.2.2 k fun i o ho => ?_
  have hi : i < ops.size := by
    by_cases hh : i < ops.size
    · exact hh
    · rw [Array.getElem?_eq_none (by omega)] at ho; cases ho
  have h1 := List.all_eq_true.mp h i (List.mem_range.mpr hi)
  rw [ho] at h1
  simpa using h1
end

/-- Nothing that was there has turned, but the listed blocks. -/
structure But (L : List Nat) (w w' : World) : Prop where
  os : w'.os = w.os
  tape : w'.tape = w.tape
  output : w'.output = w.output
  size : w.heap.size ≤ w'.heap.size
  block : ∀ k, k < w.heap.size → k ∉ L → w'.heap[k]? = w.heap[k]?
theorem But.refl (L : List Nat) (w : World) : But L w w := ⟨rfl, rfl, rfl, Nat.le_refl _, fun _ _ _ => rfl⟩
theorem But.trans {L : List Nat} {a b c : World} (h : But L a b) (k : But L b c) : But L a c :=
  ⟨k.os.trans h.os, k.tape.trans h.tape, k.output.trans h.output, Nat.le_trans h.size k.size, fun i hi hn => (k.block i (Nat.lt_of_lt_of_le hi h.size) hn).trans (h.block i hi hn)⟩
theorem But.of {L : List Nat} {w w' : World} (f : Below w.heap.size w w') : But L w w' := ⟨f.os, f.tape, f.output, f.size, fun k hk _ => f.block k hk⟩
theorem But.mono {L L' : List Nat} {w w' : World} (h : But L w w') (hs : ∀ k, k ∈ L → k < w.heap.size → k ∈ L') : But L' w w' :=
  ⟨h.os, h.tape, h.output, h.size, fun k hk hn => h.block k hk (fun hm => hn (hs k hm hk))⟩
theorem But.set {L : List Nat} {w w' : World} (h : But L w w') (g j : Nat) (v : Value) (hg : g ∈ L ∨ w.heap.size ≤ g) : But L w (w'.setCell ⟨g, j, none⟩ v) :=
  ⟨h.os, h.tape, h.output, Nat.le_trans h.size (by simp [World.setCell]), fun k hk hn => by
    rw [Below.heap_setCell _ _ _ _ (by show k ≠ g; intro e; subst e; rcases hg with hg | hg; exact hn hg; omega)]; exact h.block k hk hn⟩
theorem But.alloc {L : List Nat} {w w' : World} (h : But L w w') (o : Obj) : But L w (w'.alloc o) := h.trans (But.of ((Below.refl _ _).alloc (Nat.le_refl _) _))
theorem But.drew {L : List Nat} {w w' : World} (h : But L w w') : But L w w'.drew := ⟨h.os, h.tape, h.output, h.size, h.block⟩
theorem But.drewN {L : List Nat} {w w' : World} (h : But L w w') (n : Nat) : But L w (w'.drewN n) := ⟨h.os, h.tape, h.output, h.size, h.block⟩
theorem But.below {L : List Nat} {w w' : World} {B : Nat} (h : But L w w') (hB : B ≤ w.heap.size) (hL : ∀ k, k ∈ L → B ≤ k) : Below B w w' :=
  ⟨h.os, h.tape, h.output, h.size, fun k hk => h.block k (by omega) (fun hm => by have := hL k hm; omega)⟩
theorem But.cell {L : List Nat} {w w' : World} (h : But L w w') {g i : Nat} (hg : g < w.heap.size) (hn : g ∉ L) : w'.cell? ⟨g, i, none⟩ = w.cell? ⟨g, i, none⟩ := World.cell?_of_block (h.block g hg hn)
theorem But.frozen {L : List Nat} {w w' : World} (h : But L w w') {g i : Nat} (hg : g < w.heap.size) (hn : g ∉ L) : w'.frozen? ⟨g, i, none⟩ = w.frozen? ⟨g, i, none⟩ := World.frozen?_of_block (h.block g hg hn)

theorem fr_but {w u0 u : World} {L : List Nat} (f : Below w.heap.size w u0) (h : But L u0 u) (hL : ∀ k, k ∈ L → w.heap.size ≤ k) : Below w.heap.size w u := Below.trans f (h.below f.size hL)
section
variable {P : Program} {ops : Array Oper} {Q : Exit → Act → World → Prop}
theorem wp_region_joint {id : Nat} {a0 : Act} {w0 : World} (n : Nat) (J : (Nat → Bool) → (Nat → Value) → World → Prop) (hm : P.follows .mixedOrders = true)
    (hf : fwd .any ops = true) (hn : a0.tmps.size = n) (hd : dstsOk2 ops n = true) (start : J (fun _ => false) (fun _ => undef) w0.drew)
    (step : ∀ i o, ops[i]? = some o → ∀ L x a w, J L x w → L i = false → Like ops a0 a → (∀ e ∈ o.after, Region.binds .any e = true → L e.on = true ∧ ∀ oe, ops[e.on]? = some oe → dstVal oe a = x e.on) →
      wpOp P ops Q i (fun a' w' => ∃ v, a' = a.put o.dst v ∧ (o.dst = none → v = undef) ∧ J (fun j => if j = i then true else L j) (fun j => if j = i then v else x j) w') a w)
    (fin : ∀ L x a w, (∀ i, i < ops.size → L i = true) → J L x w → Like ops a0 a → (∀ i o, ops[i]? = some o → dstVal o a = x i) → Q .normal a w) :
    (Code.region id ops true).wp P Q a0 w0 := by
  subst hn
  refine wp_region_any hm ?_
  show wpAny P .any ops Q ops.size (Array.replicate ops.size false) a0 w0.drew
  refine wpAny_inv (I := fun f listed a w => listed.size = ops.size ∧ listed.toList.count false = f ∧ Like ops a0 a ∧ ∃ x, J (fun j => listed.getD j false) x w ∧ ∀ i o, ops[i]? = some o → listed.getD i false = true → dstVal o a = x i) ?_ ?_ ?_ _ _ _ _ ?_
  · rintro f listed a w i ⟨hs, hc, hL, x, hW, hF⟩ hi
    obtain ⟨o, ho, hl, hdep⟩ := mem_ready hi
    have hilt : i < ops.size := by
      by_cases hh : i < ops.size
      · exact hh
      · rw [Array.getElem?_eq_none (by omega)] at ho; cases ho
    have hl' : listed.getD i false = false := by
      have e : listed.getD i true = listed.getD i false := by simp [Array.getD, show i < listed.size by omega]
      rw [← e]; exact hl
    refine wpOp_mono ?_ (step i o ho (fun j => listed.getD j false) x a w hW hl' hL (fun e he hb => ⟨hdep e he hb, fun oe hoe => hF _ _ hoe (hdep e he hb)⟩))
    rintro a' w' ⟨v, rfl, hv0, hW'⟩
    refine ⟨by simpa using hs, ?_, ?_, (fun j => if j = i then v else x j), ?_, ?_⟩
    · have hil : i < listed.toList.length := by simpa using (by omega : i < listed.size)
      have hli : listed.toList[i] = false := by
        have : listed.getD i true = listed.toList[i] := by simp [Array.getD, show i < listed.size by omega]
        rw [← this]; exact hl
      have h1 := List.count_set (a := true) (b := false) (h := hil)
      rw [hli] at h1
      have h2 : (listed.setIfInBounds i true).toList = listed.toList.set i true := by simp
      rw [h2, h1, hc]
      rfl
    · cases hdo : o.dst with
      | none => exact hL
      | some d =>
        refine ⟨hL.1, by simpa [Act.put] using hL.2.1, fun k hk => ?_⟩
        show (a.tmps.setIfInBounds d v).getD k undef = _
        rw [getD_set_ne _ _ _ _ (fun h => hk i o ho (by rw [hdo, h]))]
        exact hL.2.2 k hk
    · have e : (fun j => (listed.setIfInBounds i true).getD j false) = fun j => if j = i then true else listed.getD j false := by
        funext j
        by_cases hj : j = i
        · subst hj
          simp [Array.getD_eq_getD_getElem?, show j < listed.size by omega]
        · rw [if_neg hj, Array.getD_eq_getD_getElem?, Array.getD_eq_getD_getElem?, Array.getElem?_setIfInBounds_ne (Ne.symm hj)]
      rw [e]; exact hW'
    · intro j oj hoj hlj
      by_cases hij : i = j
      · subst hij
        rw [ho] at hoj
        obtain rfl : o = oj := by injection hoj
        show dstVal o (a.put o.dst v) = if i = i then v else x i
        rw [if_pos rfl]
        cases hdo : o.dst with
        | none =>
          have e : dstVal o (a.put none v) = undef := by simp only [dstVal, hdo]
          rw [e, ← hv0 hdo]
        | some d =>
          have hlt : d < a.tmps.size := Nat.lt_of_lt_of_eq (dstsOk2_lt hd ho hdo) hL.2.1.symm
          simp only [dstVal, hdo]
          exact getD_set_eq a.tmps d v hlt
      · have e : dstVal oj (a.put o.dst v) = dstVal oj a := by
          cases hdo : o.dst with
          | none => rfl
          | some d =>
            have hne := dstsOk2_ne hd ho hoj hij hdo
            unfold dstVal
            cases hdj : oj.dst with
            | none => rfl
            | some k =>
              show (a.tmps.setIfInBounds d v).getD k undef = _
              exact getD_set_ne _ _ _ _ (fun h => hne (by rw [hdo, hdj, h]))
        show dstVal oj (a.put o.dst v) = if j = i then v else x j
        rw [e, if_neg (Ne.symm hij)]
        refine hF j oj hoj ?_
        rw [← hlj]
        simp [Array.getD_eq_getD_getElem?, Array.getElem?_setIfInBounds_ne hij]
  · rintro f listed a w ⟨hs, hc, hL, x, hW, hF⟩ hr
    have hall := all_listed hf hs hr
    refine fin _ x a w hall hW hL (fun i o ho => hF i o ho (hall i ?_))
    by_cases hh : i < ops.size
    · exact hh
    · rw [Array.getElem?_eq_none (by omega)] at ho; cases ho
  · rintro listed a w ⟨hs, hc, hL, x, hW, hF⟩
    apply List.eq_nil_iff_forall_not_mem.mpr
    intro i hi
    obtain ⟨o, ho, hl, _⟩ := mem_ready hi
    have hilt : i < ops.size := by
      by_cases hh : i < ops.size
      · exact hh
      · rw [Array.getElem?_eq_none (by omega)] at ho; cases ho
    have hm : false ∈ listed.toList := by
      have : listed.getD i true = listed[i]'(by omega) := by simp [Array.getD, show i < listed.size by omega]
      rw [hl] at this
      rw [this]
      simp
    have := List.count_pos_iff.mpr hm
    omega
  · refine ⟨by simp, by simp, ⟨rfl, rfl, fun _ _ => rfl⟩, fun _ => undef, ?_, fun i o ho hl => ?_⟩
    · have e : (fun j => (Array.replicate ops.size false).getD j false) = fun _ => false := by
        funext j
        by_cases hh : j < ops.size
        · simp [Array.getD, hh]
        · simp [Array.getD, hh]
      rw [e]; exact start
    · exfalso
      by_cases hh : i < ops.size
      · simp [Array.getD, hh] at hl
      · simp [Array.getD, hh] at hl

/-- Operation j comes up behind operation i. -/
def depOn (ops : Array Oper) (j i : Nat) : Bool := ((ops[j]?).map fun o => o.after.any fun e => Region.binds .any e && e.on == i).getD false
theorem dep_no {ops : Array Oper} {j i : Nat} (h : depOn ops j i = false) (h1 : depOn ops j i = true) : False := by rw [h] at h1; cases h1
end

/-- How many operations are still to come. -/
def leftN (L : Nat → Bool) : Nat → Nat
  | 0 => 0
  | k + 1 => leftN L k + (if L k then 0 else 1)
theorem leftN_out {L : Nat → Bool} {i : Nat} : ∀ k, k ≤ i → leftN (fun j => if j = i then true else L j) k = leftN L k
  | 0, _ => rfl
  | k + 1, h => by
    have e : ¬ k = i := by omega
    have ih := leftN_out (L := L) (i := i) k (by omega)
    simp only [leftN, if_neg e, ih]
theorem leftN_in {L : Nat → Bool} {i : Nat} (hi : L i = false) : ∀ k, i < k → leftN (fun j => if j = i then true else L j) k + 1 = leftN L k
  | 0, h => by omega
  | k + 1, h => by
    by_cases e : k = i
    · subst e
      have ih := leftN_out (L := L) (i := k) k (Nat.le_refl _)
      simp only [leftN, if_pos, hi, ih]
      simp
    · have := leftN_in hi k (by omega)
      simp only [leftN, if_neg e]
      omega
theorem leftN_all {L : Nat → Bool} : ∀ k, (∀ i, i < k → L i = true) → leftN L k = 0
  | 0, _ => rfl
  | k + 1, h => by simp only [leftN, leftN_all k (fun i hi => h i (by omega)), h k (by omega), if_true]
theorem leftN_none : ∀ k, leftN (fun _ => false) k = k
  | 0 => rfl
  | k + 1 => by simp [leftN, leftN_none k]
section
variable {P : Program} {ops : Array Oper} {Q : Exit → Act → World → Prop}
structure JL (ops : Array Oper) (Lb : Nat → List Nat) (Wd : Nat → World → Prop) (SF : Nat → Value → World → Prop) (w0 : World) (L : Nat → Bool) (x : Nat → Value) (w : World) : Prop where
  fr : ∀ L', (∀ j, L j = true → ∀ k, k ∈ Lb j → k ∈ L') → But L' w0 w
  sz : w0.heap.size ≤ w.heap.size
  sf : ∀ i, L i = true → SF i (x i) w
  dn : ∀ j i, L j = true → depOn ops j i = true → L i = true
  wd : Wd (leftN L ops.size) w
theorem wp_region_lots {id : Nat} {a0 : Act} {w0 : World} (n : Nat) (Lb : Nat → List Nat) (Wd : Nat → World → Prop) (SF : Nat → Value → World → Prop)
    (mono : ∀ i j v w w', i ≠ j → w0.heap.size ≤ w.heap.size → SF j v w → But (Lb i) w w' → SF j v w') (hm : P.follows .mixedOrders = true)
    (hf : fwd .any ops = true) (hn : a0.tmps.size = n) (hd : dstsOk2 ops n = true) (start : Wd ops.size w0.drew)
    (step : ∀ i o, ops[i]? = some o → ∀ f a w, Wd (f + 1) w → (∀ L', (∀ j, j ≠ i → depOn ops j i = false → ∀ k, k ∈ Lb j → k ∈ L') → But L' w0 w) → w0.heap.size ≤ w.heap.size → Like ops a0 a → (∀ e ∈ o.after, Region.binds .any e = true → ∀ oe, ops[e.on]? = some oe → SF e.on (dstVal oe a) w) →
      wpOp P ops Q i (fun a' w' => ∃ v, a' = a.put o.dst v ∧ (o.dst = none → v = undef) ∧ SF i v w' ∧ But (Lb i) w w' ∧ Wd f w') a w)
    (fin : ∀ (a : Act) (w : World), Wd 0 w → w0.heap.size ≤ w.heap.size → (∀ L', (∀ j k, k ∈ Lb j → k ∈ L') → But L' w0 w) → Like ops a0 a → (∀ i o, ops[i]? = some o → SF i (dstVal o a) w) → Q .normal a w) :
    (Code.region id ops true).wp P Q a0 w0 := by
  have inb : ∀ (i : Nat) (o : Oper), ops[i]? = some o → i < ops.size := fun i o ho => by
    by_cases hh : i < ops.size
    · exact hh
    · rw [Array.getElem?_eq_none (by omega)] at ho; cases ho
  refine wp_region_joint n (JL ops Lb Wd SF w0) hm hf hn hd ⟨fun L' _ => (But.refl _ _).drew, Nat.le_refl _, fun i h => (by cases h), fun j i h => (by cases h), by rw [leftN_none]; exact start⟩ ?_ ?_
  · intro i o ho L x a w hJ hLi hL hdep
    have hi := inb i o ho
    have hc := leftN_in hLi ops.size hi
    have hw := hJ.wd
    rw [← hc] at hw
    refine wpOp_mono ?_ (step i o ho _ a w hw (fun L' hL' => hJ.fr L' (fun j hj => hL' j (fun e => by subst e; rw [hLi] at hj; cases hj) (by
      cases hdj : depOn ops j i with
      | false => rfl
      | true => rw [hJ.dn j i hj hdj] at hLi; cases hLi))) hJ.sz hL (fun e he hb oe hoe => by
      obtain ⟨h1, h2⟩ := hdep e he hb
      rw [h2 oe hoe]; exact hJ.sf _ h1))
    rintro a' w' ⟨v, ha, hv0, hv, hB, hW⟩
    refine ⟨v, ha, hv0, fun L' hL' => (hJ.fr L' (fun j hj k hk => hL' j (by show (if j = i then true else L j) = true; split; rfl; exact hj) k hk)).trans (hB.mono fun k hk _ => hL' i (by show (if i = i then true else L i) = true; rw [if_pos rfl]) k hk), Nat.le_trans hJ.sz hB.size, fun j hj => ?_, fun j k hj hjk => ?_, hW⟩
    · by_cases e : j = i
      · subst e; simp only [if_pos]; exact hv
      · simp only [if_neg e] at hj ⊢
        exact mono i j _ w w' (Ne.symm e) hJ.sz (hJ.sf j hj) hB
    · by_cases e : k = i
      · simp only [if_pos e]
      · simp only [if_neg e]
        by_cases e2 : j = i
        · subst e2
          unfold depOn at hjk
          rw [ho] at hjk
          simp only [Option.map_some, Option.getD_some] at hjk
          obtain ⟨t, ht, h2⟩ := Array.any_eq_true'.mp hjk
          simp only [Bool.and_eq_true, beq_iff_eq] at h2
          have := (hdep t ht h2.1).1
          rwa [h2.2] at this
        · simp only [if_neg e2] at hj
          exact hJ.dn j k hj hjk
  · intro L x a w hall hJ hL hx
    have hw := hJ.wd
    rw [leftN_all _ hall] at hw
    exact fin a w hw hJ.sz (fun L' hL' => hJ.fr L' (fun j _ k hk => hL' j k hk)) hL (fun i o ho => by rw [hx i o ho]; exact hJ.sf i (hall i (inb i o ho)))
theorem SK.but {b : Nat} {k : SK} {v : Value} {w w' : World} {L : List Nat} (h : k.holds b v w) (hg : But L w w') (hL : ∀ x, x ∈ L → x ≤ b) : k.holds b v w' := by
  cases k with
  | ptr => exact h
  | int p => exact h
  | row len p =>
    obtain ⟨g, h1, h2, h3, h4⟩ := h
    exact ⟨g, h1, Nat.lt_of_lt_of_le h2 hg.size, h3, fun i hi => by rw [hg.cell h2 (fun m => by have := hL g m; omega)]; exact h4 i hi⟩
  | cell p =>
    obtain ⟨g, o, h1, h2, h3, n, h4, h5⟩ := h
    exact ⟨g, o, h1, Nat.lt_of_lt_of_le h2 hg.size, h3, n, h4, by rw [hg.cell h2 (fun m => by have := hL g m; omega)]; exact h5⟩
end

end Go.Proofs.Ytoacgjjpipdkjaa
