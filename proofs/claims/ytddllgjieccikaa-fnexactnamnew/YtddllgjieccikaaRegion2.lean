/- A region that draws its order, whose last operation writes a slot that the others read. No program is named here. -/
import Derived.Maps.AppendAt
import Derived.Test.YtddllgjieccikaaRegion
namespace Go.Proofs.Ytddllgjieccikaa
open Go.RowKit
set_option linter.unusedVariables false
section
variable {P : Program} {ops : Array Oper} {Q : Exit → Act → World → Prop} {md : Region.Mode}
/-- Operation z is the last one, and writes slot sd. -/
def lastOk (ops : Array Oper) (z sd : Nat) : Bool := ((ops[z]?).map fun o => o.dst == some sd && (List.range ops.size).all fun i => i == z || o.after.any fun e => Region.binds .any e && e.on == i).getD false
theorem lastOk_dst {z sd : Nat} (h : lastOk ops z sd = true) : ∃ o, ops[z]? = some o ∧ o.dst = some sd := by
  unfold lastOk at h
  cases ho : ops[z]? with
  | none => rw [ho] at h; simp at h
  | some o =>
    rw [ho] at h
    simp only [Option.map_some, Option.getD_some, Bool.and_eq_true, beq_iff_eq] at h
    exact ⟨o, rfl, h.1⟩
theorem lastOk_on {z sd : Nat} (h : lastOk ops z sd = true) {o : Oper} (ho : ops[z]? = some o) {k : Nat} (hk : k < ops.size) (hkz : k ≠ z) : ∃ e ∈ o.after, Region.binds .any e = true ∧ e.on = k := by
  unfold lastOk at h
  rw [ho] at h
  simp only [Option.map_some, Option.getD_some, Bool.and_eq_true] at h
  have h1 := List.all_eq_true.mp h.2 k (List.mem_range.mpr hk)
  simp only [Bool.or_eq_true, beq_iff_eq, hkz, false_or] at h1
  obtain ⟨e, he, h2⟩ := Array.any_eq_true'.mp h1
  simp only [Bool.and_eq_true, beq_iff_eq] at h2
  exact ⟨e, he, h2.1, h2.2⟩
theorem wp_region_last {id : Nat} {a0 : Act} {w0 : World} (b n z sd : Nat) (hz : lastOk ops z sd = true) (Wd : Nat → World → Prop) (SF : Nat → Value → World → Prop) (hm : P.follows .mixedOrders = true)
    (hf : fwd .any ops = true) (hn : a0.tmps.size = n) (hd : dstsOk ops n = true) (mono : ∀ i v w w', SF i v w → w.grownBy w' (some b) → SF i v w') (start : Wd ops.size w0.drew)
    (step : ∀ i o, ops[i]? = some o → ∀ f a w, Wd (f + 1) w → w0.heap.size ≤ w.heap.size → Like ops a0 a → (i ≠ z → a.tmps.getD sd undef = a0.tmps.getD sd undef) → (∀ e ∈ o.after, Region.binds .any e = true → ∀ oe, ops[e.on]? = some oe → SF e.on (dstVal oe a) w) →
      wpOp P ops Q i (fun a' w' => ∃ v, a' = a.put o.dst v ∧ SF i v w' ∧ w.grownBy w' (some b) ∧ Wd f w') a w)
    (fin : ∀ f a w, Wd f w → w0.grownBy w (some b) → Like ops a0 a → (∀ i o, ops[i]? = some o → SF i (dstVal o a) w) → Q .normal a w) :
    (Code.region id ops true).wp P Q a0 w0 := by
  subst hn
  refine wp_region_any hm ?_
  show wpAny P .any ops Q ops.size (Array.replicate ops.size false) a0 w0.drew
  refine wpAny_inv (I := fun f listed a w => listed.size = ops.size ∧ listed.toList.count false = f ∧ Wd f w ∧ w0.grownBy w (some b) ∧ Like ops a0 a ∧ (∀ i o, ops[i]? = some o → listed.getD i false = true → SF i (dstVal o a) w) ∧ (listed.getD z false = true → ∀ i, i < ops.size → listed.getD i false = true) ∧ (listed.getD z false = false → a.tmps.getD sd undef = a0.tmps.getD sd undef)) ?_ ?_ ?_ _ _ _ _ ?_
  · rintro f listed a w i ⟨hs, hc, hW, hg, hL, hF, hK1, hK2⟩ hi
    obtain ⟨o, ho, hl, hdep⟩ := mem_ready hi
    have hilt : i < ops.size := by
      by_cases hh : i < ops.size
      · exact hh
      · rw [Array.getElem?_eq_none (by omega)] at ho; cases ho
    obtain ⟨d, hdo, hdn⟩ := dstsOk_lt hd ho
    have hl' : listed.getD i false = false := by
      have e : listed.getD i true = listed.getD i false := by simp [Array.getD, show i < listed.size by omega]
      rw [← e]; exact hl
    have hzl : listed.getD z false = false := by
      cases h : listed.getD z false with
      | false => rfl
      | true => rw [hK1 h i hilt] at hl'; cases hl'
    refine wpOp_mono ?_ (step i o ho f a w hW hg.size hL (fun _ => hK2 hzl) (fun e he hb oe hoe => hF _ _ hoe (hdep e he hb)))
    rintro a' w' ⟨v, rfl, hv, hg', hW'⟩
    refine ⟨by simpa using hs, ?_, hW', ⟨hg'.os.trans hg.os, hg'.tape.trans hg.tape, hg'.output.trans hg.output, Nat.le_trans hg.size hg'.size, fun k hk hne => (hg'.block k (Nat.lt_of_lt_of_le hk hg.size) hne).trans (hg.block k hk hne)⟩, ?_, ?_, ?_, ?_⟩
    · have hil : i < listed.toList.length := by simpa using (by omega : i < listed.size)
      have hli : listed.toList[i] = false := by
        have : listed.getD i true = listed.toList[i] := by simp [Array.getD, show i < listed.size by omega]
        rw [← this]; exact hl
      have h1 := List.count_set (a := true) (b := false) (h := hil)
      rw [hli] at h1
      have h2 : (listed.setIfInBounds i true).toList = listed.toList.set i true := by simp
      rw [h2, h1, hc]
      rfl
    · refine ⟨by rw [hdo]; exact hL.1, by rw [hdo]; simpa [Act.put] using hL.2.1, fun k hk => ?_⟩
      rw [hdo]
      show (a.tmps.setIfInBounds d v).getD k undef = _
      rw [getD_set_ne _ _ _ _ (fun h => hk i o ho (by rw [hdo, h]))]
      exact hL.2.2 k hk
    · intro j oj hoj hlj
      by_cases hij : i = j
      · subst hij
        rw [ho] at hoj
        obtain rfl : o = oj := by injection hoj
        have : dstVal o (a.put o.dst v) = v := by
          simp only [dstVal, hdo]
          have hlt : d < a.tmps.size := Nat.lt_of_lt_of_eq hdn hL.2.1.symm
          exact getD_set_eq a.tmps d v hlt
        rw [this]; exact hv
      · have hne := dstsOk_ne hd ho hoj hij
        have : dstVal oj (a.put o.dst v) = dstVal oj a := by
          unfold dstVal
          cases hdj : oj.dst with
          | none => rfl
          | some k =>
            rw [hdo]
            show (a.tmps.setIfInBounds d v).getD k undef = _
            exact getD_set_ne _ _ _ _ (fun h => hne (by rw [hdo, hdj, h]))
        rw [this]
        refine mono _ _ _ _ (hF j oj hoj ?_) hg'
        rw [← hlj]
        simp [Array.getD_eq_getD_getElem?, Array.getElem?_setIfInBounds_ne hij]
    · intro hz' k hk
      by_cases hiz : i = z
      · subst hiz
        by_cases hki : k = i
        · subst hki
          simp [Array.getD, hs, hilt]
        · obtain ⟨e, he, hb, hek⟩ := lastOk_on hz ho hk hki
          have := hdep e he hb
          rw [hek] at this
          rw [← this]
          simp [Array.getD_eq_getD_getElem?, Array.getElem?_setIfInBounds_ne (Ne.symm hki)]
      · exfalso
        have : (listed.setIfInBounds i true).getD z false = listed.getD z false := by simp [Array.getD_eq_getD_getElem?, Array.getElem?_setIfInBounds_ne hiz]
        rw [this, hzl] at hz'
        cases hz'
    · intro hz'
      have hiz : i ≠ z := by
        intro e
        subst e
        simp [Array.getD, hs, hilt] at hz'
      rw [hdo]
      show (a.tmps.setIfInBounds d v).getD sd undef = _
      rw [getD_set_ne _ _ _ _ (fun h => by
        obtain ⟨oz, hoz, hdz⟩ := lastOk_dst hz
        exact dstsOk_ne hd ho hoz hiz (by rw [hdo, hdz, h]))]
      exact hK2 hzl
  · rintro f listed a w ⟨hs, hc, hW, hg, hL, hF, hK1, hK2⟩ hr
    refine fin f a w hW hg hL (fun i o ho => hF i o ho (all_listed hf hs hr i ?_))
    by_cases hh : i < ops.size
    · exact hh
    · rw [Array.getElem?_eq_none (by omega)] at ho; cases ho
  · rintro listed a w ⟨hs, hc, hW, hg, hL, hF, hK1, hK2⟩
    apply List.eq_nil_iff_forall_not_mem.mpr
    intro i hi
    obtain ⟨o, ho, hl, _⟩ := mem_ready hi
    have hilt : i < ops.size := by
      by_cases hh : i < ops.size
      · exact hh
      · rw [Array.getElem?_eq_none (by omega)] at ho; cases ho
    have hm : false ∈ listed.toList := by
      have : listed.getD i true = listed[i]'(by omega) := by simp [Array.getD, show i < listed.size by omega]
      rw [hl] at this
      rw [this]
      simp
    have := List.count_pos_iff.mpr hm
    omega
  · refine ⟨by simp, by simp, start, ⟨rfl, rfl, rfl, Nat.le_refl _, fun _ _ _ => rfl⟩, ⟨rfl, rfl, fun _ _ => rfl⟩, fun i o ho hl => ?_, fun hl => ?_, fun _ => rfl⟩
    · exfalso
      by_cases hh : i < ops.size
      · simp [Array.getD, hh] at hl
      · simp [Array.getD, hh] at hl
    · exfalso
      by_cases hh : z < ops.size
      · simp [Array.getD, hh] at hl
      · simp [Array.getD, hh] at hl

theorem wp_region_mix {id : Nat} {a0 : Act} {w0 : World} (n z sd : Nat) (hz : lastOk ops z sd = true) (Wd : (Nat → Bool) → World → Prop) (SF : Nat → Value → World → Prop) (hm : P.follows .mixedOrders = true)
    (hf : fwd .any ops = true) (hn : a0.tmps.size = n) (hd : dstsOk ops n = true) (start : Wd (fun _ => false) w0.drew)
    (step : ∀ i o, ops[i]? = some o → ∀ L a w, Wd L w → L i = false → (L z = true → ∀ i, i < ops.size → L i = true) → Like ops a0 a → (i ≠ z → a.tmps.getD sd undef = a0.tmps.getD sd undef) → (∀ e ∈ o.after, Region.binds .any e = true → ∀ oe, ops[e.on]? = some oe → SF e.on (dstVal oe a) w) →
      wpOp P ops Q i (fun a' w' => ∃ v, a' = a.put o.dst v ∧ SF i v w' ∧ (∀ j v', j < ops.size → L j = true → SF j v' w → SF j v' w') ∧ Wd (fun j => if j = i then true else L j) w') a w)
    (fin : ∀ L a w, (∀ i, i < ops.size → L i = true) → Wd L w → Like ops a0 a → (∀ i o, ops[i]? = some o → SF i (dstVal o a) w) → Q .normal a w) :
    (Code.region id ops true).wp P Q a0 w0 := by
  subst hn
  refine wp_region_any hm ?_
  show wpAny P .any ops Q ops.size (Array.replicate ops.size false) a0 w0.drew
  refine wpAny_inv (I := fun f listed a w => listed.size = ops.size ∧ listed.toList.count false = f ∧ Wd (fun j => listed.getD j false) w ∧ Like ops a0 a ∧ (∀ i o, ops[i]? = some o → listed.getD i false = true → SF i (dstVal o a) w) ∧ (listed.getD z false = true → ∀ i, i < ops.size → listed.getD i false = true) ∧ (listed.getD z false = false → a.tmps.getD sd undef = a0.tmps.getD sd undef)) ?_ ?_ ?_ _ _ _ _ ?_
  · rintro f listed a w i ⟨hs, hc, hW, hL, hF, hK1, hK2⟩ hi
    obtain ⟨o, ho, hl, hdep⟩ := mem_ready hi
    have hilt : i < ops.size := by
      by_cases hh : i < ops.size
      · exact hh
      · rw [Array.getElem?_eq_none (by omega)] at ho; cases ho
    obtain ⟨d, hdo, hdn⟩ := dstsOk_lt hd ho
    have hl' : listed.getD i false = false := by
      have e : listed.getD i true = listed.getD i false := by simp [Array.getD, show i < listed.size by omega]
      rw [← e]; exact hl
    have hzl : listed.getD z false = false := by
      cases h : listed.getD z false with
      | false => rfl
      | true => rw [hK1 h i hilt] at hl'; cases hl'
    refine wpOp_mono ?_ (step i o ho (fun j => listed.getD j false) a w hW hl' hK1 hL (fun _ => hK2 hzl) (fun e he hb oe hoe => hF _ _ hoe (hdep e he hb)))
    rintro a' w' ⟨v, rfl, hv, hkp, hW'⟩
    have hW2 : Wd (fun j => (listed.setIfInBounds i true).getD j false) w' := by
      have e : (fun j => (listed.setIfInBounds i true).getD j false) = (fun j => if j = i then true else listed.getD j false) := by
        funext j
        by_cases hj : j = i
        · subst hj; rw [if_pos rfl]; simp [Array.getD, hs, hilt]
        · rw [if_neg hj]; simp [Array.getD_eq_getD_getElem?, Array.getElem?_setIfInBounds_ne (Ne.symm hj)]
      rw [e]; exact hW'
    refine ⟨by simpa using hs, ?_, hW2, ?_, ?_, ?_, ?_⟩
    · have hil : i < listed.toList.length := by simpa using (by omega : i < listed.size)
      have hli : listed.toList[i] = false := by
        have : listed.getD i true = listed.toList[i] := by simp [Array.getD, show i < listed.size by omega]
        rw [← this]; exact hl
      have h1 := List.count_set (a := true) (b := false) (h := hil)
      rw [hli] at h1
      have h2 : (listed.setIfInBounds i true).toList = listed.toList.set i true := by simp
      rw [h2, h1, hc]
      rfl
    · refine ⟨by rw [hdo]; exact hL.1, by rw [hdo]; simpa [Act.put] using hL.2.1, fun k hk => ?_⟩
      rw [hdo]
      show (a.tmps.setIfInBounds d v).getD k undef = _
      rw [getD_set_ne _ _ _ _ (fun h => hk i o ho (by rw [hdo, h]))]
      exact hL.2.2 k hk
    · intro j oj hoj hlj
      by_cases hij : i = j
      · subst hij
        rw [ho] at hoj
        obtain rfl : o = oj := by injection hoj
        have : dstVal o (a.put o.dst v) = v := by
          simp only [dstVal, hdo]
          have hlt : d < a.tmps.size := Nat.lt_of_lt_of_eq hdn hL.2.1.symm
          exact getD_set_eq a.tmps d v hlt
        rw [this]; exact hv
      · have hne := dstsOk_ne hd ho hoj hij
        have : dstVal oj (a.put o.dst v) = dstVal oj a := by
          unfold dstVal
          cases hdj : oj.dst with
          | none => rfl
          | some k =>
            rw [hdo]
            show (a.tmps.setIfInBounds d v).getD k undef = _
            exact getD_set_ne _ _ _ _ (fun h => hne (by rw [hdo, hdj, h]))
        rw [this]
        have hlj' : listed.getD j false = true := by
          rw [← hlj]
          simp [Array.getD_eq_getD_getElem?, Array.getElem?_setIfInBounds_ne hij]
        have hjlt : j < ops.size := by
          by_cases hh : j < ops.size
          · exact hh
          · rw [Array.getElem?_eq_none (by omega)] at hoj; cases hoj
        exact hkp j _ hjlt hlj' (hF j oj hoj hlj')
    · intro hz' k hk
      by_cases hiz : i = z
      · subst hiz
        by_cases hki : k = i
        · subst hki
          simp [Array.getD, hs, hilt]
        · obtain ⟨e, he, hb, hek⟩ := lastOk_on hz ho hk hki
          have := hdep e he hb
          rw [hek] at this
          rw [← this]
          simp [Array.getD_eq_getD_getElem?, Array.getElem?_setIfInBounds_ne (Ne.symm hki)]
      · exfalso
        have : (listed.setIfInBounds i true).getD z false = listed.getD z false := by simp [Array.getD_eq_getD_getElem?, Array.getElem?_setIfInBounds_ne hiz]
        rw [this, hzl] at hz'
        cases hz'
    · intro hz'
      have hiz : i ≠ z := by
        intro e
        subst e
        simp [Array.getD, hs, hilt] at hz'
      rw [hdo]
      show (a.tmps.setIfInBounds d v).getD sd undef = _
      rw [getD_set_ne _ _ _ _ (fun h => by
        obtain ⟨oz, hoz, hdz⟩ := lastOk_dst hz
        exact dstsOk_ne hd ho hoz hiz (by rw [hdo, hdz, h]))]
      exact hK2 hzl
  · rintro f listed a w ⟨hs, hc, hW, hL, hF, hK1, hK2⟩ hr
    refine fin (fun j => listed.getD j false) a w (fun i hi => all_listed hf hs hr i hi) hW hL (fun i o ho => hF i o ho (all_listed hf hs hr i ?_))
    by_cases hh : i < ops.size
    · exact hh
    · rw [Array.getElem?_eq_none (by omega)] at ho; cases ho
  · rintro listed a w ⟨hs, hc, hW, hL, hF, hK1, hK2⟩
    apply List.eq_nil_iff_forall_not_mem.mpr
    intro i hi
    obtain ⟨o, ho, hl, _⟩ := mem_ready hi
    have hilt : i < ops.size := by
      by_cases hh : i < ops.size
      · exact hh
      · rw [Array.getElem?_eq_none (by omega)] at ho; cases ho
    have hm : false ∈ listed.toList := by
      have : listed.getD i true = listed[i]'(by omega) := by simp [Array.getD, show i < listed.size by omega]
      rw [hl] at this
      rw [this]
      simp
    have := List.count_pos_iff.mpr hm
    omega
  · refine ⟨by simp, by simp, (by have e : (fun j => (Array.replicate ops.size false).getD j false) = fun _ => false := (by funext j; by_cases h : j < ops.size <;> simp [Array.getD, h]); rw [e]; exact start), ⟨rfl, rfl, fun _ _ => rfl⟩, fun i o ho hl => ?_, fun hl => ?_, fun _ => rfl⟩
    · exfalso
      by_cases hh : i < ops.size
      · simp [Array.getD, hh] at hl
      · simp [Array.getD, hh] at hl
    · exfalso
      by_cases hh : z < ops.size
      · simp [Array.getD, hh] at hl
      · simp [Array.getD, hh] at hl

/-- append onto a slice that the call owns, as an operation of such a region. -/
theorem wpOp_append_own_at {w : World} {i : Nat} {o : Oper} {a : Act} {K : Act → World → Prop} (hoi : ops[i]? = some o) (hgd : o.guard = none) (s x : Operand) (t : TypeId)
    (ho : o.op = .call { callee := .builtin .append, args := #[s, x], argTypes := #[t, t] })
    (base : Nat) (e : TypeId) (ti : TypeInfo) (z : Value) (size bytes : Nat) (ht : P.underlying t = some (.slice e)) (hi : P.info? e = some ti) (hz : ti.zero = some z)
    (hsize : ti.size = size) (hby : ti.bytes = bytes) (hzs : z.cells.size = size) (hsz : 0 < size)
    (v : Value) (n : Nat) (xs : List Value) (hs : a.eval s = v) (hown : w.ownsRow base e size v n xs)
    (ad : Addr) (m c : Nat) (news : List Value) (hx : a.eval x = .slice (some ad) m c) (hl : news.length = m * size) (hnews : ∀ j u, news[j]? = some u → w.cell? (ad.add j) = some u) (h1 : ∀ u ∈ news, u.oneCell' = true)
    (h63 : n + m ≤ maxLen) (hbytes : (n + m) * bytes ≤ 140737488355328) (hbase : base ≤ w.heap.size)
    (h : ∀ v' w', w'.ownsRow base e size v' (n + m) (xs ++ news) → w.grownBy w' v.ownBlock → (v'.ownBlock = v.ownBlock ∨ v'.ownBlock = some w.heap.size) → K (a.put o.dst v') w') :
    wpOp P ops Q i K a w := by
  refine wpOp_step hoi fun K' hK' => ?_
  have hwd : Region.wanted o (yielded ops a.tmps) = true := by simp [Region.wanted, hgd]
  rw [if_pos hwd]
  obtain ⟨v', w', hr, h2, h3, _, h5⟩ := run_append_own_at (P := P) w base t o.type e ti z size bytes ht hi hz hsize hby hzs hsz v n xs hown ad m c news hl hnews h1 h63 hbytes hbase
  unfold Oper.wp execOp
  simp only [ho, resolve, invoke, builtin, Sem.run_bind, Sem.run_pure, Result.andThen_ok, List.map_toArray, List.map_cons, List.map_nil, hs, hx, hr]
  exact hK' _ _ (h v' w' h2 h3 h5)
end

end Go.Proofs.Ytddllgjieccikaa
