/- What is ok, of guessers: the program's and the model's. -/
import Derived.Laws.Cover3
import Derived.Test.YtpdlcjjmhcfkjaaDoorGu0
namespace Go.Proofs.YtpdlcjjmhcfkjaaDoor
open Go.RowKit
set_option linter.unusedVariables false
set_option linter.unusedSimpArgs false
theorem impl_stores (x : Sl) (pc : Int) (w : World) : Calls Tryd.prog 89 #[slw x, .int .i64 pc] w fun e w' => e = .returned (.bool (x.u && decide (x.p = pc))) ∧ Fr w w' := by
  obtain ⟨u, p, t, s⟩ := x
  have HF := Lib.hid (Fr.alloc w (.cells #[.bool u, .int .i64 p, .int .i64 t, .int .i64 s] 51))
  simp only []
  cases u
  · go_enter Tryd.func89, Tryd.ntmps89
    go_wp2
    go_ret
    exact ⟨rfl, HF.out⟩
  · go_enter Tryd.func89, Tryd.ntmps89
    go_wp2
    go_ret
    refine ⟨ret_bool ?_, HF.out⟩
    simp [BEq.beq]
set_option maxHeartbeats 1000000 in
theorem impl_fits (x : Sl) (k : Int) (w : World) (hk : 0 ≤ k) (hk8 : k < 8) : Calls Tryd.prog 87 #[slw x, .int .i64 k] w fun e w' => e = .returned (.bool (okL k x)) ∧ Fr w w' := by
  obtain ⟨u, p, t, s⟩ := x
  have HF := Lib.hid (Fr.alloc w (.cells #[.bool u, .int .i64 p, .int .i64 t, .int .i64 s] 51))
  cases u
  · go_enter Tryd.func87, Tryd.ntmps87
    go_wp2
    all_goals (go_ret; refine ⟨ret_bool ?_, Fr.alloc _ _⟩; simp [okL, *])
  · have HR : ∀ b, okL k ⟨true, p, t, s⟩ = b → Hid (okL k ⟨true, p, t, s⟩ = b) := fun b h => Lib.hid h
    cases h1 : okB p
    · have H := HR false (by simp [okL, h1])
      clear HR
      go_enter Tryd.func87, Tryd.ntmps87
      go_wp2_with (go_at_call 24; refine (impl_WrdOk _ _).mono ?_; rintro e w' ⟨rfl, rfl⟩)
      go_ret
      exact ⟨ret_bool H.out.symm, HF.out⟩
    · have hb := okB_true h1
      have hm : Int.tmod p 8 = p % 8 := Int.tmod_eq_emod_of_nonneg hb.1
      by_cases h2 : p % 8 = k
      · cases h3 : okB t
        · have H := HR false (by simp [okL, h1, h2, h3])
          clear HR
          have HM := Lib.hid hm
          have h2' : Int.tmod p 8 = k := by rw [hm]; exact h2
          clear h2 hm
          go_enter Tryd.func87, Tryd.ntmps87
          go_wp2_with (go_at_call 24; refine (impl_WrdOk _ _).mono ?_; rintro e w' ⟨rfl, rfl⟩)
          go_ret
          exact ⟨ret_bool H.out.symm, HF.out⟩
        · by_cases h4 : 0 ≤ s
          · have H := Lib.hid (show okL k ⟨true, p, t, s⟩ = decide (s ≤ 3) by simp [okL, h1, h2, h3, h4])
            clear HR
            have h2' : Int.tmod p 8 = k := by rw [hm]; exact h2
            clear h2 hm
            go_enter Tryd.func87, Tryd.ntmps87
            go_wp2_with (go_at_call 24; refine (impl_WrdOk _ _).mono ?_; rintro e w' ⟨rfl, rfl⟩)
            all_goals (go_ret; refine ⟨ret_bool ?_, HF.out⟩; rw [H.out]; try simp [*])
          · have H := HR false (by simp [okL, h1, h2, h3, h4])
            clear HR
            have h2' : Int.tmod p 8 = k := by rw [hm]; exact h2
            clear h2 hm
            go_enter Tryd.func87, Tryd.ntmps87
            go_wp2_with (go_at_call 24; refine (impl_WrdOk _ _).mono ?_; rintro e w' ⟨rfl, rfl⟩)
            all_goals (go_ret; first | (exfalso; omega) | exact ⟨ret_bool H.out.symm, HF.out⟩)
      · have H := HR false (by simp [okL, h1, h2])
        clear HR
        have h2' : (Int.tmod p 8 == k) = false := by rw [hm]; simpa using h2
        go_enter Tryd.func87, Tryd.ntmps87
        go_wp2_with (go_at_call 24; refine (impl_WrdOk _ _).mono ?_; rintro e w' ⟨rfl, rfl⟩)
        all_goals (go_ret; first | exact ⟨ret_bool H.out.symm, HF.out⟩ | (exfalso; omega) | (exfalso; simp at h2'; done) | (exfalso; simp_all; done))
/-- The slots of a guesser, as one array. -/
theorem info_arr : (Tryd.prog.info? 63).map (·.size) = some 32 := by kernel_rfl
theorem info_slot : (Tryd.prog.info? 51).map (·.size) = some 4 := by kernel_rfl
theorem cls32 {S : List Sl} (h : S.length = 8) : (cls S).toArray.size = 32 := by rw [List.size_toArray, cls_len, h]
theorem setRow_new (u : World) (c c' : Array Value) (t : TypeId) : (u.alloc (.cells c t)).setRow u.heap.size c' = u.alloc (.cells c' t) := by
  simp only [World.setRow, World.alloc]
  congr 1
  apply Array.ext_getElem?
  intro i
  rw [Array.getElem?_modify]
  by_cases h : u.heap.size = i
  · subst h
    simp
  · have h' : ¬ i = u.heap.size := fun e => h e.symm
    simp [h, h', Array.getElem?_push]
section
variable {P : Program} {Q : Exit → Act → World → Prop}
/-- A whole array into the block that was made last. -/
theorem wpList_store_new {ops : Array Oper} {rest : List Oper} {op : Oper} {a : Act} (hgd : op.guard = none) (ty : TypeId) (x y : Operand) (ho : op.op = .store ty x y)
    (u : World) (g : Nat) (hgu : g = u.heap.size) (c cells : Array Value) (hx : a.eval x = .pointer (some ⟨g, 0, none⟩)) (hy : a.eval y = .agg cells)
    (hi : (P.info? ty).map (·.size) = some cells.size) (hold : c.size = cells.size) (h1 : cells.all (·.oneCell') = true)
    (h : wpList P ops Q rest (a.put op.dst undef) (u.alloc (.cells cells ty))) : wpList P ops Q (op :: rest) a (u.alloc (.cells c ty)) := by
  subst hgu
  refine wpList_store_row hgd ty x y ho _ cells hx hy ty c (heap_alloc_new u _) hi hold h1 ?_
  rw [setRow_new]
  exact h
end
theorem arr_all (S : List Sl) : (cls S).toArray.all (·.oneCell') = true := all_oneCell_toArray (cls_one S)
theorem arr_info {S : List Sl} (hl : S.length = 8) : (Tryd.prog.info? 63).map (·.size) = some (cls S).toArray.size := by rw [info_arr, cls32 hl]
theorem arr_info' {S : List Sl} (hl : S.length = 8) : (Tryd.prog.info? 63).map (·.size) = some (cls S).length := by rw [info_arr, cls_len, hl]
set_option maxRecDepth 8000 in
set_option maxHeartbeats 1000000 in
theorem impl_slotsOf (x : Gu) (aS aC : Option Addr) (cS cC : Nat) (w : World) (h : Src4 w x.S aS) (hl : x.S.length = 8) :
    Calls Tryd.prog 40 #[.agg #[.slice aS x.S.length cS, .slice aC x.C.length cC]] w fun e w' => e = .returned (.agg (cls x.S).toArray) ∧ Fr w w' := by
  obtain ⟨S, C⟩ := x
  simp only at h hl ⊢
  obtain ⟨g, o, rfl, hg, hc⟩ := h (by omega)
  rw [hl]
  have HL := Lib.hid hl
  have hA : ∀ (u : World) (c : Nat), (Instr.arrayAt 63 (.slice (some ⟨g, o, none⟩) 8 c)).run Tryd.prog u = .ok (.pointer (some ⟨g, o, none⟩)) u := fun u c => run_arrayAt u _ _ 8 _ _ _ Tryd.underlying63 (Nat.le_refl _)
  have HR := Lib.hid (fun a b => (range_fr hc (show Fr w ((w.alloc a).alloc b) by (repeat' first | (with_reducible exact Below.refl _ _) | (with_reducible assumption) | ((with_reducible refine Below.setCell ?_ ?hb _); (case hb => first | exact Nat.le_refl _ | (simp; done) | (simp; omega) | omega)) | ((with_reducible refine Below.alloc ?_ ?hb _); (case hb => first | exact Nat.le_refl _ | (simp; done) | (simp; omega) | omega)) | (with_reducible refine Below.drew ?_))) hg : ((w.alloc a).alloc b).rangeAt g o (cls S)))
  clear h hc hg hl
  go_enter Tryd.func40, Tryd.ntmps40
  go_wp2_with (first
    | (refine wpList_load_mid rfl 63 _ rfl g o rfl (cls S) _ (HR.out _ _) Tryd.underlying63 rfl (arr_info' HL.out) ?_)
    | (refine wpList_store_new rfl 63 _ _ rfl (w.alloc _) (w.heap.size + 1) (by simp) _ (cls S).toArray rfl rfl (arr_info HL.out) (by rw [cls32 HL.out]; rfl) (arr_all S) ?_))
  refine bodyPost_ret (results_cell_row (t := 63) (cs := (cls S).toArray) (g := w.heap.size + 1) (fr := (0, 0)) rfl _ _ (d := _) rfl (by have := heap_alloc_new (w.alloc (.cells #[.slice (some ⟨g, o, none⟩) 8 cS, .slice aC C.length cC] 30)) (.cells (cls S).toArray 63); rw [show (w.alloc (.cells #[.slice (some ⟨g, o, none⟩) 8 cS, .slice aC C.length cC] 30)).heap.size = w.heap.size + 1 by simp] at this; exact this) Tryd.underlying63 rfl (arr_info HL.out)) rfl ⟨rfl, ?_⟩
  (repeat' first | (with_reducible exact Below.refl _ _) | (with_reducible assumption) | ((with_reducible refine Below.setCell ?_ ?hb _); (case hb => first | exact Nat.le_refl _ | (simp; done) | (simp; omega) | omega)) | ((with_reducible refine Below.alloc ?_ ?hb _); (case hb => first | exact Nat.le_refl _ | (simp; done) | (simp; omega) | omega)) | (with_reducible refine Below.drew ?_))
theorem ext_slot {S : List Sl} (i : Nat) (hi : i < S.length) : (cls S).toArray.extract (i * 4) (i * 4 + 4) = #[.bool (S.getD i sl0).u, .int .i64 (S.getD i sl0).p, .int .i64 (S.getD i sl0).t, .int .i64 (S.getD i sl0).s] := by
  obtain ⟨h0, h1, h2, h3⟩ := cls_at S i hi
  rw [Nat.mul_comm i 4]
  apply Array.ext_getElem?
  intro j
  rw [Array.getElem?_extract]
  have hm : min (4 * i + 4) (cls S).toArray.size = 4 * i + 4 := by rw [List.size_toArray, cls_len]; omega
  rw [hm]
  rcases j with _ | _ | _ | _ | j
  · simp [h0]
  · simp [h1]
  · simp [h2]
  · simp [h3]
  · simp; omega
theorem part_slot {S : List Sl} (i : Nat) (hi : i < S.length) (u : World) : (part 51 (cls S).toArray (i * 4)).run Tryd.prog u = .ok (slw (S.getD i sl0)) u := by
  have hz : (sizeOf 51).run Tryd.prog u = .ok 4 u := by
    cases hq : Tryd.prog.info? 51 with
    | none => have := info_slot; simp [hq] at this
    | some z => have := info_slot; simp [hq] at this; simp [sizeOf, typeInfo, hq, this]
  have ha : (isAgg 51).run Tryd.prog u = .ok true u := by
    unfold isAgg
    rw [Sem.run_bind, run_underlying Tryd.underlying51 u]
    rfl
  simp only [part, Sem.run_bind, ha, Result.andThen_ok, if_true, hz, Sem.run_pure, ext_slot i hi]
theorem index_slot {S : List Sl} (hl : S.length = 8) (i : Nat) (hi : i < 8) (u : World) : (Instr.index 63 (.agg (cls S).toArray) (.int .i64 (i : Int))).run Tryd.prog u = .ok (slw (S.getD i sl0)) u := by
  have h1 := part_slot (S := S) i (by omega) u
  have hz : (sizeOf 51).run Tryd.prog u = .ok 4 u := by
    cases hq : Tryd.prog.info? 51 with
    | none => have := info_slot; simp [hq] at this
    | some z => have := info_slot; simp [hq] at this; simp [sizeOf, typeInfo, hq, this]
  have hc : 0 ≤ (i : Int) ∧ (i : Int) < ((8 : Nat) : Int) := by omega
  simp only [Instr.index, asIntOf, Sem.run_bind, Sem.run_pure, Result.andThen_ok, run_underlying Tryd.underlying63 u, if_pos hc, hz, Int.toNat_natCast, h1]
set_option maxHeartbeats 1000000 in
theorem impl_slots_ok (S : List Sl) (w : World) (hl : S.length = 8) :
    Calls Tryd.prog 66 #[.agg (cls S).toArray] w fun e w' => e = .returned (.bool (okLs S)) ∧ Fr w w' := by
  have HL := Lib.hid hl
  have HN := Lib.hid (heap_alloc_new w (.cells (cls S).toArray 63))
  have hI := fun (i : Nat) (hi : i < 8) => index_slot hl i hi
  clear hl
  go_enter Tryd.func66, Tryd.ntmps66
  go_wp2_with (refine wpList_load_row rfl 63 _ rfl w.heap.size rfl 63 (cls S).toArray _ _ HN.out Tryd.underlying63 rfl (arr_info HL.out) ?_)
  go_loopw [6] (fun i wr => ∃ p : Nat, p ≤ 8 ∧ i = .int .i64 p ∧ (∀ i : Nat, i < p → okL (i : Int) (S.getD i sl0) = true) ∧ Fr w wr) (fun i _ => 8 - (intOf i).toNat)
  case atStart => exact ⟨0, Nat.zero_le _, rfl, fun i hi => absurd hi (Nat.not_lt_zero _), Fr.alloc _ _⟩
  case round =>
    obtain ⟨p, hp, rfl, hok, hf⟩ := hrel
    have HO := Lib.hid hok
    have HF := Lib.hid hf
    clear hok hf
    by_cases hlt : p < 8
    · have hlt' : (p : Int) < 8 := by omega
      have hI' := hI p hlt
      clear hI
      have HY := Lib.hid (fun h => okLs_not (S := S) (p := p) (by rw [HL.out]; exact hlt) h)
      have HZ : Hid (okL (p : Int) (S.getD p sl0) = true → ∀ i : Nat, i < p + 1 → okL (i : Int) (S.getD i sl0) = true) := Lib.hid (fun h i hi => by
        rcases Nat.lt_succ_iff_lt_or_eq.1 hi with h' | h'
        · exact HO.out i h'
        · rw [h']; exact h)
      obtain ⟨x, hx⟩ : ∃ x, x = S.getD p sl0 := ⟨_, rfl⟩
      rw [← hx] at hI' HY HZ
      clear hx
      have E := fun u => impl_fits x (p : Int) u (by omega) (by omega)
      obtain ⟨xu, xp, xt, xs⟩ := x
      have hfr : ∀ w', Fr (wr.alloc (.cells #[.bool xu, .int .i64 xp, .int .i64 xt, .int .i64 xs] 51)) w' → Fr w w' := fun w' h => (HF.out.trans (Fr.alloc _ _)).trans h
      have HFR := Lib.hid hfr
      clear hfr
      cases hk : okL (p : Int) ⟨xu, xp, xt, xs⟩
      · have H := Lib.hid (HY.out hk)
        rw [hk] at E
        have HE := Lib.hid E
        clear E hk HY HZ
        go_wp2_with fail
        refine (HE.out _).mono ?_
        rintro e w' ⟨rfl, f⟩
        have HG := Lib.hid f
        clear f
        go_wp2
        go_ret
        exact ⟨ret_bool H.out.symm, HFR.out _ HG.out⟩
      · have H := Lib.hid (HZ.out hk)
        rw [hk] at E
        have HE := Lib.hid E
        clear E hk HY HZ
        go_wp2_with fail
        refine (HE.out _).mono ?_
        rintro e w' ⟨rfl, f⟩
        have HG := Lib.hid f
        clear f
        go_wp2
        go_roundw
        case rel => exact ⟨p + 1, by omega, by go_num, H.out, HFR.out _ HG.out⟩
        case measure => simp [intOf]; omega
    · have hge : ¬ (p : Int) < 8 := by omega
      have H := Lib.hid (okLs_of HO.out (by rw [HL.out]; omega : S.length ≤ p))
      go_wp2
      go_ret
      exact ⟨ret_bool H.out.symm, HF.out⟩
set_option maxHeartbeats 1000000 in
theorem impl_GueOk (x : Gu) (aS aC : Option Addr) (cS cC : Nat) (w : World) (h : Src4 w x.S aS) (hc : Src w x.C.length (ivl x.C) aC) (hS : x.S.length ≤ 100000000) (hC : x.C.length ≤ 100000000) :
    Calls Tryd.prog 27 #[.agg #[.slice aS x.S.length cS, .slice aC x.C.length cC]] w fun e w' => e = .returned (.bool (okG x)) ∧ Fr w w' := by
  obtain ⟨S, C⟩ := x
  simp only at h hc hS hC ⊢
  have HF := Lib.hid (Fr.alloc w (.cells #[.slice aS S.length cS, .slice aC C.length cC] 30))
  by_cases hl : S.length = 8
  · by_cases hk : C.length ≤ 4
    · have F1 := HF.out
      have E1 := impl_slotsOf ⟨S, C⟩ aS aC cS cC _ (h.fr F1) hl
      have HL := Lib.hid hl
      have HC := Lib.hid hc
      have E2 := fun u => impl_slots_ok S u hl
      have hS8 : (S.length : Int) = 8 := by omega
      have hk' : (C.length : Int) ≤ 4 := by omega
      have H := Lib.hid (show okG ⟨S, C⟩ = (okLs S && C.all okB) by simp [okG, hl, hk])
      simp only [hl] at E1 ⊢
      have HE1 := Lib.hid E1
      cases hb : okLs S
      · rw [hb] at E2 H
        have HE2 := Lib.hid E2
        clear h hc hS hC F1 E1 E2 hl hb hS8 HF
        go_enter Tryd.func27, Tryd.ntmps27
        go_wp2_with fail
        refine HE1.out.mono ?_
        rintro e w1 ⟨rfl, f1⟩
        have HG1 := Lib.hid f1
        clear f1
        go_wp2_with fail
        refine (HE2.out _).mono ?_
        rintro e w2 ⟨rfl, f2⟩
        have HG2 := Lib.hid f2
        clear f2
        go_wp2_with fail
        go_ret
        exact ⟨ret_bool H.out.symm, (Fr.alloc _ _).trans (HG1.out.trans HG2.out)⟩
      · rw [hb] at E2 H
        have HE2 := Lib.hid E2
        have E3 := fun u hu => impl_areWords C aC cC (C.length : Int) u hu hC
        have HE3 := Lib.hid E3
        clear h hc hS hC F1 E1 E2 E3 hl hb hS8 HF
        have hz0 : w.heap.size < (w.alloc (.cells #[.slice aS 8 cS, .slice aC C.length cC] 30)).heap.size := by simp
        go_enter Tryd.func27, Tryd.ntmps27
        go_wp2_with fail
        refine HE1.out.mono ?_
        rintro e w1 ⟨rfl, f1⟩
        have HG1 := Lib.hid f1
        clear f1
        go_wp2_with fail
        refine (HE2.out _).mono ?_
        rintro e w2 ⟨rfl, f2⟩
        have f := HG1.out.trans f2
        have c0 : w2.cell? ⟨w.heap.size, 0, none⟩ = some (.slice aS 8 cS) := by rw [f.cell hz0]; simp
        have c1 : w2.cell? ⟨w.heap.size, 1, none⟩ = some (.slice aC C.length cC) := by rw [f.cell hz0]; simp
        have HG := Lib.hid f
        clear f2 f
        go_wp2_with fail
        refine (HE3.out _ ((HC.out.fr (Fr.alloc _ _)).fr HG.out)).mono ?_
        rintro e w3 ⟨rfl, rfl⟩
        go_wp2_with fail
        go_ret
        refine ⟨ret_bool ?_, (Fr.alloc _ _).trans HG.out⟩
        rw [H.out]
        simp
    · have H := Lib.hid (show okG ⟨S, C⟩ = false by simp [okG, hk])
      have hk' : ¬ (C.length : Int) ≤ 4 := by omega
      have hk2 : (4 : Int) < (C.length : Int) := by omega
      have hS8 : (S.length : Int) = 8 := by omega
      simp only [hl] at HF ⊢
      clear h hc hl hk
      go_enter Tryd.func27, Tryd.ntmps27
      go_wp2_with fail
      go_ret
      exact ⟨ret_bool H.out.symm, HF.out⟩
  · have H := Lib.hid (show okG ⟨S, C⟩ = false by simp [okG, hl])
    have hd : ((S.length : Int) != 8) = true := by simp; omega
    have hn : ¬ (S.length : Int) = 8 := by omega
    clear h hc hl
    go_enter Tryd.func27, Tryd.ntmps27
    go_wp2_with fail
    all_goals first | (exfalso; omega) | (go_ret; exact ⟨ret_bool H.out.symm, HF.out⟩)
theorem cR_case (k : Int) (x : Sl) (hk : 0 ≤ k) : (x.u = false ∧ x.p ≠ 0) ∨ (x.u = false ∧ x.p = 0 ∧ x.t ≠ 0) ∨ (x.u = false ∧ x.p = 0 ∧ x.t = 0 ∧ x.s ≠ 0) ∨ (x.u = false ∧ x.p = 0 ∧ x.t = 0 ∧ x.s = 0) ∨ (x.u = true ∧ okB x.p = false) ∨ (x.u = true ∧ okB x.p = true ∧ x.p % 8 ≠ k) ∨ (x.u = true ∧ okB x.p = true ∧ x.p % 8 = k ∧ okB x.t = false) ∨ (x.u = true ∧ okB x.p = true ∧ x.p % 8 = k ∧ okB x.t = true ∧ ¬ (0 ≤ x.s ∧ x.s ≤ 3)) ∨ (x.u = true ∧ okB x.p = true ∧ x.p % 8 = k ∧ okB x.t = true ∧ 0 ≤ x.s ∧ x.s ≤ 3) := by
  cases x.u <;> cases okB x.p <;> cases okB x.t <;> simp <;> omega
set_option maxHeartbeats 4000000 in
theorem spec_GueOk (x : Gu) (aS aC : Option Addr) (cS cC : Nat) (w : World) (h : Src4 w x.S aS) (hc : Src w x.C.length (ivl x.C) aC) (hS : x.S.length ≤ 100000000) (hC : x.C.length ≤ 100000000) :
    Calls Tryd.prog 18 #[.agg #[.slice aS x.S.length cS, .slice aC x.C.length cC]] w fun e w' => e = .returned (.bool (okG x)) ∧ Fr w w' := by
  obtain ⟨S, C⟩ := x
  simp only at h hc hS hC ⊢
  have HF := Lib.hid (Fr.alloc w (.cells #[.slice aS S.length cS, .slice aC C.length cC] 30))
  by_cases hl : S.length = 8
  · by_cases hk : C.length ≤ 4
    · have F1 := HF.out
      have hS8 : (S.length : Int) = 8 := by omega
      have hk' : (C.length : Int) ≤ 4 := by omega
      have E1 := spec_l4Words C aC cC (C.length : Int) _ (hc.fr F1) hC
      have H := Lib.hid (show okG ⟨S, C⟩ = (okLs S && C.all okB) by simp [okG, hl, hk])
      have HL := Lib.hid hl
      simp only [hl] at E1 F1 ⊢
      cases hb : C.all okB
      · rw [hb] at E1 H
        have HE1 := Lib.hid E1
        clear h hc hS hC E1 hl hb hS8 HF
        have HF1 := Lib.hid F1
        clear F1
        go_enter Tryd.func18, Tryd.ntmps18
        go_wp2_with fail
        refine HE1.out.mono ?_
        rintro e w1 ⟨rfl, rfl⟩
        go_wp2_with fail
        go_ret
        exact ⟨ret_bool (by rw [H.out]; simp), HF1.out⟩
      · rw [hb] at E1 H
        have HE1 := Lib.hid E1
        obtain ⟨g, o, rfl, hg, hr⟩ := h (by omega)
        have HR := Lib.hid hr
        have HF1 := Lib.hid F1
        clear h hc hS hC E1 hl hb hS8 HF F1 hr
        go_enter Tryd.func18, Tryd.ntmps18
        go_wp2_with fail
        refine HE1.out.mono ?_
        rintro e w1 ⟨rfl, rfl⟩
        go_wp2_with fail
        go_loopw [3] (fun i wr => ∃ p : Nat, p ≤ 8 ∧ i = .int .i64 p ∧ (∀ i : Nat, i < p → okL (i : Int) (S.getD i sl0) = true) ∧ Fr (w.alloc (.cells #[.slice (some ⟨g, o, none⟩) 8 cS, .slice aC C.length cC] 30)) wr) (fun i _ => 8 - (intOf i).toNat)
        case atStart => exact ⟨0, Nat.zero_le _, rfl, fun i hi => absurd hi (Nat.not_lt_zero _), Below.refl _ _⟩
        case round =>
          obtain ⟨p, hp, rfl, hok, hf⟩ := hrel
          have hz0 : w.heap.size < (w.alloc (.cells #[.slice (some ⟨g, o, none⟩) 8 cS, .slice aC C.length cC] 30)).heap.size := by simp
          have c0 : wr.cell? ⟨w.heap.size, 0, none⟩ = some (.slice (some ⟨g, o, none⟩) 8 cS) := by rw [hf.cell hz0]; simp
          have HO := Lib.hid hok
          have HW := Lib.hid hf
          clear hok hf hz0
          by_cases hlt : p < 8
          · have hlt' : (p : Int) < 8 := by omega
            have hp0 : 0 ≤ (p : Int) := by omega
            obtain ⟨d0, d1, d2, d3⟩ := slot_at (range_fr HR.out (HF1.out.trans HW.out) hg) p (by rw [HL.out]; exact hlt)
            have HY := Lib.hid (fun h => okLs_not (S := S) (p := p) (by rw [HL.out]; exact hlt) h)
            have HZ : Hid (okL (p : Int) (S.getD p sl0) = true → ∀ i : Nat, i < p + 1 → okL (i : Int) (S.getD i sl0) = true) := Lib.hid (fun h i hi => by
              rcases Nat.lt_succ_iff_lt_or_eq.1 hi with h' | h'
              · exact HO.out i h'
              · rw [h']; exact h)
            obtain ⟨x, hx⟩ : ∃ x, x = S.getD p sl0 := ⟨_, rfl⟩
            rw [← hx] at d0 d1 d2 d3 HY HZ
            clear hx
            obtain ⟨xu, xp, xt, xs⟩ := x
            simp only at d0 d1 d2 d3
            have hc8 := cR_case (p : Int) ⟨xu, xp, xt, xs⟩ hp0
            simp only at hc8
            rcases hc8 with ⟨rfl, h1⟩ | ⟨rfl, rfl, h1⟩ | ⟨rfl, rfl, rfl, h1⟩ | ⟨rfl, rfl, rfl, rfl⟩ | ⟨rfl, h1⟩ | ⟨rfl, h1, h2⟩ | ⟨rfl, h1, h2, h3⟩ | ⟨rfl, h1, h2, h3, h4⟩ | ⟨rfl, h1, h2, h3, h4, h5⟩
            · have H1 := Lib.hid (HY.out (by simp [okL, h1]))
              clear HY HZ
              go_wp2_with (first | (go_at_call 19; refine (spec_WrdOk _ _).mono ?_; rintro e w' ⟨rfl, rfl⟩) | (go_at_call 61; refine (spec_l1In _ _ _ _).mono ?_; rintro e w' ⟨rfl, rfl⟩))
              all_goals first | (exfalso; omega) | (go_ret; exact ⟨ret_bool (by rw [H.out, H1.out]; rfl), (HF1.out.trans HW.out).trans (Fr.alloc _ _)⟩)
            · have H1 := Lib.hid (HY.out (by simp [okL, h1]))
              clear HY HZ
              go_wp2_with (first | (go_at_call 19; refine (spec_WrdOk _ _).mono ?_; rintro e w' ⟨rfl, rfl⟩) | (go_at_call 61; refine (spec_l1In _ _ _ _).mono ?_; rintro e w' ⟨rfl, rfl⟩))
              all_goals first | (exfalso; omega) | (go_ret; exact ⟨ret_bool (by rw [H.out, H1.out]; rfl), (HF1.out.trans HW.out).trans (Fr.alloc _ _)⟩)
            · have H1 := Lib.hid (HY.out (by simp [okL, h1]))
              clear HY HZ
              go_wp2_with (first | (go_at_call 19; refine (spec_WrdOk _ _).mono ?_; rintro e w' ⟨rfl, rfl⟩) | (go_at_call 61; refine (spec_l1In _ _ _ _).mono ?_; rintro e w' ⟨rfl, rfl⟩))
              all_goals first | (exfalso; omega) | (go_ret; exact ⟨ret_bool (by rw [H.out, H1.out]; rfl), (HF1.out.trans HW.out).trans (Fr.alloc _ _)⟩)
            · have H1 := Lib.hid (HZ.out (by simp [okL]))
              clear HY HZ
              go_wp2_with (first | (go_at_call 19; refine (spec_WrdOk _ _).mono ?_; rintro e w' ⟨rfl, rfl⟩) | (go_at_call 61; refine (spec_l1In _ _ _ _).mono ?_; rintro e w' ⟨rfl, rfl⟩))
              all_goals first | (exfalso; omega) | (go_roundw
                                                    case rel => exact ⟨p + 1, by omega, by go_num, H1.out, HW.out.trans (Fr.alloc _ _)⟩
                                                    case measure => (simp [intOf]; omega))
            · have H1 := Lib.hid (HY.out (by simp [okL, h1]))
              clear HY HZ
              go_wp2_with (first | (go_at_call 19; refine (spec_WrdOk _ _).mono ?_; rintro e w' ⟨rfl, rfl⟩) | (go_at_call 61; refine (spec_l1In _ _ _ _).mono ?_; rintro e w' ⟨rfl, rfl⟩))
              all_goals first | (exfalso; omega) | (go_ret; exact ⟨ret_bool (by rw [H.out, H1.out]; rfl), (HF1.out.trans HW.out).trans (Fr.alloc _ _)⟩)
            · have H1 := Lib.hid (HY.out (by simp [okL, h1, h2]))
              clear HY HZ
              have hm : Int.tmod xp 8 = xp % 8 := Int.tmod_eq_emod_of_nonneg (okB_true h1).1
              have h2' : (Int.tmod xp 8 != (p : Int)) = true := by rw [hm]; simpa using h2
              go_wp2_with (first | (go_at_call 19; refine (spec_WrdOk _ _).mono ?_; rintro e w' ⟨rfl, rfl⟩) | (go_at_call 61; refine (spec_l1In _ _ _ _).mono ?_; rintro e w' ⟨rfl, rfl⟩))
              all_goals first | (exfalso; omega) | (go_ret; exact ⟨ret_bool (by rw [H.out, H1.out]; rfl), (HF1.out.trans HW.out).trans (Fr.alloc _ _)⟩)
            · have H1 := Lib.hid (HY.out (by simp [okL, h1, h2, h3]))
              clear HY HZ
              have hm : Int.tmod xp 8 = xp % 8 := Int.tmod_eq_emod_of_nonneg (okB_true h1).1
              have h2' : Int.tmod xp 8 = (p : Int) := by rw [hm]; exact h2
              go_wp2_with (first | (go_at_call 19; refine (spec_WrdOk _ _).mono ?_; rintro e w' ⟨rfl, rfl⟩) | (go_at_call 61; refine (spec_l1In _ _ _ _).mono ?_; rintro e w' ⟨rfl, rfl⟩))
              all_goals first | (exfalso; omega) | (go_ret; exact ⟨ret_bool (by rw [H.out, H1.out]; rfl), (HF1.out.trans HW.out).trans (Fr.alloc _ _)⟩)
            · have H1 := Lib.hid (HY.out (by simp [okL, h1, h2, h3, show (decide (0 ≤ xs) && decide (xs ≤ 3)) = false by simp; omega]))
              clear HY HZ
              have hm : Int.tmod xp 8 = xp % 8 := Int.tmod_eq_emod_of_nonneg (okB_true h1).1
              have h2' : Int.tmod xp 8 = (p : Int) := by rw [hm]; exact h2
              have h6 : decide (0 ≤ xs ∧ xs ≤ 3) = false := by simp; omega
              go_wp2_with (first | (go_at_call 19; refine (spec_WrdOk _ _).mono ?_; rintro e w' ⟨rfl, rfl⟩) | (go_at_call 61; refine (spec_l1In _ _ _ _).mono ?_; rintro e w' ⟨rfl, rfl⟩))
              all_goals first | (exfalso; omega) | (go_ret; exact ⟨ret_bool (by rw [H.out, H1.out]; rfl), (HF1.out.trans HW.out).trans (Fr.alloc _ _)⟩)
            · have H1 := Lib.hid (HZ.out (by simp [okL, h1, h2, h3, h4, h5]))
              clear HY HZ
              have hm : Int.tmod xp 8 = xp % 8 := Int.tmod_eq_emod_of_nonneg (okB_true h1).1
              have h2' : Int.tmod xp 8 = (p : Int) := by rw [hm]; exact h2
              have h6 : decide (0 ≤ xs ∧ xs ≤ 3) = true := by simp; omega
              go_wp2_with (first | (go_at_call 19; refine (spec_WrdOk _ _).mono ?_; rintro e w' ⟨rfl, rfl⟩) | (go_at_call 61; refine (spec_l1In _ _ _ _).mono ?_; rintro e w' ⟨rfl, rfl⟩))
              all_goals first | (exfalso; omega) | (go_roundw
                                                    case rel => exact ⟨p + 1, by omega, by go_num, H1.out, HW.out.trans (Fr.alloc _ _)⟩
                                                    case measure => (simp [intOf]; omega))
          · have hge : ¬ (p : Int) < 8 := by omega
            have H1 := Lib.hid (okLs_of HO.out (by rw [HL.out]; omega : S.length ≤ p))
            go_wp2
            go_ret
            exact ⟨ret_bool (by rw [H.out, H1.out]; rfl), HF1.out.trans HW.out⟩
    · have H := Lib.hid (show okG ⟨S, C⟩ = false by simp [okG, hk])
      have hk2 : (4 : Int) < (C.length : Int) := by omega
      have hS8 : (S.length : Int) = 8 := by omega
      simp only [hl] at HF ⊢
      clear h hc hl hk
      go_enter Tryd.func18, Tryd.ntmps18
      go_wp2_with fail
      go_ret
      exact ⟨ret_bool H.out.symm, HF.out⟩
  · have H := Lib.hid (show okG ⟨S, C⟩ = false by simp [okG, hl])
    have hd : ((S.length : Int) != 8) = true := by simp; omega
    have hn : ¬ (S.length : Int) = 8 := by omega
    clear h hc hl
    go_enter Tryd.func18, Tryd.ntmps18
    go_wp2_with fail
    all_goals first | (exfalso; omega) | (go_ret; exact ⟨ret_bool H.out.symm, HF.out⟩)

end Go.Proofs.YtpdlcjjmhcfkjaaDoor
