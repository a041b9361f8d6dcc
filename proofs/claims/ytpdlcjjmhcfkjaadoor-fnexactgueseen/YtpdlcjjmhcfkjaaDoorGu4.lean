/- Rows cloned; the program's GueLearn. -/
import Derived.Test.YtpdlcjjmhcfkjaaDoorGu3
namespace Go.Proofs.YtpdlcjjmhcfkjaaDoor
open Go.RowKit
set_option linter.unusedVariables false
set_option linter.unusedSimpArgs false
/-- A row of numbers that the call owns, with the room that its slice says; or an empty one. -/
def Rc (B : Nat) (u : World) (xs : List Int) (ao : Option Addr) (c : Nat) : Prop := (xs.length = 0 ∧ c = 0) ∨ ∃ g, ao = some ⟨g, 0, none⟩ ∧ B ≤ g ∧ Ro u g xs ∧ Ca u g xs.length c ∧ 0 < xs.length
theorem Rc.but {B : Nat} {u u' : World} {xs : List Int} {ao : Option Addr} {c : Nat} {L : List Nat} (h : Rc B u xs ao c) (f : But L u u') (hL : ∀ k, k ∈ L → k < B) : Rc B u' xs ao c := by
  rcases h with h | ⟨g, e, hB, r, k, h0⟩
  · exact .inl h
  · exact .inr ⟨g, e, hB, r.but f (fun hm => by have := hL g hm; omega), k.but f (fun hm => by have := hL g hm; omega), h0⟩
theorem Rc.fr {B : Nat} {u u' : World} {xs : List Int} {ao : Option Addr} {c : Nat} (h : Rc B u xs ao c) (f : Fr u u') : Rc B u' xs ao c := h.but (L := []) (But.of f) (by simp)
theorem Rc.mono {B B' : Nat} {u : World} {xs : List Int} {ao : Option Addr} {c : Nat} (h : Rc B u xs ao c) (hB : B' ≤ B) : Rc B' u xs ao c := by
  rcases h with h | ⟨g, e, h1, r⟩
  · exact .inl h
  · exact .inr ⟨g, e, by omega, r⟩
theorem Rc.vc {B : Nat} {u : World} {xs : List Int} {ao : Option Addr} {c : Nat} (h : Rc B u xs ao c) : Vc B u xs.length (ivl xs) ao := by
  rcases h with h | ⟨g, rfl, hB, r, _, _⟩
  · rw [h.1]; exact Vc.nil _ _ _ _
  · exact ⟨fun _ => ⟨g, rfl, hB, r.lt, r.cel, r.fro⟩⟩
/-- Nothing is appended. -/
theorem wp_append_zero {P : Program} {Q : Exit → Act → World → Prop} {o : Oper} {a : Act} {w : World} {K : Act → World → Prop} (s x : Operand) (t : TypeId) (ho : o.op = .call { callee := .builtin .append, args := #[s, x], argTypes := #[t, t] })
    (e : TypeId) (ti : TypeInfo) (ht : P.underlying t = some (.slice e)) (hi : P.info? e = some ti) (ao : Option Addr) (n c : Nat) (hn : n ≤ c) (hs : a.eval s = .slice ao n c) (ax : Option Addr) (cx : Nat) (hx : a.eval x = .slice ax 0 cx)
    (h : K (a.put o.dst (.slice ao n c)) w) : o.wp P a w K Q := by
  have hsz : (sizeOf e).run P w = .ok ti.size w := by simp [sizeOf, typeInfo, hi]
  unfold Oper.wp execOp
  have hrun : (Builtin.append_ #[t, t] o.type #[.slice ao n c, .slice ax 0 cx]).run P w = .ok (.slice ao n c) w := by
    cases ao <;> cases ax <;> simp [Builtin.append_, run_underlying ht, sizeOf, typeInfo, hi, Builtin.lenOf, hn, Builtin.firstCells, storeCells, loadCells, loadCellsFrom]
  simp only [ho, resolve, invoke, builtin, Sem.run_bind, Sem.run_pure, Result.andThen_ok, List.map_toArray, List.map_cons, List.map_nil, hs, hx, hrun]
  exact h
/-- Behind a clone of a row. -/
def CpC (xs : List Int) (w : World) (e : Ending) (w' : World) : Prop := ∃ ao c, e = .returned (.slice ao xs.length c) ∧ Rc w.heap.size w' xs ao c ∧ Fr w w'
set_option maxRecDepth 8000 in
set_option maxHeartbeats 1000000 in
theorem slices_CloneC (xs : List Int) (ao : Option Addr) (cap : Nat) (w : World) (h : Src w xs.length (ivl xs) ao) (hn : xs.length ≤ 100000000) :
    Calls Tryd.prog 69 #[.slice ao xs.length cap] w (CpC xs w) := by
  obtain ⟨i0, hi, hz0, hz1, hz2⟩ := info_parts info_intV
  by_cases h0 : 0 < xs.length
  · obtain ⟨g, o, rfl, hg, hc⟩ := h h0
    have HC := Lib.hid (fun (t : TypeId) => cells_of xs (u := w.alloc (.cells #[] t)) (g := g) (o := o) (fun i hi => by rw [(Fr.alloc w _).cell (show g < w.heap.size from hg)]; exact hc i hi))
    clear hc h
    have hnil : ∀ (w : World), Sem.run Tryd.prog (binOp BinOp.eql 23 (.slice (some ⟨g, o, none⟩) xs.length cap) (.slice none 0 0)) w = .ok (.bool false) w := by intro w; kernel_rfl
    go_enter Tryd.func69, Tryd.ntmps69
    go_wp2_with (at_builtin; refine wpList_plain rfl fun K hK => wp_append_new _ _ 23 rfl 3 i0 (.int .i64 0) Tryd.underlying23 hi hz0 hz1 hz2 _ rfl ⟨g, o, none⟩ _ _ (xs.map (Value.int .i64)) rfl (by simp) (HC.out _) (ints_one xs) h0 hn ?_; intro c zs hzs; refine hK _ _ ?_)
    go_ret
    refine ⟨_, c, rfl, .inr ⟨_, rfl, ?_, Ro.drew (by have := ro_new (w.alloc (.cells #[] 3)) xs zs 3; simpa using this), Ca.but (L := []) (by have := ca_new (w.alloc (.cells #[] 3)) xs zs c (hzs rfl); simpa using this) (But.refl _ _).drew (by simp), h0⟩, ?_⟩
    · simp
    · (repeat' first | (with_reducible exact Below.refl _ _) | (with_reducible assumption) | ((with_reducible refine Below.setCell ?_ ?hb _); (case hb => first | exact Nat.le_refl _ | (simp; done) | (simp; omega) | omega)) | ((with_reducible refine Below.alloc ?_ ?hb _); (case hb => first | exact Nat.le_refl _ | (simp; done) | (simp; omega) | omega)) | (with_reducible refine Below.drew ?_))
  · have hz : xs.length = 0 := by omega
    have HZ := Lib.hid hz
    rw [hz]
    clear h h0 hn hz
    cases ao with
    | none =>
      have hnil : ∀ (w : World), Sem.run Tryd.prog (binOp BinOp.eql 23 (.slice none 0 cap) (.slice none 0 0)) w = .ok (.bool true) w := by intro w; kernel_rfl
      go_enter Tryd.func69, Tryd.ntmps69
      go_wp2_with fail
      go_ret
      exact ⟨none, 0, by rw [HZ.out]; rfl, .inl ⟨HZ.out, rfl⟩, Below.refl _ _⟩
    | some g =>
      have hnil : ∀ (w : World), Sem.run Tryd.prog (binOp BinOp.eql 23 (.slice (some g) 0 cap) (.slice none 0 0)) w = .ok (.bool false) w := by intro w; kernel_rfl
      go_enter Tryd.func69, Tryd.ntmps69
      go_wp2_with (at_builtin; refine wpList_plain rfl fun K hK => wp_append_zero _ _ 23 rfl 3 i0 Tryd.underlying23 hi _ _ _ (Nat.le_refl _) rfl _ _ rfl ?_; refine hK _ _ ?_)
      go_ret
      refine ⟨_, 0, by rw [HZ.out]; rfl, .inl ⟨HZ.out, rfl⟩, ?_⟩
      (repeat' first | (with_reducible exact Below.refl _ _) | (with_reducible assumption) | ((with_reducible refine Below.setCell ?_ ?hb _); (case hb => first | exact Nat.le_refl _ | (simp; done) | (simp; omega) | omega)) | ((with_reducible refine Below.alloc ?_ ?hb _); (case hb => first | exact Nat.le_refl _ | (simp; done) | (simp; omega) | omega)) | (with_reducible refine Below.drew ?_))
def glSF (B b t7 : Nat) (x : Gu) (aC : Option Addr) (cC : Nat) : Nat → Value → World → Prop
  | 0, v, _ => v = .slice (some ⟨t7, 0, none⟩) 8 8
  | 1, v, _ => v = .pointer (some ⟨b, 1, none⟩)
  | 2, v, _ => v = .slice aC x.C.length cC
  | 3, v, u => ∃ ao c, v = .slice ao x.C.length c ∧ Rc B u x.C ao c
  | 4, v, u => ∃ ao c, v = .agg #[.slice (some ⟨t7, 0, none⟩) 8 8, .slice ao x.C.length c] ∧ Rc B u x.C ao c
  | _, _, _ => True
/-- What GueLearn answers. -/
def learnA (x : Gu) (pc tt : Int) : Gu := if okG x && (okB pc && okB tt) then learnG x pc tt else gu0
set_option maxRecDepth 8000 in
set_option maxHeartbeats 4000000 in
theorem impl_GueLearn_ok (x : Gu) (aS aC : Option Addr) (cS cC : Nat) (pc tt : Int) (w : World) (h : Src4 w x.S aS) (hc : Src w x.C.length (ivl x.C) aC) (ho : OkG x) (hp : okB pc = true) (ht : okB tt = true) :
    Calls Tryd.prog 29 #[.agg #[.slice aS x.S.length cS, .slice aC x.C.length cC], .int .i64 pc, .int .i64 tt] w (GuP (learnG x pc tt) w) := by
  have hb := okB_true hp
  have F2 : Fr w ((w.alloc (.cells #[.slice aS x.S.length cS, .slice aC x.C.length cC] 30)).alloc (.cells #[.slice none 0 0, .slice none 0 0] 30)) := by (repeat' first | (with_reducible exact Below.refl _ _) | (with_reducible assumption) | ((with_reducible refine Below.setCell ?_ ?hb _); (case hb => first | exact Nat.le_refl _ | (simp; done) | (simp; omega) | omega)) | ((with_reducible refine Below.alloc ?_ ?hb _); (case hb => first | exact Nat.le_refl _ | (simp; done) | (simp; omega) | omega)) | (with_reducible refine Below.drew ?_))
  have HF2 := Lib.hid F2
  have HB2 := Lib.hid ((Box2.new w (.slice aS x.S.length cS) (.slice aC x.C.length cC) 30 _ rfl).fr (Fr.alloc _ (.cells #[.slice none 0 0, .slice none 0 0] 30)))
  have HZ2 := Lib.hid (Box2.new (w.alloc (.cells #[.slice aS x.S.length cS, .slice aC x.C.length cC] 30)) (.slice none 0 0) (.slice none 0 0) 30 (w.heap.size + 1) (by simp))
  have hs2 : ((w.alloc (.cells #[.slice aS x.S.length cS, .slice aC x.C.length cC] 30)).alloc (.cells #[.slice none 0 0, .slice none 0 0] 30)).heap.size = w.heap.size + 2 := by simp
  have HS2 := Lib.hid hs2
  have HS := Lib.hid h
  have HC := Lib.hid hc
  have HO := Lib.hid ho
  have HP := Lib.hid hp
  have HT := Lib.hid ht
  have HBD := Lib.hid hb
  clear F2 h hc ho hs2
  go_enter Tryd.func29, Tryd.ntmps29
  go_upto_region 1 with fail
  generalize ((w.alloc (.cells #[.slice aS x.S.length cS, .slice aC x.C.length cC] 30)).alloc (.cells #[.slice none 0 0, .slice none 0 0] 30)) = u2 at *
  obtain ⟨_, c0, c1, _, _⟩ := HB2.out
  have hl8 := HO.out.Sl
  have E1 := impl_GueOk x aS aC cS cC u2 (HS.out.fr HF2.out) (HC.out.fr HF2.out) (by have := HO.out.Sl; omega) (by have := HO.out.Cl; omega)
  rw [(okG_iff x).2 HO.out] at E1
  have HE1 := Lib.hid E1
  have W1 := fun w => impl_WrdOk pc w
  have W2 := fun w => impl_WrdOk tt w
  rw [HP.out] at W1
  rw [HT.out] at W2
  have HW1 := Lib.hid W1
  have HW2 := Lib.hid W2
  clear E1 W1 W2 hl8 hp ht hb
  go_wp2_with fail
  refine HE1.out.mono ?_
  rintro e u3 ⟨rfl, f3⟩
  have HF3 := Lib.hid (HF2.out.trans f3)
  have HB3 := Lib.hid (HB2.out.fr f3)
  have HZ3 := Lib.hid (HZ2.out.fr f3)
  have HS3 := Lib.hid (show w.heap.size + 2 ≤ u3.heap.size by have := HS2.out; have := f3.size; omega)
  clear HF2 HB2 HZ2 HS2 f3 c0 c1 HE1
  obtain ⟨_, c0, c1, _, _⟩ := HB3.out
  go_wp2_with fail
  refine (HW1.out _).mono ?_
  rintro e u3' ⟨rfl, rfl⟩
  go_wp2_with fail
  refine (HW2.out _).mono ?_
  rintro e u3' ⟨rfl, rfl⟩
  go_wp2_with fail
  refine (impl_slotsOf x aS aC cS cC u3 (HS.out.fr HF3.out) HO.out.Sl).mono ?_
  rintro e u4 ⟨rfl, f4⟩
  have HF4 := Lib.hid (HF3.out.trans f4)
  have HB4 := Lib.hid (HB3.out.fr f4)
  have HZ4 := Lib.hid (HZ3.out.fr f4)
  have HS4 := Lib.hid (show w.heap.size + 2 ≤ u4.heap.size by have := HS3.out; have := f4.size; omega)
  clear HF3 HB3 HZ3 HS3 f4 c0 c1
  go_wp2_with fail
  refine (impl_slots_learned x.S pc tt u4 HO.out.Sl HO.out.S HBD.out.1 HBD.out.2).mono ?_
  rintro e u5 ⟨rfl, f5⟩
  have HL8 : Hid ((learnG x pc tt).S.length = 8) := Lib.hid (learnG_ok HO.out HP.out HT.out).Sl
  have HSZ := Lib.hid (show w.heap.size + 2 ≤ u5.heap.size by have := HS4.out; have := f5.size; omega)
  have HF5 := Lib.hid (HF4.out.trans f5)
  have HB5 := Lib.hid (HB4.out.fr f5)
  have HZ5 := Lib.hid (HZ4.out.fr f5)
  have HN := Lib.hid (show x.C.length ≤ 100000000 by have := HO.out.Cl; omega)
  clear HF4 HB4 HZ4 HS4 f5
  have hLS : x.S.set (ix pc) (learnL (x.S.getD (ix pc) sl0) pc tt) = (learnG x pc tt).S := rfl
  simp only [hLS]
  clear hLS
  go_upto_region 4 with (refine wpList_store_new rfl 63 _ _ rfl u5 u5.heap.size rfl _ (cls (learnG x pc tt).S).toArray rfl rfl (arr_info HL8.out) (by rw [cls32 HL8.out]; rfl) (arr_all _) ?_)
  have HA : Hid (Ro4 (u5.alloc (.cells (cls (learnG x pc tt).S).toArray 63)) u5.heap.size (learnG x pc tt).S) := Lib.hid (ro4_block (cur := (cls (learnG x pc tt).S).toArray) (heap_alloc_new u5 _) (fun j v hv => by simpa using hv))
  have HF := Lib.hid (HF5.out.trans (Fr.alloc u5 (.cells (cls (learnG x pc tt).S).toArray 63)))
  have HB := Lib.hid (HB5.out.fr (Fr.alloc u5 (.cells (cls (learnG x pc tt).S).toArray 63)))
  have HZ := Lib.hid (HZ5.out.fr (Fr.alloc u5 (.cells (cls (learnG x pc tt).S).toArray 63)))
  have hu0 : (u5.alloc (.cells (cls (learnG x pc tt).S).toArray 63)).heap.size = u5.heap.size + 1 := by simp
  clear HF5 HB5 HZ5
  generalize (u5.alloc (.cells (cls (learnG x pc tt).S).toArray 63)) = u0 at *
  obtain ⟨t7, ht7⟩ : ∃ t7, u5.heap.size = t7 := ⟨_, rfl⟩
  rw [ht7] at HA hu0 HSZ ⊢
  clear ht7
  have hs7 := HSZ.out
  refine wp_region_rows 32 5 [] (fun _ => []) lb0_in (fun i => false) (glSF u0.heap.size w.heap.size t7 x aC cC) ?mono (by kernel_rfl) (by kernel_rfl) rfl (by kernel_rfl) (by kernel_rfl) (by decide) ?step ?fin
  case mono =>
    intro i j v u u' hi hij hdj hsz h hB
    rcases j with _ | _ | _ | _ | _ | j
    · exact h
    · exact h
    · exact h
    · obtain ⟨ao, c, e, r⟩ := h
      exact ⟨ao, c, e, r.but hB (fun k hk => by cases hk)⟩
    · obtain ⟨ao, c, e, r⟩ := h
      exact ⟨ao, c, e, r.but hB (fun k hk => by cases hk)⟩
    · trivial
  case step =>
    intro i o ho hiz
    rcases i with _ | _ | _ | _ | _ | _ | i
    · clear hiz
      cases ho
      intro act u hB hL hdep hap hnw
      replace hB := hB [] (fun j _ k hk => lb0_in j k hk)
      obtain ⟨ysl, ha, hy⟩ := hL.puts [27, 28, 29, 30, 31] (by kernel_rfl)
      clear hdep hL hy hap hnw
      simp only [List.foldl, List.setIfInBounds_toArray, List.set_cons_succ, List.set_cons_zero] at ha
      subst ha
      refine wpOp_step rfl (fun K hK => ?_)
      go_simp
      exact hK _ _ ⟨_, rfl, (fun h => by cases h), rfl, But.refl _ _, (fun h => by cases h)⟩
    · clear hiz
      cases ho
      intro act u hB hL hdep hap hnw
      replace hB := hB [] (fun j _ k hk => lb0_in j k hk)
      obtain ⟨ysl, ha, hy⟩ := hL.puts [27, 28, 29, 30, 31] (by kernel_rfl)
      clear hdep hL hy hap hnw
      simp only [List.foldl, List.setIfInBounds_toArray, List.set_cons_succ, List.set_cons_zero] at ha
      subst ha
      refine wpOp_step rfl (fun K hK => ?_)
      go_simp
      exact hK _ _ ⟨_, rfl, (fun h => by cases h), rfl, But.refl _ _, (fun h => by cases h)⟩
    · clear hiz
      cases ho
      intro act u hB hL hdep hap hnw
      replace hB := hB [] (fun j _ k hk => lb0_in j k hk)
      have d1 := hdep { on := 1, ground := .data } (by simp) rfl _ rfl
      obtain ⟨ysl, ha, hy⟩ := hL.puts [27, 28, 29, 30, 31] (by kernel_rfl)
      have e1 : ysl 28 = _ := (hy 28).symm.trans d1
      clear hdep hL hy hap hnw d1
      simp only [List.foldl, List.setIfInBounds_toArray, List.set_cons_succ, List.set_cons_zero, e1] at ha
      subst ha
      clear e1
      have Bx := HB.out.but hB (by simp)
      obtain ⟨lt, c0, c1, _, _⟩ := Bx
      refine wpOp_step rfl (fun K hK => ?_)
      go_simp
      exact hK _ _ ⟨_, rfl, (fun h => by cases h), rfl, But.refl _ _, (fun h => by cases h)⟩
    · clear hiz
      cases ho
      intro act u hB hL hdep hap hnw
      replace hB := hB [] (fun j _ k hk => lb0_in j k hk)
      have d2 := hdep { on := 2, ground := .data } (by simp) rfl _ rfl
      obtain ⟨ysl, ha, hy⟩ := hL.puts [27, 28, 29, 30, 31] (by kernel_rfl)
      have e2 : ysl 29 = _ := (hy 29).symm.trans d2
      clear hdep hL hy hap hnw d2
      simp only [List.foldl, List.setIfInBounds_toArray, List.set_cons_succ, List.set_cons_zero, e2] at ha
      subst ha
      clear e2
      refine wpOp_step rfl (fun K hK => ?_)
      go_simp
      refine (slices_CloneC x.C aC cC u (HC.out.fr (fr_but HF.out hB (fun k hk => by cases hk))) HN.out).mono ?_
      rintro e u' ⟨ao, c, rfl, r, f⟩
      go_simp
      exact hK _ _ ⟨_, rfl, (fun h => by cases h), ⟨ao, c, rfl, r.mono hB.size⟩, But.of f, (fun h => by cases h)⟩
    · clear hiz
      cases ho
      intro act u hB hL hdep hap hnw
      replace hB := hB [] (fun j _ k hk => lb0_in j k hk)
      have d0 := hdep { on := 0, ground := .data } (by simp) rfl _ rfl
      have d3 := hdep { on := 3, ground := .data } (by simp) rfl _ rfl
      obtain ⟨ysl, ha, hy⟩ := hL.puts [27, 28, 29, 30, 31] (by kernel_rfl)
      have e0 : ysl 27 = _ := (hy 27).symm.trans d0
      obtain ⟨ao3, c3, h3, r3⟩ := d3
      have e3 : ysl 30 = .slice ao3 x.C.length c3 := (hy 30).symm.trans h3
      clear hdep hL hy hap hnw d0 h3
      simp only [List.foldl, List.setIfInBounds_toArray, List.set_cons_succ, List.set_cons_zero, e0, e3] at ha
      subst ha
      clear e0 e3
      refine wpOp_step rfl (fun K hK => ?_)
      go_simp
      exact hK _ _ ⟨_, rfl, (fun h => by cases h), ⟨ao3, c3, rfl, r3⟩, But.refl _ _, (fun h => by cases h)⟩
    · exact absurd rfl hiz
    · exact absurd ho (by simp)
  case fin =>
    intro act u hB hL hsf hap hnw
    have d4 := hsf 4 _ rfl (by decide)
    obtain ⟨ysl, ha, hy⟩ := hL.puts [27, 28, 29, 30, 31] (by kernel_rfl)
    obtain ⟨ao4, c4, h4, r4⟩ := d4
    have e4 : ysl 31 = .agg #[.slice (some ⟨t7, 0, none⟩) 8 8, .slice ao4 x.C.length c4] := (hy 31).symm.trans h4
    clear hL hsf hy hap hnw h4
    simp only [List.foldl, List.setIfInBounds_toArray, List.set_cons_succ, List.set_cons_zero, e4] at ha
    subst ha
    clear e4
    have Bz := HZ.out.but hB (by simp)
    have Bz0 := Bz
    obtain ⟨lt, c0, c1, f0, f1⟩ := Bz0
    refine wpOp_step rfl (fun K hK => ?_)
    go_simp
    refine hK _ _ ?_
    have Bn := Bz.set (.slice (some ⟨t7, 0, none⟩) 8 8) (.slice ao4 x.C.length c4)
    have z0 := Bn.c0
    have z1 := Bn.c1
    have hst : But [w.heap.size + 1] u ((u.setCell ⟨w.heap.size + 1, 0, none⟩ (.slice (some ⟨t7, 0, none⟩) 8 8)).setCell ⟨w.heap.size + 1, 1, none⟩ (.slice ao4 x.C.length c4)) := (But.refl _ _).set2 (w.heap.size + 1) _ _ (.inl (by simp))
    have HFin := Lib.hid (show Fr w _ from fr_but (fr_but HF.out hB (fun k hk => by cases hk)) hst (fun k hk => by have := List.mem_singleton.1 hk; omega))
    have HO := Lib.hid ((HA.out.but hB (by simp)).but hst (by simp; omega))
    have HRC := Lib.hid (r4.but hst (fun k hk => by have := List.mem_singleton.1 hk; omega))
    clear Bn Bz c0 c1 f0 f1 hst r4
    generalize ((u.setCell ⟨w.heap.size + 1, 0, none⟩ (.slice (some ⟨t7, 0, none⟩) 8 8)).setCell ⟨w.heap.size + 1, 1, none⟩ (.slice ao4 x.C.length c4)) = u9 at *
    go_wp2
    refine bodyPost_ret (v := .agg #[.slice (some ⟨t7, 0, none⟩) 8 8, .slice ao4 x.C.length c4]) (by simp [results, Tryd.results29, go_sem, z0, z1]) rfl ?_
    have hsz := HSZ.out
    refine ⟨_, ao4, 8, c4, by rw [HL8.out]; rfl, ⟨HO.out.vc (by omega), (HRC.out.mono (by omega)).vc, fun _ h0 b c hb hc => ?_⟩, HFin.out⟩
    cases hb
    rcases HRC.out with h | ⟨g, e, hB, _⟩
    · exact absurd h0 (by show ¬ 0 < x.C.length; omega)
    · rw [e] at hc
      cases hc
      show t7 ≠ g
      omega
set_option maxRecDepth 8000 in
set_option maxHeartbeats 1000000 in
theorem impl_GueLearn_n1 (x : Gu) (aS aC : Option Addr) (cS cC : Nat) (pc tt : Int) (w : World) (h : Src4 w x.S aS) (hc : Src w x.C.length (ivl x.C) aC) (hS : x.S.length ≤ 100000000) (hC : x.C.length ≤ 100000000) (h1 : okG x = false) :
    Calls Tryd.prog 29 #[.agg #[.slice aS x.S.length cS, .slice aC x.C.length cC], .int .i64 pc, .int .i64 tt] w (GuP gu0 w) := by
  have F2 : Fr w ((w.alloc (.cells #[.slice aS x.S.length cS, .slice aC x.C.length cC] 30)).alloc (.cells #[.slice none 0 0, .slice none 0 0] 30)) := by (repeat' first | (with_reducible exact Below.refl _ _) | (with_reducible assumption) | ((with_reducible refine Below.setCell ?_ ?hb _); (case hb => first | exact Nat.le_refl _ | (simp; done) | (simp; omega) | omega)) | ((with_reducible refine Below.alloc ?_ ?hb _); (case hb => first | exact Nat.le_refl _ | (simp; done) | (simp; omega) | omega)) | (with_reducible refine Below.drew ?_))
  have HF2 := Lib.hid F2
  have HB2 := Lib.hid ((Box2.new w (.slice aS x.S.length cS) (.slice aC x.C.length cC) 30 _ rfl).fr (Fr.alloc _ (.cells #[.slice none 0 0, .slice none 0 0] 30)))
  have HZ2 := Lib.hid (Box2.new (w.alloc (.cells #[.slice aS x.S.length cS, .slice aC x.C.length cC] 30)) (.slice none 0 0) (.slice none 0 0) 30 (w.heap.size + 1) (by simp))
  have E1 := impl_GueOk x aS aC cS cC _ (h.fr F2) (hc.fr F2) hS hC
  have W1 := fun w => impl_WrdOk pc w
  have W2 := fun w => impl_WrdOk tt w
  rw [h1] at E1

  have HE1 := Lib.hid E1
  have HW1 := Lib.hid W1
  have HW2 := Lib.hid W2
  clear F2 h hc hS hC E1 W1 W2
  clear h1
  go_enter Tryd.func29, Tryd.ntmps29
  go_upto_region 1 with fail
  generalize ((w.alloc (.cells #[.slice aS x.S.length cS, .slice aC x.C.length cC] 30)).alloc (.cells #[.slice none 0 0, .slice none 0 0] 30)) = u2 at *
  obtain ⟨_, c0, c1, _, _⟩ := HB2.out
  go_wp2_with fail
  refine HE1.out.mono ?_
  rintro e u3 ⟨rfl, f3⟩
  have HF3 := Lib.hid (HF2.out.trans f3)
  obtain ⟨_, z0, z1, zf0, zf1⟩ := HZ2.out.fr f3
  clear HF2 HB2 HZ2 f3 c0 c1 HE1
  go_wp2_with (first | (go_at_call 24; refine (HW1.out _).mono ?_; rintro e w' ⟨rfl, rfl⟩) | (go_at_call 24; refine (HW2.out _).mono ?_; rintro e w' ⟨rfl, rfl⟩))
  refine bodyPost_ret (v := .agg #[.slice none 0 0, .slice none 0 0]) (by simp [results, Tryd.results29, go_sem, World.cell?_setCell_other, World.cell?_setCell_same, z0, z1]) rfl ⟨none, none, 0, 0, rfl, VcG.nil _ _ _ _, ?_⟩
  exact fr_but HF3.out ((But.refl _ _).set2 (w.heap.size + 1) _ _ (.inl (by simp)) : But [w.heap.size + 1] _ _) (fun k hk => by have := List.mem_singleton.1 hk; omega)
set_option maxRecDepth 8000 in
set_option maxHeartbeats 1000000 in
theorem impl_GueLearn_n2 (x : Gu) (aS aC : Option Addr) (cS cC : Nat) (pc tt : Int) (w : World) (h : Src4 w x.S aS) (hc : Src w x.C.length (ivl x.C) aC) (hS : x.S.length ≤ 100000000) (hC : x.C.length ≤ 100000000) (h1 : okG x = true) (h2 : okB pc = false) :
    Calls Tryd.prog 29 #[.agg #[.slice aS x.S.length cS, .slice aC x.C.length cC], .int .i64 pc, .int .i64 tt] w (GuP gu0 w) := by
  have F2 : Fr w ((w.alloc (.cells #[.slice aS x.S.length cS, .slice aC x.C.length cC] 30)).alloc (.cells #[.slice none 0 0, .slice none 0 0] 30)) := by (repeat' first | (with_reducible exact Below.refl _ _) | (with_reducible assumption) | ((with_reducible refine Below.setCell ?_ ?hb _); (case hb => first | exact Nat.le_refl _ | (simp; done) | (simp; omega) | omega)) | ((with_reducible refine Below.alloc ?_ ?hb _); (case hb => first | exact Nat.le_refl _ | (simp; done) | (simp; omega) | omega)) | (with_reducible refine Below.drew ?_))
  have HF2 := Lib.hid F2
  have HB2 := Lib.hid ((Box2.new w (.slice aS x.S.length cS) (.slice aC x.C.length cC) 30 _ rfl).fr (Fr.alloc _ (.cells #[.slice none 0 0, .slice none 0 0] 30)))
  have HZ2 := Lib.hid (Box2.new (w.alloc (.cells #[.slice aS x.S.length cS, .slice aC x.C.length cC] 30)) (.slice none 0 0) (.slice none 0 0) 30 (w.heap.size + 1) (by simp))
  have E1 := impl_GueOk x aS aC cS cC _ (h.fr F2) (hc.fr F2) hS hC
  have W1 := fun w => impl_WrdOk pc w
  have W2 := fun w => impl_WrdOk tt w
  rw [h1] at E1
  rw [h2] at W1
  have HE1 := Lib.hid E1
  have HW1 := Lib.hid W1
  have HW2 := Lib.hid W2
  clear F2 h hc hS hC E1 W1 W2
  clear h1 h2
  go_enter Tryd.func29, Tryd.ntmps29
  go_upto_region 1 with fail
  generalize ((w.alloc (.cells #[.slice aS x.S.length cS, .slice aC x.C.length cC] 30)).alloc (.cells #[.slice none 0 0, .slice none 0 0] 30)) = u2 at *
  obtain ⟨_, c0, c1, _, _⟩ := HB2.out
  go_wp2_with fail
  refine HE1.out.mono ?_
  rintro e u3 ⟨rfl, f3⟩
  have HF3 := Lib.hid (HF2.out.trans f3)
  obtain ⟨_, z0, z1, zf0, zf1⟩ := HZ2.out.fr f3
  clear HF2 HB2 HZ2 f3 c0 c1 HE1
  go_wp2_with (first | (go_at_call 24; refine (HW1.out _).mono ?_; rintro e w' ⟨rfl, rfl⟩) | (go_at_call 24; refine (HW2.out _).mono ?_; rintro e w' ⟨rfl, rfl⟩))
  refine bodyPost_ret (v := .agg #[.slice none 0 0, .slice none 0 0]) (by simp [results, Tryd.results29, go_sem, World.cell?_setCell_other, World.cell?_setCell_same, z0, z1]) rfl ⟨none, none, 0, 0, rfl, VcG.nil _ _ _ _, ?_⟩
  exact fr_but HF3.out ((But.refl _ _).set2 (w.heap.size + 1) _ _ (.inl (by simp)) : But [w.heap.size + 1] _ _) (fun k hk => by have := List.mem_singleton.1 hk; omega)
set_option maxRecDepth 8000 in
set_option maxHeartbeats 1000000 in
theorem impl_GueLearn_n3 (x : Gu) (aS aC : Option Addr) (cS cC : Nat) (pc tt : Int) (w : World) (h : Src4 w x.S aS) (hc : Src w x.C.length (ivl x.C) aC) (hS : x.S.length ≤ 100000000) (hC : x.C.length ≤ 100000000) (h1 : okG x = true) (h2 : okB pc = true) (h3 : okB tt = false) :
    Calls Tryd.prog 29 #[.agg #[.slice aS x.S.length cS, .slice aC x.C.length cC], .int .i64 pc, .int .i64 tt] w (GuP gu0 w) := by
  have F2 : Fr w ((w.alloc (.cells #[.slice aS x.S.length cS, .slice aC x.C.length cC] 30)).alloc (.cells #[.slice none 0 0, .slice none 0 0] 30)) := by (repeat' first | (with_reducible exact Below.refl _ _) | (with_reducible assumption) | ((with_reducible refine Below.setCell ?_ ?hb _); (case hb => first | exact Nat.le_refl _ | (simp; done) | (simp; omega) | omega)) | ((with_reducible refine Below.alloc ?_ ?hb _); (case hb => first | exact Nat.le_refl _ | (simp; done) | (simp; omega) | omega)) | (with_reducible refine Below.drew ?_))
  have HF2 := Lib.hid F2
  have HB2 := Lib.hid ((Box2.new w (.slice aS x.S.length cS) (.slice aC x.C.length cC) 30 _ rfl).fr (Fr.alloc _ (.cells #[.slice none 0 0, .slice none 0 0] 30)))
  have HZ2 := Lib.hid (Box2.new (w.alloc (.cells #[.slice aS x.S.length cS, .slice aC x.C.length cC] 30)) (.slice none 0 0) (.slice none 0 0) 30 (w.heap.size + 1) (by simp))
  have E1 := impl_GueOk x aS aC cS cC _ (h.fr F2) (hc.fr F2) hS hC
  have W1 := fun w => impl_WrdOk pc w
  have W2 := fun w => impl_WrdOk tt w
  rw [h1] at E1
  rw [h2] at W1
  rw [h3] at W2
  have HE1 := Lib.hid E1
  have HW1 := Lib.hid W1
  have HW2 := Lib.hid W2
  clear F2 h hc hS hC E1 W1 W2
  clear h1 h2 h3
  go_enter Tryd.func29, Tryd.ntmps29
  go_upto_region 1 with fail
  generalize ((w.alloc (.cells #[.slice aS x.S.length cS, .slice aC x.C.length cC] 30)).alloc (.cells #[.slice none 0 0, .slice none 0 0] 30)) = u2 at *
  obtain ⟨_, c0, c1, _, _⟩ := HB2.out
  go_wp2_with fail
  refine HE1.out.mono ?_
  rintro e u3 ⟨rfl, f3⟩
  have HF3 := Lib.hid (HF2.out.trans f3)
  obtain ⟨_, z0, z1, zf0, zf1⟩ := HZ2.out.fr f3
  clear HF2 HB2 HZ2 f3 c0 c1 HE1
  go_wp2_with (first | (go_at_call 24; refine (HW1.out _).mono ?_; rintro e w' ⟨rfl, rfl⟩) | (go_at_call 24; refine (HW2.out _).mono ?_; rintro e w' ⟨rfl, rfl⟩))
  refine bodyPost_ret (v := .agg #[.slice none 0 0, .slice none 0 0]) (by simp [results, Tryd.results29, go_sem, World.cell?_setCell_other, World.cell?_setCell_same, z0, z1]) rfl ⟨none, none, 0, 0, rfl, VcG.nil _ _ _ _, ?_⟩
  exact fr_but HF3.out ((But.refl _ _).set2 (w.heap.size + 1) _ _ (.inl (by simp)) : But [w.heap.size + 1] _ _) (fun k hk => by have := List.mem_singleton.1 hk; omega)
theorem impl_GueLearn (x : Gu) (aS aC : Option Addr) (cS cC : Nat) (pc tt : Int) (w : World) (h : Src4 w x.S aS) (hc : Src w x.C.length (ivl x.C) aC) (hS : x.S.length ≤ 100000000) (hC : x.C.length ≤ 100000000) :
    Calls Tryd.prog 29 #[.agg #[.slice aS x.S.length cS, .slice aC x.C.length cC], .int .i64 pc, .int .i64 tt] w (GuP (learnA x pc tt) w) := by
  unfold learnA
  cases h1 : okG x
  · exact impl_GueLearn_n1 x aS aC cS cC pc tt w h hc hS hC h1
  · cases h2 : okB pc
    · exact impl_GueLearn_n2 x aS aC cS cC pc tt w h hc hS hC h1 h2
    · cases h3 : okB tt
      · exact impl_GueLearn_n3 x aS aC cS cC pc tt w h hc hS hC h1 h2 h3
      · exact impl_GueLearn_ok x aS aC cS cC pc tt w h hc ((okG_iff x).1 h1) h2 h3

end Go.Proofs.YtpdlcjjmhcfkjaaDoor
