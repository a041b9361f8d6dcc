/- The program's places: from rows into arrays, and back. -/
import Derived.Test.YtddllgjieccikaaN5
import Derived.Test.YtddllgjieccikaaPl3
namespace Go.Proofs.Ytddllgjieccikaa
open Go.RowKit
set_option linter.unusedVariables false
set_option linter.unusedSimpArgs false
section
variable {P : Program} {Q : Exit → Act → World → Prop}
/-- append onto an empty slice without room: a new row. -/
theorem wp_append_newB {o : Oper} {a : Act} {w : World} {K : Act → World → Prop} (s x : Operand) (t : TypeId) (ho : o.op = .call { callee := .builtin .append, args := #[s, x], argTypes := #[t, t] })
    (e : TypeId) (ti : TypeInfo) (z : Value) (ht : P.underlying t = some (.slice e)) (hi : P.info? e = some ti) (hz : ti.zero = some z) (hsize : ti.size = 1) (hby : ti.bytes = 1)
    (g : Addr) (hs : a.eval s = .slice (some g) 0 0) (ad : Addr) (m c : Nat) (news : List Value) (hx : a.eval x = .slice (some ad) m c) (hl : news.length = m)
    (hnews : ∀ j u, news[j]? = some u → w.cell? (ad.add j) = some u) (h1 : ∀ u ∈ news, u.oneCell' = true) (h0 : 0 < m) (hm : m ≤ 100000000)
    (h : ∀ (cap : Nat) (zs : Array Value), (z.cells.size = 1 → m + zs.size = cap ∧ cap ≤ maxLen) → K (a.put o.dst (.slice (some ⟨w.heap.size, 0, none⟩) m cap)) (w.drew.alloc (.cells (news.toArray ++ zs) e))) : o.wp P a w K Q := by
  have hrun := run_append_grow_src (P := P) w t t o.type e ti z ht hi hz (some g) 0 0 [] (run_firstCells_some w.drew ti.size 0 g 0 0 [] (by simp) (fun j u h => by simp at h)) (.slice (some ad) m c) m news
    (_root_.Go.Src.ofSlice w ht ad m c news (by rw [hsize, hl, Nat.mul_one]) hnews h1) (by omega) (by omega) (growslice_fits (by omega) (by rw [hby]; omega))
  simp only [Nat.zero_add, List.nil_append] at hrun
  unfold Oper.wp execOp
  simp only [ho, resolve, invoke, builtin, Sem.run_bind, Sem.run_pure, Result.andThen_ok, List.map_toArray, List.map_cons, List.map_nil, hs, hx, hrun]
  refine h _ _ (fun hz1 => ?_)
  have := grownCap_ge w m 0 e
  refine ⟨?_, grownCap_le_maxLen w m 0 e (by unfold maxLen; omega)⟩
  simp only [Builtin.zeroCells, Array.size_map, Array.size_range, hz1, Nat.mul_one]
  omega
end
theorem rob_new (w : World) (xs : List Bool) (zs : Array Value) (e : TypeId) : RoB (w.alloc (.cells ((xs.map (Value.bool)).toArray ++ zs) e)) w.heap.size xs := by
  refine ⟨by simp, fun i hi => ?_, fun i hi => (alloc_at w _ e _ rfl i).2⟩
  rw [(alloc_at w _ e _ rfl i).1, Array.getElem?_append_left (by simpa using hi)]
  simp [hi]
theorem cells_ofB (xs : List Bool) {u : World} {g o : Nat} (hc : ∀ i, i < xs.length → u.cell? ⟨g, o + i, none⟩ = some (bvl xs i)) : ∀ j v, (xs.map (Value.bool))[j]? = some v → u.cell? ((⟨g, o, none⟩ : Addr).add j) = some v := fun j v hj => by
  rw [List.getElem?_map] at hj
  obtain ⟨x, hx, rfl⟩ := Option.map_eq_some_iff.1 hj
  obtain ⟨hlt, hx'⟩ := List.getElem?_eq_some_iff.1 hx
  have h1 := hc j hlt
  simp only [bvl, List.getD_eq_getElem?_getD, hx, Option.getD_some] at h1
  rcases Nat.eq_zero_or_pos j with rfl | h
  · simpa [Addr.add] using h1
  · simpa [Addr.add, show j ≠ 0 by omega] using h1
theorem bools_one (xs : List Bool) : ∀ u ∈ xs.map (Value.bool), u.oneCell' = true := fun u hu => by
  obtain ⟨_, _, rfl⟩ := List.mem_map.1 hu
  rfl
/-- Behind a copy of a row of bools. -/
def CpB (xs : List Bool) (w : World) (e : Ending) (w' : World) : Prop := ∃ g c, e = .returned (.slice (some ⟨g, 0, none⟩) xs.length c) ∧ w.heap.size ≤ g ∧ RoB w' g xs ∧ Fr w w'
set_option maxRecDepth 8000 in
set_option maxHeartbeats 1000000 in
theorem slices_CloneB (xs : List Bool) (ao : Option Addr) (cap : Nat) (w : World) (h : Src w xs.length (bvl xs) ao) (h0 : 0 < xs.length) (hn : xs.length ≤ 100000000) :
    Calls Try.prog 87 #[.slice ao xs.length cap] w (CpB xs w) := by
  obtain ⟨i0, hi, hz0, hz1, hz2⟩ := info_partsB info_boolV
  obtain ⟨g, o, rfl, hg, hc⟩ := h h0
  have HC := Lib.hid (fun (t : TypeId) => cells_ofB xs (u := w.alloc (.cells #[] t)) (g := g) (o := o) (fun i hi => by rw [(Fr.alloc w _).cell (show g < w.heap.size from hg)]; exact hc i hi))
  clear hc h
  have hnil : ∀ (w : World), Sem.run Try.prog (binOp BinOp.eql 23 (.slice (some ⟨g, o, none⟩) xs.length cap) (.slice none 0 0)) w = .ok (.bool false) w := by intro w; kernel_rfl
  go_enter Try.func87, Try.ntmps87
  go_wp2_with (at_builtin; refine wpList_plain rfl fun K hK => wp_append_newB _ _ 23 rfl 4 i0 (.bool false) Try.underlying23 hi hz0 hz1 hz2 _ rfl ⟨g, o, none⟩ _ _ (xs.map (Value.bool)) rfl (by simp) (HC.out _) (bools_one xs) h0 hn ?_; intro c zs _; refine hK _ _ ?_)
  go_ret
  refine ⟨_, _, rfl, ?_, RoB.drew (by have := rob_new (w.alloc (.cells #[] 4)) xs zs 4; simpa using this), ?_⟩
  · simp
  · (repeat' first | (with_reducible exact Below.refl _ _) | (with_reducible assumption) | ((with_reducible refine Below.setCell ?_ ?hb _); (case hb => first | exact Nat.le_refl _ | (simp; done) | (simp; omega) | omega)) | ((with_reducible refine Below.alloc ?_ ?hb _); (case hb => first | exact Nat.le_refl _ | (simp; done) | (simp; omega) | omega)) | (with_reducible refine Below.drew ?_))
set_option maxRecDepth 8000 in
set_option maxHeartbeats 2000000 in
theorem impl_list (M P : List Int) (f m : Nat) (V : List Int) (H : List Bool) (g : Nat) (w : World) (h : Nb w g M P f m V H) :
    Calls Try.prog 86 #[.pointer (some ⟨g, 8, none⟩)] w fun e w' => ∃ g', e = .returned (.slice (some ⟨g', 0, none⟩) m m) ∧ w.heap.size ≤ g' ∧ g' < w'.heap.size ∧ Ro w' g' (ringL P f m) ∧ Fr w w' := by
  obtain ⟨i0, hi, hz0, hz1, hz2⟩ := info_parts info_intV
  have hmx : maxLen = 9223372036854775807 := rfl
  have HN := Lib.hid h
  have hf := h.f12
  have hm := h.m12
  have d0 := h.cm
  have hgw := h.lt
  clear h
  go_enter Try.func86, Try.ntmps86
  go_wp2_with (at_make; refine wpList_make_full _ rfl _ _ 22 rfl w.heap.size 3 i0 (.int .i64 0) 1 Try.underlying22 hi hz0 hz1 .i64 .i64 (m : Int) (m : Int) m rfl rfl rfl rfl (by rw [hz2]; omega) (by omega) (Nat.le_refl _) ?_; intro w1 hown hg)
  rw [made_zero] at hown
  have hR := (ro_own hown).1
  have F1 := grown_fr hg
  have HP0 := Lib.hid hR
  have HF1 := Lib.hid F1
  obtain ⟨gR, hgR⟩ : ∃ gR, w.heap.size = gR := ⟨_, rfl⟩
  have hgw2 : g < gR := by omega
  have hle : w.heap.size ≤ gR := by omega
  rw [hgR] at HP0 ⊢
  clear hown hg hR F1 d0 hgR hgw
  go_loopw [12] (fun i wr => ∃ (p : Nat) (L : List Int), p ≤ m ∧ i = .int .i64 p ∧ L.length = m ∧ (∀ i, i < p → L.getD i 0 = P.getD ((f + i) % 12) 0) ∧ Ro wr gR L ∧ Fr w wr) (fun i _ => m - (intOf i).toNat)
  case atStart => exact ⟨0, List.replicate m 0, Nat.zero_le _, rfl, by simp, fun i hi => absurd hi (Nat.not_lt_zero _), HP0.out, HF1.out⟩
  case round =>
    obtain ⟨p, L, hp, rfl, hLl, hLe, hR, hF⟩ := hrel
    have HLl := Lib.hid hLl
    have HLe := Lib.hid hLe
    have HR := Lib.hid hR
    have HW := Lib.hid hF
    have hsz0 := hF.size
    clear hLl hLe hR hF HP0 HF1
    by_cases hlt : p < m
    · have hlt' : (p : Int) < (m : Int) := by omega
      have HP := Lib.hid (fun (u : World) (hB : But [] wr u) => impl_place M P f m V H g p u ((HN.out.fr HW.out).but hB (by simp)) (by omega))
      have HC := Lib.hid (fun (u : World) (hB : But [] wr u) => ((HN.out.fr HW.out).but hB (by simp)).cP ((f + p) % 12) (by omega))
      obtain ⟨z, hz⟩ : ∃ z, P.getD ((f + p) % 12) 0 = z := ⟨_, rfl⟩
      have HZ := Lib.hid hz
      rw [hz] at HC
      obtain ⟨k, hk⟩ : ∃ k, (f + p) % 12 = k := ⟨_, rfl⟩
      have hk12 : k < 12 := by omega
      rw [hk] at HP HC HZ
      clear hz
      have HZ2 := Lib.hid hk
      clear hk
      go_wp2_with fail
      refine wp_region_lots 28 (fun i => if i = 11 then [gR] else []) (fun _ _ => True) (fun i v u => match i with | 0 => v = .slice (some ⟨gR, 0, none⟩) m m | 1 => v = .int .i64 p | 2 => v = .pointer (some ⟨g, 8, none⟩) | 3 => v = .pointer (some ⟨g, 8, none⟩) | 4 => v = .int .i64 p | 5 => v = .int .i64 k | 6 => v = .pointer (some ⟨g, 8, none⟩) | 7 => v = .pointer (some ⟨g, 8, none⟩) | 8 => v = .pointer (some ⟨g, 8 + k, none⟩) | 9 => v = .int .i64 z | 10 => v = .pointer (some ⟨gR, p, none⟩) | 11 => Ro u gR (L.set p z) | _ => True) ?mono (by kernel_rfl) (by kernel_rfl) rfl (by kernel_rfl) trivial ?step ?fin
      case mono =>
        intro i j v u u' hij hsz h hB
        rcases j with _ | _ | _ | _ | _ | _ | _ | _ | _ | _ | _ | _ | j
        · exact h
        · exact h
        · exact h
        · exact h
        · exact h
        · exact h
        · exact h
        · exact h
        · exact h
        · exact h
        · exact h
        · rw [if_neg hij] at hB; exact h.but hB (by simp)
        · trivial
      case step =>
        intro i o ho
        rcases i with _ | _ | _ | _ | _ | _ | _ | _ | _ | _ | _ | _ | i
        · cases ho
          intro fu act u hW hB hsz hL hdep
          replace hB := hB [gR] (fun j hj hd k hk => by
            by_cases y11 : j = 11
            · rw [if_pos y11] at hk; simp at hk; simp [hk]
            rw [if_neg y11] at hk
            cases hk)
          obtain ⟨ysl, ha, hy⟩ := hL.puts [15, 16, 17, 18, 19, 20, 21, 22, 23, 24, 25] (by kernel_rfl)
          clear hdep hL hy
          simp only [List.foldl, List.setIfInBounds_toArray, List.set_cons_succ, List.set_cons_zero] at ha
          subst ha
          refine wpOp_step rfl (fun K hK => ?_)
          go_simp
          exact hK _ _ ⟨_, rfl, (fun h => by cases h), rfl, But.refl _ _, trivial⟩
        · cases ho
          intro fu act u hW hB hsz hL hdep
          replace hB := hB [gR] (fun j hj hd k hk => by
            by_cases y11 : j = 11
            · rw [if_pos y11] at hk; simp at hk; simp [hk]
            rw [if_neg y11] at hk
            cases hk)
          obtain ⟨ysl, ha, hy⟩ := hL.puts [15, 16, 17, 18, 19, 20, 21, 22, 23, 24, 25] (by kernel_rfl)
          clear hdep hL hy
          simp only [List.foldl, List.setIfInBounds_toArray, List.set_cons_succ, List.set_cons_zero] at ha
          subst ha
          refine wpOp_step rfl (fun K hK => ?_)
          go_simp
          exact hK _ _ ⟨_, rfl, (fun h => by cases h), rfl, But.refl _ _, trivial⟩
        · cases ho
          intro fu act u hW hB hsz hL hdep
          replace hB := hB [gR] (fun j hj hd k hk => by
            by_cases y11 : j = 11
            · rw [if_pos y11] at hk; simp at hk; simp [hk]
            rw [if_neg y11] at hk
            cases hk)
          obtain ⟨ysl, ha, hy⟩ := hL.puts [15, 16, 17, 18, 19, 20, 21, 22, 23, 24, 25] (by kernel_rfl)
          clear hdep hL hy
          simp only [List.foldl, List.setIfInBounds_toArray, List.set_cons_succ, List.set_cons_zero] at ha
          subst ha
          refine wpOp_step rfl (fun K hK => ?_)
          go_simp
          exact hK _ _ ⟨_, rfl, (fun h => by cases h), rfl, But.refl _ _, trivial⟩
        · cases ho
          intro fu act u hW hB hsz hL hdep
          replace hB := hB [gR] (fun j hj hd k hk => by
            by_cases y11 : j = 11
            · rw [if_pos y11] at hk; simp at hk; simp [hk]
            rw [if_neg y11] at hk
            cases hk)
          obtain ⟨ysl, ha, hy⟩ := hL.puts [15, 16, 17, 18, 19, 20, 21, 22, 23, 24, 25] (by kernel_rfl)
          clear hdep hL hy
          simp only [List.foldl, List.setIfInBounds_toArray, List.set_cons_succ, List.set_cons_zero] at ha
          subst ha
          refine wpOp_step rfl (fun K hK => ?_)
          go_simp
          exact hK _ _ ⟨_, rfl, (fun h => by cases h), rfl, But.refl _ _, trivial⟩
        · cases ho
          intro fu act u hW hB hsz hL hdep
          replace hB := hB [gR] (fun j hj hd k hk => by
            by_cases y11 : j = 11
            · rw [if_pos y11] at hk; simp at hk; simp [hk]
            rw [if_neg y11] at hk
            cases hk)
          obtain ⟨ysl, ha, hy⟩ := hL.puts [15, 16, 17, 18, 19, 20, 21, 22, 23, 24, 25] (by kernel_rfl)
          clear hdep hL hy
          simp only [List.foldl, List.setIfInBounds_toArray, List.set_cons_succ, List.set_cons_zero] at ha
          subst ha
          refine wpOp_step rfl (fun K hK => ?_)
          go_simp
          exact hK _ _ ⟨_, rfl, (fun h => by cases h), rfl, But.refl _ _, trivial⟩
        · cases ho
          intro fu act u hW hB hsz hL hdep
          replace hB := hB [] (fun j hj hd k hk => by
            by_cases x11 : j = 11
            · subst x11; exact (dep_no hd (by kernel_rfl)).elim
            rw [if_neg x11] at hk
            cases hk)
          have d3 := hdep { on := 3, ground := .data } (by simp) rfl _ rfl
          have d4 := hdep { on := 4, ground := .data } (by simp) rfl _ rfl
          obtain ⟨ysl, ha, hy⟩ := hL.puts [15, 16, 17, 18, 19, 20, 21, 22, 23, 24, 25] (by kernel_rfl)
          have e3 : ysl 18 = _ := (hy 18).symm.trans d3
          have e4 : ysl 19 = _ := (hy 19).symm.trans d4
          clear hdep hL hy d3 d4
          simp only [List.foldl, List.setIfInBounds_toArray, List.set_cons_succ, List.set_cons_zero, e3, e4] at ha
          subst ha
          clear e3 e4
          refine wpOp_step rfl (fun K hK => ?_)
          go_simp
          refine (HP.out u hB).mono ?_
          rintro e u' ⟨rfl, rfl⟩
          go_simp
          exact hK _ _ ⟨_, rfl, (fun h => by cases h), rfl, But.refl _ _, trivial⟩
        · cases ho
          intro fu act u hW hB hsz hL hdep
          replace hB := hB [gR] (fun j hj hd k hk => by
            by_cases y11 : j = 11
            · rw [if_pos y11] at hk; simp at hk; simp [hk]
            rw [if_neg y11] at hk
            cases hk)
          have d2 := hdep { on := 2, ground := .data } (by simp) rfl _ rfl
          obtain ⟨ysl, ha, hy⟩ := hL.puts [15, 16, 17, 18, 19, 20, 21, 22, 23, 24, 25] (by kernel_rfl)
          have e2 : ysl 17 = _ := (hy 17).symm.trans d2
          clear hdep hL hy d2
          simp only [List.foldl, List.setIfInBounds_toArray, List.set_cons_succ, List.set_cons_zero, e2] at ha
          subst ha
          clear e2
          refine wpOp_step rfl (fun K hK => ?_)
          go_simp
          exact hK _ _ ⟨_, rfl, (fun h => by cases h), rfl, But.refl _ _, trivial⟩
        · cases ho
          intro fu act u hW hB hsz hL hdep
          replace hB := hB [gR] (fun j hj hd k hk => by
            by_cases y11 : j = 11
            · rw [if_pos y11] at hk; simp at hk; simp [hk]
            rw [if_neg y11] at hk
            cases hk)
          have d6 := hdep { on := 6, ground := .data } (by simp) rfl _ rfl
          obtain ⟨ysl, ha, hy⟩ := hL.puts [15, 16, 17, 18, 19, 20, 21, 22, 23, 24, 25] (by kernel_rfl)
          have e6 : ysl 21 = _ := (hy 21).symm.trans d6
          clear hdep hL hy d6
          simp only [List.foldl, List.setIfInBounds_toArray, List.set_cons_succ, List.set_cons_zero, e6] at ha
          subst ha
          clear e6
          refine wpOp_step rfl (fun K hK => ?_)
          go_simp
          exact hK _ _ ⟨_, rfl, (fun h => by cases h), rfl, But.refl _ _, trivial⟩
        · cases ho
          intro fu act u hW hB hsz hL hdep
          replace hB := hB [gR] (fun j hj hd k hk => by
            by_cases y11 : j = 11
            · rw [if_pos y11] at hk; simp at hk; simp [hk]
            rw [if_neg y11] at hk
            cases hk)
          have d5 := hdep { on := 5, ground := .data } (by simp) rfl _ rfl
          have d7 := hdep { on := 7, ground := .data } (by simp) rfl _ rfl
          obtain ⟨ysl, ha, hy⟩ := hL.puts [15, 16, 17, 18, 19, 20, 21, 22, 23, 24, 25] (by kernel_rfl)
          have e5 : ysl 20 = _ := (hy 20).symm.trans d5
          have e7 : ysl 22 = _ := (hy 22).symm.trans d7
          clear hdep hL hy d5 d7
          simp only [List.foldl, List.setIfInBounds_toArray, List.set_cons_succ, List.set_cons_zero, e5, e7] at ha
          subst ha
          clear e5 e7
          have hk0 : (0 : Int) ≤ (k : Int) := by omega
          have hk1 : (k : Int) < 12 := by omega
          refine wpOp_step rfl (fun K hK => ?_)
          go_simp
          exact hK _ _ ⟨_, rfl, (fun h => by cases h), rfl, But.refl _ _, trivial⟩
        · cases ho
          intro fu act u hW hB hsz hL hdep
          replace hB := hB [] (fun j hj hd k hk => by
            by_cases x11 : j = 11
            · subst x11; exact (dep_no hd (by kernel_rfl)).elim
            rw [if_neg x11] at hk
            cases hk)
          have d8 := hdep { on := 8, ground := .data } (by simp) rfl _ rfl
          obtain ⟨ysl, ha, hy⟩ := hL.puts [15, 16, 17, 18, 19, 20, 21, 22, 23, 24, 25] (by kernel_rfl)
          have e8 : ysl 23 = _ := (hy 23).symm.trans d8
          clear hdep hL hy d8
          simp only [List.foldl, List.setIfInBounds_toArray, List.set_cons_succ, List.set_cons_zero, e8] at ha
          subst ha
          clear e8
          have d0 := HC.out u hB
          refine wpOp_step rfl (fun K hK => ?_)
          go_simp
          exact hK _ _ ⟨_, rfl, (fun h => by cases h), rfl, But.refl _ _, trivial⟩
        · cases ho
          intro fu act u hW hB hsz hL hdep
          replace hB := hB [gR] (fun j hj hd k hk => by
            by_cases y11 : j = 11
            · rw [if_pos y11] at hk; simp at hk; simp [hk]
            rw [if_neg y11] at hk
            cases hk)
          have d0 := hdep { on := 0, ground := .data } (by simp) rfl _ rfl
          have d1 := hdep { on := 1, ground := .data } (by simp) rfl _ rfl
          obtain ⟨ysl, ha, hy⟩ := hL.puts [15, 16, 17, 18, 19, 20, 21, 22, 23, 24, 25] (by kernel_rfl)
          have e0 : ysl 15 = _ := (hy 15).symm.trans d0
          have e1 : ysl 16 = _ := (hy 16).symm.trans d1
          clear hdep hL hy d0 d1
          simp only [List.foldl, List.setIfInBounds_toArray, List.set_cons_succ, List.set_cons_zero, e0, e1] at ha
          subst ha
          clear e0 e1
          have hp0 : (0 : Int) ≤ (p : Int) := by omega
          refine wpOp_step rfl (fun K hK => ?_)
          go_simp
          exact hK _ _ ⟨_, rfl, (fun h => by cases h), rfl, But.refl _ _, trivial⟩
        · cases ho
          intro fu act u hW hB hsz hL hdep
          replace hB := hB [] (fun j hj hd k hk => by
            by_cases x11 : j = 11
            · exact absurd x11 hj
            rw [if_neg x11] at hk
            cases hk)
          have d9 := hdep { on := 9, ground := .data } (by simp) rfl _ rfl
          have d10 := hdep { on := 10, ground := .data } (by simp) rfl _ rfl
          obtain ⟨ysl, ha, hy⟩ := hL.puts [15, 16, 17, 18, 19, 20, 21, 22, 23, 24, 25] (by kernel_rfl)
          have e9 : ysl 24 = _ := (hy 24).symm.trans d9
          have e10 : ysl 25 = _ := (hy 25).symm.trans d10
          clear hdep hL hy d9 d10
          simp only [List.foldl, List.setIfInBounds_toArray, List.set_cons_succ, List.set_cons_zero, e9, e10] at ha
          subst ha
          clear e9 e10
          have h1 := HR.out.but hB (by simp)
          have d1 := h1.cel p (by rw [HLl.out]; exact hlt)
          have d2 := h1.fro p (by rw [HLl.out]; exact hlt)
          refine wpOp_step rfl (fun K hK => ?_)
          go_simp
          exact hK _ _ ⟨_, rfl, (fun _ => rfl), h1.set p z (by rw [HLl.out]; exact hlt), (But.refl _ _).set _ _ _ (.inl (by simp)), trivial⟩
        · exact absurd ho (by simp)
      case fin =>
        intro act u hW hsz hB hL hsf
        replace hB := hB [gR] (fun j k hk => by
          by_cases y11 : j = 11
          · rw [if_pos y11] at hk; simp at hk; simp [hk]
          rw [if_neg y11] at hk
          cases hk)
        have d11 := hsf 11 _ rfl
        obtain ⟨ysl, ha, hy⟩ := hL.puts [15, 16, 17, 18, 19, 20, 21, 22, 23, 24, 25] (by kernel_rfl)
        clear hL hsf hy
        simp only [List.foldl, List.setIfInBounds_toArray, List.set_cons_succ, List.set_cons_zero] at ha
        subst ha
        have HN1 := Lib.hid d11
        have HF2 := Lib.hid (show Fr w u from fr_but HW.out hB (fun k hk => by have := List.mem_singleton.1 hk; omega))
        clear hB d11 hW hsz
        go_wp2_with fail
        go_roundw
        case rel =>
          refine ⟨p + 1, L.set p z, by omega, by go_num, by rw [List.length_set]; exact HLl.out, fun i hi => ?_, HN1.out, HF2.out⟩
          rw [getD_set]
          by_cases e : p = i
          · subst e
            rw [if_pos ⟨rfl, by rw [HLl.out]; exact hlt⟩]
            exact (by rw [HZ2.out]; exact HZ.out.symm)
          · rw [if_neg (fun h => e h.1)]
            exact HLe.out i (by omega)
        case measure => simp [intOf]; omega
    · have hge : ¬ (p : Int) < (m : Int) := by omega
      have e : p = m := by omega
      subst e
      have hs := HR.out.lt
      go_wp2
      go_ret
      refine ⟨_, rfl, hle, hs, ?_, HW.out⟩
      have hLS : L = ringL P f p := by
        apply List.ext_getElem
        · rw [HLl.out, ringL_len]
        · intro i h1 h2
          have h3 := HLe.out i (by rw [HLl.out] at h1; exact h1)
          rw [← ringL_at P f p i (by rw [HLl.out] at h1; exact h1)] at h3
          simpa [List.getD_eq_getElem?_getD, List.getElem?_eq_getElem h1, List.getElem?_eq_getElem h2] using h3
      rw [← hLS]
      exact HR.out

end Go.Proofs.Ytddllgjieccikaa
