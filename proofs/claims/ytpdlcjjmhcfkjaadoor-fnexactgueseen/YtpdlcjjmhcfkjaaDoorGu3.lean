/- Arrays of slots that learn; the program's GueLearn. -/
import Derived.Test.YtpdlcjjmhcfkjaaDoorGu2
namespace Go.Proofs.YtpdlcjjmhcfkjaaDoor
open Go.RowKit
set_option linter.unusedVariables false
set_option linter.unusedSimpArgs false
theorem impl_slot_learned (x : Sl) (pc tt : Int) (w : World) (p0 : 0 ≤ pc) (p1 : pc < 65536) (s0 : -1000 ≤ x.s) (s1 : x.s ≤ 1000) :
    Calls Tryd.prog 88 #[slw x, .int .i64 pc, .int .i64 tt] w fun e w' => e = .returned (slw (learnL x pc tt)) ∧ Fr w w' := by
  obtain ⟨u, p, t, s⟩ := x
  simp only at s0 s1
  cases hst : (u && decide (p = pc))
  · have hn : ¬ (u = true ∧ p = pc) := by simpa using hst
    by_cases hj : tt = (pc + 1) % 65536
    · simp only [learnL, if_neg hn, hj, ne_eq, not_true_eq_false, if_false]
      exact learned_B u p t s pc _ w p0 p1 s0 s1 hst rfl
    · simp only [learnL, if_neg hn, ne_eq, hj, not_false_eq_true, if_true]
      exact learned_A u p t s pc tt w p0 p1 s0 s1 hst (by simpa using hj)
  · have hn : u = true ∧ p = pc := by simpa using hst
    simp only [learnL, if_pos hn]
    by_cases ht : t = tt
    · rw [if_pos ht]
      by_cases hm : 3 < s + 1
      · rw [show min (s + 1) 3 = 3 by omega]
        exact learned_G u p t s pc tt w p0 p1 s0 s1 hst ht hm
      · rw [show min (s + 1) 3 = s + 1 by omega]
        exact learned_C u p t s pc tt w p0 p1 s0 s1 hst ht hm
    · rw [if_neg ht]
      have ht' : (t == tt) = false := by simpa using ht
      by_cases hs : 0 < s
      · rw [if_pos hs]
        exact learned_D u p t s pc tt w p0 p1 s0 s1 hst ht' hs
      · rw [if_neg hs]
        by_cases hj : tt = (pc + 1) % 65536
        · simp only [hj, ne_eq, not_true_eq_false, if_false]
          exact learned_F u p t s pc _ w p0 p1 s0 s1 hst (by rw [← hj]; exact ht') hs rfl
        · rw [if_pos hj]
          exact learned_E u p t s pc tt w p0 p1 s0 s1 hst ht' hs (by simpa using hj)
theorem But.setCells {L : List Nat} {w : World} (g : Nat) (hg : g ∈ L ∨ w.heap.size ≤ g) : ∀ (vs : List Value) (o : Nat) (w' : World), But L w w' → But L w (w'.setCells g o vs)
  | [], _, _, h => h
  | v :: r, o, w', h => by
    rw [World.setCells]
    exact But.setCells g hg r (o + 1) _ (h.set g o v hg)
theorem Ro4.setS {u : World} {g : Nat} {S : List Sl} (h : Ro4 u g S) (k : Nat) (y : Sl) (hk : k < S.length) : Ro4 (u.setCells g (k * 4) (slc y)) g (S.set k y) := by
  have hb : But [g] u (u.setCells g (k * 4) (slc y)) := But.setCells g (.inl (by simp)) _ _ _ (But.refl _ _)
  refine ⟨Nat.lt_of_lt_of_le h.lt hb.size, fun j v hv => ?_, by rw [List.length_set]; exact World.there_setCells h.thr _ _ _⟩
  have hj : j < 4 * S.length := by
    have := (List.getElem?_eq_some_iff.1 hv).1
    rw [cls_len, List.length_set] at this
    exact this
  obtain ⟨i, r, rfl, hr⟩ : ∃ i r, j = 4 * i + r ∧ r < 4 := ⟨j / 4, j % 4, by omega, by omega⟩
  have hi : i < S.length := by omega
  have hc := cls_at (S.set k y) i (by rw [List.length_set]; exact hi)
  rw [getD_setL] at hc
  rw [Nat.zero_add]
  by_cases e : k = i
  · subst e
    rw [if_pos ⟨rfl, hi⟩] at hc
    have hin := World.cell?_setCells_in g (slc y) (k * 4) u (fun j hj => by
      have hj4 : j < 4 := hj
      have := (h.thr (k * 4 + j) (by omega)).1
      rwa [Nat.zero_add] at this) r hr
    rw [show 4 * k + r = k * 4 + r by omega, hin]
    rcases r with _ | _ | _ | _ | r
    · rw [Nat.add_zero, hc.1] at hv; exact hv
    · rw [hc.2.1] at hv; exact hv
    · rw [hc.2.2.1] at hv; exact hv
    · rw [hc.2.2.2] at hv; exact hv
    · omega
  · rw [if_neg (fun h => e h.1)] at hc
    rw [World.cell?_setCells_out g (slc y) (k * 4) u ⟨g, 4 * i + r, none⟩ (fun _ _ => by
      show 4 * i + r < k * 4 ∨ k * 4 + 4 ≤ 4 * i + r
      omega)]
    have hS := cls_at S i hi
    have := h.rng (4 * i + r) v (by
      rcases r with _ | _ | _ | _ | r
      · rw [Nat.add_zero, hS.1]; rw [Nat.add_zero, hc.1] at hv; exact hv
      · rw [hS.2.1]; rw [hc.2.1] at hv; exact hv
      · rw [hS.2.2.1]; rw [hc.2.2.1] at hv; exact hv
      · rw [hS.2.2.2]; rw [hc.2.2.2] at hv; exact hv
      · omega)
    rwa [Nat.zero_add] at this
theorem Ro4.slot {u : World} {g : Nat} {S : List Sl} (h : Ro4 u g S) (i : Nat) (hi : i < S.length) : u.cell? ⟨g, i * 4, none⟩ = some (.bool (S.getD i sl0).u) ∧ u.cell? ⟨g, i * 4 + 1, none⟩ = some (.int .i64 (S.getD i sl0).p) ∧ u.cell? ⟨g, i * 4 + 2, none⟩ = some (.int .i64 (S.getD i sl0).t) ∧ u.cell? ⟨g, i * 4 + 3, none⟩ = some (.int .i64 (S.getD i sl0).s) := by
  have := slot_at h.rng i hi
  simpa using this
theorem Ro4.there4 {u : World} {g : Nat} {S : List Sl} (h : Ro4 u g S) (i : Nat) (hi : i < S.length) : u.there g (i * 4) 4 := fun j hj => by
  have := h.thr (i * 4 + j) (by omega)
  rwa [Nat.zero_add] at this
theorem slot_all (y : Sl) : #[Value.bool y.u, Value.int .i64 y.p, Value.int .i64 y.t, Value.int .i64 y.s].all (·.oneCell') = true :=
  all_oneCell_toArray (cs := slc y) (by intro v hv; simp [slc] at hv; rcases hv with rfl | rfl | rfl | rfl <;> rfl)
theorem okL_bd {k : Int} {x : Sl} (h : okL k x = true) : 0 ≤ x.s ∧ x.s ≤ 3 := by
  obtain ⟨u, p, t, s⟩ := x
  unfold okL at h
  cases u <;> simp at h ⊢ <;> omega
abbrev z32 : Array Value := #[.bool false, .int .i64 0, .int .i64 0, .int .i64 0, .bool false, .int .i64 0, .int .i64 0, .int .i64 0, .bool false, .int .i64 0, .int .i64 0, .int .i64 0, .bool false, .int .i64 0, .int .i64 0, .int .i64 0, .bool false, .int .i64 0, .int .i64 0, .int .i64 0, .bool false, .int .i64 0, .int .i64 0, .int .i64 0, .bool false, .int .i64 0, .int .i64 0, .int .i64 0, .bool false, .int .i64 0, .int .i64 0, .int .i64 0]
section
variable {Q : Exit → Act → World → Prop}
/-- A slot is stored. -/
theorem wpList_store_slot {ops : Array Oper} {rest : List Oper} {op : Oper} {a : Act} {w : World} (hgd : op.guard = none) (x z : Operand) (ho : op.op = .store 51 x z)
    (b o : Nat) (y : Sl) (hx : a.eval x = .pointer (some ⟨b, o, none⟩)) (hy : a.eval z = slw y) (ht : w.there b o 4) (u : World) (hu : w.setCells b o (slc y) = u)
    (h : wpList Tryd.prog ops Q rest (a.put op.dst undef) u) : wpList Tryd.prog ops Q (op :: rest) a w := by
  subst hu
  exact wpList_store_mid hgd 51 x z ho b o _ hx hy ht info_slot (slot_all y) h
/-- A whole array is stored. -/
theorem wpList_store_arr {ops : Array Oper} {rest : List Oper} {op : Oper} {a : Act} {w : World} (hgd : op.guard = none) (x z : Operand) (ho : op.op = .store 63 x z)
    (g : Nat) (S : List Sl) (hl : S.length = 8) (hx : a.eval x = .pointer (some ⟨g, 0, none⟩)) (hy : a.eval z = .agg (cls S).toArray) (old : Array Value) (hold : old.size = 32) (hg : w.heap[g]? = some (.cells old 63 (0, 0))) (u : World) (hu : w.setRow g (cls S).toArray = u)
    (h : wpList Tryd.prog ops Q rest (a.put op.dst undef) u) : wpList Tryd.prog ops Q (op :: rest) a w := by
  subst hu
  exact wpList_store_row hgd 63 x z ho g (cls S).toArray hx hy 63 old hg (arr_info hl) (by rw [cls32 hl, hold]) (arr_all S) h
end
theorem Fr.setRow {w u : World} (h : Fr w u) {g : Nat} (hg : w.heap.size ≤ g) (cs : Array Value) : Fr w (u.setRow g cs) :=
  ⟨h.os, h.tape, h.output, by simpa using h.size, fun k hk => by rw [setRow_other u g k cs (by omega)]; exact h.block k hk⟩
set_option maxHeartbeats 1000000 in
theorem impl_slots_learned (S : List Sl) (pc tt : Int) (w : World) (hl : S.length = 8) (hok : okLs S = true) (p0 : 0 ≤ pc) (p1 : pc < 65536) :
    Calls Tryd.prog 68 #[.agg (cls S).toArray, .int .i64 pc, .int .i64 tt] w fun e w' => e = .returned (.agg (cls (S.set (ix pc) (learnL (S.getD (ix pc) sl0) pc tt))).toArray) ∧ Fr w w' := by
  obtain ⟨k, hk8, hkm⟩ : ∃ k : Nat, k < 8 ∧ Int.tmod pc 8 = (k : Int) := ⟨(pc % 8).toNat, by omega, by rw [Int.tmod_eq_emod_of_nonneg p0]; omega⟩
  have hix : ix pc = k := by unfold ix; rw [Int.tmod_eq_emod_of_nonneg p0] at hkm; omega
  rw [hix]
  have hb := okLs_at hok k (by omega)
  have E := fun w => impl_slot_learned (S.getD k sl0) pc tt w p0 p1
  obtain ⟨y, hy⟩ : ∃ y, y = learnL (S.getD k sl0) pc tt := ⟨_, rfl⟩
  rw [← hy] at E ⊢
  have HL := Lib.hid hl
  have HL' := Lib.hid (show (S.set k y).length = 8 by rw [List.length_set]; exact hl)
  have hk8' : (k : Int) < 8 := by omega
  have R0 : Ro4 ((w.alloc (.cells (cls S).toArray 63)).alloc (.cells z32 63)) w.heap.size S := (ro4_block (cur := (cls S).toArray) (heap_alloc_new w _) (fun j v hv => by simpa using hv)).fr (Fr.alloc _ _)
  have N0 : ((w.alloc (.cells (cls S).toArray 63)).alloc (.cells z32 63)).heap[w.heap.size + 1]? = some (.cells z32 63 (0, 0)) := by
    have := heap_alloc_new (w.alloc (.cells (cls S).toArray 63)) (.cells z32 63)
    rwa [show (w.alloc (.cells (cls S).toArray 63)).heap.size = w.heap.size + 1 by simp] at this
  have F0 : Fr w ((w.alloc (.cells (cls S).toArray 63)).alloc (.cells z32 63)) := by (repeat' first | (with_reducible exact Below.refl _ _) | (with_reducible assumption) | ((with_reducible refine Below.setCell ?_ ?hb _); (case hb => first | exact Nat.le_refl _ | (simp; done) | (simp; omega) | omega)) | ((with_reducible refine Below.alloc ?_ ?hb _); (case hb => first | exact Nat.le_refl _ | (simp; done) | (simp; omega) | omega)) | (with_reducible refine Below.drew ?_))
  have hs0 : ((w.alloc (.cells (cls S).toArray 63)).alloc (.cells z32 63)).heap.size = w.heap.size + 2 := by simp
  have HE : Hid (∀ w, Calls Tryd.prog 88 #[slw (S.getD k sl0), .int .i64 pc, .int .i64 tt] w fun e w' => e = .returned (slw y) ∧ Fr w w') := Lib.hid (fun w => E w (by have := (okL_bd hb).1; omega) (by have := (okL_bd hb).2; omega))
  have HR := Lib.hid R0
  have HN := Lib.hid N0
  have HF := Lib.hid F0
  clear E hb hok hl R0 N0 F0 hy hix
  go_enter Tryd.func68, Tryd.ntmps68
  go_upto_region 1 with fail
  generalize ((w.alloc (.cells (cls S).toArray 63)).alloc (.cells z32 63)) = u0 at *
  have hsl := HR.out.slot k (by rw [HL.out]; exact hk8)
  obtain ⟨x, hx⟩ : ∃ x, x = S.getD k sl0 := ⟨_, rfl⟩
  rw [← hx] at hsl HE
  clear hx
  obtain ⟨xu, xp, xt, xs⟩ := x
  obtain ⟨d0, d1, d2, d3⟩ := hsl
  simp only at d0 d1 d2 d3
  go_wp2_with fail
  refine (HE.out _).mono ?_
  rintro e u1 ⟨rfl, f1⟩
  have hR1 := HR.out.fr f1
  have HT := Lib.hid (hR1.there4 k (by rw [HL.out]; exact hk8))
  have HR1 := Lib.hid (hR1.setS k y (by rw [HL.out]; exact hk8))
  have hn1 : u1.heap[w.heap.size + 1]? = _ := (f1.block _ (by omega)).trans HN.out
  have hb2 : But [w.heap.size] u1 (u1.setCells w.heap.size (k * 4) (slc y)) := But.setCells _ (.inl (by simp)) _ _ _ (But.refl _ _)
  have hn2 := (hb2.block _ (by have := (Array.getElem?_eq_some_iff.1 hn1).1; exact this) (by simp)).trans hn1
  have hf2 := fr_but (HF.out.trans f1) hb2 (fun k hk => by have := List.mem_singleton.1 hk; omega)
  obtain ⟨u2, hu2⟩ : ∃ u2, u1.setCells w.heap.size (k * 4) (slc y) = u2 := ⟨_, rfl⟩
  rw [hu2] at HR1 hn2 hf2
  have HU2 := Lib.hid hu2
  have HN2 := Lib.hid hn2
  have hn3 := setRow_heap u2 (w.heap.size + 1) _ (cls (S.set k y)).toArray _ _ hn2
  have hf3 := Fr.setRow hf2 (show w.heap.size ≤ w.heap.size + 1 by omega) (cls (S.set k y)).toArray
  obtain ⟨u3, hu3⟩ : ∃ u3, u2.setRow (w.heap.size + 1) (cls (S.set k y)).toArray = u3 := ⟨_, rfl⟩
  rw [hu3] at hn3 hf3
  have HU3 := Lib.hid hu3
  have HN3 := Lib.hid hn3
  have HF3 := Lib.hid hf3
  clear hR1 hn1 hb2 HR HN HF f1 d0 d1 d2 d3 hu2 hu3 hn2 hf2 hn3 hf3
  obtain ⟨yu, yp, yt, ys⟩ := y
  go_wp2_with (first
    | (refine wpList_store_slot rfl _ _ rfl w.heap.size (k * 4) ⟨yu, yp, yt, ys⟩ rfl rfl HT.out u2 HU2.out ?_)
    | (refine wpList_load_mid rfl 63 _ rfl w.heap.size 0 rfl (cls (S.set k ⟨yu, yp, yt, ys⟩)) _ HR1.out.rng Tryd.underlying63 rfl (arr_info' HL'.out) ?_)
    | (refine wpList_store_arr rfl _ _ rfl (w.heap.size + 1) _ HL'.out rfl rfl z32 rfl HN2.out u3 HU3.out ?_))
  refine bodyPost_ret (results_cell_row (t := 63) (cs := (cls (S.set k ⟨yu, yp, yt, ys⟩)).toArray) (g := w.heap.size + 1) (fr := (0, 0)) rfl _ _ (d := _) rfl HN3.out Tryd.underlying63 rfl (arr_info HL'.out)) rfl ⟨rfl, HF3.out⟩

end Go.Proofs.YtpdlcjjmhcfkjaaDoor
