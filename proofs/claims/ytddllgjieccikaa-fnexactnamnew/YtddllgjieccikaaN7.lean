/- The program's places, from rows into arrays. -/
import Derived.Laws.CopyOwn
import Derived.Test.YtddllgjieccikaaN6
import Derived.Test.YtddllgjieccikaaGu3
namespace Go.Proofs.Ytddllgjieccikaa
open Go.RowKit
set_option linter.unusedVariables false
set_option linter.unusedSimpArgs false
def ringP (F : List Int) : List Int := F ++ List.replicate (12 - F.length) 0
def ringC (F : List Int) : List Value := (ringP F).map (Value.int .i64) ++ [.int .i64 0, .int .i64 F.length]
def ring0 (n : Nat) : List Value := (List.replicate 12 (0 : Int)).map (Value.int .i64) ++ [.int .i64 0, .int .i64 n]
theorem ringP_len (F : List Int) (h : F.length ≤ 12) : (ringP F).length = 12 := by simp [ringP]; omega
theorem ringC_len (F : List Int) (h : F.length ≤ 12) : (ringC F).length = 14 := by simp [ringC, ringP_len F h]
theorem ring_splice (F : List Int) (h : F.length ≤ 12) : splice (ring0 F.length) 0 (F.map (Value.int .i64)) = ringC F := by
  simp only [splice, List.take_zero, List.nil_append, Nat.zero_add, List.length_map, ring0, ringC, ringP, List.map_append, List.append_assoc]
  congr 1
  rw [List.drop_append_of_le_length (by simp; omega)]
  congr 1
  rw [← List.map_drop, List.drop_replicate]
theorem ringC_one (F : List Int) : ∀ v, v ∈ ringC F → v.oneCell' = true := fun v hv => by
  simp only [ringC, List.mem_append, List.mem_map, List.mem_cons, List.not_mem_nil, or_false] at hv
  rcases hv with ⟨_, _, rfl⟩ | rfl | rfl <;> rfl
theorem ring0_one (n : Nat) : ∀ v, v ∈ ring0 n → v.oneCell' = true := fun v hv => by
  simp only [ring0, List.mem_append, List.mem_map, List.mem_cons, List.not_mem_nil, or_false] at hv
  rcases hv with ⟨_, _, rfl⟩ | rfl | rfl <;> rfl
theorem info_ring : (Try.prog.info? 60).map (·.size) = some 14 := by kernel_rfl
theorem info_int1 : (Try.prog.info? 3).map (·.size) = some 1 := by kernel_rfl
theorem info_ringC (F : List Int) (h : F.length ≤ 12) : (Try.prog.info? 60).map (·.size) = some (ringC F).length := by rw [info_ring, ringC_len F h]
theorem info_ringD (F : List Int) (h : F.length ≤ 12) : (Try.prog.info? 60).map (·.size) = some (ringC F).toArray.size := by rw [info_ring, List.size_toArray, ringC_len F h]
theorem range_of {w : World} {g : Nat} {cs : List Value} {t : TypeId} {fr : Nat × Nat} (h : w.heap[g]? = some (.cells cs.toArray t fr)) : w.rangeAt g 0 cs := fun j v hj => by
  rw [Nat.zero_add]
  simp only [World.cell?, h]
  simpa using hj
theorem ringL_P (F : List Int) (h : F.length ≤ 12) : ringL (ringP F) 0 F.length = F := by
  apply List.ext_getElem
  · simp [ringL]
  · intro i h1 h2
    simp only [ringL, List.getElem_map, List.getElem_range]
    rw [Nat.zero_add, Nat.mod_eq_of_lt (by omega)]
    simp [ringP, List.getD_eq_getElem?_getD, List.getElem?_append_left h2, List.getElem?_eq_getElem h2]
set_option maxRecDepth 8000 in
set_option maxHeartbeats 2000000 in
theorem impl_ringOf (F : List Int) (ao : Option Addr) (cap : Nat) (w : World) (h : Src w F.length (ivl F) ao) (hl : F.length ≤ 12) :
    Calls Try.prog 88 #[.slice ao F.length cap] w fun e w' => e = .returned (.agg (ringC F).toArray) ∧ Fr w w' := by
  have HS := Lib.hid h
  have HL := Lib.hid hl
  have HG := Lib.hid (fun (c c' : Array Value) => (by have := heap_alloc_new (w.alloc (.cells c 60)) (.cells c' 60); rw [show (w.alloc (.cells c 60)).heap.size = w.heap.size + 1 by simp] at this; exact this : ((w.alloc (.cells c 60)).alloc (.cells c' 60)).heap[w.heap.size + 1]? = some (.cells c' 60 (0, 0))))
  have HB := Lib.hid (fun (c c' : Array Value) => ((Below.refl (w.heap.size + 1) (w.alloc (.cells c 60))).alloc (by simp) (.cells c' 60)))
  have hn0 : (F.map (Value.int .i64)).length = Nat.min F.length 12 := by rw [List.length_map]; show F.length = min F.length 12; omega
  have hn1 : 0 + (F.map (Value.int .i64)).length ≤ (ring0 F.length).length := by simp [ring0]; omega
  have HN0 := Lib.hid hn0
  have HN1 := Lib.hid hn1
  have HSR := Lib.hid (fun (c c' : Array Value) (h0 : 0 < (F.map (Value.int .i64)).length) => (by
    obtain ⟨g, o, e, l, k⟩ := h (by simpa using h0)
    refine ⟨rfl, ⟨g, o, none⟩, e, cells_of F (fun i hi => ?_)⟩
    rw [(show Fr w ((w.alloc (.cells c 60)).alloc (.cells c' 60)) by (repeat' first | (with_reducible exact Below.refl _ _) | (with_reducible assumption) | ((with_reducible refine Below.setCell ?_ ?hb _); (case hb => first | exact Nat.le_refl _ | (simp; done) | (simp; omega) | omega)) | ((with_reducible refine Below.alloc ?_ ?hb _); (case hb => first | exact Nat.le_refl _ | (simp; done) | (simp; omega) | omega)) | (with_reducible refine Below.drew ?_))).cell l]
    exact k i hi : (some ⟨w.heap.size + 1, 0, none⟩ : Option Addr) = some ⟨w.heap.size + 1, 0, none⟩ ∧ ∃ ad, ao = some ad ∧ ∀ (j : Nat) v, (F.map (Value.int .i64))[j]? = some v → ((w.alloc (.cells c 60)).alloc (.cells c' 60)).cell? (ad.add j) = some v))
  clear h hl hn0 hn1
  go_enter Try.func88, Try.ntmps88
  go_wp2_with (first
    | (refine wpList_store_new rfl 60 _ _ rfl (w.alloc _) (w.heap.size + 1) (by simp) _ (ring0 F.length).toArray rfl rfl info_ring rfl (all_oneCell_toArray (ring0_one _)) ?_)
    | (refine wpList_copy_splice rfl _ _ 22 22 rfl 3 Try.underlying22 info_int1 (some ⟨w.heap.size + 1, 0, none⟩) ao 12 12 F.length cap rfl rfl (w.heap.size + 1) 0 (ring0 F.length) 60 (HG.out _ _) (F.map (Value.int .i64)) HN0.out (HSR.out _ _) HN1.out (ints_one F) (w.heap.size + 1) (w.alloc _) (HB.out _ _) (Nat.le_refl _) ?_; intro w' hw hb; rw [ring_splice F HL.out] at hw; have HLd := Lib.hid (range_of hw.out); have HZ := Lib.hid (show w'.heap[w.heap.size]? = some (.cells (ring0 0).toArray 60 (0, 0)) from (hb.block w.heap.size (by omega)).trans (heap_alloc_new w _)); have HFb := Lib.hid (show Fr w w' from Below.trans (Fr.alloc w _) (hb.mono (by omega))); clear hb)
    | (refine wpList_load_mid rfl 60 _ rfl (w.heap.size + 1) 0 rfl (ringC F) _ HLd.out Try.underlying60 rfl (info_ringC F HL.out) ?_)
    | (refine wpList_store_row rfl 60 _ _ rfl w.heap.size (ringC F).toArray rfl rfl 60 (ring0 0).toArray HZ.out (info_ringD F HL.out) (by rw [List.size_toArray, List.size_toArray, ringC_len F HL.out]; rfl) (all_oneCell_toArray (ringC_one F)) ?_))
  refine bodyPost_ret (results_cell_row (t := 60) (cs := (ringC F).toArray) (g := w.heap.size) (fr := (0, 0)) rfl _ _ (d := _) rfl (setRow_heap _ _ _ _ _ _ HZ.out) Try.underlying60 rfl (info_ringD F HL.out)) rfl ⟨rfl, ?_⟩
  exact Fr.setRow HFb.out (Nat.le_refl _) _
set_option maxRecDepth 100000 in
theorem built4 : ∀ (A B C D : List Value), A.length = 8 → B.length = 14 → C.length = 20 → D.length = 20 → Try.prog.built 64 [(0, .agg A.toArray), (1, .agg B.toArray), (2, .agg C.toArray), (3, .agg D.toArray)] = some (A ++ B ++ C ++ D).toArray
  | [a0, a1, a2, a3, a4, a5, a6, a7], [b0, b1, b2, b3, b4, b5, b6, b7, b8, b9, b10, b11, b12, b13], [c0, c1, c2, c3, c4, c5, c6, c7, c8, c9, c10, c11, c12, c13, c14, c15, c16, c17, c18, c19], [d0, d1, d2, d3, d4, d5, d6, d7, d8, d9, d10, d11, d12, d13, d14, d15, d16, d17, d18, d19], _, _, _, _ => by kernel_rfl
theorem wp_build_eq {P : Program} {o : Oper} {a : Act} {w : World} {K : Act → World → Prop} {Q : Exit → Act → World → Prop} (t : TypeId) (parts : Array (Nat × Operand)) (ho : o.op = .build t parts) (L : List (Nat × Value)) (cells : Array Value)
    (hL : (parts.map fun (i, x) => (i, a.eval x)).toList = L) (hb : P.built t L = some cells) (h : K (a.put o.dst (.agg cells)) w) : o.wp P a w K Q := by
  refine wp_build t parts ho (by rw [hL, hb]; rfl) ?_
  rw [hL, hb]
  exact h
def nmC (M F V : List Int) (H : List Bool) : List Value := M.map (Value.int .i64) ++ ringC F ++ V.map (Value.int .i64) ++ H.map Value.bool
theorem nmC_M (M F V : List Int) (H : List Bool) (hM : M.length = 8) (i : Nat) (hi : i < 8) : (nmC M F V H)[i]? = some (.int .i64 (M.getD i 0)) := by
  unfold nmC
  rw [List.append_assoc, List.append_assoc, List.getElem?_append_left (by simp; omega)]
  simp [List.getD_eq_getElem?_getD, List.getElem?_eq_getElem (show i < M.length by omega)]
theorem nmC_R (M F V : List Int) (H : List Bool) (hM : M.length = 8) (hF : F.length ≤ 12) (i : Nat) (hi : i < 14) : (nmC M F V H)[8 + i]? = (ringC F)[i]? := by
  unfold nmC
  rw [List.append_assoc, List.append_assoc, List.getElem?_append_right (by simp; omega), List.getElem?_append_left (by rw [ringC_len F hF]; simp; omega)]
  congr 1
  simp; omega
theorem nmC_V (M F V : List Int) (H : List Bool) (hM : M.length = 8) (hF : F.length ≤ 12) (hV : V.length = 20) (i : Nat) (hi : i < 20) : (nmC M F V H)[22 + i]? = some (.int .i64 (V.getD i 0)) := by
  unfold nmC
  have h14 := ringC_len F hF
  rw [List.append_assoc, List.getElem?_append_right (by simp [h14]; omega), List.getElem?_append_left (by simp [h14]; omega)]
  rw [show 22 + i - (M.map (Value.int .i64) ++ ringC F).length = i by simp [h14]; omega]
  simp [List.getD_eq_getElem?_getD, List.getElem?_eq_getElem (show i < V.length by omega)]
theorem nmC_H (M F V : List Int) (H : List Bool) (hM : M.length = 8) (hF : F.length ≤ 12) (hV : V.length = 20) (hH : H.length = 20) (i : Nat) (hi : i < 20) : (nmC M F V H)[42 + i]? = some (.bool (H.getD i false)) := by
  unfold nmC
  have h14 := ringC_len F hF
  rw [List.getElem?_append_right (by simp [h14]; omega)]
  rw [show 42 + i - (M.map (Value.int .i64) ++ ringC F ++ V.map (Value.int .i64)).length = i by simp [h14]; omega]
  simp [List.getD_eq_getElem?_getD, List.getElem?_eq_getElem (show i < H.length by omega)]
theorem ringC_P (F : List Int) (h : F.length ≤ 12) (i : Nat) (hi : i < 12) : (ringC F)[i]? = some (.int .i64 ((ringP F).getD i 0)) := by
  have := ringP_len F h
  unfold ringC
  rw [List.getElem?_append_left (by simp; omega)]
  simp [List.getD_eq_getElem?_getD, List.getElem?_eq_getElem (show i < (ringP F).length by omega)]
theorem ringC_f (F : List Int) (h : F.length ≤ 12) : (ringC F)[12]? = some (.int .i64 0) := by
  have := ringP_len F h
  unfold ringC
  rw [List.getElem?_append_right (by simp; omega)]
  simp [this]
theorem ringC_m (F : List Int) (h : F.length ≤ 12) : (ringC F)[13]? = some (.int .i64 F.length) := by
  have := ringP_len F h
  unfold ringC
  rw [List.getElem?_append_right (by simp; omega)]
  simp [this]
theorem nb_new (u : World) (t : TypeId) (M F V : List Int) (H : List Bool) (hM : M.length = 8) (hF : F.length ≤ 12) (hV : V.length = 20) (hH : H.length = 20) : Nb (u.alloc (.cells (nmC M F V H).toArray t)) u.heap.size M (ringP F) 0 F.length V H := by
  have A := fun j => (alloc_at u (nmC M F V H).toArray t _ rfl j).1
  refine ⟨by simp, hM, ringP_len F hF, hV, hH, by omega, hF, fun i hi => ?_, fun i hi => ?_, ?_, ?_, fun i hi => ?_, fun i hi => ?_, fun i _ => (alloc_at u _ t _ rfl i).2⟩
  · rw [A, List.getElem?_toArray, nmC_M M F V H hM i hi]
  · rw [A, List.getElem?_toArray, nmC_R M F V H hM hF i (by omega), ringC_P F hF i hi]
  · rw [A, List.getElem?_toArray, nmC_R M F V H hM hF 12 (by omega), ringC_f F hF]; rfl
  · rw [A, List.getElem?_toArray, nmC_R M F V H hM hF 13 (by omega), ringC_m F hF]
  · rw [A, List.getElem?_toArray, nmC_V M F V H hM hF hV i hi]
  · rw [A, List.getElem?_toArray, nmC_H M F V H hM hF hV hH i hi]
theorem src_range {u : World} {xs : List Int} {g o : Nat} (hc : ∀ i, i < xs.length → u.cell? ⟨g, o + i, none⟩ = some (ivl xs i)) : u.rangeAt g o (xs.map (Value.int .i64)) := fun j v hj => by
  have := cells_of xs hc j v hj
  rwa [Addr.add_mid] at this
theorem src_rangeB {u : World} {xs : List Bool} {g o : Nat} (hc : ∀ i, i < xs.length → u.cell? ⟨g, o + i, none⟩ = some (bvl xs i)) : u.rangeAt g o (xs.map Value.bool) := fun j v hj => by
  have := cells_ofB xs hc j v hj
  rwa [Addr.add_mid] at this
theorem info_a8 : (Try.prog.info? 57).map (·.size) = some 8 := by kernel_rfl
theorem info_a20 : (Try.prog.info? 61).map (·.size) = some 20 := by kernel_rfl
set_option maxRecDepth 8000 in
set_option maxHeartbeats 4000000 in
theorem impl_namesOf (M F V : List Int) (H : List Bool) (aM aF aV aH : Option Addr) (cM cF cV cH : Nat) (w : World) (h : SrcN w ⟨M, F, V, H⟩ aM aF aV aH) (lM : M.length = 8) (lF : F.length ≤ 12) (lV : V.length = 20) (lH : H.length = 20) :
    Calls Try.prog 68 #[.agg #[.slice aM M.length cM, .slice aF F.length cF, .slice aV V.length cV, .slice aH H.length cH]] w fun e w' => ∃ g, e = .returned (.pointer (some ⟨g, 0, none⟩)) ∧ w.heap.size ≤ g ∧ Nb w' g M (ringP F) 0 F.length V H ∧ Fr w w' := by
  obtain ⟨hM, hF, hV, hH⟩ := h
  simp only at hM hF hV hH
  obtain ⟨gM, oM, rfl, qM, kM⟩ := hM (by omega)
  obtain ⟨gV, oV, rfl, qV, kV⟩ := hV (by omega)
  obtain ⟨gH, oH, rfl, qH, kH⟩ := hH (by omega)
  have HB := Lib.hid (Box4.new w (.slice (some ⟨gM, oM, none⟩) M.length cM) (.slice aF F.length cF) (.slice (some ⟨gV, oV, none⟩) V.length cV) (.slice (some ⟨gH, oH, none⟩) H.length cH) 25 _ rfl)
  have HF1 := Lib.hid (Fr.alloc w (.cells #[.slice (some ⟨gM, oM, none⟩) M.length cM, .slice aF F.length cF, .slice (some ⟨gV, oV, none⟩) V.length cV, .slice (some ⟨gH, oH, none⟩) H.length cH] 25))
  have HUL := Lib.hid (show w.heap.size < (w.alloc (.cells #[.slice (some ⟨gM, oM, none⟩) M.length cM, .slice aF F.length cF, .slice (some ⟨gV, oV, none⟩) V.length cV, .slice (some ⟨gH, oH, none⟩) H.length cH] 25)).heap.size by simp)
  have KM := Lib.hid (fun (u : World) (f : Fr w u) => range_fr (src_range kM) f qM)
  have KV := Lib.hid (fun (u : World) (f : Fr w u) => range_fr (src_range kV) f qV)
  have KH := Lib.hid (fun (u : World) (f : Fr w u) => range_fr (src_rangeB kH) f qH)
  have HAM := Lib.hid (fun (u : World) => run_arrayAt (P := Try.prog) u 57 _ 8 (some ⟨gM, oM, none⟩) M.length cM Try.underlying57 (by omega))
  have HAV := Lib.hid (fun (u : World) => run_arrayAt (P := Try.prog) u 61 _ 20 (some ⟨gV, oV, none⟩) V.length cV Try.underlying61 (by omega))
  have HAH := Lib.hid (fun (u : World) => run_arrayAt (P := Try.prog) u 62 _ 20 (some ⟨gH, oH, none⟩) H.length cH Try.underlying62 (by omega))
  have HSF := Lib.hid hF
  have HLM := Lib.hid lM
  have HLF := Lib.hid lF
  have HLV := Lib.hid lV
  have HLH := Lib.hid lH
  clear hM hF hV hH kM kV kH qM qV qH lM lF lV lH
  go_enter Try.func68, Try.ntmps68
  go_wp2_with fail
  generalize (w.alloc (.cells #[.slice (some ⟨gM, oM, none⟩) M.length cM, .slice aF F.length cF, .slice (some ⟨gV, oV, none⟩) V.length cV, .slice (some ⟨gH, oH, none⟩) H.length cH] 25)) = u0 at *
  refine wp_region_rows 20 17 [] (fun _ => []) lb0_in (fun i => false) (fun i v u => match i with | 0 => v = .pointer (some ⟨w.heap.size, 0, none⟩) | 1 => v = .slice (some ⟨gM, oM, none⟩) M.length cM | 2 => v = .pointer (some ⟨gM, oM, none⟩) | 3 => v = .agg (M.map (Value.int .i64)).toArray | 4 => v = .pointer (some ⟨w.heap.size, 1, none⟩) | 5 => v = .slice aF F.length cF | 6 => v = .agg (ringC F).toArray | 7 => v = .pointer (some ⟨w.heap.size, 2, none⟩) | 8 => v = .slice (some ⟨gV, oV, none⟩) V.length cV | 9 => v = .pointer (some ⟨gV, oV, none⟩) | 10 => v = .agg (V.map (Value.int .i64)).toArray | 11 => v = .pointer (some ⟨w.heap.size, 3, none⟩) | 12 => v = .slice (some ⟨gH, oH, none⟩) H.length cH | 13 => v = .pointer (some ⟨gH, oH, none⟩) | 14 => v = .agg (H.map Value.bool).toArray | 15 => v = .agg (nmC M F V H).toArray | 16 => ∃ g', v = .pointer (some ⟨g', 0, none⟩) ∧ w.heap.size ≤ g' ∧ Nb u g' M (ringP F) 0 F.length V H | _ => True) ?mono (by kernel_rfl) (by kernel_rfl) rfl (by kernel_rfl) (by kernel_rfl) (by decide) ?step ?fin
  case mono =>
    intro i j v u u' hi hij hdj hsz h hB
    rcases j with _ | _ | _ | _ | _ | _ | _ | _ | _ | _ | _ | _ | _ | _ | _ | _ | _ | j
    · exact h
    · exact h
    · exact h
    · exact h
    · exact h
    · exact h
    · exact h
    · exact h
    · exact h
    · exact h
    · exact h
    · exact h
    · exact h
    · exact h
    · exact h
    · exact h
    · obtain ⟨g', e, hb, r⟩ := h
      exact ⟨g', e, hb, r.but hB (by simp)⟩
    · trivial
  case step =>
    intro i o ho hiz
    rcases i with _ | _ | _ | _ | _ | _ | _ | _ | _ | _ | _ | _ | _ | _ | _ | _ | _ | _ | i
    · clear hiz
      cases ho
      intro act u hB hL hdep hap hnw
      replace hB := hB [] (fun j _ k hk => lb0_in j k hk)
      obtain ⟨ysl, ha, hy⟩ := hL.puts [3, 4, 5, 6, 7, 8, 9, 10, 11, 12, 13, 14, 15, 16, 17, 18, 19, 2] (by kernel_rfl)
      clear hdep hL hy hap hnw
      simp only [List.foldl, List.setIfInBounds_toArray, List.set_cons_succ, List.set_cons_zero] at ha
      subst ha
      refine wpOp_step rfl (fun K hK => ?_)
      go_simp
      exact hK _ _ ⟨_, rfl, (fun h => by cases h), rfl, But.refl _ _, (fun h => by cases h)⟩
    · clear hiz
      cases ho
      intro act u hB hL hdep hap hnw
      replace hB := hB [] (fun j _ k hk => lb0_in j k hk)
      have d0 := hdep { on := 0, ground := .data } (by simp) rfl _ rfl
      obtain ⟨ysl, ha, hy⟩ := hL.puts [3, 4, 5, 6, 7, 8, 9, 10, 11, 12, 13, 14, 15, 16, 17, 18, 19, 2] (by kernel_rfl)
      have e0 : ysl 3 = _ := (hy 3).symm.trans d0
      clear hdep hL hy hap hnw d0
      simp only [List.foldl, List.setIfInBounds_toArray, List.set_cons_succ, List.set_cons_zero, e0] at ha
      subst ha
      clear e0
      obtain ⟨_, c0, c1, c2, c3, _, _, _, _⟩ := HB.out.but hB (by simp)
      refine wpOp_step rfl (fun K hK => ?_)
      go_simp
      exact hK _ _ ⟨_, rfl, (fun h => by cases h), rfl, But.refl _ _, (fun h => by cases h)⟩
    · clear hiz
      cases ho
      intro act u hB hL hdep hap hnw
      replace hB := hB [] (fun j _ k hk => lb0_in j k hk)
      have d1 := hdep { on := 1, ground := .data } (by simp) rfl _ rfl
      obtain ⟨ysl, ha, hy⟩ := hL.puts [3, 4, 5, 6, 7, 8, 9, 10, 11, 12, 13, 14, 15, 16, 17, 18, 19, 2] (by kernel_rfl)
      have e1 : ysl 4 = _ := (hy 4).symm.trans d1
      clear hdep hL hy hap hnw d1
      simp only [List.foldl, List.setIfInBounds_toArray, List.set_cons_succ, List.set_cons_zero, e1] at ha
      subst ha
      clear e1
      have hA := HAM.out u
      refine wpOp_step rfl (fun K hK => ?_)
      go_simp
      exact hK _ _ ⟨_, rfl, (fun h => by cases h), rfl, But.refl _ _, (fun h => by cases h)⟩
    · clear hiz
      cases ho
      intro act u hB hL hdep hap hnw
      replace hB := hB [] (fun j _ k hk => lb0_in j k hk)
      have d2 := hdep { on := 2, ground := .data } (by simp) rfl _ rfl
      obtain ⟨ysl, ha, hy⟩ := hL.puts [3, 4, 5, 6, 7, 8, 9, 10, 11, 12, 13, 14, 15, 16, 17, 18, 19, 2] (by kernel_rfl)
      have e2 : ysl 5 = _ := (hy 5).symm.trans d2
      clear hdep hL hy hap hnw d2
      simp only [List.foldl, List.setIfInBounds_toArray, List.set_cons_succ, List.set_cons_zero, e2] at ha
      subst ha
      clear e2
      refine wpOp_step rfl (fun K hK => ?_)
      rw [if_pos (by simp [Region.wanted])]
      refine wp_load_mid 57 _ rfl gM oM rfl (M.map (Value.int .i64)) _ (KM.out u (fr_but (L := []) HF1.out hB (fun k hk => by cases hk))) Try.underlying57 rfl (by rw [info_a8, List.length_map, HLM.out]) ?_
      exact hK _ _ ⟨_, rfl, (fun h => by cases h), rfl, But.refl _ _, (fun h => by cases h)⟩
    · clear hiz
      cases ho
      intro act u hB hL hdep hap hnw
      replace hB := hB [] (fun j _ k hk => lb0_in j k hk)
      obtain ⟨ysl, ha, hy⟩ := hL.puts [3, 4, 5, 6, 7, 8, 9, 10, 11, 12, 13, 14, 15, 16, 17, 18, 19, 2] (by kernel_rfl)
      clear hdep hL hy hap hnw
      simp only [List.foldl, List.setIfInBounds_toArray, List.set_cons_succ, List.set_cons_zero] at ha
      subst ha
      refine wpOp_step rfl (fun K hK => ?_)
      go_simp
      exact hK _ _ ⟨_, rfl, (fun h => by cases h), rfl, But.refl _ _, (fun h => by cases h)⟩
    · clear hiz
      cases ho
      intro act u hB hL hdep hap hnw
      replace hB := hB [] (fun j _ k hk => lb0_in j k hk)
      have d4 := hdep { on := 4, ground := .data } (by simp) rfl _ rfl
      obtain ⟨ysl, ha, hy⟩ := hL.puts [3, 4, 5, 6, 7, 8, 9, 10, 11, 12, 13, 14, 15, 16, 17, 18, 19, 2] (by kernel_rfl)
      have e4 : ysl 7 = _ := (hy 7).symm.trans d4
      clear hdep hL hy hap hnw d4
      simp only [List.foldl, List.setIfInBounds_toArray, List.set_cons_succ, List.set_cons_zero, e4] at ha
      subst ha
      clear e4
      obtain ⟨_, c0, c1, c2, c3, _, _, _, _⟩ := HB.out.but hB (by simp)
      refine wpOp_step rfl (fun K hK => ?_)
      go_simp
      exact hK _ _ ⟨_, rfl, (fun h => by cases h), rfl, But.refl _ _, (fun h => by cases h)⟩
    · clear hiz
      cases ho
      intro act u hB hL hdep hap hnw
      replace hB := hB [] (fun j _ k hk => lb0_in j k hk)
      have d5 := hdep { on := 5, ground := .data } (by simp) rfl _ rfl
      obtain ⟨ysl, ha, hy⟩ := hL.puts [3, 4, 5, 6, 7, 8, 9, 10, 11, 12, 13, 14, 15, 16, 17, 18, 19, 2] (by kernel_rfl)
      have e5 : ysl 8 = _ := (hy 8).symm.trans d5
      clear hdep hL hy hap hnw d5
      simp only [List.foldl, List.setIfInBounds_toArray, List.set_cons_succ, List.set_cons_zero, e5] at ha
      subst ha
      clear e5
      refine wpOp_step rfl (fun K hK => ?_)
      go_simp
      refine (impl_ringOf F aF cF u (HSF.out.fr (fr_but (L := []) HF1.out hB (fun k hk => by cases hk))) HLF.out).mono ?_
      rintro e u' ⟨rfl, f⟩
      go_simp
      exact hK _ _ ⟨_, rfl, (fun h => by cases h), rfl, But.of f, (fun h => by cases h)⟩
    · clear hiz
      cases ho
      intro act u hB hL hdep hap hnw
      replace hB := hB [] (fun j _ k hk => lb0_in j k hk)
      obtain ⟨ysl, ha, hy⟩ := hL.puts [3, 4, 5, 6, 7, 8, 9, 10, 11, 12, 13, 14, 15, 16, 17, 18, 19, 2] (by kernel_rfl)
      clear hdep hL hy hap hnw
      simp only [List.foldl, List.setIfInBounds_toArray, List.set_cons_succ, List.set_cons_zero] at ha
      subst ha
      refine wpOp_step rfl (fun K hK => ?_)
      go_simp
      exact hK _ _ ⟨_, rfl, (fun h => by cases h), rfl, But.refl _ _, (fun h => by cases h)⟩
    · clear hiz
      cases ho
      intro act u hB hL hdep hap hnw
      replace hB := hB [] (fun j _ k hk => lb0_in j k hk)
      have d7 := hdep { on := 7, ground := .data } (by simp) rfl _ rfl
      obtain ⟨ysl, ha, hy⟩ := hL.puts [3, 4, 5, 6, 7, 8, 9, 10, 11, 12, 13, 14, 15, 16, 17, 18, 19, 2] (by kernel_rfl)
      have e7 : ysl 10 = _ := (hy 10).symm.trans d7
      clear hdep hL hy hap hnw d7
      simp only [List.foldl, List.setIfInBounds_toArray, List.set_cons_succ, List.set_cons_zero, e7] at ha
      subst ha
      clear e7
      obtain ⟨_, c0, c1, c2, c3, _, _, _, _⟩ := HB.out.but hB (by simp)
      refine wpOp_step rfl (fun K hK => ?_)
      go_simp
      exact hK _ _ ⟨_, rfl, (fun h => by cases h), rfl, But.refl _ _, (fun h => by cases h)⟩
    · clear hiz
      cases ho
      intro act u hB hL hdep hap hnw
      replace hB := hB [] (fun j _ k hk => lb0_in j k hk)
      have d8 := hdep { on := 8, ground := .data } (by simp) rfl _ rfl
      obtain ⟨ysl, ha, hy⟩ := hL.puts [3, 4, 5, 6, 7, 8, 9, 10, 11, 12, 13, 14, 15, 16, 17, 18, 19, 2] (by kernel_rfl)
      have e8 : ysl 11 = _ := (hy 11).symm.trans d8
      clear hdep hL hy hap hnw d8
      simp only [List.foldl, List.setIfInBounds_toArray, List.set_cons_succ, List.set_cons_zero, e8] at ha
      subst ha
      clear e8
      have hA := HAV.out u
      refine wpOp_step rfl (fun K hK => ?_)
      go_simp
      exact hK _ _ ⟨_, rfl, (fun h => by cases h), rfl, But.refl _ _, (fun h => by cases h)⟩
    · clear hiz
      cases ho
      intro act u hB hL hdep hap hnw
      replace hB := hB [] (fun j _ k hk => lb0_in j k hk)
      have d9 := hdep { on := 9, ground := .data } (by simp) rfl _ rfl
      obtain ⟨ysl, ha, hy⟩ := hL.puts [3, 4, 5, 6, 7, 8, 9, 10, 11, 12, 13, 14, 15, 16, 17, 18, 19, 2] (by kernel_rfl)
      have e9 : ysl 12 = _ := (hy 12).symm.trans d9
      clear hdep hL hy hap hnw d9
      simp only [List.foldl, List.setIfInBounds_toArray, List.set_cons_succ, List.set_cons_zero, e9] at ha
      subst ha
      clear e9
      refine wpOp_step rfl (fun K hK => ?_)
      rw [if_pos (by simp [Region.wanted])]
      refine wp_load_mid 61 _ rfl gV oV rfl (V.map (Value.int .i64)) _ (KV.out u (fr_but (L := []) HF1.out hB (fun k hk => by cases hk))) Try.underlying61 rfl (by rw [info_a20, List.length_map, HLV.out]) ?_
      exact hK _ _ ⟨_, rfl, (fun h => by cases h), rfl, But.refl _ _, (fun h => by cases h)⟩
    · clear hiz
      cases ho
      intro act u hB hL hdep hap hnw
      replace hB := hB [] (fun j _ k hk => lb0_in j k hk)
      obtain ⟨ysl, ha, hy⟩ := hL.puts [3, 4, 5, 6, 7, 8, 9, 10, 11, 12, 13, 14, 15, 16, 17, 18, 19, 2] (by kernel_rfl)
      clear hdep hL hy hap hnw
      simp only [List.foldl, List.setIfInBounds_toArray, List.set_cons_succ, List.set_cons_zero] at ha
      subst ha
      refine wpOp_step rfl (fun K hK => ?_)
      go_simp
      exact hK _ _ ⟨_, rfl, (fun h => by cases h), rfl, But.refl _ _, (fun h => by cases h)⟩
    · clear hiz
      cases ho
      intro act u hB hL hdep hap hnw
      replace hB := hB [] (fun j _ k hk => lb0_in j k hk)
      have d11 := hdep { on := 11, ground := .data } (by simp) rfl _ rfl
      obtain ⟨ysl, ha, hy⟩ := hL.puts [3, 4, 5, 6, 7, 8, 9, 10, 11, 12, 13, 14, 15, 16, 17, 18, 19, 2] (by kernel_rfl)
      have e11 : ysl 14 = _ := (hy 14).symm.trans d11
      clear hdep hL hy hap hnw d11
      simp only [List.foldl, List.setIfInBounds_toArray, List.set_cons_succ, List.set_cons_zero, e11] at ha
      subst ha
      clear e11
      obtain ⟨_, c0, c1, c2, c3, _, _, _, _⟩ := HB.out.but hB (by simp)
      refine wpOp_step rfl (fun K hK => ?_)
      go_simp
      exact hK _ _ ⟨_, rfl, (fun h => by cases h), rfl, But.refl _ _, (fun h => by cases h)⟩
    · clear hiz
      cases ho
      intro act u hB hL hdep hap hnw
      replace hB := hB [] (fun j _ k hk => lb0_in j k hk)
      have d12 := hdep { on := 12, ground := .data } (by simp) rfl _ rfl
      obtain ⟨ysl, ha, hy⟩ := hL.puts [3, 4, 5, 6, 7, 8, 9, 10, 11, 12, 13, 14, 15, 16, 17, 18, 19, 2] (by kernel_rfl)
      have e12 : ysl 15 = _ := (hy 15).symm.trans d12
      clear hdep hL hy hap hnw d12
      simp only [List.foldl, List.setIfInBounds_toArray, List.set_cons_succ, List.set_cons_zero, e12] at ha
      subst ha
      clear e12
      have hA := HAH.out u
      refine wpOp_step rfl (fun K hK => ?_)
      go_simp
      exact hK _ _ ⟨_, rfl, (fun h => by cases h), rfl, But.refl _ _, (fun h => by cases h)⟩
    · clear hiz
      cases ho
      intro act u hB hL hdep hap hnw
      replace hB := hB [] (fun j _ k hk => lb0_in j k hk)
      have d13 := hdep { on := 13, ground := .data } (by simp) rfl _ rfl
      obtain ⟨ysl, ha, hy⟩ := hL.puts [3, 4, 5, 6, 7, 8, 9, 10, 11, 12, 13, 14, 15, 16, 17, 18, 19, 2] (by kernel_rfl)
      have e13 : ysl 16 = _ := (hy 16).symm.trans d13
      clear hdep hL hy hap hnw d13
      simp only [List.foldl, List.setIfInBounds_toArray, List.set_cons_succ, List.set_cons_zero, e13] at ha
      subst ha
      clear e13
      refine wpOp_step rfl (fun K hK => ?_)
      rw [if_pos (by simp [Region.wanted])]
      refine wp_load_mid 62 _ rfl gH oH rfl (H.map Value.bool) _ (KH.out u (fr_but (L := []) HF1.out hB (fun k hk => by cases hk))) Try.underlying62 rfl (by rw [info_b20, List.length_map, HLH.out]) ?_
      exact hK _ _ ⟨_, rfl, (fun h => by cases h), rfl, But.refl _ _, (fun h => by cases h)⟩
    · clear hiz
      cases ho
      intro act u hB hL hdep hap hnw
      replace hB := hB [] (fun j _ k hk => lb0_in j k hk)
      have d3 := hdep { on := 3, ground := .data } (by simp) rfl _ rfl
      have d6 := hdep { on := 6, ground := .data } (by simp) rfl _ rfl
      have d10 := hdep { on := 10, ground := .data } (by simp) rfl _ rfl
      have d14 := hdep { on := 14, ground := .data } (by simp) rfl _ rfl
      obtain ⟨ysl, ha, hy⟩ := hL.puts [3, 4, 5, 6, 7, 8, 9, 10, 11, 12, 13, 14, 15, 16, 17, 18, 19, 2] (by kernel_rfl)
      have e3 : ysl 6 = _ := (hy 6).symm.trans d3
      have e6 : ysl 9 = _ := (hy 9).symm.trans d6
      have e10 : ysl 13 = _ := (hy 13).symm.trans d10
      have e14 : ysl 17 = _ := (hy 17).symm.trans d14
      clear hdep hL hy hap hnw d3 d6 d10 d14
      simp only [List.foldl, List.setIfInBounds_toArray, List.set_cons_succ, List.set_cons_zero, e3, e6, e10, e14] at ha
      subst ha
      clear e3 e6 e10 e14
      refine wpOp_step rfl (fun K hK => ?_)
      rw [if_pos (by simp [Region.wanted])]
      refine wp_build_eq 64 _ rfl [(0, .agg (M.map (Value.int .i64)).toArray), (1, .agg (ringC F).toArray), (2, .agg (V.map (Value.int .i64)).toArray), (3, .agg (H.map Value.bool).toArray)] (nmC M F V H).toArray (by first | rfl | (simp [go_sem]; done) | (simp; done) | kernel_rfl) (built4 _ _ _ _ (by rw [List.length_map, HLM.out]) (ringC_len F HLF.out) (by rw [List.length_map, HLV.out]) (by rw [List.length_map, HLH.out])) ?_
      exact hK _ _ ⟨_, rfl, (fun h => by cases h), rfl, But.refl _ _, (fun h => by cases h)⟩
    · clear hiz
      cases ho
      intro act u hB hL hdep hap hnw
      replace hB := hB [] (fun j _ k hk => lb0_in j k hk)
      have d15 := hdep { on := 15, ground := .data } (by simp) rfl _ rfl
      obtain ⟨ysl, ha, hy⟩ := hL.puts [3, 4, 5, 6, 7, 8, 9, 10, 11, 12, 13, 14, 15, 16, 17, 18, 19, 2] (by kernel_rfl)
      have e15 : ysl 18 = _ := (hy 18).symm.trans d15
      clear hdep hL hy hap hnw d15
      simp only [List.foldl, List.setIfInBounds_toArray, List.set_cons_succ, List.set_cons_zero, e15] at ha
      subst ha
      clear e15
      refine wpOp_step rfl (fun K hK => ?_)
      go_simp
      exact hK _ _ ⟨_, rfl, (fun h => by cases h), ⟨_, rfl, Nat.le_trans (Nat.le_of_lt HUL.out) hB.size, nb_new u 64 M F V H HLM.out HLF.out HLV.out HLH.out⟩, But.of (Fr.alloc _ _), (fun h => by cases h)⟩
    · exact absurd rfl hiz
    · exact absurd ho (by simp)
  case fin =>
    intro act u hB hL hsf hap hnw
    have d16 := hsf 16 _ rfl (by decide)
    obtain ⟨ysl, ha, hy⟩ := hL.puts [3, 4, 5, 6, 7, 8, 9, 10, 11, 12, 13, 14, 15, 16, 17, 18, 19, 2] (by kernel_rfl)
    obtain ⟨g16, h16, b16, r16⟩ := d16
    have e16 : ysl 19 = .pointer (some ⟨g16, 0, none⟩) := (hy 19).symm.trans h16
    clear hL hsf hy hap hnw h16
    simp only [List.foldl, List.setIfInBounds_toArray, List.set_cons_succ, List.set_cons_zero, e16] at ha
    subst ha
    clear e16
    have HFu := Lib.hid (fr_but (L := []) HF1.out hB (fun k hk => by cases hk))
    clear hB
    refine wpOp_step rfl (fun K hK => ?_)
    go_simp
    refine hK _ _ ?_
    go_wp2_with fail
    go_ret
    exact ⟨g16, rfl, b16, r16, HFu.out⟩

end Go.Proofs.Ytddllgjieccikaa
