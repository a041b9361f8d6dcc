/- Places marked, held; places that came in. -/
import Derived.Test.YtddllgjieccikaaNh
namespace Go.Proofs.Ytddllgjieccikaa
open Go.ChangeShapes Go.WideShapes Go.ChangeAt Go.RowKit
set_option linter.unusedVariables false
set_option linter.unusedSimpArgs false
/-- The rows of marked places. -/
def rwK (x : Nm) (k : Int) (aM aF aV aH : Option Addr) : List Rw := [⟨x.M.length, fun i => .int .i64 (k + i), aM⟩, ⟨x.F.length, fun i => .int .i64 (k + x.M.length + i), aF⟩, ⟨x.V.length, fun i => .int .i64 (k + x.M.length + x.F.length + i), aV⟩, ⟨x.H.length, fun i => .bool ((k + x.M.length + x.F.length + x.V.length + i) % 3 == 0), aH⟩]
abbrev VcKn (B : Nat) (u : World) (x : Nm) (k : Int) (aM aF aV aH : Option Addr) : Prop := Rws B u (rwK x k aM aF aV aH)
theorem blk_K (x : Nm) (k : Int) (aM aF aV aH : Option Addr) : blkR (rwK x k aM aF aV aH) = blkR (rwN x aM aF aV aH) := rfl
set_option maxRecDepth 4000 in
set_option maxHeartbeats 2000000 in
theorem laws_markNam (B : Nat) (x : Nm) (aM aF aV aH : Option Addr) (cM cF cV cH : Nat) (k : Int) (u : World) (h : VcNm B u x aM aF aV aH) (hB : B ≤ u.heap.size) (hn : FewN x) (k0 : 1 ≤ k) (k1 : k ≤ 1000000) :
    Calls Try.prog 21 #[.agg #[.slice aM x.M.length cM, .slice aF x.F.length cF, .slice aV x.V.length cV, .slice aH x.H.length cH], .int .i64 k] u fun e u' => e = .returned (.int .i64 (k + x.M.length + x.F.length + x.V.length + x.H.length)) ∧ VcKn B u' x k aM aF aV aH ∧ But (blkR (rwN x aM aF aV aH)) u u' ∧ Below B u u' := by
  have F0 : Fr u (u.alloc (.cells #[.slice aM x.M.length cM, .slice aF x.F.length cF, .slice aV x.V.length cV, .slice aH x.H.length cH] 25)) := Fr.alloc _ _
  have Y1 : Hid (Box4 (u.alloc (.cells #[.slice aM x.M.length cM, .slice aF x.F.length cF, .slice aV x.V.length cV, .slice aH x.H.length cH] 25)) u.heap.size (.slice aM x.M.length cM) (.slice aF x.F.length cF) (.slice aV x.V.length cV) (.slice aH x.H.length cH)) := Lib.hid (Box4.new _ _ _ _ _ _ _ rfl)
  have R0 := Lib.hid (show Rws B (u.alloc (.cells #[.slice aM x.M.length cM, .slice aF x.F.length cF, .slice aV x.V.length cV, .slice aH x.H.length cH] 25)) ([] ++ ⟨x.M.length, ivl x.M, aM⟩ :: [⟨x.F.length, ivl x.F, aF⟩, ⟨x.V.length, ivl x.V, aV⟩, ⟨x.H.length, bvl x.H, aH⟩]) from h.fr F0)
  have HK := Lib.hid (fun (q : Rw) (hq : q ∈ rwN x aM aF aV aH) (j : Nat) (hj : j ∈ q.b) => show j < u.heap.size from (h.blk j (List.mem_flatMap.2 ⟨q, hq, hj⟩)).2)
  have HKB := Lib.hid (fun j hj => (h.blk j hj).1)
  have HQ := Lib.hid (But.of (L := blkR (rwN x aM aF aV aH)) F0)
  have h1 := hn.M
  have h2 := hn.F
  have h3 := hn.V
  have h4 := hn.H
  clear F0 h hn
  go_enter Try.func21, Try.ntmps21
  go_wp2_with fail
  generalize (u.alloc (.cells #[.slice aM x.M.length cM, .slice aF x.F.length cF, .slice aV x.V.length cV, .slice aH x.H.length cH] 25)) = u0 at *
  refine (laws_markIntSo B _ x.M.length (fun i => x.M.getD i 0) _ _ _ R0.out.sub h1 (by omega) (by omega)).mono ?_
  rintro e u1 ⟨rfl, M0, q0⟩
  have R1 := Lib.hid (show Rws B u1 ([⟨x.M.length, fun i => .int .i64 (k + i), aM⟩] ++ ⟨x.F.length, ivl x.F, aF⟩ :: [⟨x.V.length, ivl x.V, aV⟩, ⟨x.H.length, bvl x.H, aH⟩]) from R0.out.turn q0 M0)
  replace Y1 := Lib.hid (Y1.out.but q0 (fun hm => by have := HK.out ⟨x.M.length, ivl x.M, aM⟩ (by simp [rwN]) _ hm; omega))
  replace HQ := Lib.hid (HQ.out.trans (But.wide (L' := blkR (rwN x aM aF aV aH)) q0 (fun j hj => List.mem_flatMap.2 ⟨⟨x.M.length, ivl x.M, aM⟩, by simp [rwN], hj⟩)))
  clear q0 M0 R0
  obtain ⟨_, x0, x1, x2, x3, _, _, _, _⟩ := Y1.out
  go_wp2_with fail
  refine (laws_markIntSo B _ x.F.length (fun i => x.F.getD i 0) _ _ _ R1.out.sub h2 (by omega) (by omega)).mono ?_
  rintro e u2 ⟨rfl, M1, q1⟩
  clear x0 x1 x2 x3
  have R2 := Lib.hid (show Rws B u2 ([⟨x.M.length, fun i => .int .i64 (k + i), aM⟩, ⟨x.F.length, fun i => .int .i64 (k + x.M.length + i), aF⟩] ++ ⟨x.V.length, ivl x.V, aV⟩ :: [⟨x.H.length, bvl x.H, aH⟩]) from R1.out.turn q1 M1)
  replace Y1 := Lib.hid (Y1.out.but q1 (fun hm => by have := HK.out ⟨x.F.length, ivl x.F, aF⟩ (by simp [rwN]) _ hm; omega))
  replace HQ := Lib.hid (HQ.out.trans (But.wide (L' := blkR (rwN x aM aF aV aH)) q1 (fun j hj => List.mem_flatMap.2 ⟨⟨x.F.length, ivl x.F, aF⟩, by simp [rwN], hj⟩)))
  clear q1 M1 R1
  obtain ⟨_, x0, x1, x2, x3, _, _, _, _⟩ := Y1.out
  go_wp2_with fail
  refine (laws_markIntSo B _ x.V.length (fun i => x.V.getD i 0) _ _ _ R2.out.sub h3 (by omega) (by omega)).mono ?_
  rintro e u3 ⟨rfl, M2, q2⟩
  clear x0 x1 x2 x3
  have R3 := Lib.hid (show Rws B u3 ([⟨x.M.length, fun i => .int .i64 (k + i), aM⟩, ⟨x.F.length, fun i => .int .i64 (k + x.M.length + i), aF⟩, ⟨x.V.length, fun i => .int .i64 (k + x.M.length + x.F.length + i), aV⟩] ++ ⟨x.H.length, bvl x.H, aH⟩ :: []) from R2.out.turn q2 M2)
  replace Y1 := Lib.hid (Y1.out.but q2 (fun hm => by have := HK.out ⟨x.V.length, ivl x.V, aV⟩ (by simp [rwN]) _ hm; omega))
  replace HQ := Lib.hid (HQ.out.trans (But.wide (L' := blkR (rwN x aM aF aV aH)) q2 (fun j hj => List.mem_flatMap.2 ⟨⟨x.V.length, ivl x.V, aV⟩, by simp [rwN], hj⟩)))
  clear q2 M2 R2
  obtain ⟨_, x0, x1, x2, x3, _, _, _, _⟩ := Y1.out
  go_wp2_with fail
  refine (laws_markBoolSo B _ x.H.length (fun i => x.H.getD i false) _ _ _ R3.out.sub h4 (by omega) (by omega)).mono ?_
  rintro e u4 ⟨rfl, M3, q3⟩
  clear x0 x1 x2 x3
  have R4 := Lib.hid (show Rws B u4 (rwK x k aM aF aV aH) from R3.out.turn q3 M3)
  replace Y1 := Lib.hid (Y1.out.but q3 (fun hm => by have := HK.out ⟨x.H.length, bvl x.H, aH⟩ (by simp [rwN]) _ hm; omega))
  replace HQ := Lib.hid (HQ.out.trans (But.wide (L' := blkR (rwN x aM aF aV aH)) q3 (fun j hj => List.mem_flatMap.2 ⟨⟨x.H.length, bvl x.H, aH⟩, by simp [rwN], hj⟩)))
  clear q3 M3 R3
  go_wp2_with fail
  go_ret
  exact ⟨rfl, R4.out, HQ.out, bel_but HQ.out HKB.out hB⟩
set_option maxRecDepth 4000 in
set_option maxHeartbeats 2000000 in
theorem laws_heldNam (B : Nat) (x : Nm) (aM aF aV aH : Option Addr) (cM cF cV cH : Nat) (k : Int) (u : World) (h : VcKn B u x k aM aF aV aH) (hn : FewN x) (k0 : 1 ≤ k) (k1 : k ≤ 1000000) :
    Calls Try.prog 22 #[.agg #[.slice aM x.M.length cM, .slice aF x.F.length cF, .slice aV x.V.length cV, .slice aH x.H.length cH], .int .i64 k] u fun e u' => e = .returned (.int .i64 (k + x.M.length + x.F.length + x.V.length + x.H.length)) ∧ Fr u u' := by
  have F0 : Fr u (u.alloc (.cells #[.slice aM x.M.length cM, .slice aF x.F.length cF, .slice aV x.V.length cV, .slice aH x.H.length cH] 25)) := Fr.alloc _ _
  have Y1 : Hid (Box4 (u.alloc (.cells #[.slice aM x.M.length cM, .slice aF x.F.length cF, .slice aV x.V.length cV, .slice aH x.H.length cH] 25)) u.heap.size (.slice aM x.M.length cM) (.slice aF x.F.length cF) (.slice aV x.V.length cV) (.slice aH x.H.length cH)) := Lib.hid (Box4.new _ _ _ _ _ _ _ rfl)
  have R0 := Lib.hid (h.fr F0)
  have HF := Lib.hid F0
  have h1 := hn.M
  have h2 := hn.F
  have h3 := hn.V
  have h4 := hn.H
  clear F0 h hn
  go_enter Try.func22, Try.ntmps22
  go_wp2_with fail
  generalize (u.alloc (.cells #[.slice aM x.M.length cM, .slice aF x.F.length cF, .slice aV x.V.length cV, .slice aH x.H.length cH] 25)) = u0 at *
  refine (laws_heldIntSo u0 x.M.length _ _ _ ((R0.out.all ⟨x.M.length, fun i => .int .i64 (k + i), aM⟩ (by simp [rwK])).src) h1 (by omega) (by omega)).mono ?_
  rintro e u1 ⟨rfl, f⟩
  have n0 : ¬ k + x.M.length < 0 := by omega
  replace R0 := Lib.hid (R0.out.fr f)
  replace Y1 := Lib.hid (Y1.out.fr f)
  replace HF := Lib.hid (HF.out.trans f)
  clear f
  obtain ⟨_, x0, x1, x2, x3, _, _, _, _⟩ := Y1.out
  go_wp2_with fail
  refine (laws_heldIntSo u1 x.F.length _ _ _ ((R0.out.all ⟨x.F.length, fun i => .int .i64 (k + x.M.length + i), aF⟩ (by simp [rwK])).src) h2 (by omega) (by omega)).mono ?_
  rintro e u2 ⟨rfl, f⟩
  clear x0 x1 x2 x3
  have n1 : ¬ k + x.M.length + x.F.length < 0 := by omega
  replace R0 := Lib.hid (R0.out.fr f)
  replace Y1 := Lib.hid (Y1.out.fr f)
  replace HF := Lib.hid (HF.out.trans f)
  clear f
  obtain ⟨_, x0, x1, x2, x3, _, _, _, _⟩ := Y1.out
  go_wp2_with fail
  refine (laws_heldIntSo u2 x.V.length _ _ _ ((R0.out.all ⟨x.V.length, fun i => .int .i64 (k + x.M.length + x.F.length + i), aV⟩ (by simp [rwK])).src) h3 (by omega) (by omega)).mono ?_
  rintro e u3 ⟨rfl, f⟩
  clear x0 x1 x2 x3
  have n2 : ¬ k + x.M.length + x.F.length + x.V.length < 0 := by omega
  replace R0 := Lib.hid (R0.out.fr f)
  replace Y1 := Lib.hid (Y1.out.fr f)
  replace HF := Lib.hid (HF.out.trans f)
  clear f
  obtain ⟨_, x0, x1, x2, x3, _, _, _, _⟩ := Y1.out
  go_wp2_with fail
  refine (laws_heldBoolSo u3 x.H.length _ _ _ ((R0.out.all ⟨x.H.length, fun i => .bool ((k + x.M.length + x.F.length + x.V.length + i) % 3 == 0), aH⟩ (by simp [rwK])).src) h4 (by omega) (by omega)).mono ?_
  rintro e u4 ⟨rfl, f⟩
  clear x0 x1 x2 x3
  have n3 : ¬ k + x.M.length + x.F.length + x.V.length + x.H.length < 0 := by omega
  replace R0 := Lib.hid (R0.out.fr f)
  replace Y1 := Lib.hid (Y1.out.fr f)
  replace HF := Lib.hid (HF.out.trans f)
  clear f
  go_wp2_with fail
  go_ret
  exact ⟨rfl, HF.out⟩
set_option maxRecDepth 100000 in
theorem bools_open {H : Type} {enc : TypeId × Value → H} {w : World} {base : Nat} {spare : Nat → Bool} {held : Bool} {fuel : Nat} {c : Value} {x : DataW H × List MemPlace} (h : DataW.trod enc Try.prog w base spare held fuel 23 [c] = some x) :
    ∃ (ao : Option Addr) (cap : Nat) (S : List Bool), c = .slice ao S.length cap ∧ Src w S.length (bvl S) ao ∧ S.length ≤ 9223372036854775807 := by
  have ce : Try.prog.cellsOf 4 = 1 := by kernel_rfl
  rcases Go.Deep.open_slice Try.underlying23 h with ⟨hcs, _⟩ | ⟨a, len, cap, m, n, D, Pl, hcs, hb, hl, hm, hmm, _, hx⟩
  · injection hcs with hcs
    subst hcs
    exact ⟨none, 0, [], rfl, fun h => by simp at h, by simp⟩
  · injection hcs with hcs
    subst hcs
    have hlm : len ≤ m := by rw [hmm]; split <;> omega
    have each : ∀ i, i < len → ∃ y : Bool, w.cell? (a.add i) = some (.bool y) := by
      intro i hi
      obtain ⟨cs', h1, h2⟩ := hx i (by omega)
      rw [ce] at h1
      obtain ⟨_, hlen, hcell⟩ := World.cells?_some h1
      match cs', hlen with
      | [v0], _ =>
        obtain ⟨z0, e0, _⟩ := DataW.trod_bool Try.underlying4 h2
        injection e0 with e0
        subst e0
        have q0 := hcell 0 (by omega)
        rw [Go.Deep.add_add] at q0
        exact ⟨z0, by simpa using q0⟩
    obtain ⟨q, hq⟩ := Go.Deep.choose_lt each
    have hmx : maxLen = 9223372036854775807 := rfl
    refine ⟨some a, cap, (List.range len).map q, by simp, ?_, by simp; omega⟩
    refine src_of_row fun i hi => ?_
    have hi' : i < len := by simpa using hi
    rw [hq i hi']
    simp [bvl, List.getD_eq_getElem?_getD, hi']
set_option maxRecDepth 100000 in
theorem open_nam {H : Type} {enc : TypeId × Value → H} {w : World} {r : Reach} {b0 base : Nat} {spare : Nat → Bool} {held : Bool} {v : Value} {d : DataW H} {p : List MemPlace}
    (hv : Value.okWide Try.prog w r b0 30 v) (h : DataW.Trod enc Try.prog w base spare held 30 v d p) :
    ∃ (x : Nm) (aM aF aV aH : Option Addr) (cM cF cV cH : Nat), v = .agg #[.slice aM x.M.length cM, .slice aF x.F.length cF, .slice aV x.V.length cV, .slice aH x.H.length cH] ∧ SrcN w x aM aF aV aH ∧ BigN x := by
  have cI : Try.prog.cellsOf 22 = 1 := by kernel_rfl
  have cB : Try.prog.cellsOf 23 = 1 := by kernel_rfl
  have hc : Try.prog.cellsOf 30 = 4 := by kernel_rfl
  obtain ⟨cs, rfl, hsz⟩ := okWide_struct Try.underlying30 hv
  obtain ⟨c0, c1, c2, c3, rfl⟩ := array4 (hsz.trans hc)
  obtain ⟨fuel, hf⟩ := h
  obtain ⟨xs, n, _, _, hl, hlen, hfl⟩ := DataW.trod_struct Try.underlying30 hf
  match xs, hlen with
  | [y0, y1, y2, y3], _ =>
    have g0 := hfl 0 _ rfl
    have g1 := hfl 1 _ rfl
    have g2 := hfl 2 _ rfl
    have g3 := hfl 3 _ rfl
    simp only [cI, cB, Value.cells, List.drop_zero, List.take_succ_cons, List.take_zero, List.drop_succ_cons, List.getElem?_cons_zero, List.getElem?_cons_succ] at g0 g1 g2 g3
    obtain ⟨aM, cM, M, rfl, sM, lM⟩ := row_open g0
    obtain ⟨aF, cF, F, rfl, sF, lF⟩ := row_open g1
    obtain ⟨aV, cV, V, rfl, sV, lV⟩ := row_open g2
    obtain ⟨aH, cH, H, rfl, sH, lH⟩ := bools_open g3
    exact ⟨⟨M, F, V, H⟩, aM, aF, aV, aH, cM, cF, cV, cH, rfl, ⟨sM, sF, sV, sH⟩, ⟨lM, lF, lV, lH⟩⟩

end Go.Proofs.Ytddllgjieccikaa
