/- Chapter 3: the model reads an instruction's words. -/
import Derived.Test.YtecdmafhjfnloaaDoorSp3
import Derived.Test.YtecdmafhjfnloaaDoorRegion
namespace Go.Proofs.YtecdmafhjfnloaaDoor
open Go.RowKit
set_option linter.unusedVariables false

theorem has_lay : ∀ k : Nat, k < 16 → ∀ q, q < 3 → (layN (k : Int) q = 0 ∧ [hD (k : Int), hA (k : Int), hB (k : Int)].getD q false = false) ∨ (layN (k : Int) q = 1 ∧ [hD (k : Int), hA (k : Int), hB (k : Int)].getD q false = true) := by decide
theorem has_lay' {k : Int} (hk : 0 ≤ k ∧ k < 16) {q : Nat} (hq : q < 3) : (layN k q = 0 ∧ [hD k, hA k, hB k].getD q false = false) ∨ (layN k q = 1 ∧ [hD k, hA k, hB k].getD q false = true) := by
  have := has_lay k.toNat (by omega) q hq
  rwa [Int.toNat_of_nonneg hk.1] at this
theorem last_lay2 : ∀ k : Nat, k < 16 → (hF (k : Int) = true ∧ k ≠ 0 ∧ layN (k : Int) 3 = 3 ∧ hN (k : Int) = 0 ∧ layN (k : Int) 4 = 0) ∨ ((hF (k : Int) = false ∨ k = 0) ∧ (layN (k : Int) 3 = 0 ∨ layN (k : Int) 3 = 2) ∧ 0 < hN (k : Int) ∧ 3 < layN (k : Int) 4) ∨ ((hF (k : Int) = false ∨ k = 0) ∧ (layN (k : Int) 3 = 0 ∨ layN (k : Int) 3 = 2) ∧ hN (k : Int) = 0 ∧ layN (k : Int) 4 = 0) := by decide
theorem last_lay3 {k : Int} (hk : 0 ≤ k ∧ k < 16) : (hF k = true ∧ k ≠ 0 ∧ layN k 3 = 3 ∧ hN k = 0 ∧ layN k 4 = 0) ∨ ((hF k = false ∨ k = 0) ∧ (layN k 3 = 0 ∨ layN k 3 = 2) ∧ 0 < hN k ∧ 3 < layN k 4) ∨ ((hF k = false ∨ k = 0) ∧ (layN k 3 = 0 ∨ layN k 3 = 2) ∧ hN k = 0 ∧ layN k 4 = 0) := by
  have := last_lay2 k.toNat (by omega)
  rw [Int.toNat_of_nonneg hk.1] at this
  have e : (k.toNat = 0) ↔ (k = 0) := by omega
  have e2 : (k.toNat ≠ 0) ↔ (k ≠ 0) := by omega
  rwa [e, e2] at this
theorem Wds.next {u : World} {x : List UInt8} {t : List (List UInt8)} {g off cap : Nat} (hcap : t.length + 1 ≤ cap) (hmx : cap ≤ maxLen) (hg : g < u.heap.size) (hw : ∀ i, i < t.length + 1 → u.cell? ⟨g, off + i, none⟩ = some (.string (bs ((x :: t).getD i [])))) (ao : Option Addr) (hao : 0 < t.length → ao = some ⟨g, off + 1, none⟩) : Wds u (.slice ao t.length (cap - 1)) t := by
  refine ⟨ao, cap - 1, rfl, by omega, by omega, fun h0 => ⟨g, off + 1, hao h0, hg, fun i hi => ?_⟩⟩
  rw [show off + 1 + i = off + (i + 1) by omega, hw (i + 1) (by omega)]
  simp
set_option maxRecDepth 4000 in
/-- 'x[1:]' of words: one law for whatever capacity. -/
theorem wpList_tail {ops : Array Oper} {rest : List Oper} {op : Oper} {a : Act} {w : World} {Q : Exit → Act → World → Prop} (hgd : op.guard = none) (x : Operand) (ho : op.op = .slice 38 x (some (.const (.int .i64 1))) none none)
    (g off n cap : Nat) (hx : a.eval x = .slice (some ⟨g, off, none⟩) (n + 1) cap) (hcap : n + 1 ≤ cap) (hmx : cap ≤ 9223372036854775807)
    (h : ∀ ao, (0 < n → ao = some ⟨g, off + 1, none⟩) → wpList Tryd.prog ops Q rest (a.put op.dst (.slice ao n (cap - 1))) w) : wpList Tryd.prog ops Q (op :: rest) a w := by
  refine wpList_plain hgd fun K hK => ?_
  unfold Oper.wp execOp
  rw [ho]
  have hc1 : a.eval (.const (.int .i64 1)) = .int .i64 1 := rfl
  simp only [Option.map_some, Option.map_none, hx, hc1]
  clear hx ho hc1
  by_cases hc : cap = 1
  · subst hc
    have hn : n = 0 := by omega
    subst hn
    go_simp
    exact hK _ _ (h _ (fun h0 => absurd h0 (by omega)))
  · have h1n : (1 : Int) ≤ (n : Int) + 1 := by omega
    go_simp
    exact hK _ _ (h _ (fun _ => rfl))
theorem kindOf_lt' {l : List UInt8} {i : Nat} (h : kindOf l = some i) : i < 23 := by
  unfold kindOf at h
  obtain ⟨h1, _⟩ := List.findIdx?_eq_some_iff_getElem.1 h
  exact h1
theorem below6s {B : Nat} {w u : World} (h : Below B w u) {Z : Nat} (hZ : B ≤ Z) (v0 v1 v2 v3 v4 v5 : Value) : Below B w ((((((u.setCell ⟨Z, 0, none⟩ v0).setCell ⟨Z, 1, none⟩ v1).setCell ⟨Z, 2, none⟩ v2).setCell ⟨Z, 3, none⟩ v3).setCell ⟨Z, 4, none⟩ v4).setCell ⟨Z, 5, none⟩ v5) :=
  Below.setCell (Below.setCell (Below.setCell (Below.setCell (Below.setCell (Below.setCell h (show B ≤ Z from hZ) _) (show B ≤ Z from hZ) _) (show B ≤ Z from hZ) _) (show B ≤ Z from hZ) _) (show B ≤ Z from hZ) _) (show B ≤ Z from hZ) _
/-- The blocks of a call of l3Inst. -/
structure JW (Z Cb Lb Hb : Nat) (kk ff : Int) (fs : List Int) (u : World) : Prop where
  zc : ∀ j, j < 6 → u.cell? ⟨Z, j, none⟩ = some (.int .i64 0)
  zz : ∀ j, j < 6 → u.frozen? ⟨Z, j, none⟩ = false
  cb : Box u Cb kk 0 0 0 ff 0
  cz : ∀ j, j < 6 → u.frozen? ⟨Cb, j, none⟩ = false
  lb : ∀ j, j < 3 → u.cell? ⟨Lb, j, none⟩ = some (.int .i64 (fs.getD j 0))
  lz : ∀ j, j < 3 → u.frozen? ⟨Lb, j, none⟩ = false
  hb : ∀ j, j < 3 → u.cell? ⟨Hb, j, none⟩ = some (.bool ([hD kk, hA kk, hB kk].getD j false))
  o1 : Z < Cb
  o2 : Cb < Lb
  o3 : Lb < Hb
  o4 : Hb < u.heap.size
theorem JW.fr {Z Cb Lb Hb : Nat} {kk ff : Int} {fs : List Int} {u u' : World} (h : JW Z Cb Lb Hb kk ff fs u) (f : Fr u u') : JW Z Cb Lb Hb kk ff fs u' := by
  obtain ⟨h1, h2, h3, h4, h5, h6, h7, o1, o2, o3, o4⟩ := h
  have hs := f.size
  exact ⟨fun j hj => by rw [f.cell (show Z < u.heap.size by omega)]; exact h1 j hj, fun j hj => by rw [f.frozen (show Z < u.heap.size by omega)]; exact h2 j hj, h3.fr f, fun j hj => by rw [f.frozen (show Cb < u.heap.size by omega)]; exact h4 j hj, fun j hj => by rw [f.cell (show Lb < u.heap.size by omega)]; exact h5 j hj, fun j hj => by rw [f.frozen (show Lb < u.heap.size by omega)]; exact h6 j hj, fun j hj => by rw [f.cell (show Hb < u.heap.size by omega)]; exact h7 j hj, o1, o2, o3, by omega⟩
theorem JW.set {Z Cb Lb Hb : Nat} {kk ff v : Int} {fs : List Int} {u : World} {q : Nat} (h : JW Z Cb Lb Hb kk ff fs u) (hq : q < 3) (hl : fs.length = 5) : JW Z Cb Lb Hb kk ff (fs.set q v) (u.setCell ⟨Lb, q, none⟩ (.int .i64 v)) := by
  obtain ⟨h1, h2, h3, h4, h5, h6, h7, o1, o2, o3, o4⟩ := h
  have oth : ∀ g j, g ≠ Lb → (u.setCell ⟨Lb, q, none⟩ (.int .i64 v)).cell? ⟨g, j, none⟩ = u.cell? ⟨g, j, none⟩ := fun g j hg => World.cell?_setCell_other _ _ _ _ (by first | (simp; done) | (simp; omega))
  refine ⟨fun j hj => by rw [oth Z j (by omega)]; exact h1 j hj, fun j hj => by rw [World.frozen?_setCell]; exact h2 j hj, ?_, fun j hj => by rw [World.frozen?_setCell]; exact h4 j hj, fun j hj => ?_, fun j hj => by rw [World.frozen?_setCell]; exact h6 j hj, fun j hj => by rw [oth Hb j (by omega)]; exact h7 j hj, o1, o2, o3, by simp [World.setCell]; omega⟩
  · obtain ⟨x0, x1, x2, x3, x4, x5⟩ := h3
    exact ⟨(oth Cb 0 (by omega)).trans x0, (oth Cb 1 (by omega)).trans x1, (oth Cb 2 (by omega)).trans x2, (oth Cb 3 (by omega)).trans x3, (oth Cb 4 (by omega)).trans x4, (oth Cb 5 (by omega)).trans x5⟩
  · by_cases e : j = q
    · subst e
      rw [World.cell?_setCell_same _ _ _ (h5 j hj)]
      simp [List.getD_eq_getElem?_getD, hl, show j < 5 by omega]
    · rw [World.cell?_setCell_other _ _ _ _ (by first | (simp; done) | (simp; omega)), h5 j hj, List.getD_eq_getElem?_getD, List.getD_eq_getElem?_getD, List.getElem?_set_ne (by omega)]
theorem iw_new {w w1 : World} {kk ff : Int} (t1 t2 t3 t4 : TypeId) (f : Fr (w.alloc (.cells #[.int .i64 0, .int .i64 0, .int .i64 0, .int .i64 0, .int .i64 0, .int .i64 0] t1)) w1) :
    JW w.heap.size w1.heap.size (w1.heap.size + 1) (w1.heap.size + 2) kk ff [0, 0, 0, ff, 0] (((w1.alloc (.cells #[.int .i64 kk, .int .i64 0, .int .i64 0, .int .i64 0, .int .i64 ff, .int .i64 0] t2)).alloc (.cells #[.int .i64 0, .int .i64 0, .int .i64 0] t3)).alloc (.cells #[.bool (hD kk), .bool (hA kk), .bool (hB kk)] t4)) := by
  have hs := f.size
  simp at hs
  have f1 := Fr.alloc w1 (.cells #[.int .i64 kk, .int .i64 0, .int .i64 0, .int .i64 0, .int .i64 ff, .int .i64 0] t2)
  have s1 : (w1.alloc (.cells #[.int .i64 kk, .int .i64 0, .int .i64 0, .int .i64 0, .int .i64 ff, .int .i64 0] t2)).heap.size = w1.heap.size + 1 := by simp
  have b1 := Box.new w1 kk 0 0 0 ff 0 t2
  have z1 : ∀ j, (w1.alloc (.cells #[.int .i64 kk, .int .i64 0, .int .i64 0, .int .i64 0, .int .i64 ff, .int .i64 0] t2)).frozen? ⟨w1.heap.size, j, none⟩ = false := fun j => by simp
  generalize (w1.alloc (.cells #[.int .i64 kk, .int .i64 0, .int .i64 0, .int .i64 0, .int .i64 ff, .int .i64 0] t2)) = u1 at *
  have f2 := Fr.alloc u1 (.cells #[.int .i64 0, .int .i64 0, .int .i64 0] t3)
  have s2 : (u1.alloc (.cells #[.int .i64 0, .int .i64 0, .int .i64 0] t3)).heap.size = w1.heap.size + 2 := by simp [s1]
  have c2 : ∀ j, (u1.alloc (.cells #[.int .i64 0, .int .i64 0, .int .i64 0] t3)).cell? ⟨w1.heap.size + 1, j, none⟩ = #[Value.int .i64 0, .int .i64 0, .int .i64 0][j]? := fun j => by rw [← s1]; simp
  have z2 : ∀ j, (u1.alloc (.cells #[.int .i64 0, .int .i64 0, .int .i64 0] t3)).frozen? ⟨w1.heap.size + 1, j, none⟩ = false := fun j => by rw [← s1]; simp
  generalize (u1.alloc (.cells #[.int .i64 0, .int .i64 0, .int .i64 0] t3)) = u2 at *
  have f3 := Fr.alloc u2 (.cells #[.bool (hD kk), .bool (hA kk), .bool (hB kk)] t4)
  have c3 : ∀ j, (u2.alloc (.cells #[.bool (hD kk), .bool (hA kk), .bool (hB kk)] t4)).cell? ⟨w1.heap.size + 2, j, none⟩ = #[Value.bool (hD kk), .bool (hA kk), .bool (hB kk)][j]? := fun j => by rw [← s2]; simp
  have F := f1.trans (f2.trans f3)
  have e1 : ∀ j, j < 6 → (w.alloc (.cells #[.int .i64 0, .int .i64 0, .int .i64 0, .int .i64 0, .int .i64 0, .int .i64 0] t1)).cell? ⟨w.heap.size, j, none⟩ = some (.int .i64 0) := fun j hj => by
    have h : j = 0 ∨ j = 1 ∨ j = 2 ∨ j = 3 ∨ j = 4 ∨ j = 5 := by omega
    rcases h with rfl | rfl | rfl | rfl | rfl | rfl <;> simp
  have e2 : ∀ j, (w.alloc (.cells #[.int .i64 0, .int .i64 0, .int .i64 0, .int .i64 0, .int .i64 0, .int .i64 0] t1)).frozen? ⟨w.heap.size, j, none⟩ = false := fun j => by simp
  have hw : w.heap.size < (w.alloc (.cells #[.int .i64 0, .int .i64 0, .int .i64 0, .int .i64 0, .int .i64 0, .int .i64 0] t1)).heap.size := by simp
  refine ⟨fun j hj => ?_, fun j hj => ?_, (b1.fr f2).fr f3, fun j hj => ?_, fun j hj => ?_, fun j hj => ?_, fun j hj => ?_, by omega, by omega, by omega, by simp [s2]⟩
  · rw [F.cell (show w.heap.size < w1.heap.size by omega), f.cell (show w.heap.size < _ from hw)]; exact e1 j hj
  · rw [F.frozen (show w.heap.size < w1.heap.size by omega), f.frozen (show w.heap.size < _ from hw)]; exact e2 j
  · rw [f3.frozen (show w1.heap.size < u2.heap.size by omega), f2.frozen (show w1.heap.size < u1.heap.size by omega)]; exact z1 j
  · rw [f3.cell (show w1.heap.size + 1 < u2.heap.size by omega), c2]
    have h : j = 0 ∨ j = 1 ∨ j = 2 := by omega
    rcases h with rfl | rfl | rfl <;> rfl
  · rw [f3.frozen (show w1.heap.size + 1 < u2.heap.size by omega)]; exact z2 j
  · rw [c3]
    have h : j = 0 ∨ j = 1 ∨ j = 2 := by omega
    rcases h with rfl | rfl | rfl <;> rfl
end Go.Proofs.YtecdmafhjfnloaaDoor
