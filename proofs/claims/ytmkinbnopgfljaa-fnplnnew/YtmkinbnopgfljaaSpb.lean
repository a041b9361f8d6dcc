/- Chapter 3: the model reads an instruction's words. Chapter 3: the model reads an instruction. -/
import Derived.Test.YtmkinbnopgfljaaSp
import Derived.Test.YtmkinbnopgfljaaRegion
namespace Go.Proofs.Ytmkinbnopgfljaa
open Go.RowKit
set_option linter.unusedVariables false

theorem has_lay : ∀ k : Nat, k < 16 → ∀ q, q < 3 → (layN (k : Int) q = 0 ∧ [hD (k : Int), hA (k : Int), hB (k : Int)].getD q false = false) ∨ (layN (k : Int) q = 1 ∧ [hD (k : Int), hA (k : Int), hB (k : Int)].getD q false = true) := by decide
theorem has_lay' {k : Int} (hk : 0 ≤ k ∧ k < 16) {q : Nat} (hq : q < 3) : (layN k q = 0 ∧ [hD k, hA k, hB k].getD q false = false) ∨ (layN k q = 1 ∧ [hD k, hA k, hB k].getD q false = true) := by
  have := has_lay k.toNat (by omega) q hq
  rwa [Int.toNat_of_nonneg hk.1] at this
theorem last_lay2 : ∀ k : Nat, k < 16 → (hF (k : Int) = true ∧ k ≠ 0 ∧ layN (k : Int) 3 = 3 ∧ hN (k : Int) = 0 ∧ layN (k : Int) 4 = 0) ∨ ((hF (k : Int) = false ∨ k = 0) ∧ (layN (k : Int) 3 = 0 ∨ layN (k : Int) 3 = 2) ∧ 0 < hN (k : Int) ∧ 3 < layN (k : Int) 4) ∨ ((hF (k : Int) = false ∨ k = 0) ∧ (layN (k : Int) 3 = 0 ∨ layN (k : Int) 3 = 2) ∧ hN (k : Int) = 0 ∧ layN (k : Int) 4 = 0) := by decide
theorem last_lay3 {k : Int} (hk : 0 ≤ k ∧ k < 16) : (hF k = true ∧ k ≠ 0 ∧ layN k 3 = 3 ∧ hN k = 0 ∧ layN k 4 = 0) ∨ ((hF k = false ∨ k = 0) ∧ (layN k 3 = 0 ∨ layN k 3 = 2) ∧ 0 < hN k ∧ 3 < layN k 4) ∨ ((hF k = false ∨ k = 0) ∧ (layN k 3 = 0 ∨ layN k 3 = 2) ∧ hN k = 0 ∧ layN k 4 = 0) := by
  have := last_lay2 k.toNat (by omega)
  rw [Int.toNat_of_nonneg hk.1] at this
  have e : (k.toNat = 0) ↔ (k = 0) := by omega
  have e2 : (k.toNat ≠ 0) ↔ (k ≠ 0) := by omega
  rwa [e, e2] at this
theorem Wds.next {u : World} {x : List UInt8} {t : List (List UInt8)} {g off cap : Nat} (hcap : t.length + 1 ≤ cap) (hmx : cap ≤ maxLen) (hg : g < u.heap.size) (hw : ∀ i, i < t.length + 1 → u.cell? ⟨g, off + i, none⟩ = some (.string (bs ((x :: t).getD i [])))) (ao : Option Addr) (hao : 0 < t.length → ao = some ⟨g, off + 1, none⟩) : Wds u (.slice ao t.length (cap - 1)) t := by
  refine ⟨ao, cap - 1, rfl, by omega, by omega, fun h0 => ⟨g, off + 1, hao h0, hg, fun i hi => ?_⟩⟩
  rw [show off + 1 + i = off + (i + 1) by omega, hw (i + 1) (by omega)]
  simp
set_option maxRecDepth 4000 in
/-- 'x[1:]' of words: one law for whatever capacity. -/
theorem wpList_tail {ops : Array Oper} {rest : List Oper} {op : Oper} {a : Act} {w : World} {Q : Exit → Act → World → Prop} (hgd : op.guard = none) (x : Operand) (ho : op.op = .slice 61 x (some (.const (.int .i64 1))) none none)
    (g off n cap : Nat) (hx : a.eval x = .slice (some ⟨g, off, none⟩) (n + 1) cap) (hcap : n + 1 ≤ cap) (hmx : cap ≤ 9223372036854775807)
    (h : ∀ ao, (0 < n → ao = some ⟨g, off + 1, none⟩) → wpList Try.prog ops Q rest (a.put op.dst (.slice ao n (cap - 1))) w) : wpList Try.prog ops Q (op :: rest) a w := by
  refine wpList_plain hgd fun K hK => ?_
  unfold Oper.wp execOp
  rw [ho]
  have hc1 : a.eval (.const (.int .i64 1)) = .int .i64 1 := rfl
  simp only [Option.map_some, Option.map_none, hx, hc1]
  clear hx ho hc1
  by_cases hc : cap = 1
  · subst hc
    have hn : n = 0 := by omega
    subst hn
    go_simp
    exact hK _ _ (h _ (fun h0 => absurd h0 (by omega)))
  · have h1n : (1 : Int) ≤ (n : Int) + 1 := by omega
    go_simp
    exact hK _ _ (h _ (fun _ => rfl))
theorem kindOf_lt' {l : List UInt8} {i : Nat} (h : kindOf l = some i) : i < 23 := by
  unfold kindOf at h
  obtain ⟨h1, _⟩ := List.findIdx?_eq_some_iff_getElem.1 h
  exact h1
theorem below6s {B : Nat} {w u : World} (h : Below B w u) {Z : Nat} (hZ : B ≤ Z) (v0 v1 v2 v3 v4 v5 : Value) : Below B w ((((((u.setCell ⟨Z, 0, none⟩ v0).setCell ⟨Z, 1, none⟩ v1).setCell ⟨Z, 2, none⟩ v2).setCell ⟨Z, 3, none⟩ v3).setCell ⟨Z, 4, none⟩ v4).setCell ⟨Z, 5, none⟩ v5) :=
  Below.setCell (Below.setCell (Below.setCell (Below.setCell (Below.setCell (Below.setCell h (show B ≤ Z from hZ) _) (show B ≤ Z from hZ) _) (show B ≤ Z from hZ) _) (show B ≤ Z from hZ) _) (show B ≤ Z from hZ) _) (show B ≤ Z from hZ) _
/-- The blocks of a call of l3Inst. -/
structure JW (Z Cb Lb Hb : Nat) (kk ff : Int) (fs : List Int) (u : World) : Prop where
  zc : ∀ j, j < 6 → u.cell? ⟨Z, j, none⟩ = some (.int .i64 0)
  zz : ∀ j, j < 6 → u.frozen? ⟨Z, j, none⟩ = false
  cb : Box u Cb kk 0 0 0 ff 0
  cz : ∀ j, j < 6 → u.frozen? ⟨Cb, j, none⟩ = false
  lb : ∀ j, j < 3 → u.cell? ⟨Lb, j, none⟩ = some (.int .i64 (fs.getD j 0))
  lz : ∀ j, j < 3 → u.frozen? ⟨Lb, j, none⟩ = false
  hb : ∀ j, j < 3 → u.cell? ⟨Hb, j, none⟩ = some (.bool ([hD kk, hA kk, hB kk].getD j false))
  o1 : Z < Cb
  o2 : Cb < Lb
  o3 : Lb < Hb
  o4 : Hb < u.heap.size
theorem JW.fr {Z Cb Lb Hb : Nat} {kk ff : Int} {fs : List Int} {u u' : World} (h : JW Z Cb Lb Hb kk ff fs u) (f : Fr u u') : JW Z Cb Lb Hb kk ff fs u' := by
  obtain ⟨h1, h2, h3, h4, h5, h6, h7, o1, o2, o3, o4⟩ := h
  have hs := f.size
  exact ⟨fun j hj => by rw [f.cell (show Z < u.heap.size by omega)]; exact h1 j hj, fun j hj => by rw [f.frozen (show Z < u.heap.size by omega)]; exact h2 j hj, h3.fr f, fun j hj => by rw [f.frozen (show Cb < u.heap.size by omega)]; exact h4 j hj, fun j hj => by rw [f.cell (show Lb < u.heap.size by omega)]; exact h5 j hj, fun j hj => by rw [f.frozen (show Lb < u.heap.size by omega)]; exact h6 j hj, fun j hj => by rw [f.cell (show Hb < u.heap.size by omega)]; exact h7 j hj, o1, o2, o3, by omega⟩
theorem JW.set {Z Cb Lb Hb : Nat} {kk ff v : Int} {fs : List Int} {u : World} {q : Nat} (h : JW Z Cb Lb Hb kk ff fs u) (hq : q < 3) (hl : fs.length = 5) : JW Z Cb Lb Hb kk ff (fs.set q v) (u.setCell ⟨Lb, q, none⟩ (.int .i64 v)) := by
  obtain ⟨h1, h2, h3, h4, h5, h6, h7, o1, o2, o3, o4⟩ := h
  have oth : ∀ g j, g ≠ Lb → (u.setCell ⟨Lb, q, none⟩ (.int .i64 v)).cell? ⟨g, j, none⟩ = u.cell? ⟨g, j, none⟩ := fun g j hg => World.cell?_setCell_other _ _ _ _ (by first | (simp; done) | (simp; omega))
  refine ⟨fun j hj => by rw [oth Z j (by omega)]; exact h1 j hj, fun j hj => by rw [World.frozen?_setCell]; exact h2 j hj, ?_, fun j hj => by rw [World.frozen?_setCell]; exact h4 j hj, fun j hj => ?_, fun j hj => by rw [World.frozen?_setCell]; exact h6 j hj, fun j hj => by rw [oth Hb j (by omega)]; exact h7 j hj, o1, o2, o3, by simp [World.setCell]; omega⟩
  · obtain ⟨x0, x1, x2, x3, x4, x5⟩ := h3
    exact ⟨(oth Cb 0 (by omega)).trans x0, (oth Cb 1 (by omega)).trans x1, (oth Cb 2 (by omega)).trans x2, (oth Cb 3 (by omega)).trans x3, (oth Cb 4 (by omega)).trans x4, (oth Cb 5 (by omega)).trans x5⟩
  · by_cases e : j = q
    · subst e
      rw [World.cell?_setCell_same _ _ _ (h5 j hj)]
      simp [List.getD_eq_getElem?_getD, hl, show j < 5 by omega]
    · rw [World.cell?_setCell_other _ _ _ _ (by first | (simp; done) | (simp; omega)), h5 j hj, List.getD_eq_getElem?_getD, List.getD_eq_getElem?_getD, List.getElem?_set_ne (by omega)]
theorem iw_new {w w1 : World} {kk ff : Int} (t1 t2 t3 t4 : TypeId) (f : Fr (w.alloc (.cells #[.int .i64 0, .int .i64 0, .int .i64 0, .int .i64 0, .int .i64 0, .int .i64 0] t1)) w1) :
    JW w.heap.size w1.heap.size (w1.heap.size + 1) (w1.heap.size + 2) kk ff [0, 0, 0, ff, 0] (((w1.alloc (.cells #[.int .i64 kk, .int .i64 0, .int .i64 0, .int .i64 0, .int .i64 ff, .int .i64 0] t2)).alloc (.cells #[.int .i64 0, .int .i64 0, .int .i64 0] t3)).alloc (.cells #[.bool (hD kk), .bool (hA kk), .bool (hB kk)] t4)) := by
  have hs := f.size
  simp at hs
  have f1 := Fr.alloc w1 (.cells #[.int .i64 kk, .int .i64 0, .int .i64 0, .int .i64 0, .int .i64 ff, .int .i64 0] t2)
  have s1 : (w1.alloc (.cells #[.int .i64 kk, .int .i64 0, .int .i64 0, .int .i64 0, .int .i64 ff, .int .i64 0] t2)).heap.size = w1.heap.size + 1 := by simp
  have b1 := Box.new w1 kk 0 0 0 ff 0 t2
  have z1 : ∀ j, (w1.alloc (.cells #[.int .i64 kk, .int .i64 0, .int .i64 0, .int .i64 0, .int .i64 ff, .int .i64 0] t2)).frozen? ⟨w1.heap.size, j, none⟩ = false := fun j => by simp
  generalize (w1.alloc (.cells #[.int .i64 kk, .int .i64 0, .int .i64 0, .int .i64 0, .int .i64 ff, .int .i64 0] t2)) = u1 at *
  have f2 := Fr.alloc u1 (.cells #[.int .i64 0, .int .i64 0, .int .i64 0] t3)
  have s2 : (u1.alloc (.cells #[.int .i64 0, .int .i64 0, .int .i64 0] t3)).heap.size = w1.heap.size + 2 := by simp [s1]
  have c2 : ∀ j, (u1.alloc (.cells #[.int .i64 0, .int .i64 0, .int .i64 0] t3)).cell? ⟨w1.heap.size + 1, j, none⟩ = #[Value.int .i64 0, .int .i64 0, .int .i64 0][j]? := fun j => by rw [← s1]; simp
  have z2 : ∀ j, (u1.alloc (.cells #[.int .i64 0, .int .i64 0, .int .i64 0] t3)).frozen? ⟨w1.heap.size + 1, j, none⟩ = false := fun j => by rw [← s1]; simp
  generalize (u1.alloc (.cells #[.int .i64 0, .int .i64 0, .int .i64 0] t3)) = u2 at *
  have f3 := Fr.alloc u2 (.cells #[.bool (hD kk), .bool (hA kk), .bool (hB kk)] t4)
  have c3 : ∀ j, (u2.alloc (.cells #[.bool (hD kk), .bool (hA kk), .bool (hB kk)] t4)).cell? ⟨w1.heap.size + 2, j, none⟩ = #[Value.bool (hD kk), .bool (hA kk), .bool (hB kk)][j]? := fun j => by rw [← s2]; simp
  have F := f1.trans (f2.trans f3)
  have e1 : ∀ j, j < 6 → (w.alloc (.cells #[.int .i64 0, .int .i64 0, .int .i64 0, .int .i64 0, .int .i64 0, .int .i64 0] t1)).cell? ⟨w.heap.size, j, none⟩ = some (.int .i64 0) := fun j hj => by
    have h : j = 0 ∨ j = 1 ∨ j = 2 ∨ j = 3 ∨ j = 4 ∨ j = 5 := by omega
    rcases h with rfl | rfl | rfl | rfl | rfl | rfl <;> simp
  have e2 : ∀ j, (w.alloc (.cells #[.int .i64 0, .int .i64 0, .int .i64 0, .int .i64 0, .int .i64 0, .int .i64 0] t1)).frozen? ⟨w.heap.size, j, none⟩ = false := fun j => by simp
  have hw : w.heap.size < (w.alloc (.cells #[.int .i64 0, .int .i64 0, .int .i64 0, .int .i64 0, .int .i64 0, .int .i64 0] t1)).heap.size := by simp
  refine ⟨fun j hj => ?_, fun j hj => ?_, (b1.fr f2).fr f3, fun j hj => ?_, fun j hj => ?_, fun j hj => ?_, fun j hj => ?_, by omega, by omega, by omega, by simp [s2]⟩
  · rw [F.cell (show w.heap.size < w1.heap.size by omega), f.cell (show w.heap.size < _ from hw)]; exact e1 j hj
  · rw [F.frozen (show w.heap.size < w1.heap.size by omega), f.frozen (show w.heap.size < _ from hw)]; exact e2 j
  · rw [f3.frozen (show w1.heap.size < u2.heap.size by omega), f2.frozen (show w1.heap.size < u1.heap.size by omega)]; exact z1 j
  · rw [f3.cell (show w1.heap.size + 1 < u2.heap.size by omega), c2]
    have h : j = 0 ∨ j = 1 ∨ j = 2 := by omega
    rcases h with rfl | rfl | rfl <;> rfl
  · rw [f3.frozen (show w1.heap.size + 1 < u2.heap.size by omega)]; exact z2 j
  · rw [c3]
    have h : j = 0 ∨ j = 1 ∨ j = 2 := by omega
    rcases h with rfl | rfl | rfl <;> rfl

def InstP (at' : Int) (ls : List (List UInt8 × Int)) (ws : List (List UInt8)) (w : World) (e : Ending) (w' : World) : Prop :=
  ∃ k d a b f n ok, e = .returned (.tuple #[.agg #[.int .i64 k, .int .i64 d, .int .i64 a, .int .i64 b, .int .i64 f, .int .i64 n], .bool ok]) ∧ Fr w w' ∧ (ok = true → rd at' (look ls) ws = some (k, [d, a, b, f, n])) ∧ (ok = false → rd at' (look ls) ws = none)
theorem rd_kind {at' : Int} {L : List UInt8 → Option Int} {x0 : List UInt8} {r : List (List UInt8)} {i : Nat} (hk : kindOf x0 = some i) (HL : ∀ x t, L x = some t → canon x = none) : rd at' L (x0 :: r) = (finI (mk i) (sdTo (mk i) (mf i) at' L r 5)).map (fun fs => (mk i, fs)) := by
  have h1 := sd_eq (kindOf_lt' hk) (at' := at') HL r
  unfold sdI at h1
  simp only [rd, hk]
  rw [h1]
  cases rdI i at' L r <;> rfl
theorem rd_none {at' : Int} {L : List UInt8 → Option Int} {x0 : List UInt8} {r : List (List UInt8)} (hk : kindOf x0 = none) : rd at' L (x0 :: r) = none := by simp only [rd, hk]
theorem sdTo_none {k f at' : Int} {L : List UInt8 → Option Int} {ws : List (List UInt8)} {p : Nat} (h : sdTo k f at' L ws p = none) : ∀ q, p ≤ q → sdTo k f at' L ws q = none
  | 0, hq => by
    obtain rfl : p = 0 := by omega
    exact h
  | q + 1, hq => by
    by_cases e : p = q + 1
    · subst e; exact h
    · simp only [sdTo, sdTo_none h q (by omega)]
theorem sdTo_skip {k f at' : Int} {L : List UInt8 → Option Int} {ws ws' : List (List UInt8)} {q : Nat} {fs : List Int} (h : sdTo k f at' L ws q = some (fs, ws')) (hl : layN k q = 0 ∨ layN k q = 2) : sdTo k f at' L ws (q + 1) = some (fs, ws') := by simp only [sdTo, h, hl, if_true]
theorem sdTo_empty {k f at' : Int} {L : List UInt8 → Option Int} {ws : List (List UInt8)} {q : Nat} {fs : List Int} (h : sdTo k f at' L ws q = some (fs, [])) (hl : ¬ (layN k q = 0 ∨ layN k q = 2)) : sdTo k f at' L ws (q + 1) = none := by simp only [sdTo, h, hl, if_false]
theorem sdTo_reg {k f at' : Int} {L : List UInt8 → Option Int} {ws t : List (List UInt8)} {x : List UInt8} {q : Nat} {fs : List Int} (h : sdTo k f at' L ws q = some (fs, x :: t)) (hl : layN k q = 1) : sdTo k f at' L ws (q + 1) = some (fs.set q (regS x), t) := by simp [sdTo, h, hl, sdV]
theorem sdTo_last {k f at' v : Int} {L : List UInt8 → Option Int} {ws t : List (List UInt8)} {x : List UInt8} {q : Nat} {fs : List Int} (h : sdTo k f at' L ws q = some (fs, x :: t)) (hl : 2 < layN k q) (hv : lastS k at' L x = some v) : sdTo k f at' L ws (q + 1) = some (fs.set q v, t) := by
  have h1 : ¬ (layN k q = 0 ∨ layN k q = 2) := by omega
  have h2 : ¬ layN k q = 1 := by omega
  simp only [sdTo, h, h1, if_false, sdV, h2, hv]
theorem sdTo_bad {k f at' : Int} {L : List UInt8 → Option Int} {ws t : List (List UInt8)} {x : List UInt8} {q : Nat} {fs : List Int} (h : sdTo k f at' L ws q = some (fs, x :: t)) (hl : 2 < layN k q) (hv : lastS k at' L x = none) : sdTo k f at' L ws (q + 1) = none := by
  have h1 : ¬ (layN k q = 0 ∨ layN k q = 2) := by omega
  have h2 : ¬ layN k q = 1 := by omega
  simp only [sdTo, h, h1, if_false, sdV, h2, hv]
theorem sdTo_hi {k f at' : Int} {L : List UInt8 → Option Int} {ws : List (List UInt8)} : ∀ {p : Nat} {fs : List Int} {r : List (List UInt8)}, p ≤ 3 → sdTo k f at' L ws p = some (fs, r) → fs.getD 3 0 = f ∧ fs.getD 4 0 = 0
  | 0, fs, r, _, h => by simp [sdTo] at h; rw [← h.1]; simp
  | p + 1, fs, r, hp, h => by
    simp only [sdTo] at h
    split at h
    · cases h
    · rename_i fs' ws' e
      have ih := sdTo_hi (by omega) e
      split at h
      · cases h; exact ih
      · split at h
        · cases h
        · split at h
          · cases h
          · cases h
            have e3 : ∀ (v : Int) (j : Nat), j ≠ p → (fs'.set p v).getD j 0 = fs'.getD j 0 := fun v j hj => by
              rw [List.getD_eq_getElem?_getD, List.getElem?_set_ne (Ne.symm hj), ← List.getD_eq_getElem?_getD]
            exact ⟨(e3 _ 3 (by omega)).trans ih.1, (e3 _ 4 (by omega)).trans ih.2⟩
theorem fs_shape {k f at' : Int} {L : List UInt8 → Option Int} {ws r : List (List UInt8)} {fs : List Int} (h : sdTo k f at' L ws 3 = some (fs, r)) : ∃ d a b, fs = [d, a, b, f, 0] := by
  have h1 := sdTo_len h
  obtain ⟨h2, h3⟩ := sdTo_hi (Nat.le_refl _) h
  match fs, h1 with
  | [x0, x1, x2, x3, x4], _ =>
    simp at h2 h3
    subst h2 h3
    exact ⟨x0, x1, x2, rfl⟩
/-- The end of l3Inst: the instruction lies in block Cb; whether the result is stored. -/
structure FinW (w : World) (Z Cb : Nat) (k d a b f n : Int) (st : Bool) (u : World) : Prop where
  fw : Fr w u
  bx : Box u Cb k d a b f n
  zc : ∀ j, j < 6 → u.cell? ⟨Z, j, none⟩ = some (.int .i64 (if st = true then [k, d, a, b, f, n].getD j 0 else 0))
  zz : ∀ j, j < 6 → u.frozen? ⟨Z, j, none⟩ = false
  lo : w.heap.size ≤ Z
  ne : Z < Cb
theorem FinW.drew {w : World} {Z Cb : Nat} {k d a b f n : Int} {st : Bool} {u : World} (h : FinW w Z Cb k d a b f n st u) : FinW w Z Cb k d a b f n st u.drew := ⟨Below.drew h.fw, ⟨h.bx.c0, h.bx.c1, h.bx.c2, h.bx.c3, h.bx.c4, h.bx.c5⟩, h.zc, h.zz, h.lo, h.ne⟩
theorem FinW.fr {w : World} {Z Cb : Nat} {k d a b f n : Int} {st : Bool} {u u' : World} (h : FinW w Z Cb k d a b f n st u) (g : Fr u u') : FinW w Z Cb k d a b f n st u' := by
  have hl := h.bx.lt
  have hn := h.ne
  exact ⟨h.fw.trans g, h.bx.fr g, fun j hj => by rw [g.cell (show Z < u.heap.size by omega)]; exact h.zc j hj, fun j hj => by rw [g.frozen (show Z < u.heap.size by omega)]; exact h.zz j hj, h.lo, h.ne⟩
theorem get_oth {u : World} {g Z j j' : Nat} {v : Value} (h : g ≠ Z ∨ j ≠ j') : (u.setCell ⟨Z, j', none⟩ v).cell? ⟨g, j, none⟩ = u.cell? ⟨g, j, none⟩ := World.cell?_setCell_other _ _ _ _ (fun e => by
  injection e with e1 e2
  rcases h with h | h
  · exact h e1.symm
  · exact h e2.symm)
theorem set_z {u : World} {Z : Nat} {x0 x1 x2 x3 x4 x5 : Value} (h : ∀ j, j < 6 → ∃ v, u.cell? ⟨Z, j, none⟩ = some v) : ∀ j, j < 6 → ((((((u.setCell ⟨Z, 0, none⟩ x0).setCell ⟨Z, 1, none⟩ x1).setCell ⟨Z, 2, none⟩ x2).setCell ⟨Z, 3, none⟩ x3).setCell ⟨Z, 4, none⟩ x4).setCell ⟨Z, 5, none⟩ x5).cell? ⟨Z, j, none⟩ = some ([x0, x1, x2, x3, x4, x5].getD j undef) := by
  obtain ⟨v0, h0⟩ := h 0 (by omega)
  obtain ⟨v1, h1⟩ := h 1 (by omega)
  obtain ⟨v2, h2⟩ := h 2 (by omega)
  obtain ⟨v3, h3⟩ := h 3 (by omega)
  obtain ⟨v4, h4⟩ := h 4 (by omega)
  obtain ⟨v5, h5⟩ := h 5 (by omega)
  intro j hj
  have e : j = 0 ∨ j = 1 ∨ j = 2 ∨ j = 3 ∨ j = 4 ∨ j = 5 := by omega
  rcases e with rfl | rfl | rfl | rfl | rfl | rfl
  · rw [get_oth (.inr (by decide)), get_oth (.inr (by decide)), get_oth (.inr (by decide)), get_oth (.inr (by decide)), get_oth (.inr (by decide)), World.cell?_setCell_same _ _ _ (h0)]; rfl
  · rw [get_oth (.inr (by decide)), get_oth (.inr (by decide)), get_oth (.inr (by decide)), get_oth (.inr (by decide)), World.cell?_setCell_same _ _ _ (by rw [get_oth (.inr (by decide))]; exact h1)]; rfl
  · rw [get_oth (.inr (by decide)), get_oth (.inr (by decide)), get_oth (.inr (by decide)), World.cell?_setCell_same _ _ _ (by rw [get_oth (.inr (by decide)), get_oth (.inr (by decide))]; exact h2)]; rfl
  · rw [get_oth (.inr (by decide)), get_oth (.inr (by decide)), World.cell?_setCell_same _ _ _ (by rw [get_oth (.inr (by decide)), get_oth (.inr (by decide)), get_oth (.inr (by decide))]; exact h3)]; rfl
  · rw [get_oth (.inr (by decide)), World.cell?_setCell_same _ _ _ (by rw [get_oth (.inr (by decide)), get_oth (.inr (by decide)), get_oth (.inr (by decide)), get_oth (.inr (by decide))]; exact h4)]; rfl
  · rw [World.cell?_setCell_same _ _ _ (by rw [get_oth (.inr (by decide)), get_oth (.inr (by decide)), get_oth (.inr (by decide)), get_oth (.inr (by decide)), get_oth (.inr (by decide))]; exact h5)]; rfl
theorem FinW.store {w : World} {Z Cb : Nat} {k d a b f n : Int} {u : World} (h : FinW w Z Cb k d a b f n false u) : FinW w Z Cb k d a b f n true ((((((u.setCell ⟨Z, 0, none⟩ (.int .i64 k)).setCell ⟨Z, 1, none⟩ (.int .i64 d)).setCell ⟨Z, 2, none⟩ (.int .i64 a)).setCell ⟨Z, 3, none⟩ (.int .i64 b)).setCell ⟨Z, 4, none⟩ (.int .i64 f)).setCell ⟨Z, 5, none⟩ (.int .i64 n)) := by
  have hn := h.ne
  refine ⟨below6s h.fw h.lo _ _ _ _ _ _, ?_, fun j hj => ?_, fun j hj => by simp only [World.frozen?_setCell]; exact h.zz j hj, h.lo, h.ne⟩
  · have b6 : Below (Z + 1) u u := Below.refl _ _
    obtain ⟨x0, x1, x2, x3, x4, x5⟩ := h.bx
    have oth : ∀ (uu : World) (j' j : Nat) (v : Value), (uu.setCell ⟨Z, j', none⟩ v).cell? ⟨Cb, j, none⟩ = uu.cell? ⟨Cb, j, none⟩ := fun uu j' j v => get_oth (.inl (by omega))
    exact ⟨by simp only [oth]; exact x0, by simp only [oth]; exact x1, by simp only [oth]; exact x2, by simp only [oth]; exact x3, by simp only [oth]; exact x4, by simp only [oth]; exact x5⟩
  · rw [set_z (fun j hj => ⟨_, h.zc j hj⟩) j hj]
    have e : j = 0 ∨ j = 1 ∨ j = 2 ∨ j = 3 ∨ j = 4 ∨ j = 5 := by omega
    rcases e with rfl | rfl | rfl | rfl | rfl | rfl <;> rfl
theorem finw_new {w wr : World} {Z Cb Lb Hb : Nat} {kk ff d a b : Int} (h : JW Z Cb Lb Hb kk ff [d, a, b, ff, 0] wr) (hF : Fr w wr) (hZ : w.heap.size ≤ Z) : FinW w Z Cb kk d a b ff 0 false (((wr.setCell ⟨Cb, 1, none⟩ (.int .i64 d)).setCell ⟨Cb, 2, none⟩ (.int .i64 a)).setCell ⟨Cb, 3, none⟩ (.int .i64 b)) := by
  have o1 := h.o1
  obtain ⟨x0, x1, x2, x3, x4, x5⟩ := h.cb
  have oth : ∀ (uu : World) (j' j : Nat) (v : Value), (uu.setCell ⟨Cb, j', none⟩ v).cell? ⟨Z, j, none⟩ = uu.cell? ⟨Z, j, none⟩ := fun uu j' j v => get_oth (.inl (by omega))
  refine ⟨Below.setCell (Below.setCell (Below.setCell hF (show w.heap.size ≤ Cb by omega) _) (show w.heap.size ≤ Cb by omega) _) (show w.heap.size ≤ Cb by omega) _, ⟨?_, ?_, ?_, ?_, ?_, ?_⟩, fun j hj => by simp only [oth]; exact h.zc j hj, fun j hj => by simp only [World.frozen?_setCell]; exact h.zz j hj, hZ, o1⟩
  · rw [get_oth (.inr (by decide)), get_oth (.inr (by decide)), get_oth (.inr (by decide))]; exact x0
  · rw [get_oth (.inr (by decide)), get_oth (.inr (by decide)), World.cell?_setCell_same _ _ _ (x1)]
  · rw [get_oth (.inr (by decide)), World.cell?_setCell_same _ _ _ (by rw [get_oth (.inr (by decide))]; exact x2)]
  · rw [World.cell?_setCell_same _ _ _ (by rw [get_oth (.inr (by decide)), get_oth (.inr (by decide))]; exact x3)]
  · rw [get_oth (.inr (by decide)), get_oth (.inr (by decide)), get_oth (.inr (by decide))]; exact x4
  · rw [get_oth (.inr (by decide)), get_oth (.inr (by decide)), get_oth (.inr (by decide))]; exact x5
theorem FinW.setN {w : World} {Z Cb : Nat} {k d a b f n v : Int} {u : World} (h : FinW w Z Cb k d a b f n false u) : FinW w Z Cb k d a b f v false (u.setCell ⟨Cb, 5, none⟩ (.int .i64 v)) := by
  have o1 := h.ne
  have hl := h.lo
  obtain ⟨x0, x1, x2, x3, x4, x5⟩ := h.bx
  have oth : ∀ (uu : World) (j' j : Nat) (v : Value), (uu.setCell ⟨Cb, j', none⟩ v).cell? ⟨Z, j, none⟩ = uu.cell? ⟨Z, j, none⟩ := fun uu j' j v => get_oth (.inl (by omega))
  refine ⟨Below.setCell h.fw (show w.heap.size ≤ Cb by omega) _, ⟨?_, ?_, ?_, ?_, ?_, ?_⟩, fun j hj => by simp only [oth]; exact h.zc j hj, fun j hj => by simp only [World.frozen?_setCell]; exact h.zz j hj, hl, o1⟩
  · rw [get_oth (.inr (by decide))]; exact x0
  · rw [get_oth (.inr (by decide))]; exact x1
  · rw [get_oth (.inr (by decide))]; exact x2
  · rw [get_oth (.inr (by decide))]; exact x3
  · rw [get_oth (.inr (by decide))]; exact x4
  · rw [World.cell?_setCell_same _ _ _ (x5)]
theorem FinW.setF {w : World} {Z Cb : Nat} {k d a b f n v : Int} {u : World} (h : FinW w Z Cb k d a b f n false u) : FinW w Z Cb k d a b v n false (u.setCell ⟨Cb, 4, none⟩ (.int .i64 v)) := by
  have o1 := h.ne
  have hl := h.lo
  obtain ⟨x0, x1, x2, x3, x4, x5⟩ := h.bx
  have oth : ∀ (uu : World) (j' j : Nat) (v : Value), (uu.setCell ⟨Cb, j', none⟩ v).cell? ⟨Z, j, none⟩ = uu.cell? ⟨Z, j, none⟩ := fun uu j' j v => get_oth (.inl (by omega))
  refine ⟨Below.setCell h.fw (show w.heap.size ≤ Cb by omega) _, ⟨?_, ?_, ?_, ?_, ?_, ?_⟩, fun j hj => by simp only [oth]; exact h.zc j hj, fun j hj => by simp only [World.frozen?_setCell]; exact h.zz j hj, hl, o1⟩
  · rw [get_oth (.inr (by decide))]; exact x0
  · rw [get_oth (.inr (by decide))]; exact x1
  · rw [get_oth (.inr (by decide))]; exact x2
  · rw [get_oth (.inr (by decide))]; exact x3
  · rw [World.cell?_setCell_same _ _ _ (x4)]
  · rw [get_oth (.inr (by decide))]; exact x5
theorem fin_nil {at' kk ff d a b f n : Int} {L : List UInt8 → Option Int} {ws r : List (List UInt8)} (hr : rd at' L ws = (finI kk (sdTo kk ff at' L r 5)).map (fun fs => (kk, fs))) (h : sdTo kk ff at' L r 5 = some ([d, a, b, f, n], [])) :
    (iok kk d a b f n = true → rd at' L ws = some (kk, [d, a, b, f, n])) ∧ (iok kk d a b f n = false → rd at' L ws = none) := by
  rw [hr, h]
  have e : iokL kk [d, a, b, f, n] = iok kk d a b f n := rfl
  constructor
  · intro hi
    simp [finI, e, hi]
  · intro hi
    simp [finI, e, hi]
theorem fin_cons {at' kk ff d a b f n : Int} {L : List UInt8 → Option Int} {ws r t : List (List UInt8)} {x : List UInt8} (hr : rd at' L ws = (finI kk (sdTo kk ff at' L r 5)).map (fun fs => (kk, fs))) (h : sdTo kk ff at' L r 5 = some ([d, a, b, f, n], x :: t)) : rd at' L ws = none := by
  rw [hr, h]
  simp [finI]
theorem Wds.open_nil {u : World} {v : Value} (h : Wds u v []) : ∃ ao cap, v = .slice ao 0 cap := by
  obtain ⟨ao, cap, e, _⟩ := h
  exact ⟨ao, cap, e⟩
theorem Wds.open_cons {u : World} {v : Value} {x : List UInt8} {t : List (List UInt8)} (h : Wds u v (x :: t)) : ∃ g off cap, v = .slice (some ⟨g, off, none⟩) (t.length + 1) cap ∧ t.length + 1 ≤ cap ∧ cap ≤ 9223372036854775807 ∧ g < u.heap.size ∧ ∀ i, i < t.length + 1 → u.cell? ⟨g, off + i, none⟩ = some (.string (bs ((x :: t).getD i []))) := by
  obtain ⟨ao, cap, e, h1, h2, h3⟩ := h
  obtain ⟨g, off, rfl, hg, hc⟩ := h3 (by simp)
  exact ⟨g, off, cap, e, h1, h2, hg, hc⟩
set_option maxRecDepth 8000 in
set_option maxHeartbeats 8000000 in
theorem spec_l3Inst (v vl : Value) (x0 : List UInt8) (r : List (List UInt8)) (at' : Int) (ls : List (List UInt8 × Int)) (w : World) (hw : Wds w v (x0 :: r)) (hx : ∀ x ∈ x0 :: r, x.length ≤ 4000000) (hlab : Labs w vl ls) (hn : ls.length ≤ 1000) (HL : ∀ x t, look ls x = some t → 0 ≤ t ∧ t ≤ 1000) (HC : ∀ x t, look ls x = some t → canon x = none) (hat : 0 ≤ at' ∧ at' ≤ 1000) :
    Calls Try.prog 62 #[v, .int .i64 at', vl] w (InstP at' ls (x0 :: r) w) := by
  obtain ⟨ao, cap, rfl, hcap, hmx, hc⟩ := hw
  obtain ⟨g, off, rfl, hg, hcc⟩ := hc (by simp)
  simp only [List.length_cons] at hcap hcc ⊢
  have F1 := Fr.alloc w (.cells #[.int .i64 0, .int .i64 0, .int .i64 0, .int .i64 0, .int .i64 0, .int .i64 0] 66)
  have w0 : (w.alloc (.cells #[.int .i64 0, .int .i64 0, .int .i64 0, .int .i64 0, .int .i64 0, .int .i64 0] 66)).cell? ⟨g, off, none⟩ = some (.string (bs x0)) := by
    rw [F1.cell (show g < w.heap.size from hg)]
    exact hcc 0 (by omega)
  have HX := Lib.hid hx
  have HLab := Lib.hid hlab
  have HLL := Lib.hid HL
  have HCC := Lib.hid HC
  have HAT := Lib.hid hat
  have HW := Lib.hid hcc
  have hmx' : cap ≤ 9223372036854775807 := hmx
  clear hx hlab HL HC hat hcc hmx
  go_enter Try.func62, Try.ntmps62
  go_wp2_with fail
  refine (spec_l3Kind x0 _).mono ?_
  rintro e w1 ⟨kk, ff, ok, rfl, f1, k1, k2⟩
  cases ok
  · have RN := Lib.hid (rd_none (at' := at') (L := look ls) (r := r) (k2 rfl))
    clear k1 k2 w0
    have z : ∀ j, j < 6 → w1.cell? ⟨w.heap.size, j, none⟩ = some (.int .i64 0) ∧ w1.frozen? ⟨w.heap.size, j, none⟩ = false := by
      intro j hj
      rw [f1.cell (show w.heap.size < _ by simp), f1.frozen (show w.heap.size < _ by simp)]
      have h : j = 0 ∨ j = 1 ∨ j = 2 ∨ j = 3 ∨ j = 4 ∨ j = 5 := by omega
      rcases h with rfl | rfl | rfl | rfl | rfl | rfl <;> simp
    obtain ⟨z0, y0⟩ := z 0 (by omega)
    obtain ⟨z1, y1⟩ := z 1 (by omega)
    obtain ⟨z2, y2⟩ := z 2 (by omega)
    obtain ⟨z3, y3⟩ := z 3 (by omega)
    obtain ⟨z4, y4⟩ := z 4 (by omega)
    obtain ⟨z5, y5⟩ := z 5 (by omega)
    have FW := Lib.hid (F1.trans f1)
    clear z f1 F1
    go_wp2
    refine bodyPost_ret (v := .tuple #[.agg #[.int .i64 0, .int .i64 0, .int .i64 0, .int .i64 0, .int .i64 0, .int .i64 0], .bool false]) (by simp [results, Try.results62, go_sem, z0, z1, z2, z3, z4, z5]) rfl ⟨0, 0, 0, 0, 0, 0, false, rfl, ?_, fun h => (by cases h), fun _ => RN.out⟩
    exact below6s FW.out (Nat.le_refl _) _ _ _ _ _ _
  · obtain ⟨i, hki, rfl, rfl⟩ := k1 rfl
    have KI := Lib.hid hki
    have HK := Lib.hid (mk_bd (kindOf_lt' hki))
    have RD := Lib.hid (rd_kind (at' := at') (r := r) hki HCC.out)
    clear k1 k2 w0 hki
    have IW1 := Lib.hid (iw_new (kk := mk i) (ff := mf i) 66 66 3 4 f1)
    have FW := Lib.hid (F1.trans f1)
    clear f1 F1
    generalize mk i = kk at *
    generalize mf i = ff at *
    go_wp2_with (first | (go_at_call 53; refine (spec_l2Has _ HK.out _).mono ?_; rintro e w3 ⟨rfl, rfl⟩) | (refine wpList_tail rfl _ rfl g off r.length cap rfl hcap hmx' ?_; intro ao1 hao1))
    have WL := Lib.hid (Wds.next (u := w) hcap hmx' hg HW.out ao1 hao1)
    clear hao1
    have IW2 : Hid (JW w.heap.size w1.heap.size (w1.heap.size + 1) (w1.heap.size + 1 + 1) kk ff [0, 0, 0, ff, 0] (((w1.alloc (.cells #[.int .i64 kk, .int .i64 0, .int .i64 0, .int .i64 0, .int .i64 ff, .int .i64 0] 66)).alloc (.cells #[.int .i64 0, .int .i64 0, .int .i64 0] 3)).alloc (.cells #[.bool (hD kk), .bool (hA kk), .bool (hB kk)] 4))) := IW1
    have F2 : Hid (Fr w (((w1.alloc (.cells #[.int .i64 kk, .int .i64 0, .int .i64 0, .int .i64 0, .int .i64 ff, .int .i64 0] 66)).alloc (.cells #[.int .i64 0, .int .i64 0, .int .i64 0] 3)).alloc (.cells #[.bool (hD kk), .bool (hA kk), .bool (hB kk)] 4))) := FW.out.trans (Fr.trans (Fr.alloc _ _) (Fr.trans (Fr.alloc _ _) (Fr.alloc _ _)))
    clear IW1
    go_loopw [17, 20] (fun left i wr => ∃ (q : Nat) (fs : List Int) (ws' : List (List UInt8)), q ≤ 3 ∧ i = .int .i64 q ∧ Wds w left ws' ∧ (∀ x ∈ ws', x ∈ x0 :: r) ∧ sdTo kk ff at' (look ls) r q = some (fs, ws') ∧ JW w.heap.size w1.heap.size (w1.heap.size + 1) (w1.heap.size + 1 + 1) kk ff fs wr ∧ Fr w wr) (fun _ i _ => 3 - (intOf i).toNat)
    case atStart => exact ⟨0, [0, 0, 0, ff, 0], r, by omega, rfl, WL.out, fun x hx => by simp [hx], rfl, IW2.out, F2.out⟩
    case round =>
      obtain ⟨q, fs, ws', hq, rfl, hWd, hsub, hsd, hI, hF⟩ := hrel
      clear IW2 F2 WL
      have HF := Lib.hid hF
      have HI := Lib.hid hI
      have HSD := Lib.hid hsd
      have HSUB := Lib.hid hsub
      have hlen := sdTo_len hsd
      by_cases h3 : q < 3
      · have h3' : (q : Int) < 3 := by omega
        have cH := hI.hb q h3
        have cL := hI.lb q h3
        have cZ := hI.lz q h3
        rcases has_lay' HK.out h3 with ⟨hl, hb⟩ | ⟨hl, hb⟩
        · rw [hb] at cH
          have SK := Lib.hid (sdTo_skip hsd (.inl hl))
          have HWD := Lib.hid hWd
          clear hWd hsub hsd hI hF hb hl
          go_wp2
          go_roundw
          case rel => exact ⟨q + 1, fs, ws', by omega, by go_num, HWD.out, HSUB.out, SK.out, HI.out, HF.out⟩
          case measure => simp [intOf]; omega
        · rw [hb] at cH
          cases ws' with
          | nil =>
            obtain ⟨ao2, cap2, rfl⟩ := hWd.open_nil
            have RN : Hid (rd at' (look ls) (x0 :: r) = none) := by
              show _ = none
              rw [RD.out, sdTo_none (sdTo_empty hsd (by omega)) 5 (by omega)]
              rfl
            have z0 := hI.zc 0 (by omega)
            have z1 := hI.zc 1 (by omega)
            have z2 := hI.zc 2 (by omega)
            have z3 := hI.zc 3 (by omega)
            have z4 := hI.zc 4 (by omega)
            have z5 := hI.zc 5 (by omega)
            have y0 := hI.zz 0 (by omega)
            have y1 := hI.zz 1 (by omega)
            have y2 := hI.zz 2 (by omega)
            have y3 := hI.zz 3 (by omega)
            have y4 := hI.zz 4 (by omega)
            have y5 := hI.zz 5 (by omega)
            clear hWd hsub hsd hI hF hb hl
            go_wp2
            refine bodyPost_ret (v := .tuple #[.agg #[.int .i64 0, .int .i64 0, .int .i64 0, .int .i64 0, .int .i64 0, .int .i64 0], .bool false]) (by simp [results, Try.results62, go_sem, z0, z1, z2, z3, z4, z5]) rfl ⟨0, 0, 0, 0, 0, 0, false, rfl, ?_, fun h => (by cases h), fun _ => RN.out⟩
            exact below6s HF.out (Nat.le_refl _) _ _ _ _ _ _
          | cons x t =>
            obtain ⟨g2, off2, cap2, rfl, p1, p2, p3, p4⟩ := hWd.open_cons
            have cx : wr.cell? ⟨g2, off2, none⟩ = some (.string (bs x)) := by
              rw [hF.cell (show g2 < w.heap.size from p3)]
              exact p4 0 (by omega)
            have SK := Lib.hid (sdTo_reg hsd hl)
            have HP := Lib.hid p4
            have hn0 : ¬ ((t.length : Int) + 1 = 0) := by omega
            have hn1 : ((t.length : Int) + 1 == 0) = false := by simp; omega
            have O3 := hI.o2
            have O1 := hI.o1
            clear hWd hsub hsd hI hF hb hl p4
            go_wp2_with (first | (go_at_call 73; refine (spec_l3Reg x _).mono ?_; rintro e w4 ⟨rfl, rfl⟩) | (refine wpList_tail rfl _ rfl g2 off2 t.length cap2 rfl p1 p2 ?_; intro ao2 hao2))
            have NW := Lib.hid (Wds.next (u := w) p1 p2 p3 HP.out ao2 hao2)
            have NI := Lib.hid (HI.out.set (v := regS x) h3 hlen)
            have NF : Hid (Fr w (wr.setCell ⟨w1.heap.size + 1, q, none⟩ (.int .i64 (regS x)))) := Below.setCell HF.out (show w.heap.size ≤ w1.heap.size + 1 by omega) _
            clear hao2
            go_roundw
            case rel => exact ⟨q + 1, fs.set q (regS x), t, by omega, by go_num, NW.out, fun y hy => HSUB.out y (by simp [hy]), SK.out, NI.out, NF.out⟩
            case measure => simp [intOf]; omega
      · obtain rfl : q = 3 := by omega
        obtain ⟨d, a, b, rfl⟩ := fs_shape hsd
        have hFr := hF
        clear hF
        have l0 : wr.cell? ⟨w1.heap.size + 1, 0, none⟩ = some (.int .i64 d) := hI.lb 0 (by omega)
        have l1 : wr.cell? ⟨w1.heap.size + 1, 1, none⟩ = some (.int .i64 a) := hI.lb 1 (by omega)
        have l2 : wr.cell? ⟨w1.heap.size + 1, 2, none⟩ = some (.int .i64 b) := hI.lb 2 (by omega)
        obtain ⟨c0, c1, c2, c3, c4, c5⟩ := hI.cb
        have x1 := hI.cz 1 (by omega)
        have x2 := hI.cz 2 (by omega)
        have x3 := hI.cz 3 (by omega)
        have x4 := hI.cz 4 (by omega)
        have x5 := hI.cz 5 (by omega)
        have FW0 := Lib.hid (finw_new hI hFr (Nat.le_refl _))
        have O1 := hI.o1
        have WD := Lib.hid hWd
        rcases last_lay3 HK.out with ⟨hFk, hk0, hl3, hN0, hl4⟩ | ⟨hFk, hl3, hNp, hl4⟩ | ⟨hFk, hl3, hN0, hl4⟩
        · have hk0' : (kk != 0) = true := by simp [hk0]
          have hN1 : ¬ (0 < hN kk) := by omega
          cases ws' with
          | nil =>
            obtain ⟨ao4, cap4, rfl⟩ := hWd.open_nil
            have RN : Hid (rd at' (look ls) (x0 :: r) = none) := by
              show _ = none
              rw [RD.out, sdTo_none (sdTo_empty hsd (by omega)) 5 (by omega)]
              rfl
            have z0 := FW0.out.zc 0 (by omega)
            have z1 := FW0.out.zc 1 (by omega)
            have z2 := FW0.out.zc 2 (by omega)
            have z3 := FW0.out.zc 3 (by omega)
            have z4 := FW0.out.zc 4 (by omega)
            have z5 := FW0.out.zc 5 (by omega)
            have y0 := FW0.out.zz 0 (by omega)
            have y1 := FW0.out.zz 1 (by omega)
            have y2 := FW0.out.zz 2 (by omega)
            have y3 := FW0.out.zz 3 (by omega)
            have y4 := FW0.out.zz 4 (by omega)
            have y5 := FW0.out.zz 5 (by omega)
            simp only [Bool.false_eq_true, if_false] at z0 z1 z2 z3 z4 z5
            clear hWd hsub hsd hI hFr hl3 hl4
            go_wp2
            refine bodyPost_ret (v := .tuple #[.agg #[.int .i64 0, .int .i64 0, .int .i64 0, .int .i64 0, .int .i64 0, .int .i64 0], .bool false]) (by simp [results, Try.results62, go_sem, z0, z1, z2, z3, z4, z5]) rfl ⟨0, 0, 0, 0, 0, 0, false, rfl, ?_, fun h => (by cases h), fun _ => RN.out⟩
            exact below6s FW0.out.fw (Nat.le_refl _) _ _ _ _ _ _
          | cons x t =>
            obtain ⟨g2, off2, cap2, rfl, p1, p2, p3, p4⟩ := hWd.open_cons
            have cx : (((wr.setCell ⟨w1.heap.size, 1, none⟩ (.int .i64 d)).setCell ⟨w1.heap.size, 2, none⟩ (.int .i64 a)).setCell ⟨w1.heap.size, 3, none⟩ (.int .i64 b)).cell? ⟨g2, off2, none⟩ = some (.string (bs x)) := by
              rw [FW0.out.fw.cell (show g2 < w.heap.size from p3)]
              exact p4 0 (by omega)
            have HP := Lib.hid p4
            have hn0 : ¬ ((t.length : Int) + 1 = 0) := by omega
            have hn1 : ((t.length : Int) + 1 == 0) = false := by simp; omega
            have hx30 : x.length ≤ 4000000000 := by have := HX.out x (HSUB.out x (by simp)); omega
            have HL4 := Lib.hid hl4
            have HSD3 := Lib.hid (hsd)
            have HL3 := Lib.hid hl3
            clear hWd hsub hsd hI hFr p4 hl3 hl4
            go_wp2_with fail
            refine (spec_l3Last kk at' x hx30 vl ls _ (HLab.out.fr FW0.out.fw) hn HLL.out HAT.out).mono ?_
            rintro e w5 ⟨v5, ok5, rfl, f5, q1, q2⟩
            have FW5 := Lib.hid (FW0.out.fr f5)
            have cz : w5.frozen? ⟨w1.heap.size, 4, none⟩ = false := by
              rw [f5.frozen (show w1.heap.size < _ from FW0.out.bx.lt)]
              simp only [World.frozen?_setCell]
              exact x4
            clear f5 cx
            cases ok5
            · have RN : Hid (rd at' (look ls) (x0 :: r) = none) := by
                show _ = none
                rw [RD.out, sdTo_none (sdTo_bad HSD3.out (by have := HL3.out; omega) (q2 rfl)) 5 (by omega)]
                rfl
              have z0 := FW5.out.zc 0 (by omega)
              have z1 := FW5.out.zc 1 (by omega)
              have z2 := FW5.out.zc 2 (by omega)
              have z3 := FW5.out.zc 3 (by omega)
              have z4 := FW5.out.zc 4 (by omega)
              have z5 := FW5.out.zc 5 (by omega)
              have y0 := FW5.out.zz 0 (by omega)
              have y1 := FW5.out.zz 1 (by omega)
              have y2 := FW5.out.zz 2 (by omega)
              have y3 := FW5.out.zz 3 (by omega)
              have y4 := FW5.out.zz 4 (by omega)
              have y5 := FW5.out.zz 5 (by omega)
              simp only [Bool.false_eq_true, if_false] at z0 z1 z2 z3 z4 z5
              clear q1 q2
              go_wp2
              refine bodyPost_ret (v := .tuple #[.agg #[.int .i64 0, .int .i64 0, .int .i64 0, .int .i64 0, .int .i64 0, .int .i64 0], .bool false]) (by simp [results, Try.results62, go_sem, z0, z1, z2, z3, z4, z5]) rfl ⟨0, 0, 0, 0, 0, 0, false, rfl, ?_, fun h => (by cases h), fun _ => RN.out⟩
              exact below6s FW5.out.fw (Nat.le_refl _) _ _ _ _ _ _
            · have SD5 : Hid (sdTo kk ff at' (look ls) r 5 = some ([d, a, b, v5, 0], t)) := sdTo_skip (sdTo_last HSD3.out (by have := HL3.out; omega) (q1 rfl)) (.inl HL4.out)
              have cc := FW5.out.bx.c4
              clear q1 q2
              go_wp2_with (first | (refine wpList_tail rfl _ rfl g2 off2 t.length cap2 rfl p1 p2 ?_; intro ao4 hao4) | fail)
              have WD4 := Wds.next (u := w) p1 p2 p3 HP.out ao4 hao4
              have FW6 := Lib.hid (FW5.out.setF (v := v5))
              clear hao4 FW0 FW5
              have FW0 := FW6
              have hWd := WD4
              cases t with
              | nil =>
                simp only [List.length_nil]
                have FI := Lib.hid (fin_nil RD.out SD5.out)
                refine wp_region_done 128 (fun i v => v = ([.agg #[.int .i64 kk, .int .i64 d, .int .i64 a, .int .i64 b, .int .i64 v5, .int .i64 0], .slice ao4 0 (cap2 - 1), .int .i64 0, .bool true, .bool true, .agg #[.int .i64 kk, .int .i64 d, .int .i64 a, .int .i64 b, .int .i64 v5, .int .i64 0], .bool (iok kk d a b v5 0), .bool (iok kk d a b v5 0), undef, .bool (iok kk d a b v5 0)] : List Value).getD i undef) (fun L u => FinW w w.heap.size w1.heap.size kk d a b v5 0 (L 8) u) (by kernel_rfl) (by kernel_rfl) rfl (by kernel_rfl) ?start ?step ?fin
                case start => exact FW0.out.drew
                case step =>
                  intro i o ho
                  rcases i with _ | _ | _ | _ | _ | _ | _ | _ | _ | _ | i
                  · cases ho
                    intro L act u hW hLi hL hdep
                    obtain ⟨y, ha, hy⟩ := hL.puts [120, 121, 122, 123, 124, 125, 126, 127, 7] (by kernel_rfl)
                    clear hdep hL hy
                    simp only [List.foldl, List.setIfInBounds_toArray, List.set_cons_succ, List.set_cons_zero] at ha
                    subst ha
                    obtain ⟨c0, c1, c2, c3, c4, c5⟩ := hW.bx
                    refine wpOp_step rfl (fun K hK => ?_)
                    go_simp
                    exact hK _ _ ⟨_, rfl, (fun h => by cases h), (by first | rfl | simp), by simpa using hW⟩
                  · cases ho
                    intro L act u hW hLi hL hdep
                    obtain ⟨y, ha, hy⟩ := hL.puts [120, 121, 122, 123, 124, 125, 126, 127, 7] (by kernel_rfl)
                    clear hdep hL hy
                    simp only [List.foldl, List.setIfInBounds_toArray, List.set_cons_succ, List.set_cons_zero] at ha
                    subst ha
                    refine wpOp_step rfl (fun K hK => ?_)
                    go_simp
                    exact hK _ _ ⟨_, rfl, (fun h => by cases h), (by first | rfl | simp), by simpa using hW⟩
                  · cases ho
                    intro L act u hW hLi hL hdep
                    have d1 : _ = (.slice ao4 0 (cap2 - 1) : Value) := (hdep { on := 1, ground := .data } (by simp) rfl).2 _ rfl
                    obtain ⟨y, ha, hy⟩ := hL.puts [120, 121, 122, 123, 124, 125, 126, 127, 7] (by kernel_rfl)
                    have e1 : y 121 = (.slice ao4 0 (cap2 - 1) : Value) := (hy 121).symm.trans d1
                    clear hdep hL hy d1
                    simp only [List.foldl, List.setIfInBounds_toArray, List.set_cons_succ, List.set_cons_zero, e1] at ha
                    subst ha
                    clear e1
                    refine wpOp_step rfl (fun K hK => ?_)
                    go_simp
                    exact hK _ _ ⟨_, rfl, (fun h => by cases h), (by first | rfl | simp), by simpa using hW⟩
                  · cases ho
                    intro L act u hW hLi hL hdep
                    have d2 : _ = (.int .i64 0 : Value) := (hdep { on := 2, ground := .data } (by simp) rfl).2 _ rfl
                    obtain ⟨y, ha, hy⟩ := hL.puts [120, 121, 122, 123, 124, 125, 126, 127, 7] (by kernel_rfl)
                    have e2 : y 122 = (.int .i64 0 : Value) := (hy 122).symm.trans d2
                    clear hdep hL hy d2
                    simp only [List.foldl, List.setIfInBounds_toArray, List.set_cons_succ, List.set_cons_zero, e2] at ha
                    subst ha
                    clear e2
                    refine wpOp_step rfl (fun K hK => ?_)
                    go_simp
                    exact hK _ _ ⟨_, rfl, (fun h => by cases h), (by first | rfl | simp), by simpa using hW⟩
                  · cases ho
                    intro L act u hW hLi hL hdep
                    have d3 : _ = (.bool true : Value) := (hdep { on := 3, ground := .data } (by simp) rfl).2 _ rfl
                    obtain ⟨y, ha, hy⟩ := hL.puts [120, 121, 122, 123, 124, 125, 126, 127, 7] (by kernel_rfl)
                    have e3 : y 123 = (.bool true : Value) := (hy 123).symm.trans d3
                    clear hdep hL hy d3
                    simp only [List.foldl, List.setIfInBounds_toArray, List.set_cons_succ, List.set_cons_zero, e3] at ha
                    subst ha
                    clear e3
                    refine wpOp_step rfl (fun K hK => ?_)
                    go_simp
                    exact hK _ _ ⟨_, rfl, (fun h => by cases h), (by first | rfl | simp), by simpa using hW⟩
                  · cases ho
                    intro L act u hW hLi hL hdep
                    have d4 : _ = (.bool true : Value) := (hdep { on := 4, ground := .guard } (by simp) rfl).2 _ rfl
                    obtain ⟨y, ha, hy⟩ := hL.puts [120, 121, 122, 123, 124, 125, 126, 127, 7] (by kernel_rfl)
                    have e4 : y 124 = (.bool true : Value) := (hy 124).symm.trans d4
                    clear hdep hL hy d4
                    simp only [List.foldl, List.setIfInBounds_toArray, List.set_cons_succ, List.set_cons_zero, e4] at ha
                    subst ha
                    clear e4
                    obtain ⟨c0, c1, c2, c3, c4, c5⟩ := hW.bx
                    refine wpOp_step rfl (fun K hK => ?_)
                    go_simp
                    exact hK _ _ ⟨_, rfl, (fun h => by cases h), (by first | rfl | simp), by simpa using hW⟩
                  · cases ho
                    intro L act u hW hLi hL hdep
                    have d4 : _ = (.bool true : Value) := (hdep { on := 4, ground := .guard } (by simp) rfl).2 _ rfl
                    have d5 : _ = (.agg #[.int .i64 kk, .int .i64 d, .int .i64 a, .int .i64 b, .int .i64 v5, .int .i64 0] : Value) := (hdep { on := 5, ground := .data } (by simp) rfl).2 _ rfl
                    obtain ⟨y, ha, hy⟩ := hL.puts [120, 121, 122, 123, 124, 125, 126, 127, 7] (by kernel_rfl)
                    have e4 : y 124 = (.bool true : Value) := (hy 124).symm.trans d4
                    have e5 : y 125 = (.agg #[.int .i64 kk, .int .i64 d, .int .i64 a, .int .i64 b, .int .i64 v5, .int .i64 0] : Value) := (hy 125).symm.trans d5
                    clear hdep hL hy d4 d5
                    simp only [List.foldl, List.setIfInBounds_toArray, List.set_cons_succ, List.set_cons_zero, e4, e5] at ha
                    subst ha
                    clear e4 e5
                    refine wpOp_step rfl (fun K hK => ?_)
                    go_simp
                    refine (spec_CodOk _ _ _ _ _ _ u).mono ?_
                    rintro e u' ⟨rfl, fu⟩
                    rw [sok_eq]
                    go_simp
                    exact hK _ _ ⟨_, rfl, (fun h => by cases h), rfl, by simpa using hW.fr fu⟩
                  · cases ho
                    intro L act u hW hLi hL hdep
                    have d4 : _ = (.bool true : Value) := (hdep { on := 4, ground := .data } (by simp) rfl).2 _ rfl
                    have d6 : _ = (.bool (iok kk d a b v5 0) : Value) := (hdep { on := 6, ground := .data } (by simp) rfl).2 _ rfl
                    obtain ⟨y, ha, hy⟩ := hL.puts [120, 121, 122, 123, 124, 125, 126, 127, 7] (by kernel_rfl)
                    have e4 : y 124 = (.bool true : Value) := (hy 124).symm.trans d4
                    have e6 : y 126 = (.bool (iok kk d a b v5 0) : Value) := (hy 126).symm.trans d6
                    clear hdep hL hy d4 d6
                    simp only [List.foldl, List.setIfInBounds_toArray, List.set_cons_succ, List.set_cons_zero, e4, e6] at ha
                    subst ha
                    clear e4 e6
                    refine wpOp_step rfl (fun K hK => ?_)
                    go_simp
                    exact hK _ _ ⟨_, rfl, (fun h => by cases h), (by first | rfl | simp), by simpa using hW⟩
                  · cases ho
                    intro L act u hW hLi hL hdep
                    have d0 : _ = (.agg #[.int .i64 kk, .int .i64 d, .int .i64 a, .int .i64 b, .int .i64 v5, .int .i64 0] : Value) := (hdep { on := 0, ground := .data } (by simp) rfl).2 _ rfl
                    obtain ⟨y, ha, hy⟩ := hL.puts [120, 121, 122, 123, 124, 125, 126, 127, 7] (by kernel_rfl)
                    have e0 : y 120 = (.agg #[.int .i64 kk, .int .i64 d, .int .i64 a, .int .i64 b, .int .i64 v5, .int .i64 0] : Value) := (hy 120).symm.trans d0
                    clear hdep hL hy d0
                    simp only [List.foldl, List.setIfInBounds_toArray, List.set_cons_succ, List.set_cons_zero, e0] at ha
                    subst ha
                    clear e0
                    rw [hLi] at hW
                    have z0 := hW.zc 0 (by omega)
                    have z1 := hW.zc 1 (by omega)
                    have z2 := hW.zc 2 (by omega)
                    have z3 := hW.zc 3 (by omega)
                    have z4 := hW.zc 4 (by omega)
                    have z5 := hW.zc 5 (by omega)
                    have y0 := hW.zz 0 (by omega)
                    have y1 := hW.zz 1 (by omega)
                    have y2 := hW.zz 2 (by omega)
                    have y3 := hW.zz 3 (by omega)
                    have y4 := hW.zz 4 (by omega)
                    have y5 := hW.zz 5 (by omega)
                    simp only [Bool.false_eq_true, if_false] at z0 z1 z2 z3 z4 z5
                    replace hW := Lib.hid hW
                    refine wpOp_step rfl (fun K hK => ?_)
                    go_simp
                    exact hK _ _ ⟨undef, rfl, (fun h => rfl), rfl, by simpa using hW.out.store⟩
                  · cases ho
                    intro L act u hW hLi hL hdep
                    have d7 : _ = (.bool (iok kk d a b v5 0) : Value) := (hdep { on := 7, ground := .data } (by simp) rfl).2 _ rfl
                    obtain ⟨y, ha, hy⟩ := hL.puts [120, 121, 122, 123, 124, 125, 126, 127, 7] (by kernel_rfl)
                    have e7 : y 127 = (.bool (iok kk d a b v5 0) : Value) := (hy 127).symm.trans d7
                    clear hdep hL hy d7
                    simp only [List.foldl, List.setIfInBounds_toArray, List.set_cons_succ, List.set_cons_zero, e7] at ha
                    subst ha
                    clear e7
                    refine wpOp_step rfl (fun K hK => ?_)
                    go_simp
                    exact hK _ _ ⟨_, rfl, (fun h => by cases h), (by first | rfl | simp), by simpa using hW⟩
                  · exact absurd ho (by simp)
                case fin =>
                  intro L act u hall hW hL hF9
                  have d9 : _ = (.bool (iok kk d a b v5 0) : Value) := hF9 9 _ rfl
                  obtain ⟨y, ha, hy⟩ := hL.puts [120, 121, 122, 123, 124, 125, 126, 127, 7] (by kernel_rfl)
                  have e9 : y 7 = (.bool (iok kk d a b v5 0) : Value) := (hy 7).symm.trans d9
                  clear hL hF9 hy d9
                  simp only [List.foldl, List.setIfInBounds_toArray, List.set_cons_succ, List.set_cons_zero, e9] at ha
                  subst ha
                  clear e9
                  rw [hall 8 (by decide)] at hW
                  have z0 : u.cell? ⟨w.heap.size, 0, none⟩ = some (.int .i64 kk) := hW.zc 0 (by omega)
                  have z1 : u.cell? ⟨w.heap.size, 1, none⟩ = some (.int .i64 d) := hW.zc 1 (by omega)
                  have z2 : u.cell? ⟨w.heap.size, 2, none⟩ = some (.int .i64 a) := hW.zc 2 (by omega)
                  have z3 : u.cell? ⟨w.heap.size, 3, none⟩ = some (.int .i64 b) := hW.zc 3 (by omega)
                  have z4 : u.cell? ⟨w.heap.size, 4, none⟩ = some (.int .i64 v5) := hW.zc 4 (by omega)
                  have z5 : u.cell? ⟨w.heap.size, 5, none⟩ = some (.int .i64 0) := hW.zc 5 (by omega)
                  replace hW := Lib.hid hW
                  go_wp2
                  refine bodyPost_ret (v := .tuple #[.agg #[.int .i64 kk, .int .i64 d, .int .i64 a, .int .i64 b, .int .i64 v5, .int .i64 0], .bool (iok kk d a b v5 0)]) (by simp [results, Try.results62, go_sem, z0, z1, z2, z3, z4, z5]) rfl ⟨kk, d, a, b, v5, 0, (iok kk d a b v5 0), rfl, hW.out.fw, fun h => FI.out.1 h, fun h => FI.out.2 h⟩
              | cons x3 t3 =>
                simp only [List.length_cons]
                have FI := Lib.hid (fin_cons RD.out SD5.out)
                have hn2 : ((t3.length : Int) + 1 == 0) = false := by simp; omega
                refine wp_region_done 128 (fun i v => v = ([.agg #[.int .i64 kk, .int .i64 d, .int .i64 a, .int .i64 b, .int .i64 v5, .int .i64 0], .slice ao4 (t3.length + 1) (cap2 - 1), .int .i64 ((t3.length : Int) + 1), .bool false, .bool false, undef, undef, .bool false, undef, .bool false] : List Value).getD i undef) (fun L u => FinW w w.heap.size w1.heap.size kk d a b v5 0 (L 8) u) (by kernel_rfl) (by kernel_rfl) rfl (by kernel_rfl) ?start ?step ?fin
                case start => exact FW0.out.drew
                case step =>
                  intro i o ho
                  rcases i with _ | _ | _ | _ | _ | _ | _ | _ | _ | _ | i
                  · cases ho
                    intro L act u hW hLi hL hdep
                    obtain ⟨y, ha, hy⟩ := hL.puts [120, 121, 122, 123, 124, 125, 126, 127, 7] (by kernel_rfl)
                    clear hdep hL hy
                    simp only [List.foldl, List.setIfInBounds_toArray, List.set_cons_succ, List.set_cons_zero] at ha
                    subst ha
                    obtain ⟨c0, c1, c2, c3, c4, c5⟩ := hW.bx
                    refine wpOp_step rfl (fun K hK => ?_)
                    go_simp
                    exact hK _ _ ⟨_, rfl, (fun h => by cases h), (by first | rfl | simp), by simpa using hW⟩
                  · cases ho
                    intro L act u hW hLi hL hdep
                    obtain ⟨y, ha, hy⟩ := hL.puts [120, 121, 122, 123, 124, 125, 126, 127, 7] (by kernel_rfl)
                    clear hdep hL hy
                    simp only [List.foldl, List.setIfInBounds_toArray, List.set_cons_succ, List.set_cons_zero] at ha
                    subst ha
                    refine wpOp_step rfl (fun K hK => ?_)
                    go_simp
                    exact hK _ _ ⟨_, rfl, (fun h => by cases h), (by first | rfl | simp), by simpa using hW⟩
                  · cases ho
                    intro L act u hW hLi hL hdep
                    have d1 : _ = (.slice ao4 (t3.length + 1) (cap2 - 1) : Value) := (hdep { on := 1, ground := .data } (by simp) rfl).2 _ rfl
                    obtain ⟨y, ha, hy⟩ := hL.puts [120, 121, 122, 123, 124, 125, 126, 127, 7] (by kernel_rfl)
                    have e1 : y 121 = (.slice ao4 (t3.length + 1) (cap2 - 1) : Value) := (hy 121).symm.trans d1
                    clear hdep hL hy d1
                    simp only [List.foldl, List.setIfInBounds_toArray, List.set_cons_succ, List.set_cons_zero, e1] at ha
                    subst ha
                    clear e1
                    refine wpOp_step rfl (fun K hK => ?_)
                    go_simp
                    exact hK _ _ ⟨_, rfl, (fun h => by cases h), (by first | rfl | simp), by simpa using hW⟩
                  · cases ho
                    intro L act u hW hLi hL hdep
                    have d2 : _ = (.int .i64 ((t3.length : Int) + 1) : Value) := (hdep { on := 2, ground := .data } (by simp) rfl).2 _ rfl
                    obtain ⟨y, ha, hy⟩ := hL.puts [120, 121, 122, 123, 124, 125, 126, 127, 7] (by kernel_rfl)
                    have e2 : y 122 = (.int .i64 ((t3.length : Int) + 1) : Value) := (hy 122).symm.trans d2
                    clear hdep hL hy d2
                    simp only [List.foldl, List.setIfInBounds_toArray, List.set_cons_succ, List.set_cons_zero, e2] at ha
                    subst ha
                    clear e2
                    refine wpOp_step rfl (fun K hK => ?_)
                    go_simp
                    exact hK _ _ ⟨_, rfl, (fun h => by cases h), (by first | rfl | simp), by simpa using hW⟩
                  · cases ho
                    intro L act u hW hLi hL hdep
                    have d3 : _ = (.bool false : Value) := (hdep { on := 3, ground := .data } (by simp) rfl).2 _ rfl
                    obtain ⟨y, ha, hy⟩ := hL.puts [120, 121, 122, 123, 124, 125, 126, 127, 7] (by kernel_rfl)
                    have e3 : y 123 = (.bool false : Value) := (hy 123).symm.trans d3
                    clear hdep hL hy d3
                    simp only [List.foldl, List.setIfInBounds_toArray, List.set_cons_succ, List.set_cons_zero, e3] at ha
                    subst ha
                    clear e3
                    refine wpOp_step rfl (fun K hK => ?_)
                    go_simp
                    exact hK _ _ ⟨_, rfl, (fun h => by cases h), (by first | rfl | simp), by simpa using hW⟩
                  · cases ho
                    intro L act u hW hLi hL hdep
                    have d4 : _ = (.bool false : Value) := (hdep { on := 4, ground := .guard } (by simp) rfl).2 _ rfl
                    obtain ⟨y, ha, hy⟩ := hL.puts [120, 121, 122, 123, 124, 125, 126, 127, 7] (by kernel_rfl)
                    have e4 : y 124 = (.bool false : Value) := (hy 124).symm.trans d4
                    clear hdep hL hy d4
                    simp only [List.foldl, List.setIfInBounds_toArray, List.set_cons_succ, List.set_cons_zero, e4] at ha
                    subst ha
                    clear e4
                    obtain ⟨c0, c1, c2, c3, c4, c5⟩ := hW.bx
                    refine wpOp_step rfl (fun K hK => ?_)
                    go_simp
                    exact hK _ _ ⟨_, rfl, (fun h => by cases h), (by first | rfl | simp), by simpa using hW⟩
                  · cases ho
                    intro L act u hW hLi hL hdep
                    have d4 : _ = (.bool false : Value) := (hdep { on := 4, ground := .guard } (by simp) rfl).2 _ rfl
                    have d5 : _ = (undef : Value) := (hdep { on := 5, ground := .data } (by simp) rfl).2 _ rfl
                    obtain ⟨y, ha, hy⟩ := hL.puts [120, 121, 122, 123, 124, 125, 126, 127, 7] (by kernel_rfl)
                    have e4 : y 124 = (.bool false : Value) := (hy 124).symm.trans d4
                    have e5 : y 125 = (undef : Value) := (hy 125).symm.trans d5
                    clear hdep hL hy d4 d5
                    simp only [List.foldl, List.setIfInBounds_toArray, List.set_cons_succ, List.set_cons_zero, e4, e5] at ha
                    subst ha
                    clear e4 e5
                    refine wpOp_step rfl (fun K hK => ?_)
                    go_simp
                    exact hK _ _ ⟨_, rfl, (fun h => by cases h), (by first | rfl | simp), by simpa using hW⟩
                  · cases ho
                    intro L act u hW hLi hL hdep
                    have d4 : _ = (.bool false : Value) := (hdep { on := 4, ground := .data } (by simp) rfl).2 _ rfl
                    have d6 : _ = (undef : Value) := (hdep { on := 6, ground := .data } (by simp) rfl).2 _ rfl
                    obtain ⟨y, ha, hy⟩ := hL.puts [120, 121, 122, 123, 124, 125, 126, 127, 7] (by kernel_rfl)
                    have e4 : y 124 = (.bool false : Value) := (hy 124).symm.trans d4
                    have e6 : y 126 = (undef : Value) := (hy 126).symm.trans d6
                    clear hdep hL hy d4 d6
                    simp only [List.foldl, List.setIfInBounds_toArray, List.set_cons_succ, List.set_cons_zero, e4, e6] at ha
                    subst ha
                    clear e4 e6
                    refine wpOp_step rfl (fun K hK => ?_)
                    go_simp
                    exact hK _ _ ⟨_, rfl, (fun h => by cases h), (by first | rfl | simp), by simpa using hW⟩
                  · cases ho
                    intro L act u hW hLi hL hdep
                    have d0 : _ = (.agg #[.int .i64 kk, .int .i64 d, .int .i64 a, .int .i64 b, .int .i64 v5, .int .i64 0] : Value) := (hdep { on := 0, ground := .data } (by simp) rfl).2 _ rfl
                    obtain ⟨y, ha, hy⟩ := hL.puts [120, 121, 122, 123, 124, 125, 126, 127, 7] (by kernel_rfl)
                    have e0 : y 120 = (.agg #[.int .i64 kk, .int .i64 d, .int .i64 a, .int .i64 b, .int .i64 v5, .int .i64 0] : Value) := (hy 120).symm.trans d0
                    clear hdep hL hy d0
                    simp only [List.foldl, List.setIfInBounds_toArray, List.set_cons_succ, List.set_cons_zero, e0] at ha
                    subst ha
                    clear e0
                    rw [hLi] at hW
                    have z0 := hW.zc 0 (by omega)
                    have z1 := hW.zc 1 (by omega)
                    have z2 := hW.zc 2 (by omega)
                    have z3 := hW.zc 3 (by omega)
                    have z4 := hW.zc 4 (by omega)
                    have z5 := hW.zc 5 (by omega)
                    have y0 := hW.zz 0 (by omega)
                    have y1 := hW.zz 1 (by omega)
                    have y2 := hW.zz 2 (by omega)
                    have y3 := hW.zz 3 (by omega)
                    have y4 := hW.zz 4 (by omega)
                    have y5 := hW.zz 5 (by omega)
                    simp only [Bool.false_eq_true, if_false] at z0 z1 z2 z3 z4 z5
                    replace hW := Lib.hid hW
                    refine wpOp_step rfl (fun K hK => ?_)
                    go_simp
                    exact hK _ _ ⟨undef, rfl, (fun h => rfl), rfl, by simpa using hW.out.store⟩
                  · cases ho
                    intro L act u hW hLi hL hdep
                    have d7 : _ = (.bool false : Value) := (hdep { on := 7, ground := .data } (by simp) rfl).2 _ rfl
                    obtain ⟨y, ha, hy⟩ := hL.puts [120, 121, 122, 123, 124, 125, 126, 127, 7] (by kernel_rfl)
                    have e7 : y 127 = (.bool false : Value) := (hy 127).symm.trans d7
                    clear hdep hL hy d7
                    simp only [List.foldl, List.setIfInBounds_toArray, List.set_cons_succ, List.set_cons_zero, e7] at ha
                    subst ha
                    clear e7
                    refine wpOp_step rfl (fun K hK => ?_)
                    go_simp
                    exact hK _ _ ⟨_, rfl, (fun h => by cases h), (by first | rfl | simp), by simpa using hW⟩
                  · exact absurd ho (by simp)
                case fin =>
                  intro L act u hall hW hL hF9
                  have d9 : _ = (.bool false : Value) := hF9 9 _ rfl
                  obtain ⟨y, ha, hy⟩ := hL.puts [120, 121, 122, 123, 124, 125, 126, 127, 7] (by kernel_rfl)
                  have e9 : y 7 = (.bool false : Value) := (hy 7).symm.trans d9
                  clear hL hF9 hy d9
                  simp only [List.foldl, List.setIfInBounds_toArray, List.set_cons_succ, List.set_cons_zero, e9] at ha
                  subst ha
                  clear e9
                  rw [hall 8 (by decide)] at hW
                  have z0 : u.cell? ⟨w.heap.size, 0, none⟩ = some (.int .i64 kk) := hW.zc 0 (by omega)
                  have z1 : u.cell? ⟨w.heap.size, 1, none⟩ = some (.int .i64 d) := hW.zc 1 (by omega)
                  have z2 : u.cell? ⟨w.heap.size, 2, none⟩ = some (.int .i64 a) := hW.zc 2 (by omega)
                  have z3 : u.cell? ⟨w.heap.size, 3, none⟩ = some (.int .i64 b) := hW.zc 3 (by omega)
                  have z4 : u.cell? ⟨w.heap.size, 4, none⟩ = some (.int .i64 v5) := hW.zc 4 (by omega)
                  have z5 : u.cell? ⟨w.heap.size, 5, none⟩ = some (.int .i64 0) := hW.zc 5 (by omega)
                  replace hW := Lib.hid hW
                  go_wp2
                  refine bodyPost_ret (v := .tuple #[.agg #[.int .i64 kk, .int .i64 d, .int .i64 a, .int .i64 b, .int .i64 v5, .int .i64 0], .bool false]) (by simp [results, Try.results62, go_sem, z0, z1, z2, z3, z4, z5]) rfl ⟨kk, d, a, b, v5, 0, false, rfl, hW.out.fw, fun h => (by cases h), fun _ => FI.out⟩
        · have hFf : hF kk = false := by
            rcases hFk with h | h
            · exact h
            · subst h; exact absurd hNp (by decide)
          cases ws' with
          | nil =>
            obtain ⟨ao4, cap4, rfl⟩ := hWd.open_nil
            have RN : Hid (rd at' (look ls) (x0 :: r) = none) := by
              show _ = none
              rw [RD.out, sdTo_none (sdTo_empty (show sdTo kk ff at' (look ls) r 4 = _ from sdTo_skip hsd hl3) (by omega)) 5 (by omega)]
              rfl
            have z0 := FW0.out.zc 0 (by omega)
            have z1 := FW0.out.zc 1 (by omega)
            have z2 := FW0.out.zc 2 (by omega)
            have z3 := FW0.out.zc 3 (by omega)
            have z4 := FW0.out.zc 4 (by omega)
            have z5 := FW0.out.zc 5 (by omega)
            have y0 := FW0.out.zz 0 (by omega)
            have y1 := FW0.out.zz 1 (by omega)
            have y2 := FW0.out.zz 2 (by omega)
            have y3 := FW0.out.zz 3 (by omega)
            have y4 := FW0.out.zz 4 (by omega)
            have y5 := FW0.out.zz 5 (by omega)
            simp only [Bool.false_eq_true, if_false] at z0 z1 z2 z3 z4 z5
            clear hWd hsub hsd hI hFr hl3 hl4
            go_wp2
            refine bodyPost_ret (v := .tuple #[.agg #[.int .i64 0, .int .i64 0, .int .i64 0, .int .i64 0, .int .i64 0, .int .i64 0], .bool false]) (by simp [results, Try.results62, go_sem, z0, z1, z2, z3, z4, z5]) rfl ⟨0, 0, 0, 0, 0, 0, false, rfl, ?_, fun h => (by cases h), fun _ => RN.out⟩
            exact below6s FW0.out.fw (Nat.le_refl _) _ _ _ _ _ _
          | cons x t =>
            obtain ⟨g2, off2, cap2, rfl, p1, p2, p3, p4⟩ := hWd.open_cons
            have cx : (((wr.setCell ⟨w1.heap.size, 1, none⟩ (.int .i64 d)).setCell ⟨w1.heap.size, 2, none⟩ (.int .i64 a)).setCell ⟨w1.heap.size, 3, none⟩ (.int .i64 b)).cell? ⟨g2, off2, none⟩ = some (.string (bs x)) := by
              rw [FW0.out.fw.cell (show g2 < w.heap.size from p3)]
              exact p4 0 (by omega)
            have HP := Lib.hid p4
            have hn0 : ¬ ((t.length : Int) + 1 = 0) := by omega
            have hn1 : ((t.length : Int) + 1 == 0) = false := by simp; omega
            have hx30 : x.length ≤ 4000000000 := by have := HX.out x (HSUB.out x (by simp)); omega
            have HSD3 := Lib.hid ((show sdTo kk ff at' (look ls) r 4 = _ from sdTo_skip hsd hl3))
            have HL3 := Lib.hid hl4
            clear hWd hsub hsd hI hFr p4 hl3 hl4
            go_wp2_with fail
            refine (spec_l3Last kk at' x hx30 vl ls _ (HLab.out.fr FW0.out.fw) hn HLL.out HAT.out).mono ?_
            rintro e w5 ⟨v5, ok5, rfl, f5, q1, q2⟩
            have FW5 := Lib.hid (FW0.out.fr f5)
            have cz : w5.frozen? ⟨w1.heap.size, 5, none⟩ = false := by
              rw [f5.frozen (show w1.heap.size < _ from FW0.out.bx.lt)]
              simp only [World.frozen?_setCell]
              exact x5
            clear f5 cx
            cases ok5
            · have RN : Hid (rd at' (look ls) (x0 :: r) = none) := by
                show _ = none
                rw [RD.out, sdTo_none (sdTo_bad HSD3.out (by have := HL3.out; omega) (q2 rfl)) 5 (by omega)]
                rfl
              have z0 := FW5.out.zc 0 (by omega)
              have z1 := FW5.out.zc 1 (by omega)
              have z2 := FW5.out.zc 2 (by omega)
              have z3 := FW5.out.zc 3 (by omega)
              have z4 := FW5.out.zc 4 (by omega)
              have z5 := FW5.out.zc 5 (by omega)
              have y0 := FW5.out.zz 0 (by omega)
              have y1 := FW5.out.zz 1 (by omega)
              have y2 := FW5.out.zz 2 (by omega)
              have y3 := FW5.out.zz 3 (by omega)
              have y4 := FW5.out.zz 4 (by omega)
              have y5 := FW5.out.zz 5 (by omega)
              simp only [Bool.false_eq_true, if_false] at z0 z1 z2 z3 z4 z5
              clear q1 q2
              go_wp2
              refine bodyPost_ret (v := .tuple #[.agg #[.int .i64 0, .int .i64 0, .int .i64 0, .int .i64 0, .int .i64 0, .int .i64 0], .bool false]) (by simp [results, Try.results62, go_sem, z0, z1, z2, z3, z4, z5]) rfl ⟨0, 0, 0, 0, 0, 0, false, rfl, ?_, fun h => (by cases h), fun _ => RN.out⟩
              exact below6s FW5.out.fw (Nat.le_refl _) _ _ _ _ _ _
            · have SD5 : Hid (sdTo kk ff at' (look ls) r 5 = some ([d, a, b, ff, v5], t)) := sdTo_last HSD3.out (by have := HL3.out; omega) (q1 rfl)
              have cc := FW5.out.bx.c5
              clear q1 q2
              go_wp2_with (first | (refine wpList_tail rfl _ rfl g2 off2 t.length cap2 rfl p1 p2 ?_; intro ao4 hao4) | fail)
              have WD4 := Wds.next (u := w) p1 p2 p3 HP.out ao4 hao4
              have FW6 := Lib.hid (FW5.out.setN (v := v5))
              clear hao4 FW0 FW5
              have FW0 := FW6
              have hWd := WD4
              cases t with
              | nil =>
                simp only [List.length_nil]
                have FI := Lib.hid (fin_nil RD.out SD5.out)
                refine wp_region_done 128 (fun i v => v = ([.agg #[.int .i64 kk, .int .i64 d, .int .i64 a, .int .i64 b, .int .i64 ff, .int .i64 v5], .slice ao4 0 (cap2 - 1), .int .i64 0, .bool true, .bool true, .agg #[.int .i64 kk, .int .i64 d, .int .i64 a, .int .i64 b, .int .i64 ff, .int .i64 v5], .bool (iok kk d a b ff v5), .bool (iok kk d a b ff v5), undef, .bool (iok kk d a b ff v5)] : List Value).getD i undef) (fun L u => FinW w w.heap.size w1.heap.size kk d a b ff v5 (L 8) u) (by kernel_rfl) (by kernel_rfl) rfl (by kernel_rfl) ?start ?step ?fin
                case start => exact FW0.out.drew
                case step =>
                  intro i o ho
                  rcases i with _ | _ | _ | _ | _ | _ | _ | _ | _ | _ | i
                  · cases ho
                    intro L act u hW hLi hL hdep
                    obtain ⟨y, ha, hy⟩ := hL.puts [120, 121, 122, 123, 124, 125, 126, 127, 7] (by kernel_rfl)
                    clear hdep hL hy
                    simp only [List.foldl, List.setIfInBounds_toArray, List.set_cons_succ, List.set_cons_zero] at ha
                    subst ha
                    obtain ⟨c0, c1, c2, c3, c4, c5⟩ := hW.bx
                    refine wpOp_step rfl (fun K hK => ?_)
                    go_simp
                    exact hK _ _ ⟨_, rfl, (fun h => by cases h), (by first | rfl | simp), by simpa using hW⟩
                  · cases ho
                    intro L act u hW hLi hL hdep
                    obtain ⟨y, ha, hy⟩ := hL.puts [120, 121, 122, 123, 124, 125, 126, 127, 7] (by kernel_rfl)
                    clear hdep hL hy
                    simp only [List.foldl, List.setIfInBounds_toArray, List.set_cons_succ, List.set_cons_zero] at ha
                    subst ha
                    refine wpOp_step rfl (fun K hK => ?_)
                    go_simp
                    exact hK _ _ ⟨_, rfl, (fun h => by cases h), (by first | rfl | simp), by simpa using hW⟩
                  · cases ho
                    intro L act u hW hLi hL hdep
                    have d1 : _ = (.slice ao4 0 (cap2 - 1) : Value) := (hdep { on := 1, ground := .data } (by simp) rfl).2 _ rfl
                    obtain ⟨y, ha, hy⟩ := hL.puts [120, 121, 122, 123, 124, 125, 126, 127, 7] (by kernel_rfl)
                    have e1 : y 121 = (.slice ao4 0 (cap2 - 1) : Value) := (hy 121).symm.trans d1
                    clear hdep hL hy d1
                    simp only [List.foldl, List.setIfInBounds_toArray, List.set_cons_succ, List.set_cons_zero, e1] at ha
                    subst ha
                    clear e1
                    refine wpOp_step rfl (fun K hK => ?_)
                    go_simp
                    exact hK _ _ ⟨_, rfl, (fun h => by cases h), (by first | rfl | simp), by simpa using hW⟩
                  · cases ho
                    intro L act u hW hLi hL hdep
                    have d2 : _ = (.int .i64 0 : Value) := (hdep { on := 2, ground := .data } (by simp) rfl).2 _ rfl
                    obtain ⟨y, ha, hy⟩ := hL.puts [120, 121, 122, 123, 124, 125, 126, 127, 7] (by kernel_rfl)
                    have e2 : y 122 = (.int .i64 0 : Value) := (hy 122).symm.trans d2
                    clear hdep hL hy d2
                    simp only [List.foldl, List.setIfInBounds_toArray, List.set_cons_succ, List.set_cons_zero, e2] at ha
                    subst ha
                    clear e2
                    refine wpOp_step rfl (fun K hK => ?_)
                    go_simp
                    exact hK _ _ ⟨_, rfl, (fun h => by cases h), (by first | rfl | simp), by simpa using hW⟩
                  · cases ho
                    intro L act u hW hLi hL hdep
                    have d3 : _ = (.bool true : Value) := (hdep { on := 3, ground := .data } (by simp) rfl).2 _ rfl
                    obtain ⟨y, ha, hy⟩ := hL.puts [120, 121, 122, 123, 124, 125, 126, 127, 7] (by kernel_rfl)
                    have e3 : y 123 = (.bool true : Value) := (hy 123).symm.trans d3
                    clear hdep hL hy d3
                    simp only [List.foldl, List.setIfInBounds_toArray, List.set_cons_succ, List.set_cons_zero, e3] at ha
                    subst ha
                    clear e3
                    refine wpOp_step rfl (fun K hK => ?_)
                    go_simp
                    exact hK _ _ ⟨_, rfl, (fun h => by cases h), (by first | rfl | simp), by simpa using hW⟩
                  · cases ho
                    intro L act u hW hLi hL hdep
                    have d4 : _ = (.bool true : Value) := (hdep { on := 4, ground := .guard } (by simp) rfl).2 _ rfl
                    obtain ⟨y, ha, hy⟩ := hL.puts [120, 121, 122, 123, 124, 125, 126, 127, 7] (by kernel_rfl)
                    have e4 : y 124 = (.bool true : Value) := (hy 124).symm.trans d4
                    clear hdep hL hy d4
                    simp only [List.foldl, List.setIfInBounds_toArray, List.set_cons_succ, List.set_cons_zero, e4] at ha
                    subst ha
                    clear e4
                    obtain ⟨c0, c1, c2, c3, c4, c5⟩ := hW.bx
                    refine wpOp_step rfl (fun K hK => ?_)
                    go_simp
                    exact hK _ _ ⟨_, rfl, (fun h => by cases h), (by first | rfl | simp), by simpa using hW⟩
                  · cases ho
                    intro L act u hW hLi hL hdep
                    have d4 : _ = (.bool true : Value) := (hdep { on := 4, ground := .guard } (by simp) rfl).2 _ rfl
                    have d5 : _ = (.agg #[.int .i64 kk, .int .i64 d, .int .i64 a, .int .i64 b, .int .i64 ff, .int .i64 v5] : Value) := (hdep { on := 5, ground := .data } (by simp) rfl).2 _ rfl
                    obtain ⟨y, ha, hy⟩ := hL.puts [120, 121, 122, 123, 124, 125, 126, 127, 7] (by kernel_rfl)
                    have e4 : y 124 = (.bool true : Value) := (hy 124).symm.trans d4
                    have e5 : y 125 = (.agg #[.int .i64 kk, .int .i64 d, .int .i64 a, .int .i64 b, .int .i64 ff, .int .i64 v5] : Value) := (hy 125).symm.trans d5
                    clear hdep hL hy d4 d5
                    simp only [List.foldl, List.setIfInBounds_toArray, List.set_cons_succ, List.set_cons_zero, e4, e5] at ha
                    subst ha
                    clear e4 e5
                    refine wpOp_step rfl (fun K hK => ?_)
                    go_simp
                    refine (spec_CodOk _ _ _ _ _ _ u).mono ?_
                    rintro e u' ⟨rfl, fu⟩
                    rw [sok_eq]
                    go_simp
                    exact hK _ _ ⟨_, rfl, (fun h => by cases h), rfl, by simpa using hW.fr fu⟩
                  · cases ho
                    intro L act u hW hLi hL hdep
                    have d4 : _ = (.bool true : Value) := (hdep { on := 4, ground := .data } (by simp) rfl).2 _ rfl
                    have d6 : _ = (.bool (iok kk d a b ff v5) : Value) := (hdep { on := 6, ground := .data } (by simp) rfl).2 _ rfl
                    obtain ⟨y, ha, hy⟩ := hL.puts [120, 121, 122, 123, 124, 125, 126, 127, 7] (by kernel_rfl)
                    have e4 : y 124 = (.bool true : Value) := (hy 124).symm.trans d4
                    have e6 : y 126 = (.bool (iok kk d a b ff v5) : Value) := (hy 126).symm.trans d6
                    clear hdep hL hy d4 d6
                    simp only [List.foldl, List.setIfInBounds_toArray, List.set_cons_succ, List.set_cons_zero, e4, e6] at ha
                    subst ha
                    clear e4 e6
                    refine wpOp_step rfl (fun K hK => ?_)
                    go_simp
                    exact hK _ _ ⟨_, rfl, (fun h => by cases h), (by first | rfl | simp), by simpa using hW⟩
                  · cases ho
                    intro L act u hW hLi hL hdep
                    have d0 : _ = (.agg #[.int .i64 kk, .int .i64 d, .int .i64 a, .int .i64 b, .int .i64 ff, .int .i64 v5] : Value) := (hdep { on := 0, ground := .data } (by simp) rfl).2 _ rfl
                    obtain ⟨y, ha, hy⟩ := hL.puts [120, 121, 122, 123, 124, 125, 126, 127, 7] (by kernel_rfl)
                    have e0 : y 120 = (.agg #[.int .i64 kk, .int .i64 d, .int .i64 a, .int .i64 b, .int .i64 ff, .int .i64 v5] : Value) := (hy 120).symm.trans d0
                    clear hdep hL hy d0
                    simp only [List.foldl, List.setIfInBounds_toArray, List.set_cons_succ, List.set_cons_zero, e0] at ha
                    subst ha
                    clear e0
                    rw [hLi] at hW
                    have z0 := hW.zc 0 (by omega)
                    have z1 := hW.zc 1 (by omega)
                    have z2 := hW.zc 2 (by omega)
                    have z3 := hW.zc 3 (by omega)
                    have z4 := hW.zc 4 (by omega)
                    have z5 := hW.zc 5 (by omega)
                    have y0 := hW.zz 0 (by omega)
                    have y1 := hW.zz 1 (by omega)
                    have y2 := hW.zz 2 (by omega)
                    have y3 := hW.zz 3 (by omega)
                    have y4 := hW.zz 4 (by omega)
                    have y5 := hW.zz 5 (by omega)
                    simp only [Bool.false_eq_true, if_false] at z0 z1 z2 z3 z4 z5
                    replace hW := Lib.hid hW
                    refine wpOp_step rfl (fun K hK => ?_)
                    go_simp
                    exact hK _ _ ⟨undef, rfl, (fun h => rfl), rfl, by simpa using hW.out.store⟩
                  · cases ho
                    intro L act u hW hLi hL hdep
                    have d7 : _ = (.bool (iok kk d a b ff v5) : Value) := (hdep { on := 7, ground := .data } (by simp) rfl).2 _ rfl
                    obtain ⟨y, ha, hy⟩ := hL.puts [120, 121, 122, 123, 124, 125, 126, 127, 7] (by kernel_rfl)
                    have e7 : y 127 = (.bool (iok kk d a b ff v5) : Value) := (hy 127).symm.trans d7
                    clear hdep hL hy d7
                    simp only [List.foldl, List.setIfInBounds_toArray, List.set_cons_succ, List.set_cons_zero, e7] at ha
                    subst ha
                    clear e7
                    refine wpOp_step rfl (fun K hK => ?_)
                    go_simp
                    exact hK _ _ ⟨_, rfl, (fun h => by cases h), (by first | rfl | simp), by simpa using hW⟩
                  · exact absurd ho (by simp)
                case fin =>
                  intro L act u hall hW hL hF9
                  have d9 : _ = (.bool (iok kk d a b ff v5) : Value) := hF9 9 _ rfl
                  obtain ⟨y, ha, hy⟩ := hL.puts [120, 121, 122, 123, 124, 125, 126, 127, 7] (by kernel_rfl)
                  have e9 : y 7 = (.bool (iok kk d a b ff v5) : Value) := (hy 7).symm.trans d9
                  clear hL hF9 hy d9
                  simp only [List.foldl, List.setIfInBounds_toArray, List.set_cons_succ, List.set_cons_zero, e9] at ha
                  subst ha
                  clear e9
                  rw [hall 8 (by decide)] at hW
                  have z0 : u.cell? ⟨w.heap.size, 0, none⟩ = some (.int .i64 kk) := hW.zc 0 (by omega)
                  have z1 : u.cell? ⟨w.heap.size, 1, none⟩ = some (.int .i64 d) := hW.zc 1 (by omega)
                  have z2 : u.cell? ⟨w.heap.size, 2, none⟩ = some (.int .i64 a) := hW.zc 2 (by omega)
                  have z3 : u.cell? ⟨w.heap.size, 3, none⟩ = some (.int .i64 b) := hW.zc 3 (by omega)
                  have z4 : u.cell? ⟨w.heap.size, 4, none⟩ = some (.int .i64 ff) := hW.zc 4 (by omega)
                  have z5 : u.cell? ⟨w.heap.size, 5, none⟩ = some (.int .i64 v5) := hW.zc 5 (by omega)
                  replace hW := Lib.hid hW
                  go_wp2
                  refine bodyPost_ret (v := .tuple #[.agg #[.int .i64 kk, .int .i64 d, .int .i64 a, .int .i64 b, .int .i64 ff, .int .i64 v5], .bool (iok kk d a b ff v5)]) (by simp [results, Try.results62, go_sem, z0, z1, z2, z3, z4, z5]) rfl ⟨kk, d, a, b, ff, v5, (iok kk d a b ff v5), rfl, hW.out.fw, fun h => FI.out.1 h, fun h => FI.out.2 h⟩
              | cons x3 t3 =>
                simp only [List.length_cons]
                have FI := Lib.hid (fin_cons RD.out SD5.out)
                have hn2 : ((t3.length : Int) + 1 == 0) = false := by simp; omega
                refine wp_region_done 128 (fun i v => v = ([.agg #[.int .i64 kk, .int .i64 d, .int .i64 a, .int .i64 b, .int .i64 ff, .int .i64 v5], .slice ao4 (t3.length + 1) (cap2 - 1), .int .i64 ((t3.length : Int) + 1), .bool false, .bool false, undef, undef, .bool false, undef, .bool false] : List Value).getD i undef) (fun L u => FinW w w.heap.size w1.heap.size kk d a b ff v5 (L 8) u) (by kernel_rfl) (by kernel_rfl) rfl (by kernel_rfl) ?start ?step ?fin
                case start => exact FW0.out.drew
                case step =>
                  intro i o ho
                  rcases i with _ | _ | _ | _ | _ | _ | _ | _ | _ | _ | i
                  · cases ho
                    intro L act u hW hLi hL hdep
                    obtain ⟨y, ha, hy⟩ := hL.puts [120, 121, 122, 123, 124, 125, 126, 127, 7] (by kernel_rfl)
                    clear hdep hL hy
                    simp only [List.foldl, List.setIfInBounds_toArray, List.set_cons_succ, List.set_cons_zero] at ha
                    subst ha
                    obtain ⟨c0, c1, c2, c3, c4, c5⟩ := hW.bx
                    refine wpOp_step rfl (fun K hK => ?_)
                    go_simp
                    exact hK _ _ ⟨_, rfl, (fun h => by cases h), (by first | rfl | simp), by simpa using hW⟩
                  · cases ho
                    intro L act u hW hLi hL hdep
                    obtain ⟨y, ha, hy⟩ := hL.puts [120, 121, 122, 123, 124, 125, 126, 127, 7] (by kernel_rfl)
                    clear hdep hL hy
                    simp only [List.foldl, List.setIfInBounds_toArray, List.set_cons_succ, List.set_cons_zero] at ha
                    subst ha
                    refine wpOp_step rfl (fun K hK => ?_)
                    go_simp
                    exact hK _ _ ⟨_, rfl, (fun h => by cases h), (by first | rfl | simp), by simpa using hW⟩
                  · cases ho
                    intro L act u hW hLi hL hdep
                    have d1 : _ = (.slice ao4 (t3.length + 1) (cap2 - 1) : Value) := (hdep { on := 1, ground := .data } (by simp) rfl).2 _ rfl
                    obtain ⟨y, ha, hy⟩ := hL.puts [120, 121, 122, 123, 124, 125, 126, 127, 7] (by kernel_rfl)
                    have e1 : y 121 = (.slice ao4 (t3.length + 1) (cap2 - 1) : Value) := (hy 121).symm.trans d1
                    clear hdep hL hy d1
                    simp only [List.foldl, List.setIfInBounds_toArray, List.set_cons_succ, List.set_cons_zero, e1] at ha
                    subst ha
                    clear e1
                    refine wpOp_step rfl (fun K hK => ?_)
                    go_simp
                    exact hK _ _ ⟨_, rfl, (fun h => by cases h), (by first | rfl | simp), by simpa using hW⟩
                  · cases ho
                    intro L act u hW hLi hL hdep
                    have d2 : _ = (.int .i64 ((t3.length : Int) + 1) : Value) := (hdep { on := 2, ground := .data } (by simp) rfl).2 _ rfl
                    obtain ⟨y, ha, hy⟩ := hL.puts [120, 121, 122, 123, 124, 125, 126, 127, 7] (by kernel_rfl)
                    have e2 : y 122 = (.int .i64 ((t3.length : Int) + 1) : Value) := (hy 122).symm.trans d2
                    clear hdep hL hy d2
                    simp only [List.foldl, List.setIfInBounds_toArray, List.set_cons_succ, List.set_cons_zero, e2] at ha
                    subst ha
                    clear e2
                    refine wpOp_step rfl (fun K hK => ?_)
                    go_simp
                    exact hK _ _ ⟨_, rfl, (fun h => by cases h), (by first | rfl | simp), by simpa using hW⟩
                  · cases ho
                    intro L act u hW hLi hL hdep
                    have d3 : _ = (.bool false : Value) := (hdep { on := 3, ground := .data } (by simp) rfl).2 _ rfl
                    obtain ⟨y, ha, hy⟩ := hL.puts [120, 121, 122, 123, 124, 125, 126, 127, 7] (by kernel_rfl)
                    have e3 : y 123 = (.bool false : Value) := (hy 123).symm.trans d3
                    clear hdep hL hy d3
                    simp only [List.foldl, List.setIfInBounds_toArray, List.set_cons_succ, List.set_cons_zero, e3] at ha
                    subst ha
                    clear e3
                    refine wpOp_step rfl (fun K hK => ?_)
                    go_simp
                    exact hK _ _ ⟨_, rfl, (fun h => by cases h), (by first | rfl | simp), by simpa using hW⟩
                  · cases ho
                    intro L act u hW hLi hL hdep
                    have d4 : _ = (.bool false : Value) := (hdep { on := 4, ground := .guard } (by simp) rfl).2 _ rfl
                    obtain ⟨y, ha, hy⟩ := hL.puts [120, 121, 122, 123, 124, 125, 126, 127, 7] (by kernel_rfl)
                    have e4 : y 124 = (.bool false : Value) := (hy 124).symm.trans d4
                    clear hdep hL hy d4
                    simp only [List.foldl, List.setIfInBounds_toArray, List.set_cons_succ, List.set_cons_zero, e4] at ha
                    subst ha
                    clear e4
                    obtain ⟨c0, c1, c2, c3, c4, c5⟩ := hW.bx
                    refine wpOp_step rfl (fun K hK => ?_)
                    go_simp
                    exact hK _ _ ⟨_, rfl, (fun h => by cases h), (by first | rfl | simp), by simpa using hW⟩
                  · cases ho
                    intro L act u hW hLi hL hdep
                    have d4 : _ = (.bool false : Value) := (hdep { on := 4, ground := .guard } (by simp) rfl).2 _ rfl
                    have d5 : _ = (undef : Value) := (hdep { on := 5, ground := .data } (by simp) rfl).2 _ rfl
                    obtain ⟨y, ha, hy⟩ := hL.puts [120, 121, 122, 123, 124, 125, 126, 127, 7] (by kernel_rfl)
                    have e4 : y 124 = (.bool false : Value) := (hy 124).symm.trans d4
                    have e5 : y 125 = (undef : Value) := (hy 125).symm.trans d5
                    clear hdep hL hy d4 d5
                    simp only [List.foldl, List.setIfInBounds_toArray, List.set_cons_succ, List.set_cons_zero, e4, e5] at ha
                    subst ha
                    clear e4 e5
                    refine wpOp_step rfl (fun K hK => ?_)
                    go_simp
                    exact hK _ _ ⟨_, rfl, (fun h => by cases h), (by first | rfl | simp), by simpa using hW⟩
                  · cases ho
                    intro L act u hW hLi hL hdep
                    have d4 : _ = (.bool false : Value) := (hdep { on := 4, ground := .data } (by simp) rfl).2 _ rfl
                    have d6 : _ = (undef : Value) := (hdep { on := 6, ground := .data } (by simp) rfl).2 _ rfl
                    obtain ⟨y, ha, hy⟩ := hL.puts [120, 121, 122, 123, 124, 125, 126, 127, 7] (by kernel_rfl)
                    have e4 : y 124 = (.bool false : Value) := (hy 124).symm.trans d4
                    have e6 : y 126 = (undef : Value) := (hy 126).symm.trans d6
                    clear hdep hL hy d4 d6
                    simp only [List.foldl, List.setIfInBounds_toArray, List.set_cons_succ, List.set_cons_zero, e4, e6] at ha
                    subst ha
                    clear e4 e6
                    refine wpOp_step rfl (fun K hK => ?_)
                    go_simp
                    exact hK _ _ ⟨_, rfl, (fun h => by cases h), (by first | rfl | simp), by simpa using hW⟩
                  · cases ho
                    intro L act u hW hLi hL hdep
                    have d0 : _ = (.agg #[.int .i64 kk, .int .i64 d, .int .i64 a, .int .i64 b, .int .i64 ff, .int .i64 v5] : Value) := (hdep { on := 0, ground := .data } (by simp) rfl).2 _ rfl
                    obtain ⟨y, ha, hy⟩ := hL.puts [120, 121, 122, 123, 124, 125, 126, 127, 7] (by kernel_rfl)
                    have e0 : y 120 = (.agg #[.int .i64 kk, .int .i64 d, .int .i64 a, .int .i64 b, .int .i64 ff, .int .i64 v5] : Value) := (hy 120).symm.trans d0
                    clear hdep hL hy d0
                    simp only [List.foldl, List.setIfInBounds_toArray, List.set_cons_succ, List.set_cons_zero, e0] at ha
                    subst ha
                    clear e0
                    rw [hLi] at hW
                    have z0 := hW.zc 0 (by omega)
                    have z1 := hW.zc 1 (by omega)
                    have z2 := hW.zc 2 (by omega)
                    have z3 := hW.zc 3 (by omega)
                    have z4 := hW.zc 4 (by omega)
                    have z5 := hW.zc 5 (by omega)
                    have y0 := hW.zz 0 (by omega)
                    have y1 := hW.zz 1 (by omega)
                    have y2 := hW.zz 2 (by omega)
                    have y3 := hW.zz 3 (by omega)
                    have y4 := hW.zz 4 (by omega)
                    have y5 := hW.zz 5 (by omega)
                    simp only [Bool.false_eq_true, if_false] at z0 z1 z2 z3 z4 z5
                    replace hW := Lib.hid hW
                    refine wpOp_step rfl (fun K hK => ?_)
                    go_simp
                    exact hK _ _ ⟨undef, rfl, (fun h => rfl), rfl, by simpa using hW.out.store⟩
                  · cases ho
                    intro L act u hW hLi hL hdep
                    have d7 : _ = (.bool false : Value) := (hdep { on := 7, ground := .data } (by simp) rfl).2 _ rfl
                    obtain ⟨y, ha, hy⟩ := hL.puts [120, 121, 122, 123, 124, 125, 126, 127, 7] (by kernel_rfl)
                    have e7 : y 127 = (.bool false : Value) := (hy 127).symm.trans d7
                    clear hdep hL hy d7
                    simp only [List.foldl, List.setIfInBounds_toArray, List.set_cons_succ, List.set_cons_zero, e7] at ha
                    subst ha
                    clear e7
                    refine wpOp_step rfl (fun K hK => ?_)
                    go_simp
                    exact hK _ _ ⟨_, rfl, (fun h => by cases h), (by first | rfl | simp), by simpa using hW⟩
                  · exact absurd ho (by simp)
                case fin =>
                  intro L act u hall hW hL hF9
                  have d9 : _ = (.bool false : Value) := hF9 9 _ rfl
                  obtain ⟨y, ha, hy⟩ := hL.puts [120, 121, 122, 123, 124, 125, 126, 127, 7] (by kernel_rfl)
                  have e9 : y 7 = (.bool false : Value) := (hy 7).symm.trans d9
                  clear hL hF9 hy d9
                  simp only [List.foldl, List.setIfInBounds_toArray, List.set_cons_succ, List.set_cons_zero, e9] at ha
                  subst ha
                  clear e9
                  rw [hall 8 (by decide)] at hW
                  have z0 : u.cell? ⟨w.heap.size, 0, none⟩ = some (.int .i64 kk) := hW.zc 0 (by omega)
                  have z1 : u.cell? ⟨w.heap.size, 1, none⟩ = some (.int .i64 d) := hW.zc 1 (by omega)
                  have z2 : u.cell? ⟨w.heap.size, 2, none⟩ = some (.int .i64 a) := hW.zc 2 (by omega)
                  have z3 : u.cell? ⟨w.heap.size, 3, none⟩ = some (.int .i64 b) := hW.zc 3 (by omega)
                  have z4 : u.cell? ⟨w.heap.size, 4, none⟩ = some (.int .i64 ff) := hW.zc 4 (by omega)
                  have z5 : u.cell? ⟨w.heap.size, 5, none⟩ = some (.int .i64 v5) := hW.zc 5 (by omega)
                  replace hW := Lib.hid hW
                  go_wp2
                  refine bodyPost_ret (v := .tuple #[.agg #[.int .i64 kk, .int .i64 d, .int .i64 a, .int .i64 b, .int .i64 ff, .int .i64 v5], .bool false]) (by simp [results, Try.results62, go_sem, z0, z1, z2, z3, z4, z5]) rfl ⟨kk, d, a, b, ff, v5, false, rfl, hW.out.fw, fun h => (by cases h), fun _ => FI.out⟩
        · have SD5 := Lib.hid (sdTo_skip (sdTo_skip hsd hl3) (.inl hl4))
          have hF2 : (hF kk && (kk != 0)) = false := by
            rcases hFk with h | h
            · simp [h]
            · simp [h]
          have hF3 : hF kk = false ∨ (hF kk = true ∧ (kk != 0) = false) := by
            cases hh : hF kk
            · exact .inl rfl
            · right; rw [hh] at hF2; exact ⟨rfl, by simpa using hF2⟩
          have hN1 : ¬ (0 < hN kk) := by omega
          clear hI hsub hsd hFr hl3 hl4 hFk hN0 hF2
          rcases hF3 with hF4 | ⟨hF4, hF5⟩
          · go_wp2_with fail
            clear WD
            cases ws' with
            | nil =>
              obtain ⟨ao4, cap4, rfl⟩ := hWd.open_nil
              have FI := Lib.hid (fin_nil RD.out SD5.out)
              refine wp_region_done 128 (fun i v => v = ([.agg #[.int .i64 kk, .int .i64 d, .int .i64 a, .int .i64 b, .int .i64 ff, .int .i64 0], .slice ao4 0 cap4, .int .i64 0, .bool true, .bool true, .agg #[.int .i64 kk, .int .i64 d, .int .i64 a, .int .i64 b, .int .i64 ff, .int .i64 0], .bool (iok kk d a b ff 0), .bool (iok kk d a b ff 0), undef, .bool (iok kk d a b ff 0)] : List Value).getD i undef) (fun L u => FinW w w.heap.size w1.heap.size kk d a b ff 0 (L 8) u) (by kernel_rfl) (by kernel_rfl) rfl (by kernel_rfl) ?start ?step ?fin
              case start => exact FW0.out.drew
              case step =>
                intro i o ho
                rcases i with _ | _ | _ | _ | _ | _ | _ | _ | _ | _ | i
                · cases ho
                  intro L act u hW hLi hL hdep
                  obtain ⟨y, ha, hy⟩ := hL.puts [120, 121, 122, 123, 124, 125, 126, 127, 7] (by kernel_rfl)
                  clear hdep hL hy
                  simp only [List.foldl, List.setIfInBounds_toArray, List.set_cons_succ, List.set_cons_zero] at ha
                  subst ha
                  obtain ⟨c0, c1, c2, c3, c4, c5⟩ := hW.bx
                  refine wpOp_step rfl (fun K hK => ?_)
                  go_simp
                  exact hK _ _ ⟨_, rfl, (fun h => by cases h), (by first | rfl | simp), by simpa using hW⟩
                · cases ho
                  intro L act u hW hLi hL hdep
                  obtain ⟨y, ha, hy⟩ := hL.puts [120, 121, 122, 123, 124, 125, 126, 127, 7] (by kernel_rfl)
                  clear hdep hL hy
                  simp only [List.foldl, List.setIfInBounds_toArray, List.set_cons_succ, List.set_cons_zero] at ha
                  subst ha
                  refine wpOp_step rfl (fun K hK => ?_)
                  go_simp
                  exact hK _ _ ⟨_, rfl, (fun h => by cases h), (by first | rfl | simp), by simpa using hW⟩
                · cases ho
                  intro L act u hW hLi hL hdep
                  have d1 : _ = (.slice ao4 0 cap4 : Value) := (hdep { on := 1, ground := .data } (by simp) rfl).2 _ rfl
                  obtain ⟨y, ha, hy⟩ := hL.puts [120, 121, 122, 123, 124, 125, 126, 127, 7] (by kernel_rfl)
                  have e1 : y 121 = (.slice ao4 0 cap4 : Value) := (hy 121).symm.trans d1
                  clear hdep hL hy d1
                  simp only [List.foldl, List.setIfInBounds_toArray, List.set_cons_succ, List.set_cons_zero, e1] at ha
                  subst ha
                  clear e1
                  refine wpOp_step rfl (fun K hK => ?_)
                  go_simp
                  exact hK _ _ ⟨_, rfl, (fun h => by cases h), (by first | rfl | simp), by simpa using hW⟩
                · cases ho
                  intro L act u hW hLi hL hdep
                  have d2 : _ = (.int .i64 0 : Value) := (hdep { on := 2, ground := .data } (by simp) rfl).2 _ rfl
                  obtain ⟨y, ha, hy⟩ := hL.puts [120, 121, 122, 123, 124, 125, 126, 127, 7] (by kernel_rfl)
                  have e2 : y 122 = (.int .i64 0 : Value) := (hy 122).symm.trans d2
                  clear hdep hL hy d2
                  simp only [List.foldl, List.setIfInBounds_toArray, List.set_cons_succ, List.set_cons_zero, e2] at ha
                  subst ha
                  clear e2
                  refine wpOp_step rfl (fun K hK => ?_)
                  go_simp
                  exact hK _ _ ⟨_, rfl, (fun h => by cases h), (by first | rfl | simp), by simpa using hW⟩
                · cases ho
                  intro L act u hW hLi hL hdep
                  have d3 : _ = (.bool true : Value) := (hdep { on := 3, ground := .data } (by simp) rfl).2 _ rfl
                  obtain ⟨y, ha, hy⟩ := hL.puts [120, 121, 122, 123, 124, 125, 126, 127, 7] (by kernel_rfl)
                  have e3 : y 123 = (.bool true : Value) := (hy 123).symm.trans d3
                  clear hdep hL hy d3
                  simp only [List.foldl, List.setIfInBounds_toArray, List.set_cons_succ, List.set_cons_zero, e3] at ha
                  subst ha
                  clear e3
                  refine wpOp_step rfl (fun K hK => ?_)
                  go_simp
                  exact hK _ _ ⟨_, rfl, (fun h => by cases h), (by first | rfl | simp), by simpa using hW⟩
                · cases ho
                  intro L act u hW hLi hL hdep
                  have d4 : _ = (.bool true : Value) := (hdep { on := 4, ground := .guard } (by simp) rfl).2 _ rfl
                  obtain ⟨y, ha, hy⟩ := hL.puts [120, 121, 122, 123, 124, 125, 126, 127, 7] (by kernel_rfl)
                  have e4 : y 124 = (.bool true : Value) := (hy 124).symm.trans d4
                  clear hdep hL hy d4
                  simp only [List.foldl, List.setIfInBounds_toArray, List.set_cons_succ, List.set_cons_zero, e4] at ha
                  subst ha
                  clear e4
                  obtain ⟨c0, c1, c2, c3, c4, c5⟩ := hW.bx
                  refine wpOp_step rfl (fun K hK => ?_)
                  go_simp
                  exact hK _ _ ⟨_, rfl, (fun h => by cases h), (by first | rfl | simp), by simpa using hW⟩
                · cases ho
                  intro L act u hW hLi hL hdep
                  have d4 : _ = (.bool true : Value) := (hdep { on := 4, ground := .guard } (by simp) rfl).2 _ rfl
                  have d5 : _ = (.agg #[.int .i64 kk, .int .i64 d, .int .i64 a, .int .i64 b, .int .i64 ff, .int .i64 0] : Value) := (hdep { on := 5, ground := .data } (by simp) rfl).2 _ rfl
                  obtain ⟨y, ha, hy⟩ := hL.puts [120, 121, 122, 123, 124, 125, 126, 127, 7] (by kernel_rfl)
                  have e4 : y 124 = (.bool true : Value) := (hy 124).symm.trans d4
                  have e5 : y 125 = (.agg #[.int .i64 kk, .int .i64 d, .int .i64 a, .int .i64 b, .int .i64 ff, .int .i64 0] : Value) := (hy 125).symm.trans d5
                  clear hdep hL hy d4 d5
                  simp only [List.foldl, List.setIfInBounds_toArray, List.set_cons_succ, List.set_cons_zero, e4, e5] at ha
                  subst ha
                  clear e4 e5
                  refine wpOp_step rfl (fun K hK => ?_)
                  go_simp
                  refine (spec_CodOk _ _ _ _ _ _ u).mono ?_
                  rintro e u' ⟨rfl, fu⟩
                  rw [sok_eq]
                  go_simp
                  exact hK _ _ ⟨_, rfl, (fun h => by cases h), rfl, by simpa using hW.fr fu⟩
                · cases ho
                  intro L act u hW hLi hL hdep
                  have d4 : _ = (.bool true : Value) := (hdep { on := 4, ground := .data } (by simp) rfl).2 _ rfl
                  have d6 : _ = (.bool (iok kk d a b ff 0) : Value) := (hdep { on := 6, ground := .data } (by simp) rfl).2 _ rfl
                  obtain ⟨y, ha, hy⟩ := hL.puts [120, 121, 122, 123, 124, 125, 126, 127, 7] (by kernel_rfl)
                  have e4 : y 124 = (.bool true : Value) := (hy 124).symm.trans d4
                  have e6 : y 126 = (.bool (iok kk d a b ff 0) : Value) := (hy 126).symm.trans d6
                  clear hdep hL hy d4 d6
                  simp only [List.foldl, List.setIfInBounds_toArray, List.set_cons_succ, List.set_cons_zero, e4, e6] at ha
                  subst ha
                  clear e4 e6
                  refine wpOp_step rfl (fun K hK => ?_)
                  go_simp
                  exact hK _ _ ⟨_, rfl, (fun h => by cases h), (by first | rfl | simp), by simpa using hW⟩
                · cases ho
                  intro L act u hW hLi hL hdep
                  have d0 : _ = (.agg #[.int .i64 kk, .int .i64 d, .int .i64 a, .int .i64 b, .int .i64 ff, .int .i64 0] : Value) := (hdep { on := 0, ground := .data } (by simp) rfl).2 _ rfl
                  obtain ⟨y, ha, hy⟩ := hL.puts [120, 121, 122, 123, 124, 125, 126, 127, 7] (by kernel_rfl)
                  have e0 : y 120 = (.agg #[.int .i64 kk, .int .i64 d, .int .i64 a, .int .i64 b, .int .i64 ff, .int .i64 0] : Value) := (hy 120).symm.trans d0
                  clear hdep hL hy d0
                  simp only [List.foldl, List.setIfInBounds_toArray, List.set_cons_succ, List.set_cons_zero, e0] at ha
                  subst ha
                  clear e0
                  rw [hLi] at hW
                  have z0 := hW.zc 0 (by omega)
                  have z1 := hW.zc 1 (by omega)
                  have z2 := hW.zc 2 (by omega)
                  have z3 := hW.zc 3 (by omega)
                  have z4 := hW.zc 4 (by omega)
                  have z5 := hW.zc 5 (by omega)
                  have y0 := hW.zz 0 (by omega)
                  have y1 := hW.zz 1 (by omega)
                  have y2 := hW.zz 2 (by omega)
                  have y3 := hW.zz 3 (by omega)
                  have y4 := hW.zz 4 (by omega)
                  have y5 := hW.zz 5 (by omega)
                  simp only [Bool.false_eq_true, if_false] at z0 z1 z2 z3 z4 z5
                  replace hW := Lib.hid hW
                  refine wpOp_step rfl (fun K hK => ?_)
                  go_simp
                  exact hK _ _ ⟨undef, rfl, (fun h => rfl), rfl, by simpa using hW.out.store⟩
                · cases ho
                  intro L act u hW hLi hL hdep
                  have d7 : _ = (.bool (iok kk d a b ff 0) : Value) := (hdep { on := 7, ground := .data } (by simp) rfl).2 _ rfl
                  obtain ⟨y, ha, hy⟩ := hL.puts [120, 121, 122, 123, 124, 125, 126, 127, 7] (by kernel_rfl)
                  have e7 : y 127 = (.bool (iok kk d a b ff 0) : Value) := (hy 127).symm.trans d7
                  clear hdep hL hy d7
                  simp only [List.foldl, List.setIfInBounds_toArray, List.set_cons_succ, List.set_cons_zero, e7] at ha
                  subst ha
                  clear e7
                  refine wpOp_step rfl (fun K hK => ?_)
                  go_simp
                  exact hK _ _ ⟨_, rfl, (fun h => by cases h), (by first | rfl | simp), by simpa using hW⟩
                · exact absurd ho (by simp)
              case fin =>
                intro L act u hall hW hL hF9
                have d9 : _ = (.bool (iok kk d a b ff 0) : Value) := hF9 9 _ rfl
                obtain ⟨y, ha, hy⟩ := hL.puts [120, 121, 122, 123, 124, 125, 126, 127, 7] (by kernel_rfl)
                have e9 : y 7 = (.bool (iok kk d a b ff 0) : Value) := (hy 7).symm.trans d9
                clear hL hF9 hy d9
                simp only [List.foldl, List.setIfInBounds_toArray, List.set_cons_succ, List.set_cons_zero, e9] at ha
                subst ha
                clear e9
                rw [hall 8 (by decide)] at hW
                have z0 : u.cell? ⟨w.heap.size, 0, none⟩ = some (.int .i64 kk) := hW.zc 0 (by omega)
                have z1 : u.cell? ⟨w.heap.size, 1, none⟩ = some (.int .i64 d) := hW.zc 1 (by omega)
                have z2 : u.cell? ⟨w.heap.size, 2, none⟩ = some (.int .i64 a) := hW.zc 2 (by omega)
                have z3 : u.cell? ⟨w.heap.size, 3, none⟩ = some (.int .i64 b) := hW.zc 3 (by omega)
                have z4 : u.cell? ⟨w.heap.size, 4, none⟩ = some (.int .i64 ff) := hW.zc 4 (by omega)
                have z5 : u.cell? ⟨w.heap.size, 5, none⟩ = some (.int .i64 0) := hW.zc 5 (by omega)
                replace hW := Lib.hid hW
                go_wp2
                refine bodyPost_ret (v := .tuple #[.agg #[.int .i64 kk, .int .i64 d, .int .i64 a, .int .i64 b, .int .i64 ff, .int .i64 0], .bool (iok kk d a b ff 0)]) (by simp [results, Try.results62, go_sem, z0, z1, z2, z3, z4, z5]) rfl ⟨kk, d, a, b, ff, 0, (iok kk d a b ff 0), rfl, hW.out.fw, fun h => FI.out.1 h, fun h => FI.out.2 h⟩
            | cons x3 t3 =>
              obtain ⟨g4, off4, cap4, rfl, p14, p24, p34, p44⟩ := hWd.open_cons
              have FI := Lib.hid (fin_cons RD.out SD5.out)
              have hn2 : ((t3.length : Int) + 1 == 0) = false := by simp; omega
              refine wp_region_done 128 (fun i v => v = ([.agg #[.int .i64 kk, .int .i64 d, .int .i64 a, .int .i64 b, .int .i64 ff, .int .i64 0], .slice (some ⟨g4, off4, none⟩) (t3.length + 1) cap4, .int .i64 ((t3.length : Int) + 1), .bool false, .bool false, undef, undef, .bool false, undef, .bool false] : List Value).getD i undef) (fun L u => FinW w w.heap.size w1.heap.size kk d a b ff 0 (L 8) u) (by kernel_rfl) (by kernel_rfl) rfl (by kernel_rfl) ?start ?step ?fin
              case start => exact FW0.out.drew
              case step =>
                intro i o ho
                rcases i with _ | _ | _ | _ | _ | _ | _ | _ | _ | _ | i
                · cases ho
                  intro L act u hW hLi hL hdep
                  obtain ⟨y, ha, hy⟩ := hL.puts [120, 121, 122, 123, 124, 125, 126, 127, 7] (by kernel_rfl)
                  clear hdep hL hy
                  simp only [List.foldl, List.setIfInBounds_toArray, List.set_cons_succ, List.set_cons_zero] at ha
                  subst ha
                  obtain ⟨c0, c1, c2, c3, c4, c5⟩ := hW.bx
                  refine wpOp_step rfl (fun K hK => ?_)
                  go_simp
                  exact hK _ _ ⟨_, rfl, (fun h => by cases h), (by first | rfl | simp), by simpa using hW⟩
                · cases ho
                  intro L act u hW hLi hL hdep
                  obtain ⟨y, ha, hy⟩ := hL.puts [120, 121, 122, 123, 124, 125, 126, 127, 7] (by kernel_rfl)
                  clear hdep hL hy
                  simp only [List.foldl, List.setIfInBounds_toArray, List.set_cons_succ, List.set_cons_zero] at ha
                  subst ha
                  refine wpOp_step rfl (fun K hK => ?_)
                  go_simp
                  exact hK _ _ ⟨_, rfl, (fun h => by cases h), (by first | rfl | simp), by simpa using hW⟩
                · cases ho
                  intro L act u hW hLi hL hdep
                  have d1 : _ = (.slice (some ⟨g4, off4, none⟩) (t3.length + 1) cap4 : Value) := (hdep { on := 1, ground := .data } (by simp) rfl).2 _ rfl
                  obtain ⟨y, ha, hy⟩ := hL.puts [120, 121, 122, 123, 124, 125, 126, 127, 7] (by kernel_rfl)
                  have e1 : y 121 = (.slice (some ⟨g4, off4, none⟩) (t3.length + 1) cap4 : Value) := (hy 121).symm.trans d1
                  clear hdep hL hy d1
                  simp only [List.foldl, List.setIfInBounds_toArray, List.set_cons_succ, List.set_cons_zero, e1] at ha
                  subst ha
                  clear e1
                  refine wpOp_step rfl (fun K hK => ?_)
                  go_simp
                  exact hK _ _ ⟨_, rfl, (fun h => by cases h), (by first | rfl | simp), by simpa using hW⟩
                · cases ho
                  intro L act u hW hLi hL hdep
                  have d2 : _ = (.int .i64 ((t3.length : Int) + 1) : Value) := (hdep { on := 2, ground := .data } (by simp) rfl).2 _ rfl
                  obtain ⟨y, ha, hy⟩ := hL.puts [120, 121, 122, 123, 124, 125, 126, 127, 7] (by kernel_rfl)
                  have e2 : y 122 = (.int .i64 ((t3.length : Int) + 1) : Value) := (hy 122).symm.trans d2
                  clear hdep hL hy d2
                  simp only [List.foldl, List.setIfInBounds_toArray, List.set_cons_succ, List.set_cons_zero, e2] at ha
                  subst ha
                  clear e2
                  refine wpOp_step rfl (fun K hK => ?_)
                  go_simp
                  exact hK _ _ ⟨_, rfl, (fun h => by cases h), (by first | rfl | simp), by simpa using hW⟩
                · cases ho
                  intro L act u hW hLi hL hdep
                  have d3 : _ = (.bool false : Value) := (hdep { on := 3, ground := .data } (by simp) rfl).2 _ rfl
                  obtain ⟨y, ha, hy⟩ := hL.puts [120, 121, 122, 123, 124, 125, 126, 127, 7] (by kernel_rfl)
                  have e3 : y 123 = (.bool false : Value) := (hy 123).symm.trans d3
                  clear hdep hL hy d3
                  simp only [List.foldl, List.setIfInBounds_toArray, List.set_cons_succ, List.set_cons_zero, e3] at ha
                  subst ha
                  clear e3
                  refine wpOp_step rfl (fun K hK => ?_)
                  go_simp
                  exact hK _ _ ⟨_, rfl, (fun h => by cases h), (by first | rfl | simp), by simpa using hW⟩
                · cases ho
                  intro L act u hW hLi hL hdep
                  have d4 : _ = (.bool false : Value) := (hdep { on := 4, ground := .guard } (by simp) rfl).2 _ rfl
                  obtain ⟨y, ha, hy⟩ := hL.puts [120, 121, 122, 123, 124, 125, 126, 127, 7] (by kernel_rfl)
                  have e4 : y 124 = (.bool false : Value) := (hy 124).symm.trans d4
                  clear hdep hL hy d4
                  simp only [List.foldl, List.setIfInBounds_toArray, List.set_cons_succ, List.set_cons_zero, e4] at ha
                  subst ha
                  clear e4
                  obtain ⟨c0, c1, c2, c3, c4, c5⟩ := hW.bx
                  refine wpOp_step rfl (fun K hK => ?_)
                  go_simp
                  exact hK _ _ ⟨_, rfl, (fun h => by cases h), (by first | rfl | simp), by simpa using hW⟩
                · cases ho
                  intro L act u hW hLi hL hdep
                  have d4 : _ = (.bool false : Value) := (hdep { on := 4, ground := .guard } (by simp) rfl).2 _ rfl
                  have d5 : _ = (undef : Value) := (hdep { on := 5, ground := .data } (by simp) rfl).2 _ rfl
                  obtain ⟨y, ha, hy⟩ := hL.puts [120, 121, 122, 123, 124, 125, 126, 127, 7] (by kernel_rfl)
                  have e4 : y 124 = (.bool false : Value) := (hy 124).symm.trans d4
                  have e5 : y 125 = (undef : Value) := (hy 125).symm.trans d5
                  clear hdep hL hy d4 d5
                  simp only [List.foldl, List.setIfInBounds_toArray, List.set_cons_succ, List.set_cons_zero, e4, e5] at ha
                  subst ha
                  clear e4 e5
                  refine wpOp_step rfl (fun K hK => ?_)
                  go_simp
                  exact hK _ _ ⟨_, rfl, (fun h => by cases h), (by first | rfl | simp), by simpa using hW⟩
                · cases ho
                  intro L act u hW hLi hL hdep
                  have d4 : _ = (.bool false : Value) := (hdep { on := 4, ground := .data } (by simp) rfl).2 _ rfl
                  have d6 : _ = (undef : Value) := (hdep { on := 6, ground := .data } (by simp) rfl).2 _ rfl
                  obtain ⟨y, ha, hy⟩ := hL.puts [120, 121, 122, 123, 124, 125, 126, 127, 7] (by kernel_rfl)
                  have e4 : y 124 = (.bool false : Value) := (hy 124).symm.trans d4
                  have e6 : y 126 = (undef : Value) := (hy 126).symm.trans d6
                  clear hdep hL hy d4 d6
                  simp only [List.foldl, List.setIfInBounds_toArray, List.set_cons_succ, List.set_cons_zero, e4, e6] at ha
                  subst ha
                  clear e4 e6
                  refine wpOp_step rfl (fun K hK => ?_)
                  go_simp
                  exact hK _ _ ⟨_, rfl, (fun h => by cases h), (by first | rfl | simp), by simpa using hW⟩
                · cases ho
                  intro L act u hW hLi hL hdep
                  have d0 : _ = (.agg #[.int .i64 kk, .int .i64 d, .int .i64 a, .int .i64 b, .int .i64 ff, .int .i64 0] : Value) := (hdep { on := 0, ground := .data } (by simp) rfl).2 _ rfl
                  obtain ⟨y, ha, hy⟩ := hL.puts [120, 121, 122, 123, 124, 125, 126, 127, 7] (by kernel_rfl)
                  have e0 : y 120 = (.agg #[.int .i64 kk, .int .i64 d, .int .i64 a, .int .i64 b, .int .i64 ff, .int .i64 0] : Value) := (hy 120).symm.trans d0
                  clear hdep hL hy d0
                  simp only [List.foldl, List.setIfInBounds_toArray, List.set_cons_succ, List.set_cons_zero, e0] at ha
                  subst ha
                  clear e0
                  rw [hLi] at hW
                  have z0 := hW.zc 0 (by omega)
                  have z1 := hW.zc 1 (by omega)
                  have z2 := hW.zc 2 (by omega)
                  have z3 := hW.zc 3 (by omega)
                  have z4 := hW.zc 4 (by omega)
                  have z5 := hW.zc 5 (by omega)
                  have y0 := hW.zz 0 (by omega)
                  have y1 := hW.zz 1 (by omega)
                  have y2 := hW.zz 2 (by omega)
                  have y3 := hW.zz 3 (by omega)
                  have y4 := hW.zz 4 (by omega)
                  have y5 := hW.zz 5 (by omega)
                  simp only [Bool.false_eq_true, if_false] at z0 z1 z2 z3 z4 z5
                  replace hW := Lib.hid hW
                  refine wpOp_step rfl (fun K hK => ?_)
                  go_simp
                  exact hK _ _ ⟨undef, rfl, (fun h => rfl), rfl, by simpa using hW.out.store⟩
                · cases ho
                  intro L act u hW hLi hL hdep
                  have d7 : _ = (.bool false : Value) := (hdep { on := 7, ground := .data } (by simp) rfl).2 _ rfl
                  obtain ⟨y, ha, hy⟩ := hL.puts [120, 121, 122, 123, 124, 125, 126, 127, 7] (by kernel_rfl)
                  have e7 : y 127 = (.bool false : Value) := (hy 127).symm.trans d7
                  clear hdep hL hy d7
                  simp only [List.foldl, List.setIfInBounds_toArray, List.set_cons_succ, List.set_cons_zero, e7] at ha
                  subst ha
                  clear e7
                  refine wpOp_step rfl (fun K hK => ?_)
                  go_simp
                  exact hK _ _ ⟨_, rfl, (fun h => by cases h), (by first | rfl | simp), by simpa using hW⟩
                · exact absurd ho (by simp)
              case fin =>
                intro L act u hall hW hL hF9
                have d9 : _ = (.bool false : Value) := hF9 9 _ rfl
                obtain ⟨y, ha, hy⟩ := hL.puts [120, 121, 122, 123, 124, 125, 126, 127, 7] (by kernel_rfl)
                have e9 : y 7 = (.bool false : Value) := (hy 7).symm.trans d9
                clear hL hF9 hy d9
                simp only [List.foldl, List.setIfInBounds_toArray, List.set_cons_succ, List.set_cons_zero, e9] at ha
                subst ha
                clear e9
                rw [hall 8 (by decide)] at hW
                have z0 : u.cell? ⟨w.heap.size, 0, none⟩ = some (.int .i64 kk) := hW.zc 0 (by omega)
                have z1 : u.cell? ⟨w.heap.size, 1, none⟩ = some (.int .i64 d) := hW.zc 1 (by omega)
                have z2 : u.cell? ⟨w.heap.size, 2, none⟩ = some (.int .i64 a) := hW.zc 2 (by omega)
                have z3 : u.cell? ⟨w.heap.size, 3, none⟩ = some (.int .i64 b) := hW.zc 3 (by omega)
                have z4 : u.cell? ⟨w.heap.size, 4, none⟩ = some (.int .i64 ff) := hW.zc 4 (by omega)
                have z5 : u.cell? ⟨w.heap.size, 5, none⟩ = some (.int .i64 0) := hW.zc 5 (by omega)
                replace hW := Lib.hid hW
                go_wp2
                refine bodyPost_ret (v := .tuple #[.agg #[.int .i64 kk, .int .i64 d, .int .i64 a, .int .i64 b, .int .i64 ff, .int .i64 0], .bool false]) (by simp [results, Try.results62, go_sem, z0, z1, z2, z3, z4, z5]) rfl ⟨kk, d, a, b, ff, 0, false, rfl, hW.out.fw, fun h => (by cases h), fun _ => FI.out⟩
          · go_wp2_with fail
            clear WD
            cases ws' with
            | nil =>
              obtain ⟨ao4, cap4, rfl⟩ := hWd.open_nil
              have FI := Lib.hid (fin_nil RD.out SD5.out)
              refine wp_region_done 128 (fun i v => v = ([.agg #[.int .i64 kk, .int .i64 d, .int .i64 a, .int .i64 b, .int .i64 ff, .int .i64 0], .slice ao4 0 cap4, .int .i64 0, .bool true, .bool true, .agg #[.int .i64 kk, .int .i64 d, .int .i64 a, .int .i64 b, .int .i64 ff, .int .i64 0], .bool (iok kk d a b ff 0), .bool (iok kk d a b ff 0), undef, .bool (iok kk d a b ff 0)] : List Value).getD i undef) (fun L u => FinW w w.heap.size w1.heap.size kk d a b ff 0 (L 8) u) (by kernel_rfl) (by kernel_rfl) rfl (by kernel_rfl) ?start ?step ?fin
              case start => exact FW0.out.drew
              case step =>
                intro i o ho
                rcases i with _ | _ | _ | _ | _ | _ | _ | _ | _ | _ | i
                · cases ho
                  intro L act u hW hLi hL hdep
                  obtain ⟨y, ha, hy⟩ := hL.puts [120, 121, 122, 123, 124, 125, 126, 127, 7] (by kernel_rfl)
                  clear hdep hL hy
                  simp only [List.foldl, List.setIfInBounds_toArray, List.set_cons_succ, List.set_cons_zero] at ha
                  subst ha
                  obtain ⟨c0, c1, c2, c3, c4, c5⟩ := hW.bx
                  refine wpOp_step rfl (fun K hK => ?_)
                  go_simp
                  exact hK _ _ ⟨_, rfl, (fun h => by cases h), (by first | rfl | simp), by simpa using hW⟩
                · cases ho
                  intro L act u hW hLi hL hdep
                  obtain ⟨y, ha, hy⟩ := hL.puts [120, 121, 122, 123, 124, 125, 126, 127, 7] (by kernel_rfl)
                  clear hdep hL hy
                  simp only [List.foldl, List.setIfInBounds_toArray, List.set_cons_succ, List.set_cons_zero] at ha
                  subst ha
                  refine wpOp_step rfl (fun K hK => ?_)
                  go_simp
                  exact hK _ _ ⟨_, rfl, (fun h => by cases h), (by first | rfl | simp), by simpa using hW⟩
                · cases ho
                  intro L act u hW hLi hL hdep
                  have d1 : _ = (.slice ao4 0 cap4 : Value) := (hdep { on := 1, ground := .data } (by simp) rfl).2 _ rfl
                  obtain ⟨y, ha, hy⟩ := hL.puts [120, 121, 122, 123, 124, 125, 126, 127, 7] (by kernel_rfl)
                  have e1 : y 121 = (.slice ao4 0 cap4 : Value) := (hy 121).symm.trans d1
                  clear hdep hL hy d1
                  simp only [List.foldl, List.setIfInBounds_toArray, List.set_cons_succ, List.set_cons_zero, e1] at ha
                  subst ha
                  clear e1
                  refine wpOp_step rfl (fun K hK => ?_)
                  go_simp
                  exact hK _ _ ⟨_, rfl, (fun h => by cases h), (by first | rfl | simp), by simpa using hW⟩
                · cases ho
                  intro L act u hW hLi hL hdep
                  have d2 : _ = (.int .i64 0 : Value) := (hdep { on := 2, ground := .data } (by simp) rfl).2 _ rfl
                  obtain ⟨y, ha, hy⟩ := hL.puts [120, 121, 122, 123, 124, 125, 126, 127, 7] (by kernel_rfl)
                  have e2 : y 122 = (.int .i64 0 : Value) := (hy 122).symm.trans d2
                  clear hdep hL hy d2
                  simp only [List.foldl, List.setIfInBounds_toArray, List.set_cons_succ, List.set_cons_zero, e2] at ha
                  subst ha
                  clear e2
                  refine wpOp_step rfl (fun K hK => ?_)
                  go_simp
                  exact hK _ _ ⟨_, rfl, (fun h => by cases h), (by first | rfl | simp), by simpa using hW⟩
                · cases ho
                  intro L act u hW hLi hL hdep
                  have d3 : _ = (.bool true : Value) := (hdep { on := 3, ground := .data } (by simp) rfl).2 _ rfl
                  obtain ⟨y, ha, hy⟩ := hL.puts [120, 121, 122, 123, 124, 125, 126, 127, 7] (by kernel_rfl)
                  have e3 : y 123 = (.bool true : Value) := (hy 123).symm.trans d3
                  clear hdep hL hy d3
                  simp only [List.foldl, List.setIfInBounds_toArray, List.set_cons_succ, List.set_cons_zero, e3] at ha
                  subst ha
                  clear e3
                  refine wpOp_step rfl (fun K hK => ?_)
                  go_simp
                  exact hK _ _ ⟨_, rfl, (fun h => by cases h), (by first | rfl | simp), by simpa using hW⟩
                · cases ho
                  intro L act u hW hLi hL hdep
                  have d4 : _ = (.bool true : Value) := (hdep { on := 4, ground := .guard } (by simp) rfl).2 _ rfl
                  obtain ⟨y, ha, hy⟩ := hL.puts [120, 121, 122, 123, 124, 125, 126, 127, 7] (by kernel_rfl)
                  have e4 : y 124 = (.bool true : Value) := (hy 124).symm.trans d4
                  clear hdep hL hy d4
                  simp only [List.foldl, List.setIfInBounds_toArray, List.set_cons_succ, List.set_cons_zero, e4] at ha
                  subst ha
                  clear e4
                  obtain ⟨c0, c1, c2, c3, c4, c5⟩ := hW.bx
                  refine wpOp_step rfl (fun K hK => ?_)
                  go_simp
                  exact hK _ _ ⟨_, rfl, (fun h => by cases h), (by first | rfl | simp), by simpa using hW⟩
                · cases ho
                  intro L act u hW hLi hL hdep
                  have d4 : _ = (.bool true : Value) := (hdep { on := 4, ground := .guard } (by simp) rfl).2 _ rfl
                  have d5 : _ = (.agg #[.int .i64 kk, .int .i64 d, .int .i64 a, .int .i64 b, .int .i64 ff, .int .i64 0] : Value) := (hdep { on := 5, ground := .data } (by simp) rfl).2 _ rfl
                  obtain ⟨y, ha, hy⟩ := hL.puts [120, 121, 122, 123, 124, 125, 126, 127, 7] (by kernel_rfl)
                  have e4 : y 124 = (.bool true : Value) := (hy 124).symm.trans d4
                  have e5 : y 125 = (.agg #[.int .i64 kk, .int .i64 d, .int .i64 a, .int .i64 b, .int .i64 ff, .int .i64 0] : Value) := (hy 125).symm.trans d5
                  clear hdep hL hy d4 d5
                  simp only [List.foldl, List.setIfInBounds_toArray, List.set_cons_succ, List.set_cons_zero, e4, e5] at ha
                  subst ha
                  clear e4 e5
                  refine wpOp_step rfl (fun K hK => ?_)
                  go_simp
                  refine (spec_CodOk _ _ _ _ _ _ u).mono ?_
                  rintro e u' ⟨rfl, fu⟩
                  rw [sok_eq]
                  go_simp
                  exact hK _ _ ⟨_, rfl, (fun h => by cases h), rfl, by simpa using hW.fr fu⟩
                · cases ho
                  intro L act u hW hLi hL hdep
                  have d4 : _ = (.bool true : Value) := (hdep { on := 4, ground := .data } (by simp) rfl).2 _ rfl
                  have d6 : _ = (.bool (iok kk d a b ff 0) : Value) := (hdep { on := 6, ground := .data } (by simp) rfl).2 _ rfl
                  obtain ⟨y, ha, hy⟩ := hL.puts [120, 121, 122, 123, 124, 125, 126, 127, 7] (by kernel_rfl)
                  have e4 : y 124 = (.bool true : Value) := (hy 124).symm.trans d4
                  have e6 : y 126 = (.bool (iok kk d a b ff 0) : Value) := (hy 126).symm.trans d6
                  clear hdep hL hy d4 d6
                  simp only [List.foldl, List.setIfInBounds_toArray, List.set_cons_succ, List.set_cons_zero, e4, e6] at ha
                  subst ha
                  clear e4 e6
                  refine wpOp_step rfl (fun K hK => ?_)
                  go_simp
                  exact hK _ _ ⟨_, rfl, (fun h => by cases h), (by first | rfl | simp), by simpa using hW⟩
                · cases ho
                  intro L act u hW hLi hL hdep
                  have d0 : _ = (.agg #[.int .i64 kk, .int .i64 d, .int .i64 a, .int .i64 b, .int .i64 ff, .int .i64 0] : Value) := (hdep { on := 0, ground := .data } (by simp) rfl).2 _ rfl
                  obtain ⟨y, ha, hy⟩ := hL.puts [120, 121, 122, 123, 124, 125, 126, 127, 7] (by kernel_rfl)
                  have e0 : y 120 = (.agg #[.int .i64 kk, .int .i64 d, .int .i64 a, .int .i64 b, .int .i64 ff, .int .i64 0] : Value) := (hy 120).symm.trans d0
                  clear hdep hL hy d0
                  simp only [List.foldl, List.setIfInBounds_toArray, List.set_cons_succ, List.set_cons_zero, e0] at ha
                  subst ha
                  clear e0
                  rw [hLi] at hW
                  have z0 := hW.zc 0 (by omega)
                  have z1 := hW.zc 1 (by omega)
                  have z2 := hW.zc 2 (by omega)
                  have z3 := hW.zc 3 (by omega)
                  have z4 := hW.zc 4 (by omega)
                  have z5 := hW.zc 5 (by omega)
                  have y0 := hW.zz 0 (by omega)
                  have y1 := hW.zz 1 (by omega)
                  have y2 := hW.zz 2 (by omega)
                  have y3 := hW.zz 3 (by omega)
                  have y4 := hW.zz 4 (by omega)
                  have y5 := hW.zz 5 (by omega)
                  simp only [Bool.false_eq_true, if_false] at z0 z1 z2 z3 z4 z5
                  replace hW := Lib.hid hW
                  refine wpOp_step rfl (fun K hK => ?_)
                  go_simp
                  exact hK _ _ ⟨undef, rfl, (fun h => rfl), rfl, by simpa using hW.out.store⟩
                · cases ho
                  intro L act u hW hLi hL hdep
                  have d7 : _ = (.bool (iok kk d a b ff 0) : Value) := (hdep { on := 7, ground := .data } (by simp) rfl).2 _ rfl
                  obtain ⟨y, ha, hy⟩ := hL.puts [120, 121, 122, 123, 124, 125, 126, 127, 7] (by kernel_rfl)
                  have e7 : y 127 = (.bool (iok kk d a b ff 0) : Value) := (hy 127).symm.trans d7
                  clear hdep hL hy d7
                  simp only [List.foldl, List.setIfInBounds_toArray, List.set_cons_succ, List.set_cons_zero, e7] at ha
                  subst ha
                  clear e7
                  refine wpOp_step rfl (fun K hK => ?_)
                  go_simp
                  exact hK _ _ ⟨_, rfl, (fun h => by cases h), (by first | rfl | simp), by simpa using hW⟩
                · exact absurd ho (by simp)
              case fin =>
                intro L act u hall hW hL hF9
                have d9 : _ = (.bool (iok kk d a b ff 0) : Value) := hF9 9 _ rfl
                obtain ⟨y, ha, hy⟩ := hL.puts [120, 121, 122, 123, 124, 125, 126, 127, 7] (by kernel_rfl)
                have e9 : y 7 = (.bool (iok kk d a b ff 0) : Value) := (hy 7).symm.trans d9
                clear hL hF9 hy d9
                simp only [List.foldl, List.setIfInBounds_toArray, List.set_cons_succ, List.set_cons_zero, e9] at ha
                subst ha
                clear e9
                rw [hall 8 (by decide)] at hW
                have z0 : u.cell? ⟨w.heap.size, 0, none⟩ = some (.int .i64 kk) := hW.zc 0 (by omega)
                have z1 : u.cell? ⟨w.heap.size, 1, none⟩ = some (.int .i64 d) := hW.zc 1 (by omega)
                have z2 : u.cell? ⟨w.heap.size, 2, none⟩ = some (.int .i64 a) := hW.zc 2 (by omega)
                have z3 : u.cell? ⟨w.heap.size, 3, none⟩ = some (.int .i64 b) := hW.zc 3 (by omega)
                have z4 : u.cell? ⟨w.heap.size, 4, none⟩ = some (.int .i64 ff) := hW.zc 4 (by omega)
                have z5 : u.cell? ⟨w.heap.size, 5, none⟩ = some (.int .i64 0) := hW.zc 5 (by omega)
                replace hW := Lib.hid hW
                go_wp2
                refine bodyPost_ret (v := .tuple #[.agg #[.int .i64 kk, .int .i64 d, .int .i64 a, .int .i64 b, .int .i64 ff, .int .i64 0], .bool (iok kk d a b ff 0)]) (by simp [results, Try.results62, go_sem, z0, z1, z2, z3, z4, z5]) rfl ⟨kk, d, a, b, ff, 0, (iok kk d a b ff 0), rfl, hW.out.fw, fun h => FI.out.1 h, fun h => FI.out.2 h⟩
            | cons x3 t3 =>
              obtain ⟨g4, off4, cap4, rfl, p14, p24, p34, p44⟩ := hWd.open_cons
              have FI := Lib.hid (fin_cons RD.out SD5.out)
              have hn2 : ((t3.length : Int) + 1 == 0) = false := by simp; omega
              refine wp_region_done 128 (fun i v => v = ([.agg #[.int .i64 kk, .int .i64 d, .int .i64 a, .int .i64 b, .int .i64 ff, .int .i64 0], .slice (some ⟨g4, off4, none⟩) (t3.length + 1) cap4, .int .i64 ((t3.length : Int) + 1), .bool false, .bool false, undef, undef, .bool false, undef, .bool false] : List Value).getD i undef) (fun L u => FinW w w.heap.size w1.heap.size kk d a b ff 0 (L 8) u) (by kernel_rfl) (by kernel_rfl) rfl (by kernel_rfl) ?start ?step ?fin
              case start => exact FW0.out.drew
              case step =>
                intro i o ho
                rcases i with _ | _ | _ | _ | _ | _ | _ | _ | _ | _ | i
                · cases ho
                  intro L act u hW hLi hL hdep
                  obtain ⟨y, ha, hy⟩ := hL.puts [120, 121, 122, 123, 124, 125, 126, 127, 7] (by kernel_rfl)
                  clear hdep hL hy
                  simp only [List.foldl, List.setIfInBounds_toArray, List.set_cons_succ, List.set_cons_zero] at ha
                  subst ha
                  obtain ⟨c0, c1, c2, c3, c4, c5⟩ := hW.bx
                  refine wpOp_step rfl (fun K hK => ?_)
                  go_simp
                  exact hK _ _ ⟨_, rfl, (fun h => by cases h), (by first | rfl | simp), by simpa using hW⟩
                · cases ho
                  intro L act u hW hLi hL hdep
                  obtain ⟨y, ha, hy⟩ := hL.puts [120, 121, 122, 123, 124, 125, 126, 127, 7] (by kernel_rfl)
                  clear hdep hL hy
                  simp only [List.foldl, List.setIfInBounds_toArray, List.set_cons_succ, List.set_cons_zero] at ha
                  subst ha
                  refine wpOp_step rfl (fun K hK => ?_)
                  go_simp
                  exact hK _ _ ⟨_, rfl, (fun h => by cases h), (by first | rfl | simp), by simpa using hW⟩
                · cases ho
                  intro L act u hW hLi hL hdep
                  have d1 : _ = (.slice (some ⟨g4, off4, none⟩) (t3.length + 1) cap4 : Value) := (hdep { on := 1, ground := .data } (by simp) rfl).2 _ rfl
                  obtain ⟨y, ha, hy⟩ := hL.puts [120, 121, 122, 123, 124, 125, 126, 127, 7] (by kernel_rfl)
                  have e1 : y 121 = (.slice (some ⟨g4, off4, none⟩) (t3.length + 1) cap4 : Value) := (hy 121).symm.trans d1
                  clear hdep hL hy d1
                  simp only [List.foldl, List.setIfInBounds_toArray, List.set_cons_succ, List.set_cons_zero, e1] at ha
                  subst ha
                  clear e1
                  refine wpOp_step rfl (fun K hK => ?_)
                  go_simp
                  exact hK _ _ ⟨_, rfl, (fun h => by cases h), (by first | rfl | simp), by simpa using hW⟩
                · cases ho
                  intro L act u hW hLi hL hdep
                  have d2 : _ = (.int .i64 ((t3.length : Int) + 1) : Value) := (hdep { on := 2, ground := .data } (by simp) rfl).2 _ rfl
                  obtain ⟨y, ha, hy⟩ := hL.puts [120, 121, 122, 123, 124, 125, 126, 127, 7] (by kernel_rfl)
                  have e2 : y 122 = (.int .i64 ((t3.length : Int) + 1) : Value) := (hy 122).symm.trans d2
                  clear hdep hL hy d2
                  simp only [List.foldl, List.setIfInBounds_toArray, List.set_cons_succ, List.set_cons_zero, e2] at ha
                  subst ha
                  clear e2
                  refine wpOp_step rfl (fun K hK => ?_)
                  go_simp
                  exact hK _ _ ⟨_, rfl, (fun h => by cases h), (by first | rfl | simp), by simpa using hW⟩
                · cases ho
                  intro L act u hW hLi hL hdep
                  have d3 : _ = (.bool false : Value) := (hdep { on := 3, ground := .data } (by simp) rfl).2 _ rfl
                  obtain ⟨y, ha, hy⟩ := hL.puts [120, 121, 122, 123, 124, 125, 126, 127, 7] (by kernel_rfl)
                  have e3 : y 123 = (.bool false : Value) := (hy 123).symm.trans d3
                  clear hdep hL hy d3
                  simp only [List.foldl, List.setIfInBounds_toArray, List.set_cons_succ, List.set_cons_zero, e3] at ha
                  subst ha
                  clear e3
                  refine wpOp_step rfl (fun K hK => ?_)
                  go_simp
                  exact hK _ _ ⟨_, rfl, (fun h => by cases h), (by first | rfl | simp), by simpa using hW⟩
                · cases ho
                  intro L act u hW hLi hL hdep
                  have d4 : _ = (.bool false : Value) := (hdep { on := 4, ground := .guard } (by simp) rfl).2 _ rfl
                  obtain ⟨y, ha, hy⟩ := hL.puts [120, 121, 122, 123, 124, 125, 126, 127, 7] (by kernel_rfl)
                  have e4 : y 124 = (.bool false : Value) := (hy 124).symm.trans d4
                  clear hdep hL hy d4
                  simp only [List.foldl, List.setIfInBounds_toArray, List.set_cons_succ, List.set_cons_zero, e4] at ha
                  subst ha
                  clear e4
                  obtain ⟨c0, c1, c2, c3, c4, c5⟩ := hW.bx
                  refine wpOp_step rfl (fun K hK => ?_)
                  go_simp
                  exact hK _ _ ⟨_, rfl, (fun h => by cases h), (by first | rfl | simp), by simpa using hW⟩
                · cases ho
                  intro L act u hW hLi hL hdep
                  have d4 : _ = (.bool false : Value) := (hdep { on := 4, ground := .guard } (by simp) rfl).2 _ rfl
                  have d5 : _ = (undef : Value) := (hdep { on := 5, ground := .data } (by simp) rfl).2 _ rfl
                  obtain ⟨y, ha, hy⟩ := hL.puts [120, 121, 122, 123, 124, 125, 126, 127, 7] (by kernel_rfl)
                  have e4 : y 124 = (.bool false : Value) := (hy 124).symm.trans d4
                  have e5 : y 125 = (undef : Value) := (hy 125).symm.trans d5
                  clear hdep hL hy d4 d5
                  simp only [List.foldl, List.setIfInBounds_toArray, List.set_cons_succ, List.set_cons_zero, e4, e5] at ha
                  subst ha
                  clear e4 e5
                  refine wpOp_step rfl (fun K hK => ?_)
                  go_simp
                  exact hK _ _ ⟨_, rfl, (fun h => by cases h), (by first | rfl | simp), by simpa using hW⟩
                · cases ho
                  intro L act u hW hLi hL hdep
                  have d4 : _ = (.bool false : Value) := (hdep { on := 4, ground := .data } (by simp) rfl).2 _ rfl
                  have d6 : _ = (undef : Value) := (hdep { on := 6, ground := .data } (by simp) rfl).2 _ rfl
                  obtain ⟨y, ha, hy⟩ := hL.puts [120, 121, 122, 123, 124, 125, 126, 127, 7] (by kernel_rfl)
                  have e4 : y 124 = (.bool false : Value) := (hy 124).symm.trans d4
                  have e6 : y 126 = (undef : Value) := (hy 126).symm.trans d6
                  clear hdep hL hy d4 d6
                  simp only [List.foldl, List.setIfInBounds_toArray, List.set_cons_succ, List.set_cons_zero, e4, e6] at ha
                  subst ha
                  clear e4 e6
                  refine wpOp_step rfl (fun K hK => ?_)
                  go_simp
                  exact hK _ _ ⟨_, rfl, (fun h => by cases h), (by first | rfl | simp), by simpa using hW⟩
                · cases ho
                  intro L act u hW hLi hL hdep
                  have d0 : _ = (.agg #[.int .i64 kk, .int .i64 d, .int .i64 a, .int .i64 b, .int .i64 ff, .int .i64 0] : Value) := (hdep { on := 0, ground := .data } (by simp) rfl).2 _ rfl
                  obtain ⟨y, ha, hy⟩ := hL.puts [120, 121, 122, 123, 124, 125, 126, 127, 7] (by kernel_rfl)
                  have e0 : y 120 = (.agg #[.int .i64 kk, .int .i64 d, .int .i64 a, .int .i64 b, .int .i64 ff, .int .i64 0] : Value) := (hy 120).symm.trans d0
                  clear hdep hL hy d0
                  simp only [List.foldl, List.setIfInBounds_toArray, List.set_cons_succ, List.set_cons_zero, e0] at ha
                  subst ha
                  clear e0
                  rw [hLi] at hW
                  have z0 := hW.zc 0 (by omega)
                  have z1 := hW.zc 1 (by omega)
                  have z2 := hW.zc 2 (by omega)
                  have z3 := hW.zc 3 (by omega)
                  have z4 := hW.zc 4 (by omega)
                  have z5 := hW.zc 5 (by omega)
                  have y0 := hW.zz 0 (by omega)
                  have y1 := hW.zz 1 (by omega)
                  have y2 := hW.zz 2 (by omega)
                  have y3 := hW.zz 3 (by omega)
                  have y4 := hW.zz 4 (by omega)
                  have y5 := hW.zz 5 (by omega)
                  simp only [Bool.false_eq_true, if_false] at z0 z1 z2 z3 z4 z5
                  replace hW := Lib.hid hW
                  refine wpOp_step rfl (fun K hK => ?_)
                  go_simp
                  exact hK _ _ ⟨undef, rfl, (fun h => rfl), rfl, by simpa using hW.out.store⟩
                · cases ho
                  intro L act u hW hLi hL hdep
                  have d7 : _ = (.bool false : Value) := (hdep { on := 7, ground := .data } (by simp) rfl).2 _ rfl
                  obtain ⟨y, ha, hy⟩ := hL.puts [120, 121, 122, 123, 124, 125, 126, 127, 7] (by kernel_rfl)
                  have e7 : y 127 = (.bool false : Value) := (hy 127).symm.trans d7
                  clear hdep hL hy d7
                  simp only [List.foldl, List.setIfInBounds_toArray, List.set_cons_succ, List.set_cons_zero, e7] at ha
                  subst ha
                  clear e7
                  refine wpOp_step rfl (fun K hK => ?_)
                  go_simp
                  exact hK _ _ ⟨_, rfl, (fun h => by cases h), (by first | rfl | simp), by simpa using hW⟩
                · exact absurd ho (by simp)
              case fin =>
                intro L act u hall hW hL hF9
                have d9 : _ = (.bool false : Value) := hF9 9 _ rfl
                obtain ⟨y, ha, hy⟩ := hL.puts [120, 121, 122, 123, 124, 125, 126, 127, 7] (by kernel_rfl)
                have e9 : y 7 = (.bool false : Value) := (hy 7).symm.trans d9
                clear hL hF9 hy d9
                simp only [List.foldl, List.setIfInBounds_toArray, List.set_cons_succ, List.set_cons_zero, e9] at ha
                subst ha
                clear e9
                rw [hall 8 (by decide)] at hW
                have z0 : u.cell? ⟨w.heap.size, 0, none⟩ = some (.int .i64 kk) := hW.zc 0 (by omega)
                have z1 : u.cell? ⟨w.heap.size, 1, none⟩ = some (.int .i64 d) := hW.zc 1 (by omega)
                have z2 : u.cell? ⟨w.heap.size, 2, none⟩ = some (.int .i64 a) := hW.zc 2 (by omega)
                have z3 : u.cell? ⟨w.heap.size, 3, none⟩ = some (.int .i64 b) := hW.zc 3 (by omega)
                have z4 : u.cell? ⟨w.heap.size, 4, none⟩ = some (.int .i64 ff) := hW.zc 4 (by omega)
                have z5 : u.cell? ⟨w.heap.size, 5, none⟩ = some (.int .i64 0) := hW.zc 5 (by omega)
                replace hW := Lib.hid hW
                go_wp2
                refine bodyPost_ret (v := .tuple #[.agg #[.int .i64 kk, .int .i64 d, .int .i64 a, .int .i64 b, .int .i64 ff, .int .i64 0], .bool false]) (by simp [results, Try.results62, go_sem, z0, z1, z2, z3, z4, z5]) rfl ⟨kk, d, a, b, ff, 0, false, rfl, hW.out.fw, fun h => (by cases h), fun _ => FI.out⟩

end Go.Proofs.Ytmkinbnopgfljaa
