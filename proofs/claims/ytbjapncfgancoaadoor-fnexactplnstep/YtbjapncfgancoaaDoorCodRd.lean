/- CodRead of the program. A word as an instruction: the program's reading and the model's are one. -/
import Derived.Test.YtbjapncfgancoaaDoorCod
import Derived.Test.YtbjapncfgancoaaDoorRegion
import Derived.Test.YtbjapncfgancoaaDoorCodOk
namespace Go.Proofs.YtbjapncfgancoaaDoor
open Go.RowKit
set_option linter.unusedVariables false
/-- What is left behind p places; the value of place p. -/
def rdx (x : Int) : Nat → Int
  | 0 => rested x 4
  | p + 1 => rested (rdx x p) (eB (layN (x / 4096) p))
def rdv (x : Int) (p : Nat) : Int := valD (eB (layN (x / 4096) p)) (eL (layN (x / 4096) p)) (taken (rdx x p) (eB (layN (x / 4096) p)))
theorem rested_bd (x b : Int) : 0 ≤ rested x b ∧ rested x b < 65536 := ⟨Int.emod_nonneg _ (by decide), Int.emod_lt_of_pos _ (by decide)⟩
theorem rdx_bd (x : Int) (p : Nat) : 0 ≤ rdx x p ∧ rdx x p < 65536 := by
  cases p <;> exact rested_bd _ _
theorem taken_bd {x b : Int} (x0 : 0 ≤ x) (x1 : x < 65536) (hb : b = 0 ∨ b = 3 ∨ b = 6 ∨ b = 9) : 0 ≤ taken x b ∧ taken x b < 2 ^ b.toNat := by
  unfold taken
  rcases hb with rfl | rfl | rfl | rfl <;> simp <;> omega
theorem two_pow_le9 {b : Int} (h0 : 0 ≤ b) (h1 : b ≤ 9) : (2 : Int) ^ b.toNat ≤ 512 := by
  have : (2 : Nat) ^ b.toNat ≤ 2 ^ 9 := Nat.pow_le_pow_right (by decide) (by omega)
  have e : ((2 ^ b.toNat : Nat) : Int) = (2 : Int) ^ b.toNat := by simp
  omega
theorem five_index (g : Nat → Int) (p : Nat) (hp : p < 5) (w : World) : (Instr.index 75 (.agg #[.int .i64 (g 0), .int .i64 (g 1), .int .i64 (g 2), .int .i64 (g 3), .int .i64 (g 4)]) (.int .i64 p)).run Tryd.prog w = .ok (.int .i64 (g p)) w := by
  have hp' : p = 0 ∨ p = 1 ∨ p = 2 ∨ p = 3 ∨ p = 4 := by omega
  rcases hp' with rfl | rfl | rfl | rfl | rfl
  · exact fld0 ..
  · exact fld1 ..
  · exact fld2 ..
  · exact fld3 ..
  · exact fld4 ..
theorem eL_neg : ∀ m, m < 7 → eL m < 0 → 1 ≤ eB m := by decide
/-- What the reading holds behind p places. Blocks: Z the result, Z + 1 the reader, Z + 2 the fields. -/
structure RdW (Z : Nat) (w : World) (x : Int) (p : Nat) (u : World) : Prop where
  bel : Below Z w u
  siz : Z + 3 ≤ u.heap.size
  rd : u.cell? ⟨Z + 1, 0, none⟩ = some (.int .u16 (rdx x p))
  rdf : u.frozen? ⟨Z + 1, 0, none⟩ = false
  fs : ∀ j, j < 5 → u.cell? ⟨Z + 2, j, none⟩ = some (.int .i64 (if j < p then rdv x j else 0))
  fsf : ∀ j, j < 5 → u.frozen? ⟨Z + 2, j, none⟩ = false
  zs : ∀ j, j < 6 → u.cell? ⟨Z, j, none⟩ = some (.int .i64 0)
  zsf : ∀ j, j < 6 → u.frozen? ⟨Z, j, none⟩ = false
/-- Two worlds that part in the reader's and the fields' blocks alone. -/
structure Apart2 (Z : Nat) (w u : World) : Prop where
  os : u.os = w.os
  tape : u.tape = w.tape
  output : u.output = w.output
  size : w.heap.size ≤ u.heap.size
  block : ∀ k, k < w.heap.size → k ≠ Z + 1 → k ≠ Z + 2 → u.heap[k]? = w.heap[k]?
theorem Apart2.refl (Z : Nat) (w : World) : Apart2 Z w w := ⟨rfl, rfl, rfl, Nat.le_refl _, fun _ _ _ _ => rfl⟩
theorem Apart2.drew {Z : Nat} {w u : World} (h : Apart2 Z w u) : Apart2 Z w u.drew := ⟨h.os, h.tape, h.output, h.size, h.block⟩
theorem Apart2.fr {Z : Nat} {w u u' : World} (h : Apart2 Z w u) (k : Fr u u') : Apart2 Z w u' :=
  ⟨k.os.trans h.os, k.tape.trans h.tape, k.output.trans h.output, Nat.le_trans h.size k.size, fun i hi h1 h2 => (k.block i (Nat.lt_of_lt_of_le hi h.size)).trans (h.block i hi h1 h2)⟩
theorem Apart2.set {Z : Nat} {w u : World} (h : Apart2 Z w u) (p : Addr) (hp : p.block = Z + 1 ∨ p.block = Z + 2) (v : Value) : Apart2 Z w (u.setCell p v) :=
  ⟨h.os, h.tape, h.output, Nat.le_trans h.size (by simp [World.setCell]), fun i hi h1 h2 => by rw [Below.heap_setCell _ _ _ _ (by omega)]; exact h.block i hi h1 h2⟩
theorem Apart2.cell {Z : Nat} {w u : World} (h : Apart2 Z w u) {p : Addr} (hp : p.block < w.heap.size) (h1 : p.block ≠ Z + 1) (h2 : p.block ≠ Z + 2) : u.cell? p = w.cell? p := World.cell?_of_block (w := w) (h.block p.block hp h1 h2)
theorem Apart2.frozen {Z : Nat} {w u : World} (h : Apart2 Z w u) {p : Addr} (hp : p.block < w.heap.size) (h1 : p.block ≠ Z + 1) (h2 : p.block ≠ Z + 2) : u.frozen? p = w.frozen? p := World.frozen?_of_block (w := w) (h.block p.block hp h1 h2)
/-- The worlds within the region that reads one place: L 4: the reader has been read; L 7: the field is stored. -/
structure RdM (Z : Nat) (u0 : World) (x : Int) (p : Nat) (L : Nat → Bool) (u : World) : Prop where
  ap : Apart2 Z u0 u
  rd : u.cell? ⟨Z + 1, 0, none⟩ = some (.int .u16 (if L 4 = true then rdx x (p + 1) else rdx x p))
  rdf : u.frozen? ⟨Z + 1, 0, none⟩ = false
  fs : ∀ j, j < 5 → u.cell? ⟨Z + 2, j, none⟩ = some (.int .i64 (if j < p ∨ j = p ∧ L 7 = true then rdv x j else 0))
  fsf : ∀ j, j < 5 → u.frozen? ⟨Z + 2, j, none⟩ = false
theorem RdM.same {Z : Nat} {u0 u : World} {x : Int} {p : Nat} {L : Nat → Bool} (h : RdM Z u0 x p L u) (i : Nat) (h4 : i ≠ 4) (h7 : i ≠ 7) : RdM Z u0 x p (fun j => if j = i then true else L j) u := by
  refine ⟨h.ap, ?_, h.rdf, ?_, h.fsf⟩
  · simp only [if_neg (Ne.symm h4)]; exact h.rd
  · simp only [if_neg (Ne.symm h7)]; exact h.fs
theorem RdM.fr {Z : Nat} {u0 u u' : World} {x : Int} {p : Nat} {L : Nat → Bool} (h : RdM Z u0 x p L u) (hz : Z + 2 < u.heap.size) (k : Fr u u') : RdM Z u0 x p L u' :=
  ⟨h.ap.fr k, by rw [k.cell (by exact Nat.lt_of_succ_lt hz)]; exact h.rd, by rw [k.frozen (by exact Nat.lt_of_succ_lt hz)]; exact h.rdf, fun j hj => by rw [k.cell (by exact hz)]; exact h.fs j hj, fun j hj => by rw [k.frozen (by exact hz)]; exact h.fsf j hj⟩
theorem RdM.taken {Z : Nat} {u0 u : World} {x : Int} {p : Nat} {L : Nat → Bool} (h : RdM Z u0 x p L u) : RdM Z u0 x p (fun j => if j = 4 then true else L j) (u.setCell ⟨Z + 1, 0, none⟩ (.int .u16 (rdx x (p + 1)))) := by
  refine ⟨h.ap.set _ (.inl rfl) _, ?_, ?_, fun j hj => ?_, fun j hj => ?_⟩
  · rw [World.cell?_setCell_same _ _ _ h.rd]; rfl
  · rw [World.frozen?_setCell]; exact h.rdf
  · rw [World.cell?_setCell_other _ _ _ _ (by simp)]; simpa using h.fs j hj
  · rw [World.frozen?_setCell]; exact h.fsf j hj
theorem RdM.stored {Z : Nat} {u0 u : World} {x : Int} {p : Nat} {L : Nat → Bool} (h : RdM Z u0 x p L u) (hp : p < 5) : RdM Z u0 x p (fun j => if j = 7 then true else L j) (u.setCell ⟨Z + 2, p, none⟩ (.int .i64 (rdv x p))) := by
  refine ⟨h.ap.set _ (.inr rfl) _, ?_, ?_, fun j hj => ?_, fun j hj => ?_⟩
  · rw [World.cell?_setCell_other _ _ _ _ (by simp)]; simpa using h.rd
  · rw [World.frozen?_setCell]; exact h.rdf
  · by_cases e : j = p
    · subst e
      rw [World.cell?_setCell_same _ _ _ (h.fs j hj)]
      simp
    · rw [World.cell?_setCell_other _ _ _ _ (by simp; try omega), h.fs j hj]
      have e1 : (j < p ∨ j = p ∧ L 7 = true) ↔ (j < p ∨ j = p ∧ (if (7 : Nat) = 7 then true else L 7) = true) := by simp [e]
      simp only [e1]
  · rw [World.frozen?_setCell]; exact h.fsf j hj
def rdK (Z E : Nat) (x : Int) (p : Nat) : Nat → Value → Prop
  | 0, v => v = .int .i64 p
  | 1, v => v = .agg #[.int .i64 (eB (layN (x / 4096) p)), .int .i64 (eL (layN (x / 4096) p)), .int .i64 (eG (layN (x / 4096) p))]
  | 2, v => v = .pointer (some ⟨E, 0, none⟩)
  | 3, v => v = .int .i64 (eB (layN (x / 4096) p))
  | 4, v => v = .int .u16 (taken (rdx x p) (eB (layN (x / 4096) p)))
  | 5, v => v = .int .i64 (rdv x p)
  | 6, v => v = .pointer (some ⟨Z + 2, p, none⟩)
  | _, _ => True
theorem RdW.fr {Z : Nat} {w u u' : World} {x : Int} {p : Nat} (h : RdW Z w x p u) (f : Fr u u') : RdW Z w x p u' := by
  have hs := h.siz
  have hz := f.size
  exact ⟨h.bel.trans (f.mono (by omega)), by omega, by rw [f.cell (show Z + 1 < u.heap.size by omega)]; exact h.rd, by rw [f.frozen (show Z + 1 < u.heap.size by omega)]; exact h.rdf,
    fun j hj => by rw [f.cell (show Z + 2 < u.heap.size by omega)]; exact h.fs j hj, fun j hj => by rw [f.frozen (show Z + 2 < u.heap.size by omega)]; exact h.fsf j hj,
    fun j hj => by rw [f.cell (show Z < u.heap.size by omega)]; exact h.zs j hj, fun j hj => by rw [f.frozen (show Z < u.heap.size by omega)]; exact h.zsf j hj⟩
theorem rdw_start (w : World) (x : Int) (t1 t2 t3 : TypeId) : RdW w.heap.size w x 0 ((((w.alloc (.cells #[.int .i64 0, .int .i64 0, .int .i64 0, .int .i64 0, .int .i64 0, .int .i64 0] t1)).alloc (.cells #[.int .u16 x] t2)).setCell ⟨w.heap.size + 1, 0, none⟩ (.int .u16 (rested x 4))).alloc (.cells #[.int .i64 0, .int .i64 0, .int .i64 0, .int .i64 0, .int .i64 0] t3)) := by
  have ha := Fr.alloc w (.cells #[.int .i64 0, .int .i64 0, .int .i64 0, .int .i64 0, .int .i64 0, .int .i64 0] t1)
  have ea : ∀ j, (w.alloc (.cells #[.int .i64 0, .int .i64 0, .int .i64 0, .int .i64 0, .int .i64 0, .int .i64 0] t1)).cell? ⟨w.heap.size, j, none⟩ = #[Value.int .i64 0, .int .i64 0, .int .i64 0, .int .i64 0, .int .i64 0, .int .i64 0][j]? := fun j => by simp
  have fa : ∀ j, (w.alloc (.cells #[.int .i64 0, .int .i64 0, .int .i64 0, .int .i64 0, .int .i64 0, .int .i64 0] t1)).frozen? ⟨w.heap.size, j, none⟩ = false := fun j => by simp
  have sa : (w.alloc (.cells #[.int .i64 0, .int .i64 0, .int .i64 0, .int .i64 0, .int .i64 0, .int .i64 0] t1)).heap.size = w.heap.size + 1 := by simp
  generalize (w.alloc (.cells #[.int .i64 0, .int .i64 0, .int .i64 0, .int .i64 0, .int .i64 0, .int .i64 0] t1)) = wa at *
  have hb := Fr.alloc wa (.cells #[.int .u16 x] t2)
  have eb : (wa.alloc (.cells #[.int .u16 x] t2)).cell? ⟨w.heap.size + 1, 0, none⟩ = some (.int .u16 x) := by rw [← sa]; simp
  have fb : (wa.alloc (.cells #[.int .u16 x] t2)).frozen? ⟨w.heap.size + 1, 0, none⟩ = false := by rw [← sa]; simp
  have sb : (wa.alloc (.cells #[.int .u16 x] t2)).heap.size = w.heap.size + 2 := by simp [sa]
  generalize (wa.alloc (.cells #[.int .u16 x] t2)) = wb at *
  have sc : (wb.setCell ⟨w.heap.size + 1, 0, none⟩ (.int .u16 (rested x 4))).heap.size = w.heap.size + 2 := by simp [World.setCell, sb]
  have hc : Below (w.heap.size + 1) wb (wb.setCell ⟨w.heap.size + 1, 0, none⟩ (.int .u16 (rested x 4))) := Below.setCell (Below.refl _ _) (show w.heap.size + 1 ≤ w.heap.size + 1 from Nat.le_refl _) _
  have ec : (wb.setCell ⟨w.heap.size + 1, 0, none⟩ (.int .u16 (rested x 4))).cell? ⟨w.heap.size + 1, 0, none⟩ = some (.int .u16 (rested x 4)) := by rw [World.cell?_setCell_same _ _ _ eb]
  have fc : (wb.setCell ⟨w.heap.size + 1, 0, none⟩ (.int .u16 (rested x 4))).frozen? ⟨w.heap.size + 1, 0, none⟩ = false := by rw [World.frozen?_setCell]; exact fb
  generalize (wb.setCell ⟨w.heap.size + 1, 0, none⟩ (.int .u16 (rested x 4))) = wc at *
  have hd := Fr.alloc wc (.cells #[.int .i64 0, .int .i64 0, .int .i64 0, .int .i64 0, .int .i64 0] t3)
  refine ⟨?_, ?_, ?_, ?_, fun j hj => ?_, fun j hj => ?_, fun j hj => ?_, fun j hj => ?_⟩
  · exact ha.trans ((hb.mono (by omega)).trans ((hc.mono (by omega)).trans (hd.mono (by omega))))
  · simp [sc]
  · rw [hd.cell (show w.heap.size + 1 < wc.heap.size by omega)]; exact ec
  · rw [hd.frozen (show w.heap.size + 1 < wc.heap.size by omega)]; exact fc
  · rw [← sc]
    have h : j = 0 ∨ j = 1 ∨ j = 2 ∨ j = 3 ∨ j = 4 := by omega
    rcases h with rfl | rfl | rfl | rfl | rfl <;> simp
  · rw [← sc]; simp
  · rw [hd.cell (show w.heap.size < wc.heap.size by omega), hc.cell (show w.heap.size < w.heap.size + 1 by omega), hb.cell (show w.heap.size < wa.heap.size by omega), ea]
    have h : j = 0 ∨ j = 1 ∨ j = 2 ∨ j = 3 ∨ j = 4 ∨ j = 5 := by omega
    rcases h with rfl | rfl | rfl | rfl | rfl | rfl <;> rfl
  · rw [hd.frozen (show w.heap.size < wc.heap.size by omega), hc.frozen (show w.heap.size < w.heap.size + 1 by omega), hb.frozen (show w.heap.size < wa.heap.size by omega), fa]
theorem RdW.begin {Z : Nat} {w wr : World} {x : Int} {p : Nat} (h : RdW Z w x p wr) (o : Obj) : RdM Z (wr.alloc o) x p (fun _ => false) (wr.alloc o).drew := by
  have f := Fr.alloc wr o
  have hs := h.siz
  refine ⟨(Apart2.refl _ _).drew, ?_, ?_, fun j hj => ?_, fun j hj => ?_⟩
  · have : (wr.alloc o).cell? ⟨Z + 1, 0, none⟩ = wr.cell? ⟨Z + 1, 0, none⟩ := f.cell (show Z + 1 < wr.heap.size by omega)
    simpa [World.cell?_drew, this] using h.rd
  · have : (wr.alloc o).frozen? ⟨Z + 1, 0, none⟩ = wr.frozen? ⟨Z + 1, 0, none⟩ := f.frozen (show Z + 1 < wr.heap.size by omega)
    exact this.trans h.rdf
  · have : (wr.alloc o).cell? ⟨Z + 2, j, none⟩ = wr.cell? ⟨Z + 2, j, none⟩ := f.cell (show Z + 2 < wr.heap.size by omega)
    have h2 := h.fs j hj
    rw [← this] at h2
    simpa using h2
  · have : (wr.alloc o).frozen? ⟨Z + 2, j, none⟩ = wr.frozen? ⟨Z + 2, j, none⟩ := f.frozen (show Z + 2 < wr.heap.size by omega)
    exact this.trans (h.fsf j hj)
theorem RdW.next {Z : Nat} {w wr u : World} {x : Int} {p : Nat} {o : Obj} {L : Nat → Bool} (h : RdW Z w x p wr) (hm : RdM Z (wr.alloc o) x p L u) (h4 : L 4 = true) (h7 : L 7 = true) : RdW Z w x (p + 1) u := by
  have f := Fr.alloc wr o
  have hs := h.siz
  have hz := hm.ap.size
  simp at hz
  refine ⟨?_, by omega, ?_, hm.rdf, fun j hj => ?_, hm.fsf, fun j hj => ?_, fun j hj => ?_⟩
  · refine h.bel.trans (Below.trans (f.mono (by omega)) ⟨hm.ap.os, hm.ap.tape, hm.ap.output, by simp; omega, fun k hk => hm.ap.block k (by simp; omega) (by omega) (by omega)⟩)
  · have := hm.rd
    rw [h4] at this
    exact this
  · have := hm.fs j hj
    rw [this]
    have e1 : (j < p ∨ j = p ∧ L 7 = true) ↔ j < p + 1 := by rw [h7]; simp; omega
    simp only [e1]
  · rw [hm.ap.cell (by simp; omega) (by simp) (by simp), f.cell (show Z < wr.heap.size by omega)]
    exact h.zs j hj
  · rw [hm.ap.frozen (by simp; omega) (by simp) (by simp), f.frozen (show Z < wr.heap.size by omega)]
    exact h.zsf j hj
/-- A word is an instruction. -/
def gd (x : Int) : Bool := okB x && (rdx x 5 == 0 && iok (x / 4096) (rdv x 0) (rdv x 1) (rdv x 2) (rdv x 3) (rdv x 4))
def rI (x v : Int) : Int := if gd x = true then v else 0
theorem rI_t {x v : Int} (h : gd x = true) : rI x v = v := if_pos h
theorem rI_f {x v : Int} (h : gd x = false) : rI x v = 0 := if_neg (by simp [h])
abbrev rV (x : Int) : Value := .tuple #[.agg #[.int .i64 (rI x (x / 4096)), .int .i64 (rI x (rdv x 0)), .int .i64 (rI x (rdv x 1)), .int .i64 (rI x (rdv x 2)), .int .i64 (rI x (rdv x 3)), .int .i64 (rI x (rdv x 4))], .bool (gd x)]
theorem rV_f {x : Int} (h : gd x = false) : rV x = .tuple #[.agg #[.int .i64 0, .int .i64 0, .int .i64 0, .int .i64 0, .int .i64 0, .int .i64 0], .bool false] := by
  simp [rV, rI_f h, h]
theorem rV_t {x : Int} (h : gd x = true) : rV x = .tuple #[.agg #[.int .i64 (x / 4096), .int .i64 (rdv x 0), .int .i64 (rdv x 1), .int .i64 (rdv x 2), .int .i64 (rdv x 3), .int .i64 (rdv x 4)], .bool true] := by
  simp [rV, rI_t h, h]
theorem impl_instOf (k d a b f n : Int) (w : World) : Calls Tryd.prog 116 #[.int .i64 k, .agg #[.int .i64 d, .int .i64 a, .int .i64 b, .int .i64 f, .int .i64 n]] w fun e w' => e = .returned (.agg #[.int .i64 k, .int .i64 d, .int .i64 a, .int .i64 b, .int .i64 f, .int .i64 n]) ∧ Fr w w' := by
  go_enter Tryd.func116, Tryd.ntmps116
  go_wp2
  refine bodyPost_ret (v := .agg #[.int .i64 k, .int .i64 d, .int .i64 a, .int .i64 b, .int .i64 f, .int .i64 n]) (by simp [results, Tryd.results116, go_sem]) rfl ⟨rfl, ?_⟩
  (repeat' first | (with_reducible exact Below.refl _ _) | (with_reducible assumption) | ((with_reducible refine Below.setCell ?_ ?hb _); (case hb => first | exact Nat.le_refl _ | (simp; done) | (simp; omega) | omega)) | ((with_reducible refine Below.alloc ?_ ?hb _); (case hb => first | exact Nat.le_refl _ | (simp; done) | (simp; omega) | omega)) | (with_reducible refine Below.drew ?_))
set_option maxHeartbeats 4000000 in
theorem impl_CodRead_any (x : Int) (x0 : 0 ≤ x) (x1 : x < 65536) (w : World) (ht : Tabs w) : Calls Tryd.prog 91 #[.int .i64 x] w fun e w' => e = .returned (rV x) ∧ Fr w w' := by
  have ho := okB_mk x0 x1
  have hk : 0 ≤ x / 4096 ∧ x / 4096 < 16 := by omega
  have HK := Lib.hid hk
  have h2 := ht.two
  clear hk
  go_enter Tryd.func91, Tryd.ntmps91
  have T4 : taken x 4 = x / 4096 := by simp [taken]
  have k0 : 0 ≤ x / 4096 := HK.out.1
  have k1 : x / 4096 < 16 := HK.out.2
  go_wp2_with (go_at_call 56; refine (impl_WrdOk _ _).mono ?_; rintro e w' ⟨rfl, rfl⟩)
  refine (impl_take _ x 4 (by omega) (by omega) x0 x1 _ (by simp) (by simp)).mono ?_
  rintro e w1 ⟨rfl, hw1⟩
  rw [T4]
  have F1 : Fr w w1 := by rw [← hw1]; (repeat' first | (with_reducible exact Below.refl _ _) | (with_reducible assumption) | ((with_reducible refine Below.setCell ?_ ?hb _); (case hb => first | exact Nat.le_refl _ | (simp; done) | (simp; omega) | omega)) | ((with_reducible refine Below.alloc ?_ ?hb _); (case hb => first | exact Nat.le_refl _ | (simp; done) | (simp; omega) | omega)) | (with_reducible refine Below.drew ?_))
  have ht1 := ht.fr F1
  have L0 : w1.cell? ⟨1, (x / 4096).toNat * 5, none⟩ = some (.int .i64 (layN (x / 4096) 0)) := ht1.layAt (x / 4096) 0 HK.out (by omega)
  have L1 := ht1.layAt (x / 4096) 1 HK.out (by omega)
  have L2 := ht1.layAt (x / 4096) 2 HK.out (by omega)
  have L3 := ht1.layAt (x / 4096) 3 HK.out (by omega)
  have L4 := ht1.layAt (x / 4096) 4 HK.out (by omega)
  have hsz : w1.heap.size = w.heap.size + 2 := by rw [← hw1]; simp [World.setCell]
  have hne : ¬ 1 = w1.heap.size := by omega
  have hne' : ¬ w1.heap.size = 1 := by omega
  go_wp2_with fail
  go_loopw [24] (fun i wr => ∃ p : Nat, p ≤ 5 ∧ i = .int .i64 p ∧ RdW w.heap.size w x p wr) (fun i _ => 5 - (intOf i).toNat)
  case atStart => exact ⟨0, by omega, rfl, by rw [← hw1]; exact rdw_start w x _ _ _⟩
  case round =>
    obtain ⟨p, hp, rfl, hR⟩ := hrel
    by_cases h5 : p < 5
    · have htr := ht.fr hR.bel
      have h5' : (p : Int) < 5 := by omega
      have c5 := layN_lt (x / 4096) p HK.out h5
      obtain ⟨c2, c3, c4⟩ := htr.encAt _ c5
      have X := five_index (fun j => (layN (x / 4096) j : Int)) p h5 wr
      have q0 := Lib.hid (eB_vals _ c5)
      have q1 : 0 ≤ eB (layN (x / 4096) p) := by have := q0.out; omega
      have q2 : eB (layN (x / 4096) p) ≤ 9 := by have := q0.out; omega
      have B0 := Lib.hid (taken_bd (rdx_bd x p).1 (rdx_bd x p).2 q0.out)
      have B1 := Lib.hid (two_pow_le9 q1 q2)
      have hsz2 := hR.siz
      go_wp2_with fail
      refine wp_region_done 52 (rdK w.heap.size wr.heap.size x p) (RdM w.heap.size (wr.alloc (.cells #[.int .i64 (eB (layN (x / 4096) p)), .int .i64 (eL (layN (x / 4096) p)), .int .i64 (eG (layN (x / 4096) p))] 78)) x p) (by kernel_rfl) (by kernel_rfl) rfl (by kernel_rfl) ?start ?step ?fin
      case start => exact hR.begin _
      case step =>
        intro i o ho
        rcases i with _ | _ | _ | _ | _ | _ | _ | _ | i
        · cases ho
          intro L a u hW hLi hL hdep
          obtain ⟨y, ha, hy⟩ := hL.puts [31, 32, 33, 34, 35, 36, 37] (by kernel_rfl)
          clear hdep hL hy
          simp only [List.foldl, List.setIfInBounds_toArray, List.set_cons_succ, List.set_cons_zero] at ha
          subst ha
          refine wpOp_step rfl (fun K hK => ?_)
          go_simp
          exact hK _ _ ⟨_, rfl, (fun h => by cases h), rfl, hW.same 0 (by decide) (by decide)⟩
        · cases ho
          intro L a u hW hLi hL hdep
          obtain ⟨y, ha, hy⟩ := hL.puts [31, 32, 33, 34, 35, 36, 37] (by kernel_rfl)
          clear hdep hL hy
          simp only [List.foldl, List.setIfInBounds_toArray, List.set_cons_succ, List.set_cons_zero] at ha
          subst ha
          have g0 : u.cell? ⟨wr.heap.size, 0, none⟩ = some (.int .i64 (eB (layN (x / 4096) p))) := by rw [hW.ap.cell (by simp) (by simp; omega) (by simp; omega)]; simp
          have g1 : u.cell? ⟨wr.heap.size, 1, none⟩ = some (.int .i64 (eL (layN (x / 4096) p))) := by rw [hW.ap.cell (by simp) (by simp; omega) (by simp; omega)]; simp
          have g2 : u.cell? ⟨wr.heap.size, 2, none⟩ = some (.int .i64 (eG (layN (x / 4096) p))) := by rw [hW.ap.cell (by simp) (by simp; omega) (by simp; omega)]; simp
          refine wpOp_step rfl (fun K hK => ?_)
          go_simp
          exact hK _ _ ⟨_, rfl, (fun h => by cases h), rfl, hW.same 1 (by decide) (by decide)⟩
        · cases ho
          intro L a u hW hLi hL hdep
          obtain ⟨y, ha, hy⟩ := hL.puts [31, 32, 33, 34, 35, 36, 37] (by kernel_rfl)
          clear hdep hL hy
          simp only [List.foldl, List.setIfInBounds_toArray, List.set_cons_succ, List.set_cons_zero] at ha
          subst ha
          refine wpOp_step rfl (fun K hK => ?_)
          go_simp
          exact hK _ _ ⟨_, rfl, (fun h => by cases h), rfl, hW.same 2 (by decide) (by decide)⟩
        · cases ho
          intro L a u hW hLi hL hdep
          have d2 := (hdep { on := 2, ground := .data } (by simp) rfl).2 _ rfl
          obtain ⟨y, ha, hy⟩ := hL.puts [31, 32, 33, 34, 35, 36, 37] (by kernel_rfl)
          have e2 : y 33 = _ := (hy 33).symm.trans d2
          clear d2
          clear hdep hL hy
          simp only [List.foldl, List.setIfInBounds_toArray, List.set_cons_succ, List.set_cons_zero, e2] at ha
          subst ha
          clear e2
          have g0 : u.cell? ⟨wr.heap.size, 0, none⟩ = some (.int .i64 (eB (layN (x / 4096) p))) := by rw [hW.ap.cell (by simp) (by simp; omega) (by simp; omega)]; simp
          have g1 : u.cell? ⟨wr.heap.size, 1, none⟩ = some (.int .i64 (eL (layN (x / 4096) p))) := by rw [hW.ap.cell (by simp) (by simp; omega) (by simp; omega)]; simp
          have g2 : u.cell? ⟨wr.heap.size, 2, none⟩ = some (.int .i64 (eG (layN (x / 4096) p))) := by rw [hW.ap.cell (by simp) (by simp; omega) (by simp; omega)]; simp
          refine wpOp_step rfl (fun K hK => ?_)
          go_simp
          exact hK _ _ ⟨_, rfl, (fun h => by cases h), rfl, hW.same 3 (by decide) (by decide)⟩
        · cases ho
          intro L a u hW hLi hL hdep
          have d3 := (hdep { on := 3, ground := .data } (by simp) rfl).2 _ rfl
          obtain ⟨y, ha, hy⟩ := hL.puts [31, 32, 33, 34, 35, 36, 37] (by kernel_rfl)
          have e3 : y 34 = _ := (hy 34).symm.trans d3
          clear d3
          clear hdep hL hy
          simp only [List.foldl, List.setIfInBounds_toArray, List.set_cons_succ, List.set_cons_zero, e3] at ha
          subst ha
          clear e3
          refine wpOp_step rfl (fun K hK => ?_)
          go_simp
          refine (impl_take (w.heap.size + 1) (rdx x p) (eB (layN (x / 4096) p)) q1 (by omega) (rdx_bd x p).1 (rdx_bd x p).2 u (by have := hW.rd; rw [hLi] at this; exact this) hW.rdf).mono ?_
          rintro e u' ⟨rfl, rfl⟩
          go_simp
          exact hK _ _ ⟨_, rfl, (fun h => by cases h), rfl, hW.taken⟩
        · cases ho
          intro L a u hW hLi hL hdep
          have d1 := (hdep { on := 1, ground := .data } (by simp) rfl).2 _ rfl
          have d4 := (hdep { on := 4, ground := .data } (by simp) rfl).2 _ rfl
          obtain ⟨y, ha, hy⟩ := hL.puts [31, 32, 33, 34, 35, 36, 37] (by kernel_rfl)
          have e1 : y 32 = _ := (hy 32).symm.trans d1
          clear d1
          have e4 : y 35 = _ := (hy 35).symm.trans d4
          clear d4
          clear hdep hL hy
          simp only [List.foldl, List.setIfInBounds_toArray, List.set_cons_succ, List.set_cons_zero, e1, e4] at ha
          subst ha
          clear e1 e4
          refine wpOp_step rfl (fun K hK => ?_)
          go_simp
          refine (impl_value _ _ _ _ (eL_neg _ c5) (by omega) B0.out.1 (by have := B0.out; have := B1.out; omega) (fun _ => B0.out.2) u).mono ?_
          rintro e u' ⟨rfl, fu⟩
          go_simp
          exact hK _ _ ⟨_, rfl, (fun h => by cases h), rfl, (hW.fr (by have := hW.ap.size; simp at this; omega) fu).same 5 (by decide) (by decide)⟩
        · cases ho
          intro L a u hW hLi hL hdep
          have d0 := (hdep { on := 0, ground := .data } (by simp) rfl).2 _ rfl
          obtain ⟨y, ha, hy⟩ := hL.puts [31, 32, 33, 34, 35, 36, 37] (by kernel_rfl)
          have e0 : y 31 = _ := (hy 31).symm.trans d0
          clear d0
          clear hdep hL hy
          simp only [List.foldl, List.setIfInBounds_toArray, List.set_cons_succ, List.set_cons_zero, e0] at ha
          subst ha
          clear e0
          refine wpOp_step rfl (fun K hK => ?_)
          go_simp
          exact hK _ _ ⟨_, rfl, (fun h => by cases h), rfl, hW.same 6 (by decide) (by decide)⟩
        · cases ho
          intro L a u hW hLi hL hdep
          have d5 := (hdep { on := 5, ground := .data } (by simp) rfl).2 _ rfl
          have d6 := (hdep { on := 6, ground := .data } (by simp) rfl).2 _ rfl
          obtain ⟨y, ha, hy⟩ := hL.puts [31, 32, 33, 34, 35, 36, 37] (by kernel_rfl)
          have e5 : y 36 = _ := (hy 36).symm.trans d5
          clear d5
          have e6 : y 37 = _ := (hy 37).symm.trans d6
          clear d6
          clear hdep hL hy
          simp only [List.foldl, List.setIfInBounds_toArray, List.set_cons_succ, List.set_cons_zero, e5, e6] at ha
          subst ha
          clear e5 e6
          have g0 := hW.fs p h5
          have g1 := hW.fsf p h5
          refine wpOp_step rfl (fun K hK => ?_)
          go_simp
          exact hK _ _ ⟨undef, rfl, (fun h => rfl), trivial, hW.stored h5⟩
        · exact absurd ho (by simp)
      case fin =>
        intro L a u hall hW hL hF
        obtain ⟨y, ha, hy⟩ := hL.puts [31, 32, 33, 34, 35, 36, 37] (by kernel_rfl)
        clear hL hF hy
        simp only [List.foldl, List.setIfInBounds_toArray, List.set_cons_succ, List.set_cons_zero] at ha
        subst ha
        have hN := Lib.hid (hR.next hW (hall 4 (by decide)) (hall 7 (by decide)))
        clear hW hall
        go_wp2
        go_roundw
        case rel => exact ⟨p + 1, by omega, by go_num, hN.out⟩
        case measure => simp [intOf]; omega
    · have h6 : p = 5 := by omega
      subst h6
      have f0 := hR.fs 0 (by omega)
      have f1 := hR.fs 1 (by omega)
      have f2 := hR.fs 2 (by omega)
      have f3 := hR.fs 3 (by omega)
      have f4 := hR.fs 4 (by omega)
      simp at f0 f1 f2 f3 f4
      have r0 := hR.rd
      have hsz2 := hR.siz
      go_wp2_with fail
      refine (impl_instOf _ _ _ _ _ _ _).mono ?_
      rintro e w2 ⟨rfl, fI⟩
      have hR2 := hR.fr fI
      clear hR r0 hsz2 f0 f1 f2 f3 f4 fI
      have r0 := hR2.rd
      have hsz2 := hR2.siz
      have HR := Lib.hid hR2
      clear hR2
      have r1 : (w2.alloc (.cells #[.int .i64 (x / 4096), .int .i64 (rdv x 0), .int .i64 (rdv x 1), .int .i64 (rdv x 2), .int .i64 (rdv x 3), .int .i64 (rdv x 4)] 48)).cell? ⟨w.heap.size + 1, 0, none⟩ = some (.int .u16 (rdx x 5)) := by rw [(Fr.alloc w2 _).cell (show w.heap.size + 1 < w2.heap.size by omega)]; exact r0
      have FA := Fr.alloc w2 (.cells #[.int .i64 (x / 4096), .int .i64 (rdv x 0), .int .i64 (rdv x 1), .int .i64 (rdv x 2), .int .i64 (rdv x 3), .int .i64 (rdv x 4)] 48)
      have HR2 := Lib.hid (HR.out.fr FA)
      by_cases hz : rdx x 5 = 0
      · have hzb : (rdx x 5 == 0) = true := by simp [hz]
        rw [hz] at r1
        go_wp2_with fail
        refine (impl_CodOk _ _ _ _ _ _ _ (ht.fr HR2.out.bel)).mono ?_
        rintro e u ⟨rfl, fu⟩
        have HR3 := HR2.out.fr fu
        obtain ⟨c0, c1, c2, c3, c4, c5⟩ := (Box.new w2 (x / 4096) (rdv x 0) (rdv x 1) (rdv x 2) (rdv x 3) (rdv x 4) _).fr fu
        have z0 := HR3.zs 0 (by omega)
        have z1 := HR3.zs 1 (by omega)
        have z2 := HR3.zs 2 (by omega)
        have z3 := HR3.zs 3 (by omega)
        have z4 := HR3.zs 4 (by omega)
        have z5 := HR3.zs 5 (by omega)
        have y0 := HR3.zsf 0 (by omega)
        have y1 := HR3.zsf 1 (by omega)
        have y2 := HR3.zsf 2 (by omega)
        have y3 := HR3.zsf 3 (by omega)
        have y4 := HR3.zsf 4 (by omega)
        have y5 := HR3.zsf 5 (by omega)
        have HF := Lib.hid HR3.bel
        clear HR3
        cases hq : iok (x / 4096) (rdv x 0) (rdv x 1) (rdv x 2) (rdv x 3) (rdv x 4)
        · have G : Hid (gd x = false) := by simp [Hid, gd, hq]
          go_wp2
          refine bodyPost_ret (v := rV x) (by rw [rV_f G.out]; simp [results, Tryd.results91, go_sem, z0, z1, z2, z3, z4, z5]) rfl ⟨rfl, ?_⟩
          have := HF.out
          (repeat' first | (with_reducible exact Below.refl _ _) | (with_reducible assumption) | ((with_reducible refine Below.setCell ?_ ?hb _); (case hb => first | exact Nat.le_refl _ | (simp; done) | (simp; omega) | omega)) | ((with_reducible refine Below.alloc ?_ ?hb _); (case hb => first | exact Nat.le_refl _ | (simp; done) | (simp; omega) | omega)) | (with_reducible refine Below.drew ?_))
        · have G : Hid (gd x = true) := by simp [Hid, gd, hq, hzb, ho]
          go_wp2
          refine bodyPost_ret (v := rV x) (by rw [rV_t G.out]; simp [results, Tryd.results91, go_sem, z0, z1, z2, z3, z4, z5]) rfl ⟨rfl, ?_⟩
          have := HF.out
          (repeat' first | (with_reducible exact Below.refl _ _) | (with_reducible assumption) | ((with_reducible refine Below.setCell ?_ ?hb _); (case hb => first | exact Nat.le_refl _ | (simp; done) | (simp; omega) | omega)) | ((with_reducible refine Below.alloc ?_ ?hb _); (case hb => first | exact Nat.le_refl _ | (simp; done) | (simp; omega) | omega)) | (with_reducible refine Below.drew ?_))
      · have hzb : (rdx x 5 == 0) = false := by simp [hz]
        have G : Hid (gd x = false) := by simp [Hid, gd, hzb]
        have z0 := HR2.out.zs 0 (by omega)
        have z1 := HR2.out.zs 1 (by omega)
        have z2 := HR2.out.zs 2 (by omega)
        have z3 := HR2.out.zs 3 (by omega)
        have z4 := HR2.out.zs 4 (by omega)
        have z5 := HR2.out.zs 5 (by omega)
        have y0 := HR2.out.zsf 0 (by omega)
        have y1 := HR2.out.zsf 1 (by omega)
        have y2 := HR2.out.zsf 2 (by omega)
        have y3 := HR2.out.zsf 3 (by omega)
        have y4 := HR2.out.zsf 4 (by omega)
        have y5 := HR2.out.zsf 5 (by omega)
        go_wp2
        refine bodyPost_ret (v := rV x) (by rw [rV_f G.out]; simp [results, Tryd.results91, go_sem, z0, z1, z2, z3, z4, z5]) rfl ⟨rfl, ?_⟩
        have := HR2.out.bel
        (repeat' first | (with_reducible exact Below.refl _ _) | (with_reducible assumption) | ((with_reducible refine Below.setCell ?_ ?hb _); (case hb => first | exact Nat.le_refl _ | (simp; done) | (simp; omega) | omega)) | ((with_reducible refine Below.alloc ?_ ?hb _); (case hb => first | exact Nat.le_refl _ | (simp; done) | (simp; omega) | omega)) | (with_reducible refine Below.drew ?_))
theorem impl_CodRead (x : Int) (w : World) (ht : Tabs w) : Calls Tryd.prog 91 #[.int .i64 x] w fun e w' => e = .returned (rV x) ∧ Fr w w' := by
  cases ho : okB x
  · have G : Hid (gd x = false) := by simp [Hid, gd, ho]
    go_enter Tryd.func91, Tryd.ntmps91
    go_wp2_with (go_at_call 56; refine (impl_WrdOk _ _).mono ?_; rintro e w' ⟨rfl, rfl⟩)
    refine bodyPost_ret (v := rV x) (by rw [rV_f G.out]; simp [results, Tryd.results91, go_sem]) rfl ⟨rfl, ?_⟩
    (repeat' first | (with_reducible exact Below.refl _ _) | (with_reducible assumption) | ((with_reducible refine Below.setCell ?_ ?hb _); (case hb => first | exact Nat.le_refl _ | (simp; done) | (simp; omega) | omega)) | ((with_reducible refine Below.alloc ?_ ?hb _); (case hb => first | exact Nat.le_refl _ | (simp; done) | (simp; omega) | omega)) | (with_reducible refine Below.drew ?_))
  · obtain ⟨x0, x1⟩ := okB_true ho
    exact impl_CodRead_any x x0 x1 w ht

/-- The model's field p of a word of kind k; its number. -/
def slv (k x : Int) (p : Nat) : Int := if (hasL k).getD p false = true then x / 2 ^ (sl k (p + 1)).toNat % 8 else 0
def snr (k x : Int) : Int := x / 2 ^ (sl k 4 - hN k).toNat % 2 ^ (hN k).toNat
def sne (k x : Int) : Bool := !(k == 12) && (!(k == 2) && decide (2 ^ (hN k - 1).toNat ≤ snr k x))
def sn (k x : Int) : Int := if hN k = 0 then 0 else if sne k x = true then snr k x - 2 ^ (hN k).toNat else snr k x
set_option maxHeartbeats 4000000 in
theorem rd_eq (x : Int) (x0 : 0 ≤ x) (x1 : x < 65536) : rdv x 0 = slv (x / 4096) x 0 ∧ rdv x 1 = slv (x / 4096) x 1 ∧ rdv x 2 = slv (x / 4096) x 2 ∧ rdv x 3 = slv (x / 4096) x 3 ∧ rdv x 4 = sn (x / 4096) x := by
  have hk : 0 ≤ x / 4096 ∧ x / 4096 < 16 := by omega
  generalize hK : x / 4096 = k at *
  have hx : k * 4096 ≤ x ∧ x < k * 4096 + 4096 := by omega
  rcases kinds hk with rfl | rfl | rfl | rfl | rfl | rfl | rfl | rfl | rfl | rfl | rfl | rfl | rfl | rfl | rfl | rfl <;>
    (simp [rdv, rdx, hK, layN, layL, eB, eL, encL, valD, taken, rested, slv, sn, sne, snr, hN, hasL, sl, hD, hA, hB, hF, ext, sgnW]
     try (refine ⟨?_, ?_, ?_, ?_, ?_⟩)
     all_goals (repeat' split) <;> omega)
/-- Of what the model reads: no instruction: nothing; an instruction: one just if its word is this one. -/
theorem gd_slv (x : Int) (x0 : 0 ≤ x) (x1 : x < 65536) (h : iok (x / 4096) (slv (x / 4096) x 0) (slv (x / 4096) x 1) (slv (x / 4096) x 2) (slv (x / 4096) x 3) (sn (x / 4096) x) = false) : gd x = false := by
  obtain ⟨e0, e1, e2, e3, e4⟩ := rd_eq x x0 x1
  simp [gd, e0, e1, e2, e3, e4, h]
set_option maxHeartbeats 4000000 in
theorem worD_rdx (x : Int) (x0 : 0 ≤ x) (x1 : x < 65536) : wrd (x / 4096) (fldL (slv (x / 4096) x 0) (slv (x / 4096) x 1) (slv (x / 4096) x 2) (slv (x / 4096) x 3) (sn (x / 4096) x)) 5 = x ↔ rdx x 5 = 0 := by
  have hk : 0 ≤ x / 4096 ∧ x / 4096 < 16 := by omega
  generalize hK : x / 4096 = k at *
  have hx : k * 4096 ≤ x ∧ x < k * 4096 + 4096 := by omega
  rcases kinds hk with rfl | rfl | rfl | rfl | rfl | rfl | rfl | rfl | rfl | rfl | rfl | rfl | rfl | rfl | rfl | rfl <;>
    (simp [rdx, hK, layN, layL, eB, encL, rested, slv, sn, sne, snr, hN, hasL, sl, hD, hA, hB, hF, wrd, lft, fldL]
     try (repeat' split) <;> omega)
theorem gd_worD (x : Int) (x0 : 0 ≤ x) (x1 : x < 65536) (h : iok (x / 4096) (slv (x / 4096) x 0) (slv (x / 4096) x 1) (slv (x / 4096) x 2) (slv (x / 4096) x 3) (sn (x / 4096) x) = true) :
    gd x = (worD (x / 4096) (slv (x / 4096) x 0) (slv (x / 4096) x 1) (slv (x / 4096) x 2) (slv (x / 4096) x 3) (sn (x / 4096) x) == x) := by
  obtain ⟨e0, e1, e2, e3, e4⟩ := rd_eq x x0 x1
  have hw := worD_rdx x x0 x1
  rw [worD_t h]
  have ho := okB_mk x0 x1
  rw [Bool.eq_iff_iff]
  simp only [gd, e0, e1, e2, e3, e4, h, ho, Bool.true_and, Bool.and_true, beq_iff_eq]
  exact hw.symm

end Go.Proofs.YtbjapncfgancoaaDoor
