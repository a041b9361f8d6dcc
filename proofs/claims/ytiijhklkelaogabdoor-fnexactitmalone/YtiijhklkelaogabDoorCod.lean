/- Chapter 2: the tables; the contracts of fieldsOf, holds and CodOk, of the program and of the model. Small functions of package laws that the laws of chapter 2 call. Numbers: an instruction as a word, field by field. The bit reader: Len64 at 65535, take, value. -/
import Derived.Test.YtiijhklkelaogabDoorReader
import Derived.Test.YtiijhklkelaogabDoorWords
namespace Go.Proofs.YtiijhklkelaogabDoor
open Go.RowKit
set_option linter.unusedVariables false

/-- What the tables hold: the encodings (bits, least, greatest), and the layouts (an encoding a place). -/
def encL : List Int := [0, 0, 0, 3, 0, 7, 3, 0, 7, 3, 0, 4, 6, -32, 31, 9, -256, 255, 9, 0, 511]
def layL : List Int := [1, 1, 1, 2, 0, 1, 1, 0, 0, 4, 1, 0, 0, 0, 6, 1, 1, 0, 0, 4, 0, 1, 1, 0, 4, 0, 1, 1, 0, 4, 0, 1, 1, 0, 4, 1, 0, 0, 0, 5, 1, 1, 0, 0, 4, 1, 1, 1, 0, 0, 1, 1, 1, 0, 0, 0, 0, 0, 0, 0, 0, 0, 0, 0, 6, 0, 0, 0, 0, 0, 1, 0, 0, 3, 0, 0, 1, 0, 3, 0]
structure Tabs (w : World) : Prop where
  enc : ∀ i, i < 21 → w.cell? ⟨0, i, none⟩ = some (.int .i64 (encL.getD i 0))
  lay : ∀ i, i < 80 → w.cell? ⟨1, i, none⟩ = some (.int .i64 (layL.getD i 0))
theorem Tabs.two {w : World} (h : Tabs w) : 2 ≤ w.heap.size := lt_of_cell (h.lay 0 (by decide))
theorem Tabs.below {B : Nat} {w w' : World} (h : Tabs w) (hb : Below B w w') (hB : 2 ≤ B) : Tabs w' :=
  ⟨fun i hi => by rw [hb.cell (show 0 < B by omega)]; exact h.enc i hi, fun i hi => by rw [hb.cell (show 1 < B by omega)]; exact h.lay i hi⟩
/-- Nothing that was there has turned. -/
abbrev Fr (w w' : World) : Prop := Below w.heap.size w w'
theorem Fr.trans {a b c : World} (h : Fr a b) (k : Fr b c) : Fr a c := Below.trans h (k.mono h.size)
theorem Tabs.fr {w w' : World} (h : Tabs w) (hb : Fr w w') : Tabs w' := h.below hb h.two
theorem Fr.alloc (w : World) (o : Obj) : Fr w (w.alloc o) := (Below.refl _ _).alloc (Nat.le_refl _) _

theorem impl_fieldsOf (k d a b f n : Int) (w : World) : Calls Tryd.prog 32 #[.agg #[.int .i64 k, .int .i64 d, .int .i64 a, .int .i64 b, .int .i64 f, .int .i64 n]] w fun e w' => e = .returned (.agg #[.int .i64 d, .int .i64 a, .int .i64 b, .int .i64 f, .int .i64 n]) ∧ Fr w w' := by
  go_enter Tryd.func32, Tryd.ntmps32
  go_wp2
  refine bodyPost_ret (v := .agg #[.int .i64 d, .int .i64 a, .int .i64 b, .int .i64 f, .int .i64 n]) (by simp [results, Tryd.results32, go_sem]) rfl ⟨rfl, ?_⟩
  (repeat' first | (with_reducible exact Below.refl _ _) | (with_reducible assumption) | ((with_reducible refine Below.setCell ?_ ?hb _); (case hb => first | exact Nat.le_refl _ | (simp; done) | (simp; omega) | omega)) | ((with_reducible refine Below.alloc ?_ ?hb _); (case hb => first | exact Nat.le_refl _ | (simp; done) | (simp; omega) | omega)) | (with_reducible refine Below.drew ?_))
theorem impl_holds (x l g v : Int) (w : World) : Calls Tryd.prog 33 #[.agg #[.int .i64 x, .int .i64 l, .int .i64 g], .int .i64 v] w fun e w' => e = .returned (.bool (decide (l ≤ v ∧ v ≤ g))) ∧ Fr w w' := by
  by_cases h1 : l ≤ v
  · go_enter Tryd.func33, Tryd.ntmps33
    go_wp2
    go_ret
    exact ⟨ret_bool (by simp; omega), Fr.alloc _ _⟩
  · have h2 : decide (l ≤ v) = false := by simp; omega
    go_enter Tryd.func33, Tryd.ntmps33
    go_wp2
    go_ret
    exact ⟨ret_bool (by symm; simp; try omega), Fr.alloc _ _⟩
/-- An instruction's fields by their places. -/
def fldL (d a b f n : Int) : List Int := [d, a, b, f, n]
/-- The encoding of place p of kind k; its bits, its least and its greatest value. -/
def layN (k : Int) (p : Nat) : Nat := (layL.getD (k.toNat * 5 + p) 0).toNat
def eB (h : Nat) : Int := encL.getD (h * 3) 0
def eL (h : Nat) : Int := encL.getD (h * 3 + 1) 0
def eG (h : Nat) : Int := encL.getD (h * 3 + 2) 0
def okAt (k : Int) (p : Nat) (v : Int) : Bool := decide (eL (layN k p) ≤ v ∧ v ≤ eG (layN k p))
def iok (k d a b f n : Int) : Bool := decide (0 ≤ k ∧ k < 16) && (okAt k 0 d && (okAt k 1 a && (okAt k 2 b && (okAt k 3 f && okAt k 4 n))))
theorem lay_bd : ∀ i, i < 80 → 0 ≤ layL.getD i 0 ∧ layL.getD i 0 < 7 := by decide
theorem Tabs.layAt {w : World} (h : Tabs w) (k : Int) (p : Nat) (hk : 0 ≤ k ∧ k < 16) (hp : p < 5) : w.cell? ⟨1, k.toNat * 5 + p, none⟩ = some (.int .i64 (layN k p)) := by
  have h1 := lay_bd (k.toNat * 5 + p) (by omega)
  rw [h.lay _ (by omega)]
  simp only [layN, Int.toNat_of_nonneg h1.1]
theorem layN_lt (k : Int) (p : Nat) (hk : 0 ≤ k ∧ k < 16) (hp : p < 5) : layN k p < 7 := by
  have h1 := lay_bd (k.toNat * 5 + p) (by omega)
  unfold layN; omega
theorem Tabs.encAt {w : World} (h : Tabs w) (m : Nat) (hm : m < 7) : w.cell? ⟨0, m * 3, none⟩ = some (.int .i64 (eB m)) ∧ w.cell? ⟨0, m * 3 + 1, none⟩ = some (.int .i64 (eL m)) ∧ w.cell? ⟨0, m * 3 + 2, none⟩ = some (.int .i64 (eG m)) :=
  ⟨h.enc _ (by omega), h.enc _ (by omega), h.enc _ (by omega)⟩
theorem fld0 (d a b f n : Int) (w : World) : (Instr.index 53 (.agg #[.int .i64 d, .int .i64 a, .int .i64 b, .int .i64 f, .int .i64 n]) (.int .i64 0)).run Tryd.prog w = .ok (.int .i64 d) w := by kernel_rfl
theorem fld1 (d a b f n : Int) (w : World) : (Instr.index 53 (.agg #[.int .i64 d, .int .i64 a, .int .i64 b, .int .i64 f, .int .i64 n]) (.int .i64 1)).run Tryd.prog w = .ok (.int .i64 a) w := by kernel_rfl
theorem fld2 (d a b f n : Int) (w : World) : (Instr.index 53 (.agg #[.int .i64 d, .int .i64 a, .int .i64 b, .int .i64 f, .int .i64 n]) (.int .i64 2)).run Tryd.prog w = .ok (.int .i64 b) w := by kernel_rfl
theorem fld3 (d a b f n : Int) (w : World) : (Instr.index 53 (.agg #[.int .i64 d, .int .i64 a, .int .i64 b, .int .i64 f, .int .i64 n]) (.int .i64 3)).run Tryd.prog w = .ok (.int .i64 f) w := by kernel_rfl
theorem fld4 (d a b f n : Int) (w : World) : (Instr.index 53 (.agg #[.int .i64 d, .int .i64 a, .int .i64 b, .int .i64 f, .int .i64 n]) (.int .i64 4)).run Tryd.prog w = .ok (.int .i64 n) w := by kernel_rfl
theorem fld_index (d a b f n : Int) (p : Nat) (hp : p < 5) (w : World) : (Instr.index 53 (.agg #[.int .i64 d, .int .i64 a, .int .i64 b, .int .i64 f, .int .i64 n]) (.int .i64 p)).run Tryd.prog w = .ok (.int .i64 ((fldL d a b f n).getD p 0)) w := by
  have hp' : p = 0 ∨ p = 1 ∨ p = 2 ∨ p = 3 ∨ p = 4 := by omega
  rcases hp' with rfl | rfl | rfl | rfl | rfl
  · exact fld0 ..
  · exact fld1 ..
  · exact fld2 ..
  · exact fld3 ..
  · exact fld4 ..
def AllOk (k d a b f n : Int) (p : Nat) : Prop := ∀ j, j < p → okAt k j ((fldL d a b f n).getD j 0) = true
theorem iok_all {k d a b f n : Int} (hk : 0 ≤ k ∧ k < 16) (h : AllOk k d a b f n 5) : iok k d a b f n = true := by
  have h0 := h 0 (by decide)
  have h1 := h 1 (by decide)
  have h2 := h 2 (by decide)
  have h3 := h 3 (by decide)
  have h4 := h 4 (by decide)
  simp [fldL] at h0 h1 h2 h3 h4
  simp [iok, h0, h1, h2, h3, h4]
  exact hk
theorem iok_not {k d a b f n : Int} (p : Nat) (hp : p < 5) (h : okAt k p ((fldL d a b f n).getD p 0) = false) : iok k d a b f n = false := by
  have hp' : p = 0 ∨ p = 1 ∨ p = 2 ∨ p = 3 ∨ p = 4 := by omega
  rcases hp' with rfl | rfl | rfl | rfl | rfl <;> simp [fldL] at h <;> simp [iok, h]
theorem iok_kind {k d a b f n : Int} (h : ¬ (0 ≤ k ∧ k < 16)) : iok k d a b f n = false := by simp [iok, h]
theorem AllOk.next {k d a b f n : Int} {p : Nat} (h : AllOk k d a b f n p) (hp : okAt k p ((fldL d a b f n).getD p 0) = true) : AllOk k d a b f n (p + 1) := by
  intro j hj
  by_cases e : j = p
  · rw [e]; exact hp
  · exact h j (by omega)
set_option maxHeartbeats 2000000 in
theorem impl_CodOk (k d a b f n : Int) (w : World) (ht : Tabs w) : Calls Tryd.prog 13 #[.agg #[.int .i64 k, .int .i64 d, .int .i64 a, .int .i64 b, .int .i64 f, .int .i64 n]] w fun e w' => e = .returned (.bool (iok k d a b f n)) ∧ Fr w w' := by
  by_cases hk : 0 ≤ k ∧ k < 16
  · have HK := Lib.hid hk
    obtain ⟨k0, k1⟩ := hk
    have k2 : ¬ k < 0 := by omega
    have k3 : ¬ 16 ≤ k := by omega
    have h2 := ht.two
    go_enter Tryd.func13, Tryd.ntmps13
    go_wp2_with (go_at_call 32; refine (impl_fieldsOf _ _ _ _ _ _ _).mono ?_; rintro e w1 ⟨rfl, f1⟩)
    go_loopw [15] (fun i wr => ∃ p : Nat, p ≤ 5 ∧ i = .int .i64 p ∧ Below (w.heap.size + 1) (w.alloc (.cells #[.int .i64 k, .int .i64 d, .int .i64 a, .int .i64 b, .int .i64 f, .int .i64 n] 25)) wr ∧ AllOk k d a b f n p) (fun i _ => 5 - (intOf i).toNat)
    case atStart => exact ⟨0, by omega, rfl, f1.mono (by simp), fun j hj => by omega⟩
    case round =>
      obtain ⟨p, hp, rfl, hb, hok⟩ := hrel
      have hsz := hb.size
      simp at hsz
      have hfr : Fr w wr := Below.trans (Fr.alloc w _) (hb.mono (by omega))
      by_cases h5 : p < 5
      · have htr := ht.fr hfr
        have c0 : wr.cell? ⟨w.heap.size, 0, none⟩ = some (.int .i64 k) := by rw [hb.cell (by simp)]; simp
        have x := fld_index d a b f n p h5 wr
        have h5' : (p : Int) < 5 := by omega
        have c1 := htr.layAt k p HK.out h5
        have c5 := layN_lt k p HK.out h5
        obtain ⟨c2, c3, c4⟩ := htr.encAt _ c5
        cases hq : okAt k p ((fldL d a b f n).getD p 0)
        · have hno := Lib.hid (iok_not p h5 hq)
          have hq' : decide (eL (layN k p) ≤ ((fldL d a b f n)[p]?.getD 0) ∧ ((fldL d a b f n)[p]?.getD 0) ≤ eG (layN k p)) = false := hq
          clear hq hok
          go_wp2_with (go_at_call 33; refine (impl_holds _ _ _ _ _).mono ?_; rintro e w' ⟨rfl, f2⟩; rw [hq'])
          go_ret
          exact ⟨ret_bool hno.out.symm, hfr.trans f2⟩
        · have hnx := Lib.hid (hok.next hq)
          have hq' : decide (eL (layN k p) ≤ ((fldL d a b f n)[p]?.getD 0) ∧ ((fldL d a b f n)[p]?.getD 0) ≤ eG (layN k p)) = true := hq
          clear hq hok
          go_wp2_with (go_at_call 33; refine (impl_holds _ _ _ _ _).mono ?_; rintro e w' ⟨rfl, f2⟩; rw [hq'])
          go_roundw
          case rel => exact ⟨p + 1, by omega, by go_num, Below.trans hb (f2.mono hsz), hnx.out⟩
          case measure => simp [intOf]; omega
      · have h6 : p = 5 := by omega
        subst h6
        have hyes := Lib.hid (iok_all HK.out hok)
        clear hok
        go_wp2
        go_ret
        exact ⟨ret_bool hyes.out.symm, hfr⟩
  · have hno := Lib.hid (iok_kind (d := d) (a := a) (b := b) (f := f) (n := n) hk)
    by_cases h1 : k < 0
    · clear hk
      go_enter Tryd.func13, Tryd.ntmps13
      go_wp2
      go_ret
      exact ⟨ret_bool hno.out.symm, Fr.alloc _ _⟩
    · have h2 : 16 ≤ k := by omega
      clear hk
      go_enter Tryd.func13, Tryd.ntmps13
      go_wp2
      go_ret
      exact ⟨ret_bool hno.out.symm, Fr.alloc _ _⟩

/-- What a kind has, by the model: D, A, B, F, and the bits of N. -/
def hD (k : Int) : Bool := k == 0 || k == 1 || k == 2 || k == 3 || k == 7 || k == 8 || k == 9 || k == 10 || k == 14
def hA (k : Int) : Bool := k == 0 || k == 1 || k == 3 || k == 4 || k == 5 || k == 6 || k == 8 || k == 9 || k == 10 || k == 15
def hB (k : Int) : Bool := k == 0 || k == 4 || k == 5 || k == 6 || k == 9 || k == 10
def hF (k : Int) : Bool := k == 0 || k == 14 || k == 15
def hN (k : Int) : Int := if k = 1 ∨ k = 3 ∨ k = 8 ∨ k = 4 ∨ k = 5 ∨ k = 6 then 6 else if k = 2 ∨ k = 7 ∨ k = 12 then 9 else 0
theorem kinds {k : Int} (h : 0 ≤ k ∧ k < 16) : k = 0 ∨ k = 1 ∨ k = 2 ∨ k = 3 ∨ k = 4 ∨ k = 5 ∨ k = 6 ∨ k = 7 ∨ k = 8 ∨ k = 9 ∨ k = 10 ∨ k = 11 ∨ k = 12 ∨ k = 13 ∨ k = 14 ∨ k = 15 := by omega
set_option maxHeartbeats 2000000 in
theorem spec_l2Has (k : Int) (hk : 0 ≤ k ∧ k < 16) (w : World) : Calls Tryd.prog 29 #[.int .i64 k] w fun e w' => e = .returned (.tuple #[.bool (hD k), .bool (hA k), .bool (hB k), .bool (hF k), .int .i64 (hN k)]) ∧ w = w' := by
  rcases kinds hk with rfl | rfl | rfl | rfl | rfl | rfl | rfl | rfl | rfl | rfl | rfl | rfl | rfl | rfl | rfl | rfl
  all_goals
    go_enter Tryd.func29, Tryd.ntmps29
    go_wp2
    refine bodyPost_ret (v := _) (by simp [results, Tryd.results29, go_sem]; rfl) rfl ⟨?_, rfl⟩
    rfl
theorem spec_l2Reg (n : Int) (w : World) : Calls Tryd.prog 30 #[.int .i64 n] w fun e w' => e = .returned (.bool (decide (0 ≤ n ∧ n ≤ 7))) ∧ w = w' := by
  go_enter Tryd.func30, Tryd.ntmps30
  go_wp2_with (go_at_call 15; refine (spec_l1In _ _ _ _).mono ?_; rintro e w' ⟨rfl, rfl⟩)
  go_ret
  exact ⟨ret_bool (by simp), rfl⟩
theorem quiet_mine {P : Program} {f : FuncId} {args : Array Value} {w : World} {n : Nat} {v : Value}
    (h : Calls P f args (w.drewN n) fun e w' => e = .returned v ∧ w.drewN n = w') : Calls P f args (w.drewN n) fun e w'' => e = .returned v ∧ ∃ m, w'' = w.drewN m :=
  h.mono fun _ _ ⟨he, hm⟩ => ⟨he, n, hm.symm⟩
def numOk (k n : Int) : Bool := if hN k = 0 then n == 0 else if k = 12 ∨ k = 2 then decide (0 ≤ n ∧ n ≤ 511) else if hN k = 6 then decide (-32 ≤ n ∧ n ≤ 31) else decide (-256 ≤ n ∧ n ≤ 255)
set_option maxHeartbeats 2000000 in
theorem spec_l2Num (k n : Int) (hk : 0 ≤ k ∧ k < 16) (w : World) : Calls Tryd.prog 31 #[.int .i64 k, .int .i64 n, .int .i64 (hN k)] w fun e w' => e = .returned (.bool (numOk k n)) ∧ ∃ m, w.drewN m = w' := by
  rcases kinds hk with rfl | rfl | rfl | rfl | rfl | rfl | rfl | rfl | rfl | rfl | rfl | rfl | rfl | rfl | rfl | rfl
  all_goals
    simp only [hN, numOk]
    simp
    go_enter Tryd.func31, Tryd.ntmps31
    go_wp2_with (go_at_call 15; refine (spec_l1In _ _ _ _).mono ?_; rintro e w' ⟨rfl, rfl⟩)
    first
    | (go_ret; exact ⟨ret_bool (by simp), 0, rfl⟩)
    | (go_quiet ((go_at_call 15; refine quiet_mine (spec_l1In _ _ _ _)))
       go_wp2
       go_ret
       exact ⟨ret_bool (by simp), _, rfl⟩)
def topF (k : Int) : Int := if k = 14 ∨ k = 15 then 4 else if k = 0 then 7 else 0
def regOk (h : Bool) (r : Int) : Bool := r == 0 || (h && decide (0 ≤ r ∧ r ≤ 7))
def sok (k d a b f n : Int) : Bool := decide (0 ≤ k ∧ k ≤ 15) && (regOk (hD k) d && (regOk (hA k) a && (regOk (hB k) b && (decide (0 ≤ f ∧ f ≤ topF k) && numOk k n))))
theorem sok_eq (k d a b f n : Int) : sok k d a b f n = iok k d a b f n := by
  by_cases hk : 0 ≤ k ∧ k < 16
  · rw [Bool.eq_iff_iff]
    rcases kinds hk with rfl | rfl | rfl | rfl | rfl | rfl | rfl | rfl | rfl | rfl | rfl | rfl | rfl | rfl | rfl | rfl <;>
      simp [sok, iok, okAt, layN, layL, eL, eG, encL, regOk, hD, hA, hB, topF, numOk, hN] <;> omega
  · rw [iok_kind hk]
    have : ¬ (0 ≤ k ∧ k ≤ 15) := by omega
    simp [sok, this]

/-- An instruction lies in block g. -/
structure Box (w : World) (g : Nat) (k d a b f n : Int) : Prop where
  c0 : w.cell? ⟨g, 0, none⟩ = some (.int .i64 k)
  c1 : w.cell? ⟨g, 1, none⟩ = some (.int .i64 d)
  c2 : w.cell? ⟨g, 2, none⟩ = some (.int .i64 a)
  c3 : w.cell? ⟨g, 3, none⟩ = some (.int .i64 b)
  c4 : w.cell? ⟨g, 4, none⟩ = some (.int .i64 f)
  c5 : w.cell? ⟨g, 5, none⟩ = some (.int .i64 n)
theorem Box.lt {w : World} {g : Nat} {k d a b f n : Int} (h : Box w g k d a b f n) : g < w.heap.size := lt_of_cell h.c0
theorem Box.below {w w' : World} {g B : Nat} {k d a b f n : Int} (h : Box w g k d a b f n) (hb : Below B w w') (hB : g < B) : Box w' g k d a b f n :=
  ⟨(hb.cell hB).trans h.c0, (hb.cell hB).trans h.c1, (hb.cell hB).trans h.c2, (hb.cell hB).trans h.c3, (hb.cell hB).trans h.c4, (hb.cell hB).trans h.c5⟩
theorem Box.fr {w w' : World} {g : Nat} {k d a b f n : Int} (h : Box w g k d a b f n) (hb : Fr w w') : Box w' g k d a b f n := h.below hb h.lt
theorem Box.new (w : World) (k d a b f n : Int) (t : TypeId) : Box (w.alloc (.cells #[.int .i64 k, .int .i64 d, .int .i64 a, .int .i64 b, .int .i64 f, .int .i64 n] t)) w.heap.size k d a b f n := by
  constructor <;> simp
theorem laws_toCodInst (k d a b f n : Int) (w : World) : Calls Tryd.prog 6 #[.agg #[.int .i64 k, .int .i64 d, .int .i64 a, .int .i64 b, .int .i64 f, .int .i64 n]] w fun e w' => e = .returned (.agg #[.int .i64 k, .int .i64 d, .int .i64 a, .int .i64 b, .int .i64 f, .int .i64 n]) ∧ Fr w w' := by
  go_enter Tryd.func6, Tryd.ntmps6
  go_wp2
  refine bodyPost_ret (v := .agg #[.int .i64 k, .int .i64 d, .int .i64 a, .int .i64 b, .int .i64 f, .int .i64 n]) (by simp [results, Tryd.results6, go_sem]) rfl ⟨rfl, ?_⟩
  (repeat' first | (with_reducible exact Below.refl _ _) | (with_reducible assumption) | ((with_reducible refine Below.setCell ?_ ?hb _); (case hb => first | exact Nat.le_refl _ | (simp; done) | (simp; omega) | omega)) | ((with_reducible refine Below.alloc ?_ ?hb _); (case hb => first | exact Nat.le_refl _ | (simp; done) | (simp; omega) | omega)) | (with_reducible refine Below.drew ?_))

/-- How many bits are left behind p places; the word so far. -/
def lft (k : Int) : Nat → Int
  | 0 => 12
  | p + 1 => lft k p - eB (layN k p)
def wrd (k : Int) (v : List Int) : Nat → Int
  | 0 => k * 4096
  | p + 1 => wrd k v p + (v.getD p 0 % 2 ^ (eB (layN k p)).toNat) * 2 ^ (lft k (p + 1)).toNat
theorem eB_vals : ∀ m, m < 7 → eB m = 0 ∨ eB m = 3 ∨ eB m = 6 ∨ eB m = 9 := by decide
theorem lft_bdN : ∀ K : Fin 16, ∀ p : Fin 6, 0 ≤ lft ((K.val : Nat) : Int) p.val ∧ lft ((K.val : Nat) : Int) p.val ≤ 12 := by decide
theorem lft_bd (k : Int) (p : Nat) (hk : 0 ≤ k ∧ k < 16) (hp : p ≤ 5) : 0 ≤ lft k p ∧ lft k p ≤ 12 := by
  have h := lft_bdN ⟨k.toNat, by omega⟩ ⟨p, by omega⟩
  have e : ((k.toNat : Nat) : Int) = k := by omega
  simp only [e] at h
  exact h
theorem le12 {l : Int} (h0 : 0 ≤ l) (h1 : l ≤ 12) : l = 0 ∨ l = 1 ∨ l = 2 ∨ l = 3 ∨ l = 4 ∨ l = 5 ∨ l = 6 ∨ l = 7 ∨ l = 8 ∨ l = 9 ∨ l = 10 ∨ l = 11 ∨ l = 12 := by omega
/-- The word so far, in bounds, noughts behind. -/
theorem wrd_inv (k : Int) (v : List Int) (hk : 0 ≤ k ∧ k < 16) : ∀ p, p ≤ 5 → 0 ≤ wrd k v p ∧ wrd k v p + 2 ^ (lft k p).toNat ≤ 65536 ∧ wrd k v p % 2 ^ (lft k p).toNat = 0
  | 0, _ => by simp [wrd, lft]; omega
  | p + 1, hp => by
    obtain ⟨h0, h1, h2⟩ := wrd_inv k v hk p (by omega)
    have hb := eB_vals _ (layN_lt k p hk (by omega))
    have l1 := lft_bd k p hk (by omega)
    have l2 := lft_bd k (p + 1) hk hp
    have e : lft k (p + 1) = lft k p - eB (layN k p) := rfl
    rw [wrd]
    generalize v.getD p 0 = x
    generalize wrd k v p = o at *
    rw [e] at l2 ⊢
    generalize lft k p = l at *
    rcases hb with hb | hb | hb | hb <;> rw [hb] at l2 ⊢ <;> clear hb e
    · simp
      exact ⟨h0, h1, h2⟩
    all_goals
      have hl := le12 l1.1 l1.2
      rcases hl with rfl | rfl | rfl | rfl | rfl | rfl | rfl | rfl | rfl | rfl | rfl | rfl | rfl <;> first | omega | (simp at h1 h2 ⊢; omega)
theorem and_mask (v : Int) (B : Nat) (hB : B ≤ 9) : bits .and .i64 v (2 ^ B - 1) = v % 2 ^ B := by
  have hp : (2 : Nat) ^ B ≤ 2 ^ 9 := Nat.pow_le_pow_right (by decide) hB
  have hq : 0 < (2 : Nat) ^ B := Nat.pow_pos (by decide)
  have e1 : ((2 : Int) ^ B - 1) = ((2 ^ B - 1 : Nat) : Int) := by
    rw [Int.ofNat_sub hq]; simp
  show IntKind.i64.wrap ((BitVec.ofInt 64 v &&& BitVec.ofInt 64 (2 ^ B - 1)).toNat : Int) = _
  rw [BitVec.toNat_and, e1, i64_of ((2 ^ B - 1 : Nat) : Int) (by omega) (by omega), Int.toNat_natCast, Nat.and_two_pow_sub_one_eq_mod]
  have e2 : (((BitVec.ofInt 64 v).toNat % 2 ^ B : Nat) : Int) = v % 2 ^ B := by
    rw [BitVec.toNat_ofInt]
    have h0 : 0 ≤ v % ((2 ^ 64 : Nat) : Int) := Int.emod_nonneg _ (by decide)
    rw [Int.natCast_emod, Int.toNat_of_nonneg h0, Int.natCast_pow]
    have hd : ((2 : Int) ^ B) ∣ ((2 ^ 64 : Nat) : Int) := by
      have : ((2 ^ B : Nat) : Int) ∣ ((2 ^ 64 : Nat) : Int) := Int.natCast_dvd_natCast.mpr (Nat.pow_dvd_pow 2 (by omega))
      simpa using this
    simpa using Int.emod_emod_of_dvd v hd
  have h1 : (BitVec.ofInt 64 v).toNat % 2 ^ B < 2 ^ B := Nat.mod_lt _ hq
  rw [IntWalk.i64_left, IntWalk.wrap64_in _ (by omega), e2]
theorem or_step (o x : Int) (L B : Nat) (o0 : 0 ≤ o) (o1 : o < 65536) (x0 : 0 ≤ x) (x1 : x < 2 ^ B) (h : o % 2 ^ (L + B) = 0) (hs : L + B ≤ 12) : bits .or .i64 o (x * 2 ^ L) = o + x * 2 ^ L := by
  obtain ⟨O, rfl⟩ := Int.eq_ofNat_of_zero_le o0
  obtain ⟨X, rfl⟩ := Int.eq_ofNat_of_zero_le x0
  have x2 : X < 2 ^ B := by
    have : ((X : Nat) : Int) < ((2 ^ B : Nat) : Int) := by simpa using x1
    exact Int.ofNat_lt.mp this
  have h2 : O % 2 ^ (L + B) = 0 := by
    have : ((O % 2 ^ (L + B) : Nat) : Int) = 0 := by simpa using h
    exact Int.ofNat_eq_zero.mp this
  have hy : X * 2 ^ L < 2 ^ (L + B) := by
    rw [Nat.pow_add, Nat.mul_comm (2 ^ L)]
    exact Nat.mul_lt_mul_of_pos_right x2 (Nat.pow_pos (by decide))
  have hp : (2 : Nat) ^ (L + B) ≤ 2 ^ 12 := Nat.pow_le_pow_right (by decide) hs
  have e1 : ((X : Int) * 2 ^ L) = ((X * 2 ^ L : Nat) : Int) := by simp
  rw [e1, i64_or_w _ _ (by omega) o1 (by omega) (by omega), Int.toNat_natCast, Int.toNat_natCast]
  obtain ⟨q, hq⟩ : 2 ^ (L + B) ∣ O := Nat.dvd_of_mod_eq_zero h2
  have e2 : O ||| X * 2 ^ L = O + X * 2 ^ L := by
    have := Nat.shiftLeft_add_eq_or_of_lt hy q
    rw [Nat.shiftLeft_eq, Nat.mul_comm q, ← hq] at this
    exact this.symm
  rw [e2]
  simp
theorem emod_pow_bd (v : Int) (B : Nat) : 0 ≤ v % 2 ^ B ∧ v % 2 ^ B < 2 ^ B := by
  have h : (0 : Int) < 2 ^ B := Int.pow_pos (by decide)
  exact ⟨Int.emod_nonneg _ (by omega), Int.emod_lt_of_pos _ h⟩
/-- One place more, in the walk's own form. -/
theorem wrd_step (k : Int) (v : List Int) (p : Nat) (hk : 0 ≤ k ∧ k < 16) (hp : p < 5) :
    bits .or .i64 (wrd k v p) (wrap64 (bits .and .i64 (v[p]?.getD 0) (wrap64 (wrap64 (2 ^ (eB (layN k p)).toNat) - 1)) * 2 ^ (lft k p - eB (layN k p)).toNat)) = wrd k v (p + 1) := by
  obtain ⟨h0, h1, h2⟩ := wrd_inv k v hk p (by omega)
  have hb := eB_vals _ (layN_lt k p hk (by omega))
  have l1 := lft_bd k p hk (by omega)
  have l2 := lft_bd k (p + 1) hk hp
  have e : lft k (p + 1) = lft k p - eB (layN k p) := rfl
  rw [wrd, e]
  rw [e] at l2
  have eg : v.getD p 0 = v[p]?.getD 0 := rfl
  rw [eg]
  obtain ⟨B, hB⟩ : ∃ B : Nat, eB (layN k p) = B := ⟨(eB (layN k p)).toNat, by omega⟩
  rw [hB] at l2 hb ⊢
  have hB9 : B ≤ 9 := by omega
  obtain ⟨L, hL⟩ : ∃ L : Nat, lft k p = ((L + B : Nat) : Int) := ⟨(lft k p).toNat - B, by omega⟩
  have hL2 : (lft k p - (B : Int)).toNat = L := by omega
  rw [hL2, Int.toNat_natCast]
  have hp2 : (2 : Nat) ^ B ≤ 2 ^ 9 := Nat.pow_le_pow_right (by decide) hB9
  have hp3 : ((2 ^ B : Nat) : Int) = (2 : Int) ^ B := by simp
  have hp4 : 0 < (2 : Nat) ^ B := Nat.pow_pos (by decide)
  rw [IntWalk.wrap64_in (2 ^ B) (by omega), IntWalk.wrap64_in (2 ^ B - 1) (by omega), and_mask _ B hB9]
  have hm := emod_pow_bd (v[p]?.getD 0) B
  have hx : (v[p]?.getD 0) % 2 ^ B * 2 ^ L < 65536 := by
    have a1 : (v[p]?.getD 0) % 2 ^ B * 2 ^ L ≤ 2 ^ B * 2 ^ L := Int.mul_le_mul_of_nonneg_right (by omega) (by exact Int.le_of_lt (Int.pow_pos (by decide)))
    have a2 : (2 : Nat) ^ (L + B) ≤ 2 ^ 12 := Nat.pow_le_pow_right (by decide) (by omega)
    have a3 : ((2 ^ (L + B) : Nat) : Int) = 2 ^ B * 2 ^ L := by rw [Nat.pow_add, Nat.mul_comm]; simp
    omega
  have hy : 0 ≤ (v[p]?.getD 0) % 2 ^ B * 2 ^ L := Int.mul_nonneg hm.1 (Int.le_of_lt (Int.pow_pos (by decide)))
  rw [IntWalk.wrap64_in _ (by omega)]
  rw [hL, Int.toNat_natCast] at h1 h2
  have hp5 : 0 < (2 : Int) ^ (L + B) := Int.pow_pos (by decide)
  exact or_step _ _ L B h0 (by omega) hm.1 hm.2 h2 (by omega)

set_option maxRecDepth 100000 in
theorem bits_Len64 (w : World) : Calls Tryd.prog 49 #[.int .u64 65535] w fun e w' => e = .returned (.int .i64 16) ∧ w = w' := by
  go_enter Tryd.func49, Tryd.ntmps49
  go_wp2
  go_ret
  exact ⟨by kernel_rfl, rfl⟩
def taken (x b : Int) : Int := x / 2 ^ (16 - b).toNat
def rested (x b : Int) : Int := x * 2 ^ b.toNat % 65536
--[need (*impl.bitReader[impl.word]).take]
theorem impl_take (g : Nat) (x b : Int) (b0 : 0 ≤ b) (b1 : b ≤ 16) (x0 : 0 ≤ x) (x1 : x < 65536) (w : World) (hc : w.cell? ⟨g, 0, none⟩ = some (.int .u16 x)) (hf : w.frozen? ⟨g, 0, none⟩ = false) :
    Calls Tryd.prog 46 #[.pointer (some ⟨g, 0, none⟩), .int .i64 b] w fun e w' => e = .returned (.int .u16 (taken x b)) ∧ w.setCell ⟨g, 0, none⟩ (.int .u16 (rested x b)) = w' := by
  go_enter Tryd.func46, Tryd.ntmps46
  go_wp2_with (go_at_call 49; refine (bits_Len64 _).mono ?_; rintro e w' ⟨rfl, rfl⟩)
  go_ret
  have e : rested x b = IntKind.u16.wrap (x * 2 ^ b.toNat) := by simp [rested, IntKind.wrap, IntKind.bits, IntKind.signed]
  exact ⟨rfl, by rw [e]⟩
--[end]
def valD (b l x : Int) : Int := if l < 0 then sgnW (ext x b) else x
theorem valD_t {b l x : Int} (h : l < 0) : valD b l x = sgnW (ext x b) := if_pos h
theorem valD_f {b l x : Int} (h : ¬ l < 0) : valD b l x = x := if_neg h
theorem impl_value (b l g x : Int) (b0 : l < 0 → 1 ≤ b) (b1 : b ≤ 16) (x0 : 0 ≤ x) (x1 : x < 65536) (x2 : l < 0 → x < 2 ^ b.toNat) (w : World) :
    Calls Tryd.prog 47 #[.agg #[.int .i64 b, .int .i64 l, .int .i64 g], .int .u16 x] w fun e w' => e = .returned (.int .i64 (valD b l x)) ∧ Fr w w' := by
  by_cases hl : l < 0
  · have H := Lib.hid (valD_t (b := b) (x := x) hl)
    have X := Lib.hid (x2 hl)
    have b2 := b0 hl
    obtain ⟨e0, e1⟩ := ext_bd x b b2 b1 x0 X.out
    clear b0 x2
    go_enter Tryd.func47, Tryd.ntmps47
    go_wp2_with (first | (go_at_call 50; refine (impl_extend _ _ b2 b1 x0 X.out _).mono ?_; rintro e w' ⟨rfl, rfl⟩) | (go_at_call 51; refine (impl_signed _ e0 e1 _).mono ?_; rintro e w' ⟨rfl, rfl⟩))
    go_ret
    exact ⟨ret_int H.out.symm, Fr.alloc _ _⟩
  · have H := Lib.hid (valD_f (b := b) (x := x) hl)
    clear b0 x2
    go_enter Tryd.func47, Tryd.ntmps47
    go_wp2
    go_ret
    exact ⟨ret_int (by rw [H.out]; try simp), Fr.alloc _ _⟩

end Go.Proofs.YtiijhklkelaogabDoor
