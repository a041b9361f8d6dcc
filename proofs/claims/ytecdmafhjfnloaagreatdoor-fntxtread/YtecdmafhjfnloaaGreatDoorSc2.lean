/- Chapter 3: the scanner of a line: an instruction. -/
import Derived.Test.YtecdmafhjfnloaaGreatDoorSc1
import Derived.Test.YtecdmafhjfnloaaGreatDoorCodRd
namespace Go.Proofs.YtecdmafhjfnloaaGreatDoor
open Go.RowKit
set_option linter.unusedVariables false

set_option maxHeartbeats 1000000 in
theorem impl_immediate {p : Nat} {m : Value} {L : List UInt8 → Option Int} {at' : Int} {u : World} {r : List (List UInt8)} {bad : Bool} (h : Sc p m L at' u r bad) (h0 : L [] = none) (HL : ∀ x t, L x = some t → 0 ≤ t ∧ t ≤ 1000) (hat : 0 ≤ at' ∧ at' ≤ 1000) (k : Int) :
    Calls Tryz.prog 77 #[.pointer (some ⟨p, 0, none⟩), .int .i64 k] u (TakeP (dist k at' L) p m L at' u r bad) := by
  have H := Lib.hid h
  clear h
  by_cases hk : k = 5 ∨ k = 6 ∨ k = 7
  · have hd : dist k at' L = fun x => (labD at' L x).or (canon x) := by funext x; unfold dist; rw [if_pos hk]
    rw [hd]
    clear hd
    rcases hk with rfl | rfl | rfl
    all_goals
      go_enter Tryz.func77, Tryz.ntmps77
      go_wp2_with (go_at_call 92; refine (impl_distance H.out h0 HL hat).mono ?_; rintro e u1 ⟨v, r', b1, rfl, S1, A1, T1⟩; replace S1 := Lib.hid S1; replace A1 := Lib.hid A1; replace T1 := Lib.hid T1)
      go_ret
      exact ⟨v, r', b1, rfl, S1.out, A1.out, T1.out⟩
  · have hd : dist k at' L = canon := by funext x; unfold dist; rw [if_neg hk]
    rw [hd]
    have k5 : (k == 5) = false := by simp; omega
    have k6 : (k == 6) = false := by simp; omega
    have k7 : (k == 7) = false := by simp; omega
    clear hd hk
    go_enter Tryz.func77, Tryz.ntmps77
    go_wp2_with (go_at_call 73; refine (impl_number H.out).mono ?_; rintro e u1 ⟨v, r', b1, rfl, S1, A1, T1⟩; replace S1 := Lib.hid S1; replace A1 := Lib.hid A1; replace T1 := Lib.hid T1)
    go_ret
    exact ⟨v, r', b1, rfl, S1.out, A1.out, T1.out⟩
def NamP (p : Nat) (m : Value) (L : List UInt8 → Option Int) (at' : Int) (u : World) (r : List (List UInt8)) (bad : Bool) (l : List UInt8) (e : Ending) (u' : World) : Prop :=
  ∃ s kk ff bad', e = .returned (.agg #[.string s, .int .i64 kk, .int .i64 ff]) ∧ Sc p m L at' u' r bad' ∧ Ap p u u' ∧ (∀ i, kindOf l = some i → kk = mk i ∧ ff = mf i ∧ bad' = bad) ∧ (kindOf l = none → kk = 0 ∧ ff = 0 ∧ bad' = true)
theorem kindOf_lt {l : List UInt8} {i : Nat} (h : kindOf l = some i) : i < 23 ∧ nmL.getD i [] = l ∧ ∀ j, j < i → nmL.getD j [] ≠ l := by
  unfold kindOf at h
  obtain ⟨h1, h2, h3⟩ := List.findIdx?_eq_some_iff_getElem.1 h
  have hl : nmL.length = 23 := rfl
  refine ⟨by omega, ?_, fun j hj => ?_⟩
  · rw [List.getD_eq_getElem?_getD, List.getElem?_eq_getElem h1]; simpa using h2
  · have := h3 j hj
    rw [List.getD_eq_getElem?_getD, List.getElem?_eq_getElem (by omega)]; simpa using this
theorem kindOf_none {l : List UInt8} (h : kindOf l = none) : ∀ j, j < 23 → nmL.getD j [] ≠ l := by
  intro j hj
  unfold kindOf at h
  have := List.findIdx?_eq_none_iff.1 h (nmL.getD j []) (by
    rw [List.getD_eq_getElem?_getD, List.getElem?_eq_getElem (by exact hj)]
    exact List.getElem_mem _)
  simpa using this
theorem mn_z (w : World) (t : TypeId) (j : Nat) (hj : j < 3) : (∃ v, (w.alloc (.cells #[.string ⟨#[]⟩, .int .i64 0, .int .i64 0] t)).cell? ⟨w.heap.size, j, none⟩ = some v) ∧ (w.alloc (.cells #[.string ⟨#[]⟩, .int .i64 0, .int .i64 0] t)).frozen? ⟨w.heap.size, j, none⟩ = false := by
  have h : j = 0 ∨ j = 1 ∨ j = 2 := by omega
  rcases h with rfl | rfl | rfl <;> simp
set_option maxRecDepth 4000 in
set_option maxHeartbeats 1000000 in
theorem impl_named {p : Nat} {m : Value} {L : List UInt8 → Option Int} {at' : Int} {u : World} {r : List (List UInt8)} {bad : Bool} (h : Sc p m L at' u r bad) (l : List UInt8) :
    Calls Tryz.prog 75 #[.pointer (some ⟨p, 0, none⟩), .string (bs l)] u (NamP p m L at' u r bad l) := by
  have H := Lib.hid h
  have hlt := h.lt
  clear h
  go_enter Tryz.func75, Tryz.ntmps75
  go_wp2_with (refine wpList_load_mid rfl 117 (.global 5) rfl 5 0 rfl mnL _ (mn_range (H.out.tabs.base.fr (Fr.alloc _ _))) Tryz.underlying117 rfl mn_size ?_)
  generalize hA : mnL.toArray = A
  have HA := Lib.hid hA
  clear hA
  go_loopw [8] (fun i wr => ∃ q : Nat, q ≤ 23 ∧ (∀ j, j < q → nmL.getD j [] ≠ l) ∧ i = .int .i64 q ∧ Below (u.heap.size + 1) (u.alloc (.cells #[.string ⟨#[]⟩, .int .i64 0, .int .i64 0] 108)) wr) (fun i _ => 23 - (intOf i).toNat)
  case atStart => exact ⟨0, by omega, fun j hj => by omega, rfl, Below.refl _ _⟩
  case round =>
    obtain ⟨q, hq, hno, rfl, hb⟩ := hrel
    have hsz := hb.size
    simp at hsz
    have hfr : Fr u wr := Below.trans (Fr.alloc u _) (hb.mono (by omega))
    have zz : Hid (∀ j, j < 3 → (∃ v, wr.cell? ⟨u.heap.size, j, none⟩ = some v) ∧ wr.frozen? ⟨u.heap.size, j, none⟩ = false) := fun j hj => by
      rw [hb.cell (show u.heap.size < u.heap.size + 1 by omega), hb.frozen (show u.heap.size < u.heap.size + 1 by omega)]
      exact mn_z u _ j hj
    by_cases h23 : q < 23
    · have X := mn_index q h23 wr
      rw [HA.out] at X
      have q23 : (q : Int) < 23 := by omega
      have HF := Lib.hid hfr
      have HB := Lib.hid hb
      have HN := Lib.hid hno
      generalize hnm : nmL.getD q [] = N at X
      generalize hk0 : mk q = kq at X
      generalize hf0 : mf q = fq at X
      have E1 := Lib.hid hnm
      have E2 := Lib.hid hk0
      have E3 := Lib.hid hf0
      clear hfr hb hno hnm hk0 hf0
      by_cases e : N = l
      · have e' : (N == l) = true := by simp [e]
        have KO : Hid (kindOf l = some q) := by
          show kindOf l = some q
          rw [← e, ← E1.out]; exact kindOf_nm q h23
        obtain ⟨⟨v0, z0⟩, y0⟩ := zz.out 0 (by omega)
        obtain ⟨⟨v1, z1⟩, y1⟩ := zz.out 1 (by omega)
        obtain ⟨⟨v2, z2⟩, y2⟩ := zz.out 2 (by omega)
        have lz : ∀ o j, (wr.alloc o).cell? ⟨u.heap.size, j, none⟩ = wr.cell? ⟨u.heap.size, j, none⟩ := fun o j => (Fr.alloc wr o).cell (show u.heap.size < wr.heap.size by omega)
        have fz : ∀ o j, (wr.alloc o).frozen? ⟨u.heap.size, j, none⟩ = wr.frozen? ⟨u.heap.size, j, none⟩ := fun o j => (Fr.alloc wr o).frozen (show u.heap.size < wr.heap.size by omega)
        clear e
        go_wp2
        have Fz : Fr u ((((wr.alloc (.cells #[.string (bs N), .int .i64 kq, .int .i64 fq] 108)).setCell ⟨u.heap.size, 0, none⟩ (.string (bs N))).setCell ⟨u.heap.size, 1, none⟩ (.int .i64 kq)).setCell ⟨u.heap.size, 2, none⟩ (.int .i64 fq)) := by
          have := HF.out
          (repeat' first | (with_reducible exact Below.refl _ _) | (with_reducible assumption) | ((with_reducible refine Below.setCell ?_ ?hb _); (case hb => first | exact Nat.le_refl _ | (simp; done) | (simp; omega) | omega)) | ((with_reducible refine Below.alloc ?_ ?hb _); (case hb => first | exact Nat.le_refl _ | (simp; done) | (simp; omega) | omega)) | (with_reducible refine Below.drew ?_))
        refine bodyPost_ret (v := .agg #[.string (bs N), .int .i64 kq, .int .i64 fq]) (by simp [results, Tryz.results75, go_sem, lz, z0, z1, z2]) rfl ⟨bs N, kq, fq, bad, rfl, H.out.fr Fz, Ap.of Fz, fun i hi => ?_, fun hn => ?_⟩
        · rw [KO.out] at hi
          obtain rfl := Option.some.inj hi
          exact ⟨E2.out.symm, E3.out.symm, rfl⟩
        · rw [KO.out] at hn; cases hn
      · have e' : (N == l) = false := by simp [e]
        go_wp2
        go_roundw
        case rel => exact ⟨q + 1, by omega, fun j hj => by
          by_cases hjq : j = q
          · rw [hjq, E1.out]; exact e
          · exact HN.out j (by omega), by go_num, by have := HB.out; (repeat' first | (with_reducible exact Below.refl _ _) | (with_reducible assumption) | ((with_reducible refine Below.setCell ?_ ?hb _); (case hb => first | exact Nat.le_refl _ | (simp; done) | (simp; omega) | omega)) | ((with_reducible refine Below.alloc ?_ ?hb _); (case hb => first | exact Nat.le_refl _ | (simp; done) | (simp; omega) | omega)) | (with_reducible refine Below.drew ?_))⟩
        case measure => simp [intOf]; omega
    · obtain rfl : q = 23 := by omega
      have KO : Hid (kindOf l = none) := by
        show kindOf l = none
        cases hk : kindOf l with
        | none => rfl
        | some i => obtain ⟨i1, i2, _⟩ := kindOf_lt hk; exact absurd i2 (hno i i1)
      have S1 := Lib.hid (H.out.fr hfr)
      obtain ⟨t2, q2, he2⟩ := S1.out.tabs.e3
      clear hno
      obtain ⟨⟨v0, z0⟩, y0⟩ := zz.out 0 (by omega)
      obtain ⟨⟨v1, z1⟩, y1⟩ := zz.out 1 (by omega)
      obtain ⟨⟨v2, z2⟩, y2⟩ := zz.out 2 (by omega)
      have hz2 : u.heap.size < wr.heap.size := by omega
      have hz1 : u.heap.size ≠ p := by omega
      go_wp2_with (go_at_call 72; refine (impl_fail S1.out _ _).mono ?_; rintro e w3 ⟨rfl, S3, A3⟩; replace S3 := Lib.hid S3; replace A3 := Lib.hid A3; rw [← A3.out.cell hz2 hz1] at z0 z1 z2; rw [← A3.out.frozen hz2 hz1] at y0 y1 y2)
      refine bodyPost_ret (v := .agg #[.string ⟨#[]⟩, .int .i64 0, .int .i64 0]) (by simp [results, Tryz.results75, go_sem, z0, z1, z2]) rfl ⟨⟨#[]⟩, 0, 0, true, rfl, S3.out.keep ?_, ?_, fun i hi => ?_, fun _ => ⟨rfl, rfl, rfl⟩⟩
      · exact Below.setCell (Below.setCell (Below.setCell (Below.refl _ _) (show p + 1 ≤ u.heap.size from hlt) _) (show p + 1 ≤ u.heap.size from hlt) _) (show p + 1 ≤ u.heap.size from hlt) _
      · exact ((((Ap.of hfr).trans A3.out).setNew (Nat.le_refl _) _).setNew (Nat.le_refl _) _).setNew (Nat.le_refl _) _
      · rw [KO.out] at hi; cases hi
/-- What is read so far, and whether there was an error. -/
def RdInv (kk ff at' : Int) (L : List UInt8 → Option Int) (r : List (List UInt8)) (b0 : Bool) (q : Nat) (fs : List Int) (r' : List (List UInt8)) (b : Bool) : Prop :=
  fs.length = 5 ∧ (b0 = true → b = true) ∧ (b0 = false → (b = false ∧ rdTo kk ff at' L r q = some (fs, r')) ∨ (b = true ∧ rdTo kk ff at' L r q = none))
theorem RdInv.skip {kk ff at' : Int} {L : List UInt8 → Option Int} {r r' : List (List UInt8)} {b0 b : Bool} {q : Nat} {fs : List Int} (h : RdInv kk ff at' L r b0 q fs r' b) (hl : layN kk q = 0 ∨ layN kk q = 2) : RdInv kk ff at' L r b0 (q + 1) fs r' b := by
  refine ⟨h.1, h.2.1, fun hb => ?_⟩
  rcases h.2.2 hb with ⟨h1, h2⟩ | ⟨h1, h2⟩
  · exact .inl ⟨h1, by simp only [rdTo, h2, hl, if_true]⟩
  · exact .inr ⟨h1, by simp only [rdTo, h2]⟩
theorem RdInv.take {kk ff at' v : Int} {L : List UInt8 → Option Int} {r r' r'' : List (List UInt8)} {b0 b b' : Bool} {q : Nat} {fs : List Int} {f : List UInt8 → Option Int} (h : RdInv kk ff at' L r b0 q fs r' b) (hl : ¬ (layN kk q = 0 ∨ layN kk q = 2)) (hf : rdV (layN kk q) kk at' L = f) (t : Took f r' b v r'' b') : RdInv kk ff at' L r b0 (q + 1) (fs.set q v) r'' b' := by
  refine ⟨by rw [List.length_set]; exact h.1, fun hb => t.1 (h.2.1 hb), fun hb => ?_⟩
  rcases h.2.2 hb with ⟨h1, h2⟩ | ⟨h1, h2⟩
  · have := t.2 h1
    simp only [rdTo, h2, hl, if_false, hf]
    cases r' with
    | nil => exact .inr ⟨this, rfl⟩
    | cons x t =>
      simp only at this ⊢
      cases hx : f x with
      | none => rw [hx] at this; exact .inr ⟨this, rfl⟩
      | some n =>
        rw [hx] at this
        obtain ⟨t1, t2, t3⟩ := this
        exact .inl ⟨t1, by rw [t2, t3]⟩
  · exact .inr ⟨t.1 h1, by simp only [rdTo, h2]⟩
/-- The blocks of a call of 'instruction': Z the result, M the name's row, Fb the fields. -/
structure InsW (p Z M Fb : Nat) (kk : Int) (fs : List Int) (w : World) : Prop where
  m1 : w.cell? ⟨M, 1, none⟩ = some (.int .i64 kk)
  fc : ∀ j, j < 5 → w.cell? ⟨Fb, j, none⟩ = some (.int .i64 (fs.getD j 0))
  fz : ∀ j, j < 5 → w.frozen? ⟨Fb, j, none⟩ = false
  zc : ∀ j, j < 6 → w.cell? ⟨Z, j, none⟩ = some (.int .i64 0)
  zz : ∀ j, j < 6 → w.frozen? ⟨Z, j, none⟩ = false
  nz : p < Z
  nm : Z < M
  nf : M < Fb
theorem InsW.ap {p Z M Fb : Nat} {kk : Int} {fs : List Int} {w w' : World} (h : InsW p Z M Fb kk fs w) (a : Ap p w w') : InsW p Z M Fb kk fs w' := by
  obtain ⟨h1, h2, h3, h4, h5, h6, h7, h8⟩ := h
  have l1 : M < w.heap.size := lt_of_cell h1
  have l2 : Fb < w.heap.size := lt_of_cell (h2 0 (by decide))
  have l3 : Z < w.heap.size := lt_of_cell (h4 0 (by decide))
  exact ⟨by rw [a.cell (g := M) l1 (by omega)]; exact h1, fun j hj => by rw [a.cell (g := Fb) l2 (by omega)]; exact h2 j hj, fun j hj => by rw [a.frozen (g := Fb) l2 (by omega)]; exact h3 j hj, fun j hj => by rw [a.cell (g := Z) l3 (by omega)]; exact h4 j hj, fun j hj => by rw [a.frozen (g := Z) l3 (by omega)]; exact h5 j hj, h6, h7, h8⟩
theorem InsW.set {p Z M Fb : Nat} {kk v : Int} {fs : List Int} {w : World} {q : Nat} (h : InsW p Z M Fb kk fs w) (hq : q < 5) (hl : fs.length = 5) : InsW p Z M Fb kk (fs.set q v) (w.setCell ⟨Fb, q, none⟩ (.int .i64 v)) := by
  obtain ⟨h1, h2, h3, h4, h5, h6, h7, h8⟩ := h
  refine ⟨?_, fun j hj => ?_, fun j hj => ?_, fun j hj => ?_, fun j hj => ?_, h6, h7, h8⟩
  · rw [World.cell?_setCell_other _ _ _ _ (by first | (simp; done) | (simp; omega))]; exact h1
  · by_cases e : j = q
    · subst e
      rw [World.cell?_setCell_same _ _ _ (h2 j hj)]
      simp [List.getD_eq_getElem?_getD, hl, hj]
    · rw [World.cell?_setCell_other _ _ _ _ (by first | (simp; done) | (simp; omega)), h2 j hj, List.getD_eq_getElem?_getD, List.getD_eq_getElem?_getD, List.getElem?_set_ne (by omega)]
  · rw [World.frozen?_setCell]; exact h3 j hj
  · rw [World.cell?_setCell_other _ _ _ _ (by first | (simp; done) | (simp; omega))]; exact h4 j hj
  · rw [World.frozen?_setCell]; exact h5 j hj
/-- What 'instruction' hands back. -/
def InsP (p : Nat) (m : Value) (L : List UInt8 → Option Int) (at' : Int) (u : World) (r : List (List UInt8)) (bad : Bool) (l : List UInt8) (e : Ending) (u' : World) : Prop :=
  ∃ k d a b f n r' bad', e = .returned (.agg #[.int .i64 k, .int .i64 d, .int .i64 a, .int .i64 b, .int .i64 f, .int .i64 n]) ∧ Sc p m L at' u' r' bad' ∧ Ap p u u' ∧ (bad = true → bad' = true) ∧ (bad = false → (bad' = false ∧ rd at' L (l :: r) = some (k, [d, a, b, f, n])) ∨ (bad' = true ∧ rd at' L (l :: r) = none))
theorem insw_new {p : Nat} {u u2 : World} {ff kk : Int} {sv : Value} (hp : p < u.heap.size) (t1 t2 t3 : TypeId) (a : Ap p (u.alloc (.cells #[.int .i64 0, .int .i64 0, .int .i64 0, .int .i64 0, .int .i64 0, .int .i64 0] t1)) u2) :
    InsW p u.heap.size u2.heap.size (u2.heap.size + 1) kk [0, 0, 0, ff, 0] ((u2.alloc (.cells #[sv, .int .i64 kk, .int .i64 ff] t2)).alloc (.cells #[.int .i64 0, .int .i64 0, .int .i64 0, .int .i64 ff, .int .i64 0] t3)) := by
  have hs := a.size
  simp at hs
  have e1 : ∀ j, (u.alloc (.cells #[.int .i64 0, .int .i64 0, .int .i64 0, .int .i64 0, .int .i64 0, .int .i64 0] t1)).cell? ⟨u.heap.size, j, none⟩ = #[Value.int .i64 0, .int .i64 0, .int .i64 0, .int .i64 0, .int .i64 0, .int .i64 0][j]? := fun j => by simp
  have e2 : ∀ j, (u.alloc (.cells #[.int .i64 0, .int .i64 0, .int .i64 0, .int .i64 0, .int .i64 0, .int .i64 0] t1)).frozen? ⟨u.heap.size, j, none⟩ = false := fun j => by simp
  have F2 : Fr u2 ((u2.alloc (.cells #[sv, .int .i64 kk, .int .i64 ff] t2)).alloc (.cells #[.int .i64 0, .int .i64 0, .int .i64 0, .int .i64 ff, .int .i64 0] t3)) := Fr.trans (Fr.alloc _ _) (Fr.alloc _ _)
  have s1 : (u2.alloc (.cells #[sv, .int .i64 kk, .int .i64 ff] t2)).heap.size = u2.heap.size + 1 := by simp
  refine ⟨?_, fun j hj => ?_, fun j hj => ?_, fun j hj => ?_, fun j hj => ?_, hp, by omega, by omega⟩
  · rw [(Fr.alloc _ _).cell (show u2.heap.size < _ by omega)]; simp
  · rw [← s1]
    have h : j = 0 ∨ j = 1 ∨ j = 2 ∨ j = 3 ∨ j = 4 := by omega
    rcases h with rfl | rfl | rfl | rfl | rfl <;> simp
  · rw [← s1]; simp
  · rw [F2.cell (show u.heap.size < u2.heap.size by omega), a.cell (g := u.heap.size) (by simp) (by omega), e1]
    have h : j = 0 ∨ j = 1 ∨ j = 2 ∨ j = 3 ∨ j = 4 ∨ j = 5 := by omega
    rcases h with rfl | rfl | rfl | rfl | rfl | rfl <;> rfl
  · rw [F2.frozen (show u.heap.size < u2.heap.size by omega), a.frozen (g := u.heap.size) (by simp) (by omega), e2]
theorem below6 {B : Nat} {w u : World} (h : Below B w u) {Z : Nat} (hZ : B ≤ Z) (v0 v1 v2 v3 v4 v5 : Value) : Below B w ((((((u.setCell ⟨Z, 0, none⟩ v0).setCell ⟨Z, 1, none⟩ v1).setCell ⟨Z, 2, none⟩ v2).setCell ⟨Z, 3, none⟩ v3).setCell ⟨Z, 4, none⟩ v4).setCell ⟨Z, 5, none⟩ v5) :=
  Below.setCell (Below.setCell (Below.setCell (Below.setCell (Below.setCell (Below.setCell h (show B ≤ Z from hZ) _) (show B ≤ Z from hZ) _) (show B ≤ Z from hZ) _) (show B ≤ Z from hZ) _) (show B ≤ Z from hZ) _) (show B ≤ Z from hZ) _
theorem ins_fin {kk ff at' d a b1 f n : Int} {L : List UInt8 → Option Int} {l : List UInt8} {r r' : List (List UInt8)} {bad b0 b : Bool} {fs : List Int} (hf : fs = [d, a, b1, f, n]) (k1 : ∀ i, kindOf l = some i → kk = mk i ∧ ff = mf i ∧ b0 = bad) (k2 : kindOf l = none → kk = 0 ∧ ff = 0 ∧ b0 = true) (h : RdInv kk ff at' L r b0 5 fs r' b) :
    (bad = true → (b || !r'.isEmpty || !iok kk d a b1 f n) = true) ∧ (bad = false → ((b || !r'.isEmpty || !iok kk d a b1 f n) = false ∧ rd at' L (l :: r) = some (kk, [d, a, b1, f, n])) ∨ ((b || !r'.isEmpty || !iok kk d a b1 f n) = true ∧ rd at' L (l :: r) = none)) := by
  subst hf
  cases hk : kindOf l with
  | none =>
    have hb := h.2.1 (k2 hk).2.2
    subst hb
    exact ⟨fun _ => by simp, fun _ => .inr ⟨by simp, by simp [rd, hk]⟩⟩
  | some i =>
    obtain ⟨rfl, rfl, rfl⟩ := k1 i hk
    refine ⟨fun hb => by rw [h.2.1 hb]; simp, fun hb => ?_⟩
    have hrd : rd at' L (l :: r) = (rdI i at' L r).map (fun fs => (mk i, fs)) := by
      simp only [rd, hk]
      cases rdI i at' L r <;> rfl
    rcases h.2.2 hb with ⟨hb1, h2⟩ | ⟨hb1, h2⟩
    · subst hb1
      have hI : rdI i at' L r = if r' = [] ∧ iok (mk i) d a b1 f n = true then some [d, a, b1, f, n] else none := by
        unfold rdI
        rw [h2]
        rfl
      rw [hrd, hI]
      by_cases hc : r' = [] ∧ iok (mk i) d a b1 f n = true
      · rw [if_pos hc]
        exact .inl ⟨by simp [hc.1, hc.2], rfl⟩
      · rw [if_neg hc]
        refine .inr ⟨?_, rfl⟩
        cases r' with
        | nil =>
          cases hi : iok (mk i) d a b1 f n
          · simp
          · exact absurd ⟨rfl, hi⟩ hc
        | cons x t => simp
    · subst hb1
      have hI : rdI i at' L r = none := by unfold rdI; rw [h2]; rfl
      rw [hrd, hI]
      exact .inr ⟨by simp, rfl⟩
set_option maxRecDepth 4000 in
set_option maxHeartbeats 4000000 in
theorem impl_instruction {p : Nat} {m : Value} {L : List UInt8 → Option Int} {at' : Int} {u : World} {r : List (List UInt8)} {bad : Bool} (h : Sc p m L at' u r bad) (h0 : L [] = none) (HL : ∀ x t, L x = some t → 0 ≤ t ∧ t ≤ 1000) (hat : 0 ≤ at' ∧ at' ≤ 1000) (l : List UInt8) :
    Calls Tryz.prog 55 #[.pointer (some ⟨p, 0, none⟩), .string (bs l)] u (InsP p m L at' u r bad l) := by
  have hlt := h.lt
  have H := Lib.hid h
  have H0 := Lib.hid h0
  have HL' := Lib.hid HL
  have HA := Lib.hid hat
  clear h h0 HL hat
  have F1 := Fr.alloc u (.cells #[.int .i64 0, .int .i64 0, .int .i64 0, .int .i64 0, .int .i64 0, .int .i64 0] 45)
  go_enter Tryz.func55, Tryz.ntmps55
  go_wp2_with fail
  refine (impl_named (H.out.fr F1) l).mono ?_
  rintro e u2 ⟨sv, kk, ff, b0, rfl, S2, A2, k1, k2⟩
  have hkk : 0 ≤ kk ∧ kk < 16 := by
    cases hk : kindOf l with
    | none => rw [(k2 hk).1]; decide
    | some i => rw [(k1 i hk).1]; exact mk_bd (kindOf_lt hk).1
  have HK := Lib.hid hkk
  have kk0 := hkk.1
  have kk1 := hkk.2
  have W2 := Lib.hid (insw_new (sv := .string sv) (ff := ff) (kk := kk) hlt 45 108 97 A2)
  have S2' := Lib.hid S2
  have A2' := Lib.hid A2
  have K1 := Lib.hid k1
  have K2 := Lib.hid k2
  have FF : ∀ o o', Fr u2 ((u2.alloc o).alloc o') := fun o o' => Fr.trans (Fr.alloc _ _) (Fr.alloc _ _)
  have LA : ∀ (o o' : Obj) (q : Nat), q < 5 → ((u2.alloc o).alloc o').cell? ⟨1, kk.toNat * 5 + q, none⟩ = some (.int .i64 (layN kk q)) := fun o o' q hq => (S2.tabs.base.base.fr (FF o o')).layAt kk q hkk hq
  have L0 : ∀ o o', ((u2.alloc o).alloc o').cell? ⟨1, kk.toNat * 5, none⟩ = some (.int .i64 (layN kk 0)) := fun o o' => LA o o' 0 (by decide)
  have L1 : ∀ o o', ((u2.alloc o).alloc o').cell? ⟨1, kk.toNat * 5 + 1, none⟩ = some (.int .i64 (layN kk 1)) := fun o o' => LA o o' 1 (by decide)
  have L2 : ∀ o o', ((u2.alloc o).alloc o').cell? ⟨1, kk.toNat * 5 + 2, none⟩ = some (.int .i64 (layN kk 2)) := fun o o' => LA o o' 2 (by decide)
  have L3 : ∀ o o', ((u2.alloc o).alloc o').cell? ⟨1, kk.toNat * 5 + 3, none⟩ = some (.int .i64 (layN kk 3)) := fun o o' => LA o o' 3 (by decide)
  have L4 : ∀ o o', ((u2.alloc o).alloc o').cell? ⟨1, kk.toNat * 5 + 4, none⟩ = some (.int .i64 (layN kk 4)) := fun o o' => LA o o' 4 (by decide)
  have M1 := W2.out.m1
  clear S2 A2 k1 k2 LA hkk FF
  have WI : Hid (Sc p m L at' ((u2.alloc (.cells #[.string sv, .int .i64 kk, .int .i64 ff] 108)).alloc (.cells #[.int .i64 0, .int .i64 0, .int .i64 0, .int .i64 ff, .int .i64 0] 97)) r b0 ∧ Ap p u ((u2.alloc (.cells #[.string sv, .int .i64 kk, .int .i64 ff] 108)).alloc (.cells #[.int .i64 0, .int .i64 0, .int .i64 0, .int .i64 ff, .int .i64 0] 97))) := by
    have f := Fr.trans (Fr.alloc u2 (.cells #[.string sv, .int .i64 kk, .int .i64 ff] 108)) (Fr.alloc _ (.cells #[.int .i64 0, .int .i64 0, .int .i64 0, .int .i64 ff, .int .i64 0] 97))
    exact ⟨S2'.out.fr f, ((Ap.of F1).trans A2'.out).trans (Ap.of f)⟩
  have hM : u.heap.size < u2.heap.size := W2.out.nm
  go_wp2_with fail
  go_loopw [20] (fun i wr => ∃ (q : Nat) (fs : List Int) (r' : List (List UInt8)) (b : Bool), q ≤ 5 ∧ i = .int .i64 q ∧ Sc p m L at' wr r' b ∧ Ap p u wr ∧ InsW p u.heap.size u2.heap.size (u2.heap.size + 1) kk fs wr ∧ RdInv kk ff at' L r b0 q fs r' b) (fun i _ => 5 - (intOf i).toNat)
  case atStart =>
    refine ⟨0, [0, 0, 0, ff, 0], r, b0, by omega, rfl, WI.out.1, WI.out.2, W2.out, rfl, id, fun hb => .inl ⟨hb, rfl⟩⟩
  case round =>
    obtain ⟨q, fs, r', b, hq, rfl, hS, hA, hW, hR⟩ := hrel
    clear WI W2 L0 L1 L2 L3 L4 M1
    by_cases h5 : q < 5
    · have x := five_index (fun j => (layN kk j : Int)) q h5 wr
      have h5' : (q : Int) < 5 := by omega
      have c5 := layN_lt kk q HK.out h5
      have m1 := hW.m1
      have g1 := hW.fc q h5
      have g2 := hW.fz q h5
      have hll := hR.1
      replace hS := Lib.hid hS
      replace hA := Lib.hid hA
      replace hW := Lib.hid hW
      replace hR := Lib.hid hR
      have fin : ∀ {f : List UInt8 → Option Int} {v : Int} {r'' : List (List UInt8)} {b'' : Bool} {w3 : World}, ¬ (layN kk q = 0 ∨ layN kk q = 2) → rdV (layN kk q) kk at' L = f → Sc p m L at' w3 r'' b'' → Ap p wr w3 → Took f r' b v r'' b'' →
          Sc p m L at' (w3.setCell ⟨u2.heap.size + 1, q, none⟩ (.int .i64 v)) r'' b'' ∧ Ap p u (w3.setCell ⟨u2.heap.size + 1, q, none⟩ (.int .i64 v)) ∧ InsW p u.heap.size u2.heap.size (u2.heap.size + 1) kk (fs.set q v) (w3.setCell ⟨u2.heap.size + 1, q, none⟩ (.int .i64 v)) ∧ RdInv kk ff at' L r b0 (q + 1) (fs.set q v) r'' b'' := by
        intro f v r'' b'' w3 n02 hf S3 A3 T3
        exact ⟨S3.keep (Below.setCell (Below.refl _ _) (show p + 1 ≤ u2.heap.size + 1 by omega) _), (hA.out.trans A3).setNew (by omega) _, (hW.out.ap A3).set h5 hll, hR.out.take n02 hf T3⟩
      replace fin := @Lib.hid _ @fin
      have hcase : layN kk q = 0 ∨ layN kk q = 2 ∨ layN kk q = 1 ∨ layN kk q = 3 ∨ 4 ≤ layN kk q := by omega
      rcases hcase with e | e | e | e | e
      · have HE : Hid (layN kk q = 0 ∨ layN kk q = 2) := .inl e
        rw [e] at x
        go_wp2
        go_roundw
        case rel => exact ⟨q + 1, fs, r', b, by omega, by go_num, hS.out, hA.out, hW.out, hR.out.skip HE.out⟩
        case measure => simp [intOf]; omega
      · have HE : Hid (layN kk q = 0 ∨ layN kk q = 2) := .inr e
        rw [e] at x
        go_wp2
        go_roundw
        case rel => exact ⟨q + 1, fs, r', b, by omega, by go_num, hS.out, hA.out, hW.out, hR.out.skip HE.out⟩
        case measure => simp [intOf]; omega
      · have N02 : Hid (¬ (layN kk q = 0 ∨ layN kk q = 2)) := by show ¬ _; omega
        have RV : Hid (rdV (layN kk q) kk at' L = regI) := by show rdV (layN kk q) kk at' L = regI; unfold rdV; funext x; rw [if_pos e]
        rw [e] at x
        go_wp2_with (go_at_call 76; refine (impl_register hS.out).mono ?_; rintro e w3 ⟨v, r'', b'', rfl, S3, A3, T3⟩; obtain ⟨G1, G2, G3, G4⟩ := fin.out N02.out RV.out S3 A3 T3; replace G1 := Lib.hid G1; replace G2 := Lib.hid G2; replace G3 := Lib.hid G3; replace G4 := Lib.hid G4; have g1' : w3.cell? ⟨u2.heap.size + 1, q, none⟩ = _ := (A3.cell (g := u2.heap.size + 1) (lt_of_cell g1) (by omega)).trans g1; have g2' : w3.frozen? ⟨u2.heap.size + 1, q, none⟩ = _ := (A3.frozen (g := u2.heap.size + 1) (lt_of_cell g1) (by omega)).trans g2; clear g1 g2 S3 A3 T3)
        go_roundw
        case rel => exact ⟨q + 1, fs.set q v, r'', b'', by omega, by go_num, G1.out, G2.out, G3.out, G4.out⟩
        case measure => simp [intOf]; omega
      · have N02 : Hid (¬ (layN kk q = 0 ∨ layN kk q = 2)) := by show ¬ _; omega
        have RV : Hid (rdV (layN kk q) kk at' L = canon) := by show rdV (layN kk q) kk at' L = canon; unfold rdV; funext x; rw [if_neg (by omega), if_pos e]
        rw [e] at x
        go_wp2_with (go_at_call 73; refine (impl_number hS.out).mono ?_; rintro e w3 ⟨v, r'', b'', rfl, S3, A3, T3⟩; obtain ⟨G1, G2, G3, G4⟩ := fin.out N02.out RV.out S3 A3 T3; replace G1 := Lib.hid G1; replace G2 := Lib.hid G2; replace G3 := Lib.hid G3; replace G4 := Lib.hid G4; have g1' : w3.cell? ⟨u2.heap.size + 1, q, none⟩ = _ := (A3.cell (g := u2.heap.size + 1) (lt_of_cell g1) (by omega)).trans g1; have g2' : w3.frozen? ⟨u2.heap.size + 1, q, none⟩ = _ := (A3.frozen (g := u2.heap.size + 1) (lt_of_cell g1) (by omega)).trans g2; clear g1 g2 S3 A3 T3)
        go_roundw
        case rel => exact ⟨q + 1, fs.set q v, r'', b'', by omega, by go_num, G1.out, G2.out, G3.out, G4.out⟩
        case measure => simp [intOf]; omega
      · have N02 : Hid (¬ (layN kk q = 0 ∨ layN kk q = 2)) := by show ¬ _; omega
        have RV : Hid (rdV (layN kk q) kk at' L = dist kk at' L) := by show rdV (layN kk q) kk at' L = dist kk at' L; unfold rdV; funext x; rw [if_neg (by omega), if_neg (by omega)]
        have n0 : ((layN kk q : Int) == 0) = false := by simp; omega
        have n1 : ((layN kk q : Int) == 1) = false := by simp; omega
        have n2 : ((layN kk q : Int) == 2) = false := by simp; omega
        have n3 : ((layN kk q : Int) == 3) = false := by simp; omega
        go_wp2_with (go_at_call 77; refine (impl_immediate hS.out H0.out HL'.out HA.out kk).mono ?_; rintro e w3 ⟨v, r'', b'', rfl, S3, A3, T3⟩; obtain ⟨G1, G2, G3, G4⟩ := fin.out N02.out RV.out S3 A3 T3; replace G1 := Lib.hid G1; replace G2 := Lib.hid G2; replace G3 := Lib.hid G3; replace G4 := Lib.hid G4; have g1' : w3.cell? ⟨u2.heap.size + 1, q, none⟩ = _ := (A3.cell (g := u2.heap.size + 1) (lt_of_cell g1) (by omega)).trans g1; have g2' : w3.frozen? ⟨u2.heap.size + 1, q, none⟩ = _ := (A3.frozen (g := u2.heap.size + 1) (lt_of_cell g1) (by omega)).trans g2; clear g1 g2 S3 A3 T3)
        go_roundw
        case rel => exact ⟨q + 1, fs.set q v, r'', b'', by omega, by go_num, G1.out, G2.out, G3.out, G4.out⟩
        case measure => simp [intOf]; omega
    · obtain rfl : q = 5 := by omega
      replace hA := Lib.hid hA
      replace hR := Lib.hid hR
      have HW := Lib.hid hW
      have hSlt := hS.lt
      replace hS := Lib.hid hS
      clear hW
      go_wp2_with fail
      refine (impl_end hS.out).mono ?_
      rintro e w4 ⟨rfl, S4, A4⟩
      have W4 := HW.out.ap A4
      have m1 := W4.m1
      have g0 := W4.fc 0 (by omega)
      have g1 := W4.fc 1 (by omega)
      have g2 := W4.fc 2 (by omega)
      have g3 := W4.fc 3 (by omega)
      have g4 := W4.fc 4 (by omega)
      generalize hd0 : fs.getD 0 0 = d at g0
      generalize ha0 : fs.getD 1 0 = a at g1
      generalize hb0 : fs.getD 2 0 = b1 at g2
      generalize hf0 : fs.getD 3 0 = f at g3
      generalize hn0 : fs.getD 4 0 = n at g4
      have FS : Hid (fs = [d, a, b1, f, n]) := by
        show fs = _
        have hl := hR.out.1
        match fs, hl with
        | [x0, x1, x2, x3, x4], _ => simp at hd0 ha0 hb0 hf0 hn0; subst hd0 ha0 hb0 hf0 hn0; rfl
      replace S4 := Lib.hid S4
      replace W4 := Lib.hid W4
      have A4' := Lib.hid (hA.out.trans A4)
      clear A4 HW hd0 ha0 hb0 hf0 hn0
      go_wp2_with fail
      refine (impl_instOf kk d a b1 f n w4).mono ?_
      rintro e w5 ⟨rfl, f5⟩
      have FA := Lib.hid (Fr.trans f5 (Fr.alloc w5 (.cells #[.int .i64 kk, .int .i64 d, .int .i64 a, .int .i64 b1, .int .i64 f, .int .i64 n] 45)))
      have hs5 := f5.size
      have hs4 := S4.out.lt
      have hZ4 : u.heap.size < w4.heap.size := lt_of_cell (W4.out.zc 0 (by omega))
      go_wp2_with fail
      refine (impl_CodOk _ _ _ _ _ _ _ (S4.out.tabs.base.base.fr FA.out)).mono ?_
      rintro e w6 ⟨rfl, f6⟩
      have FB := Lib.hid (FA.out.trans f6)
      have S6 := Lib.hid (S4.out.fr FB.out)
      have A6 := Lib.hid (A4'.out.trans (Ap.of FB.out))
      have BX := Lib.hid ((Box.new w5 kk d a b1 f n 45).fr f6)
      have W6 := Lib.hid (W4.out.ap (Ap.of FB.out))
      have hc6 := BX.out.lt
      have IF := Lib.hid (ins_fin FS.out K1.out K2.out hR.out)
      clear f5 f6 FA m1 g0 g1 g2 g3 g4
      cases hi : iok kk d a b1 f n
      · rw [hi] at IF
        obtain ⟨t2, q2, he2⟩ := S6.out.tabs.e6
        go_wp2_with fail
        refine (impl_fail S6.out _ _).mono ?_
        rintro e w7 ⟨rfl, S7, A7⟩
        have BX7 : Box w7 w5.heap.size kk d a b1 f n := by
          obtain ⟨x0, x1, x2, x3, x4, x5⟩ := BX.out
          have hne : w5.heap.size ≠ p := by omega
          exact ⟨(A7.cell hc6 hne).trans x0, (A7.cell hc6 hne).trans x1, (A7.cell hc6 hne).trans x2, (A7.cell hc6 hne).trans x3, (A7.cell hc6 hne).trans x4, (A7.cell hc6 hne).trans x5⟩
        have W7 := W6.out.ap A7
        have SA := Lib.hid (A6.out.trans A7)
        replace S7 := Lib.hid S7
        obtain ⟨c0, c1, c2, c3, c4, c5⟩ := BX7
        have z0 := W7.zc 0 (by omega)
        have z1 := W7.zc 1 (by omega)
        have z2 := W7.zc 2 (by omega)
        have z3 := W7.zc 3 (by omega)
        have z4 := W7.zc 4 (by omega)
        have z5 := W7.zc 5 (by omega)
        have y0 := W7.zz 0 (by omega)
        have y1 := W7.zz 1 (by omega)
        have y2 := W7.zz 2 (by omega)
        have y3 := W7.zz 3 (by omega)
        have y4 := W7.zz 4 (by omega)
        have y5 := W7.zz 5 (by omega)
        clear W7 A7 he2
        go_wp2
        refine bodyPost_ret (v := .agg #[.int .i64 kk, .int .i64 d, .int .i64 a, .int .i64 b1, .int .i64 f, .int .i64 n]) (by simp [results, Tryz.results55, go_sem, z0, z1, z2, z3, z4, z5]) rfl ⟨kk, d, a, b1, f, n, r', true, rfl, S7.out.keep ?_, ?_, ?_, ?_⟩
        · exact below6 (Below.refl _ _) (show p + 1 ≤ u.heap.size from hlt) _ _ _ _ _ _
        · exact (((((SA.out.setNew (Nat.le_refl _) _).setNew (Nat.le_refl _) _).setNew (Nat.le_refl _) _).setNew (Nat.le_refl _) _).setNew (Nat.le_refl _) _).setNew (Nat.le_refl _) _
        · intro _; rfl
        · intro hb
          have := IF.out.2 hb
          simpa using this
      · rw [hi] at IF
        obtain ⟨c0, c1, c2, c3, c4, c5⟩ := BX.out
        have z0 := W6.out.zc 0 (by omega)
        have z1 := W6.out.zc 1 (by omega)
        have z2 := W6.out.zc 2 (by omega)
        have z3 := W6.out.zc 3 (by omega)
        have z4 := W6.out.zc 4 (by omega)
        have z5 := W6.out.zc 5 (by omega)
        have y0 := W6.out.zz 0 (by omega)
        have y1 := W6.out.zz 1 (by omega)
        have y2 := W6.out.zz 2 (by omega)
        have y3 := W6.out.zz 3 (by omega)
        have y4 := W6.out.zz 4 (by omega)
        have y5 := W6.out.zz 5 (by omega)
        go_wp2
        refine bodyPost_ret (v := .agg #[.int .i64 kk, .int .i64 d, .int .i64 a, .int .i64 b1, .int .i64 f, .int .i64 n]) (by simp [results, Tryz.results55, go_sem, z0, z1, z2, z3, z4, z5]) rfl ⟨kk, d, a, b1, f, n, r', (b || !r'.isEmpty), rfl, S6.out.keep ?_, ?_, ?_, ?_⟩
        · exact below6 (Below.refl _ _) (show p + 1 ≤ u.heap.size from hlt) _ _ _ _ _ _
        · exact (((((A6.out.setNew (Nat.le_refl _) _).setNew (Nat.le_refl _) _).setNew (Nat.le_refl _) _).setNew (Nat.le_refl _) _).setNew (Nat.le_refl _) _).setNew (Nat.le_refl _) _
        · intro hb
          have := IF.out.1 hb
          simpa using this
        · intro hb
          have := IF.out.2 hb
          simpa using this
end Go.Proofs.YtecdmafhjfnloaaGreatDoor
