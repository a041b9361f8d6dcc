/- Chapter 3: the table of names; numbers' texts; the name of an instruction. -/
import Derived.Test.YtecdmafhjfnloaaGreatDoorShelf
import Derived.Test.YtecdmafhjfnloaaGreatDoorTxtRound
import Derived.Test.YtecdmafhjfnloaaGreatDoorCodLaws
import Derived.Deep.MidRow
namespace Go.Proofs.YtecdmafhjfnloaaGreatDoor
open Go.RowKit
set_option linter.unusedVariables false

abbrev bs (l : List UInt8) : ByteArray := ⟨l.toArray⟩
theorem bs_app (a b : List UInt8) : bs a ++ bs b = bs (a ++ b) := by
  apply ByteArray.ext
  simp
/-- What the table of names holds: 23 names, kinds and operations. -/
def mnL : List Value := (List.range 23).flatMap fun i => [.string (bs (nmL.getD i [])), .int .i64 (mk i), .int .i64 (mf i)]
structure Tabs2 (w : World) : Prop where
  base : Tabs w
  mn : ∀ i, i < 69 → w.cell? ⟨5, i, none⟩ = some (mnL.getD i undef)
  pw : Lib.TabIs Tryz.prog w "internal/strconv.uint64pow10" .u64 Lib.pow10Tab
theorem tabIs_fr {P : Program} {w w' : World} {name : String} {k : IntKind} {zs : List Int} (h : Lib.TabIs P w name k zs) (f : Fr w w') : Lib.TabIs P w' name k zs := by
  unfold Lib.TabIs World.var? at *
  cases hg : P.globalNamed name with
  | none => simp [hg] at h
  | some g =>
    simp only [hg, Option.bind_some] at h ⊢
    have hlt : g < w.heap.size := by
      rcases Nat.lt_or_ge g w.heap.size with h' | h'
      · exact h'
      · rw [Array.getElem?_eq_none h'] at h; simp at h
    rw [f.block g hlt]
    exact h
theorem Tabs2.fr {w w' : World} (h : Tabs2 w) (f : Fr w w') : Tabs2 w' :=
  ⟨h.base.fr f, fun i hi => by rw [f.cell (show 5 < w.heap.size from lt_of_cell (h.mn 0 (by decide)))]; exact h.mn i hi, tabIs_fr h.pw f⟩
theorem fr_grow (w : World) (k : Nat) (os : Array Obj) : Fr w (Go.Sort.grow (w.drewN k) os) :=
  ⟨rfl, rfl, rfl, by simp [Go.Sort.grow, World.drewN], fun j hj => by simp only [Go.Sort.grow, World.drewN]; rw [Array.getElem?_append_left hj]⟩
theorem impl_Itoa (n : Int) (h0 : -9223372036854775808 ≤ n) (h1 : n ≤ 9223372036854775807) (w : World) (ht : Tabs2 w) :
    Calls Tryz.prog 48 #[.int .i64 n] w fun e w' => e = .returned (.string (bs (Lib.itoa n))) ∧ Fr w w' := by
  refine (Tryz.strconv_Itoa n h0 h1 w ht.pw).mono ?_
  rintro e w' ⟨rfl, k, os, rfl⟩
  exact ⟨rfl, fr_grow w k os⟩
theorem mn_range {w : World} (ht : Tabs2 w) : w.rangeAt 5 0 mnL := fun j v hj => by
  have hl : j < 69 := by
    rcases Nat.lt_or_ge j mnL.length with h | h
    · exact h
    · rw [List.getElem?_eq_none h] at hj; cases hj
  have := ht.mn j hl
  rw [List.getD_eq_getElem?_getD, hj] at this
  simpa using this
theorem mn_size : (Tryz.prog.info? 117).map (·.size) = some mnL.length := by kernel_rfl
/-- Which row of the table an instruction's name is. -/
theorem mn_hit {k d a b f n : Int} (h : iok k d a b f n = true) {i : Nat} (hi : i < 23) : (mk i = k ∧ (mk i ≠ 0 ∨ mf i = f)) ↔ i = nmI k f := by
  obtain ⟨m1, m2⟩ := mk_nmI h
  have hl := nmI_lt h
  constructor
  · rintro ⟨h1, h2⟩
    unfold nmI
    by_cases h0 : k = 0
    · rw [if_pos h0]
      have : i < 8 := by unfold mk at h1; split at h1 <;> omega
      simp [mk, mf, this] at h1 h2
      omega
    · rw [if_neg h0]
      have : ¬ i < 8 := by intro h8; simp [mk, h8] at h1; omega
      simp [mk, this] at h1
      omega
  · intro e
    subst e
    refine ⟨m1, ?_⟩
    rw [m1, m2]
    by_cases h0 : k = 0
    · right; rw [if_pos h0]
    · left; exact h0
theorem mn_index (i : Nat) (hi : i < 23) (w : World) : (Instr.index 117 (.agg mnL.toArray) (.int .i64 i)).run Tryz.prog w = .ok (.agg #[.string (bs (nmL.getD i [])), .int .i64 (mk i), .int .i64 (mf i)]) w := by
  have h : i = 0 ∨ i = 1 ∨ i = 2 ∨ i = 3 ∨ i = 4 ∨ i = 5 ∨ i = 6 ∨ i = 7 ∨ i = 8 ∨ i = 9 ∨ i = 10 ∨ i = 11 ∨ i = 12 ∨ i = 13 ∨ i = 14 ∨ i = 15 ∨ i = 16 ∨ i = 17 ∨ i = 18 ∨ i = 19 ∨ i = 20 ∨ i = 21 ∨ i = 22 := by omega
  rcases h with rfl | rfl | rfl | rfl | rfl | rfl | rfl | rfl | rfl | rfl | rfl | rfl | rfl | rfl | rfl | rfl | rfl | rfl | rfl | rfl | rfl | rfl | rfl <;> (show (_ : Result _) = _; kernel_rfl)
set_option maxRecDepth 4000 in
set_option maxHeartbeats 400000 in
theorem impl_nameOf (k d a b f n : Int) (h : iok k d a b f n = true) (w : World) (ht : Tabs2 w) : Calls Tryz.prog 67 #[.agg #[.int .i64 k, .int .i64 d, .int .i64 a, .int .i64 b, .int .i64 f, .int .i64 n]] w fun e w' => e = .returned (.string (bs (nm k f))) ∧ Fr w w' := by
  have hi := Lib.hid (nmI_lt h)
  have hit := Lib.hid (fun i hi => mn_hit h (i := i) hi)
  have HT := Lib.hid ht
  clear h ht
  go_enter Tryz.func67, Tryz.ntmps67
  go_wp2_with (refine wpList_load_mid rfl 117 (.global 5) rfl 5 0 rfl mnL _ (mn_range (HT.out.fr (Fr.alloc _ _))) Tryz.underlying117 rfl mn_size ?_)
  generalize hA : mnL.toArray = A
  have HA := Lib.hid hA
  clear hA
  go_loopw [6] (fun i wr => ∃ p : Nat, p ≤ nmI k f ∧ i = .int .i64 p ∧ Below (w.heap.size + 1) (w.alloc (.cells #[.int .i64 k, .int .i64 d, .int .i64 a, .int .i64 b, .int .i64 f, .int .i64 n] 45)) wr) (fun i _ => 23 - (intOf i).toNat)
  case atStart => exact ⟨0, by omega, rfl, Below.refl _ _⟩
  case round =>
    obtain ⟨p, hp, rfl, hb⟩ := hrel
    have hsz := hb.size
    simp at hsz
    have hi' := hi.out
    have hfr : Fr w wr := Below.trans (Fr.alloc w _) (hb.mono (by omega))
    have c0 : ∀ o, (wr.alloc o).cell? ⟨w.heap.size, 0, none⟩ = some (.int .i64 k) := fun o => by rw [(Fr.alloc wr o).cell (show w.heap.size < _ by omega), hb.cell (by simp)]; simp
    have c4 : ∀ o, (wr.alloc o).cell? ⟨w.heap.size, 4, none⟩ = some (.int .i64 f) := fun o => by rw [(Fr.alloc wr o).cell (show w.heap.size < _ by omega), hb.cell (by simp)]; simp
    have X := mn_index p (by omega) wr
    rw [HA.out] at X
    have p23 : (p : Int) < 23 := by omega
    have hh := hit.out p (by omega)
    have HF := Lib.hid hfr
    have HB := Lib.hid hb
    clear hfr hb
    by_cases e : p = nmI k f
    · obtain ⟨e1, e2⟩ := hh.2 e
      have en : bs (nmL.getD p []) = bs (nm k f) := by rw [e]; rfl
      rw [en] at X
      clear hh hp hi' en e
      by_cases k0 : k = 0
      · subst k0
        have e3 : mf p = f := by rcases e2 with e2 | e2
                                 · exact absurd e1 e2
                                 · exact e2
        clear e2
        go_wp2
        go_ret
        exact ⟨rfl, by have := HF.out; (repeat' first | (with_reducible exact Below.refl _ _) | (with_reducible assumption) | ((with_reducible refine Below.setCell ?_ ?hb _); (case hb => first | exact Nat.le_refl _ | (simp; done) | (simp; omega) | omega)) | ((with_reducible refine Below.alloc ?_ ?hb _); (case hb => first | exact Nat.le_refl _ | (simp; done) | (simp; omega) | omega)) | (with_reducible refine Below.drew ?_))⟩
      · clear e2
        go_wp2
        go_ret
        exact ⟨rfl, by have := HF.out; (repeat' first | (with_reducible exact Below.refl _ _) | (with_reducible assumption) | ((with_reducible refine Below.setCell ?_ ?hb _); (case hb => first | exact Nat.le_refl _ | (simp; done) | (simp; omega) | omega)) | ((with_reducible refine Below.alloc ?_ ?hb _); (case hb => first | exact Nat.le_refl _ | (simp; done) | (simp; omega) | omega)) | (with_reducible refine Below.drew ?_))⟩
    · have hno : ¬ (mk p = k ∧ (mk p ≠ 0 ∨ mf p = f)) := fun h => e (hh.1 h)
      have hlt := Lib.hid (show p < nmI k f by omega)
      clear hh hp hi' e
      by_cases e1 : mk p = k
      · have k0 : k = 0 := by
          rcases Classical.em (k = 0) with h | h
          · exact h
          · exact absurd ⟨e1, Or.inl (by rw [e1]; exact h)⟩ hno
        subst k0
        have e3 : ¬ mf p = f := fun h => hno ⟨e1, Or.inr h⟩
        clear hno
        go_wp2
        go_roundw
        case rel => exact ⟨p + 1, hlt.out, by go_num, by have := HB.out; (repeat' first | (with_reducible exact Below.refl _ _) | (with_reducible assumption) | ((with_reducible refine Below.setCell ?_ ?hb _); (case hb => first | exact Nat.le_refl _ | (simp; done) | (simp; omega) | omega)) | ((with_reducible refine Below.alloc ?_ ?hb _); (case hb => first | exact Nat.le_refl _ | (simp; done) | (simp; omega) | omega)) | (with_reducible refine Below.drew ?_))⟩
        case measure => simp [intOf]; omega
      · clear hno
        go_wp2
        go_roundw
        case rel => exact ⟨p + 1, hlt.out, by go_num, by have := HB.out; (repeat' first | (with_reducible exact Below.refl _ _) | (with_reducible assumption) | ((with_reducible refine Below.setCell ?_ ?hb _); (case hb => first | exact Nat.le_refl _ | (simp; done) | (simp; omega) | omega)) | ((with_reducible refine Below.alloc ?_ ?hb _); (case hb => first | exact Nat.le_refl _ | (simp; done) | (simp; omega) | omega)) | (with_reducible refine Below.drew ?_))⟩
        case measure => simp [intOf]; omega
set_option maxRecDepth 4000 in
set_option maxHeartbeats 1000000 in
theorem impl_CodText_ok (k d a b f n : Int) (h : iok k d a b f n = true) (w : World) (ht : Tabs2 w) : Calls Tryz.prog 47 #[.agg #[.int .i64 k, .int .i64 d, .int .i64 a, .int .i64 b, .int .i64 f, .int .i64 n]] w fun e w' => e = .returned (.string (bs (txt k d a b f n))) ∧ Fr w w' := by
  obtain ⟨hk, hd, ha, hb, hf, hn⟩ := iok_parts h
  have HK := Lib.hid hk
  have k0 : 0 ≤ k := hk.1
  have k1 : k < 16 := hk.2
  have HT := Lib.hid ht
  have HI := Lib.hid h
  have BD := Lib.hid (fld_bd h)
  have TL := Lib.hid (txtTo_len h)
  clear hk hd ha hb hf hn ht h
  go_enter Tryz.func47, Tryz.ntmps47
  go_wp2_with (first
    | (go_at_call 66; refine (impl_CodOk _ _ _ _ _ _ _ (HT.out.base.fr (Fr.alloc _ _))).mono ?_; rintro e w1 ⟨rfl, f1⟩; rw [HI.out]; have B1 := Lib.hid ((Box.new _ k d a b f n _).fr f1); have F1 := Lib.hid (Fr.trans (Fr.alloc _ _) f1); obtain ⟨c0, c1, c2, c3, c4, c5⟩ := B1.out; clear f1)
    | (go_at_call 67; refine (impl_nameOf _ _ _ _ _ _ HI.out _ (HT.out.fr F1.out)).mono ?_; rintro e w2 ⟨rfl, f2⟩; have B2 := Lib.hid (B1.out.fr f2); have F2 := Lib.hid (Fr.trans F1.out f2); clear c0 c1 c2 c3 c4 c5 f2 B1 F1; obtain ⟨c0, c1, c2, c3, c4, c5⟩ := B2.out)
    | (go_at_call 68; refine (impl_fieldsOf _ _ _ _ _ _ _).mono ?_; rintro e w3 ⟨rfl, f3⟩; have B3 := Lib.hid (B2.out.fr f3); have F3 := Lib.hid (Fr.trans F2.out f3); clear c0 c1 c2 c3 c4 c5 f3 B2 F2))
  go_loopw [13, 3] (fun i o wr => ∃ p : Nat, p ≤ 5 ∧ i = .int .i64 p ∧ o = .string (bs (txtTo k d a b f n p)) ∧ Box wr w.heap.size k d a b f n ∧ Fr w wr) (fun i _ _ => 5 - (intOf i).toNat)
  case atStart => exact ⟨0, by omega, rfl, rfl, B3.out, F3.out⟩
  case round =>
    obtain ⟨p, hp, rfl, rfl, hB, hF⟩ := hrel
    by_cases h5 : p < 5
    · have htr := HT.out.fr hF
      have HTR := Lib.hid htr
      have c1 := htr.base.layAt k p HK.out h5
      have c5 := layN_lt k p HK.out h5
      clear htr
      have x := fld_index d a b f n p h5 wr
      have h5' : (p : Int) < 5 := by omega
      obtain ⟨bd0, bd1⟩ := BD.out p h5
      have tl := TL.out p (by omega)
      have TX : Hid (txtTo k d a b f n (p + 1) = txtTo k d a b f n p ++ piece (layN k p) ((fldL d a b f n).getD p 0)) := rfl
      generalize hv : (fldL d a b f n).getD p 0 = v at x bd0 bd1 TX
      have HB := Lib.hid hB
      have q0 := hB.c0
      have HF := Lib.hid hF
      clear hF hB hv hp
      have hcase : layN k p = 0 ∨ layN k p = 2 ∨ layN k p = 1 ∨ 3 ≤ layN k p := by omega
      rcases hcase with h0 | h0 | h0 | h0
      · rw [h0] at c1 TX
        clear h0
        go_wp2
        go_roundw
        case rel => exact ⟨p + 1, by omega, by go_num, by rw [TX.out]; simp [piece], HB.out, HF.out⟩
        case measure => simp [intOf]; omega
      · rw [h0] at c1 TX
        clear h0
        go_wp2
        go_roundw
        case rel => exact ⟨p + 1, by omega, by go_num, by rw [TX.out]; simp [piece], HB.out, HF.out⟩
        case measure => simp [intOf]; omega
      · rw [h0] at c1 TX
        clear h0
        have l4 := itoa_len4 bd0 bd1
        go_wp2_with (go_at_call 48; refine (impl_Itoa _ (by omega) (by omega) _ HTR.out).mono ?_; rintro e w2 ⟨rfl, f2⟩)
        go_roundw
        case rel => exact ⟨p + 1, by omega, by go_num, by rw [TX.out, show ({ data := #[32, 114] } : ByteArray) = bs [32, 114] from rfl, bs_app, bs_app]; simp [piece], HB.out.fr f2, HF.out.trans f2⟩
        case measure => simp [intOf]; omega
      · have n0 : ((layN k p : Int) == 0) = false := by simp; omega
        have n1 : ((layN k p : Int) == 1) = false := by simp; omega
        have n2 : ((layN k p : Int) == 2) = false := by simp; omega
        have l4 := itoa_len4 bd0 bd1
        go_wp2_with (go_at_call 48; refine (impl_Itoa _ (by omega) (by omega) _ HTR.out).mono ?_; rintro e w2 ⟨rfl, f2⟩)
        go_roundw
        case rel => exact ⟨p + 1, by omega, by go_num, by rw [TX.out, show ({ data := #[32] } : ByteArray) = bs [32] from rfl, bs_app, bs_app, piece, if_neg (by omega), if_neg (by omega)]; rfl, HB.out.fr f2, HF.out.trans f2⟩
        case measure => simp [intOf]; omega
    · have h6 : p = 5 := by omega
      subst h6
      have HF := Lib.hid hF
      clear hF hB
      go_wp2
      go_ret
      exact ⟨rfl, HF.out⟩

/-- An instruction's text, or nothing. -/
def txtD (k d a b f n : Int) : List UInt8 := if iok k d a b f n = true then txt k d a b f n else []
theorem impl_CodText (k d a b f n : Int) (w : World) (ht : Tabs2 w) : Calls Tryz.prog 47 #[.agg #[.int .i64 k, .int .i64 d, .int .i64 a, .int .i64 b, .int .i64 f, .int .i64 n]] w fun e w' => e = .returned (.string (bs (txtD k d a b f n))) ∧ Fr w w' := by
  cases hi : iok k d a b f n
  · have HT := Lib.hid ht
    have e0 : Hid (txtD k d a b f n = []) := by show txtD k d a b f n = []; unfold txtD; rw [if_neg (by simp [hi])]
    clear ht
    go_enter Tryz.func47, Tryz.ntmps47
    go_wp2_with (go_at_call 66; refine (impl_CodOk _ _ _ _ _ _ _ (HT.out.base.fr (Fr.alloc _ _))).mono ?_; rintro e w1 ⟨rfl, f1⟩; rw [hi])
    go_ret
    exact ⟨by rw [e0.out]; rfl, Fr.trans (Fr.alloc _ _) f1⟩
  · have := impl_CodText_ok k d a b f n hi w ht
    unfold txtD
    rw [if_pos hi]
    exact this

end Go.Proofs.YtecdmafhjfnloaaGreatDoor
