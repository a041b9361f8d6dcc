/- What is seen at an address: of the program and of the model; a word that is laid. -/
import Derived.Test.YtbjapncfgancoaaDoorPl4
import Derived.Test.YtbjapncfgancoaaDoorPl2
namespace Go.Proofs.YtbjapncfgancoaaDoor
open Go.RowKit
set_option linter.unusedVariables false
set_option linter.unusedSimpArgs false
theorem usr_t {C : List Int} (h : C.getD 3 0 % 2 = 1) : usr C = true := by unfold usr; rw [h]; rfl
theorem usr_f {C : List Int} (h : C.getD 3 0 % 2 = 0) : usr C = false := by unfold usr; rw [h]; rfl
theorem ctl_at {u : World} {C : List Int} {ao : Option Addr} (h : Src u C.length (ivl C) ao) (hl : C.length = 5) : ∃ g o, ao = some ⟨g, o, none⟩ ∧ g < u.heap.size ∧ u.cell? ⟨g, o, none⟩ = some (.int .i64 (C.getD 0 0)) ∧ u.cell? ⟨g, o + 2, none⟩ = some (.int .i64 (C.getD 2 0)) ∧ u.cell? ⟨g, o + 3, none⟩ = some (.int .i64 (C.getD 3 0)) := by
  obtain ⟨g, o, e, hg, h0, hc⟩ := src_at h (by omega)
  exact ⟨g, o, e, hg, h0, hc 2 (by omega), hc 3 (by omega)⟩
theorem impl_inUserMode (s : St) (aR aC aM : Option Addr) (cR cC cM : Nat) (w : World) (h : Src w s.C.length (ivl s.C) aC) (hl : s.C.length = 5) (h0 : 0 ≤ s.C.getD 3 0) :
    Calls Tryd.prog 75 #[.agg #[.int .i64 (s).pc, .slice aR (s).R.length cR, .slice aC (s).C.length cC, .slice aM (s).M.length cM]] w fun e w' => e = .returned (.bool (usr s.C)) ∧ Fr w w' := by
  obtain ⟨g, o, rfl, hg, _, _, d3⟩ := ctl_at (h.fr (Fr.alloc w (.cells #[.int .i64 s.pc, .slice aR s.R.length cR, .slice aC s.C.length cC, .slice aM s.M.length cM] 26))) hl
  have hl3 : (3 : Int) < (s.C.length : Int) := by omega
  clear hl h
  have h2 : s.C.getD 3 0 % 2 = 0 ∨ s.C.getD 3 0 % 2 = 1 := by omega
  rcases h2 with h2 | h2
  · have HU := Lib.hid (usr_f h2)
    generalize s.C.getD 3 0 = c3 at d3 h0 h2
    have ht : c3.tmod 2 = 0 := by rw [Int.tmod_eq_emod_of_nonneg h0]; exact h2
    go_enter Tryd.func75, Tryd.ntmps75
    go_wp2
    go_ret
    refine ⟨ret_bool (by rw [HU.out]), ?_⟩
    (repeat' first | (with_reducible exact Below.refl _ _) | (with_reducible assumption) | ((with_reducible refine Below.setCell ?_ ?hb _); (case hb => first | exact Nat.le_refl _ | (simp; done) | (simp; omega) | omega)) | ((with_reducible refine Below.alloc ?_ ?hb _); (case hb => first | exact Nat.le_refl _ | (simp; done) | (simp; omega) | omega)) | (with_reducible refine Below.drew ?_))
  · have HU := Lib.hid (usr_t h2)
    generalize s.C.getD 3 0 = c3 at d3 h0 h2
    have ht : c3.tmod 2 = 1 := by rw [Int.tmod_eq_emod_of_nonneg h0]; exact h2
    go_enter Tryd.func75, Tryd.ntmps75
    go_wp2
    go_ret
    refine ⟨ret_bool (by rw [HU.out]), ?_⟩
    (repeat' first | (with_reducible exact Below.refl _ _) | (with_reducible assumption) | ((with_reducible refine Below.setCell ?_ ?hb _); (case hb => first | exact Nat.le_refl _ | (simp; done) | (simp; omega) | omega)) | ((with_reducible refine Below.alloc ?_ ?hb _); (case hb => first | exact Nat.le_refl _ | (simp; done) | (simp; omega) | omega)) | (with_reducible refine Below.drew ?_))
theorem and_pow (X n : Nat) : X &&& 2 ^ n = if X / 2 ^ n % 2 = 0 then 0 else 2 ^ n := by
  apply Nat.eq_of_testBit_eq
  intro i
  rw [Nat.testBit_and, Nat.testBit_two_pow]
  by_cases h : X / 2 ^ n % 2 = 0
  · rw [if_pos h, Nat.zero_testBit]
    by_cases e : n = i
    · subst e
      rw [Nat.testBit_eq_decide_div_mod_eq]
      simp [h]
    · simp [e]
  · rw [if_neg h, Nat.testBit_two_pow]
    by_cases e : n = i
    · subst e
      rw [Nat.testBit_eq_decide_div_mod_eq]
      have : X / 2 ^ n % 2 = 1 := by omega
      simp [this]
    · simp [e]
theorem bit_at (x : Int) (n m : Nat) (hm : 2 ^ n = m) (hx : 0 ≤ x) (hy : x < 65536) (hn : m ≤ 256) : bits .and .i64 x (m : Int) = if x / (m : Int) % 2 = 0 then 0 else (m : Int) := by
  rw [i64_and_w x _ hx hy (by omega) (by omega)]
  obtain ⟨X, rfl⟩ := Int.eq_ofNat_of_zero_le hx
  simp only [Int.toNat_natCast]
  have h2 := and_pow X n
  rw [hm] at h2
  rw [h2]
  by_cases h : X / m % 2 = 0
  · rw [if_pos h, if_pos (by exact_mod_cast h)]
    rfl
  · rw [if_neg h, if_neg (by intro q; exact h (by exact_mod_cast q))]
theorem bit16 (x : Int) (hx : 0 ≤ x) (hy : x < 65536) : bits .and .i64 x 16 = if x / 16 % 2 = 0 then 0 else 16 := bit_at x 4 16 rfl hx hy (by decide)
theorem bit32 (x : Int) (hx : 0 ≤ x) (hy : x < 65536) : bits .and .i64 x 32 = if x / 32 % 2 = 0 then 0 else 32 := bit_at x 5 32 rfl hx hy (by decide)
theorem see_sup {C M : List Int} {a : Int} {save : Bool} (h : C.getD 3 0 % 2 = 0) : see C M a save = if a < 256 then a else -1 := if_pos h
theorem see_usr {C M : List Int} {a : Int} {save : Bool} (h : C.getD 3 0 % 2 = 1) : see C M a save = if 256 ≤ a ∨ 256 ≤ C.getD 2 0 + a / 16 then -1 else frame (M.getD (C.getD 2 0 + a / 16).toNat 0) a save := if_neg (by omega)
set_option maxHeartbeats 2000000 in
theorem impl_translate (s : St) (aR aC aM : Option Addr) (cR cC cM : Nat) (a : Int) (save : Bool) (w : World) (h : SrcS w s aR aC aM) (hk : OkS s) (a0 : 0 ≤ a) (a1 : a < 65536) :
    Calls Tryd.prog 65 #[.agg #[.int .i64 (s).pc, .slice aR (s).R.length cR, .slice aC (s).C.length cC, .slice aM (s).M.length cM], .int .i64 a, .bool save] w fun e w' => e = .returned (.int .i64 (see s.C s.M a save)) ∧ Fr w w' := by
  have F1 := Fr.alloc w (.cells #[.int .i64 s.pc, .slice aR s.R.length cR, .slice aC s.C.length cC, .slice aM s.M.length cM] 26)
  have c3 := ok_get hk.C 3
  have c2 := ok_get hk.C 2
  have HU := Lib.hid (impl_inUserMode s aR aC aM cR cC cM _ (h.C.fr F1) hk.Cl c3.1)
  have h2 : s.C.getD 3 0 % 2 = 0 ∨ s.C.getD 3 0 % 2 = 1 := by omega
  have HF := Lib.hid F1
  rcases h2 with h2 | h2
  · rw [usr_f h2] at HU
    have HS := Lib.hid (see_sup (M := s.M) (a := a) (save := save) h2)
    clear h hk h2 c2 c3 F1
    by_cases hl : a < 256
    · go_enter Tryd.func65, Tryd.ntmps65
      go_wp2_with fail
      refine HU.out.mono ?_
      rintro e w' ⟨rfl, f⟩
      go_wp2
      go_ret
      exact ⟨ret_int (by rw [HS.out, if_pos hl]), HF.out.trans f⟩
    · have hl2 : 256 ≤ a := by omega
      clear hl
      go_enter Tryd.func65, Tryd.ntmps65
      go_wp2_with fail
      refine HU.out.mono ?_
      rintro e w' ⟨rfl, f⟩
      go_wp2
      go_ret
      exact ⟨ret_int (by rw [HS.out, if_neg (by omega)]), HF.out.trans f⟩
  · rw [usr_t h2] at HU
    have HS := Lib.hid (see_usr (M := s.M) (a := a) (save := save) h2)
    have hC := h.C
    have hM := h.M
    obtain ⟨g, o, rfl, hg, _, d2, _⟩ := ctl_at hC hk.Cl
    have hl2 : (2 : Int) < (s.C.length : Int) := by have := hk.Cl; omega
    by_cases hA : 256 ≤ a
    · skip
      have D2 := Lib.hid d2
      clear h hk h2 c3 F1 hC hM
      generalize s.C.getD 2 0 = c at c2 D2 HS
      go_enter Tryd.func65, Tryd.ntmps65
      go_wp2_with fail
      refine HU.out.mono ?_
      rintro e w' ⟨rfl, f⟩
      have FF := HF.out.trans f
      have d := D2.out
      rw [← FF.cell (p := ⟨g, o + 2, none⟩) hg] at d
      have b0 : w'.cell? ⟨w.heap.size, 2, none⟩ = some (.slice (some ⟨g, o, none⟩) s.C.length cC) := by
        rw [f.cell (show w.heap.size < _ by simp)]; simp
      have HFF := Lib.hid FF
      clear f FF
      go_wp2
      go_ret
      exact ⟨ret_int (by rw [HS.out, if_pos (.inl hA)]), HFF.out⟩
    · by_cases hT : 256 ≤ s.C.getD 2 0 + a / 16
      · skip
        have D2 := Lib.hid d2
        clear h hk h2 c3 F1 hC hM
        generalize s.C.getD 2 0 = c at c2 D2 HS hT
        have hA' : a < 256 := by omega
        have hd : decide (256 ≤ a) = false := by simp; omega
        go_enter Tryd.func65, Tryd.ntmps65
        go_wp2_with fail
        refine HU.out.mono ?_
        rintro e w' ⟨rfl, f⟩
        have FF := HF.out.trans f
        have d := D2.out
        rw [← FF.cell (p := ⟨g, o + 2, none⟩) hg] at d
        have b0 : w'.cell? ⟨w.heap.size, 2, none⟩ = some (.slice (some ⟨g, o, none⟩) s.C.length cC) := by
          rw [f.cell (show w.heap.size < _ by simp)]; simp
        have HFF := Lib.hid FF
        clear f FF
        go_wp2
        go_ret
        exact ⟨ret_int (by rw [HS.out, if_pos (.inr hT)]), HFF.out⟩
      · obtain ⟨gm, om, rfl, hgm, _, hcm⟩ := src_at hM (by have := hk.Ml; omega)
        have m := hcm (s.C.getD 2 0 + a / 16).toNat (by have := hk.Ml; omega)
        have mb := ok_get hk.M (s.C.getD 2 0 + a / 16).toNat
        have hlm : s.C.getD 2 0 + a / 16 < (s.M.length : Int) := by have := hk.Ml; omega
        have D2 := Lib.hid d2
        have DM := Lib.hid m
        replace HS := Lib.hid (show see s.C s.M a save = frame (s.M.getD (s.C.getD 2 0 + a / 16).toNat 0) a save by rw [HS.out, if_neg (by omega)])
        clear h hk h2 c3 F1 hC hM hcm m
        generalize hc : s.C.getD 2 0 = c at *
        clear hc
        generalize s.M.getD (c + a / 16).toNat 0 = x at mb DM HS
        have hA' : a < 256 := by omega
        have hT' : c + a / 16 < 256 := by omega
        have hd : decide (256 ≤ a) = false := by simp; omega
        have hd2 : decide (256 ≤ c + a / 16) = false := by simp; omega
        have B16 := bit16 x mb.1 mb.2
        have B32 := bit32 x mb.1 mb.2
        by_cases h16 : x / 16 % 2 = 0
        · rw [if_pos h16] at B16
          replace HS := Lib.hid (HS.out.trans (show frame x a save = -1 from if_pos (.inl h16)))
          clear B32
          go_enter Tryd.func65, Tryd.ntmps65
          go_wp2_with fail
          refine HU.out.mono ?_
          rintro e w' ⟨rfl, f⟩
          have FF := HF.out.trans f
          have d := D2.out
          rw [← FF.cell (p := ⟨g, o + 2, none⟩) hg] at d
          have dm := DM.out
          rw [← FF.cell (p := ⟨gm, om + (c + a / 16).toNat, none⟩) hgm] at dm
          have b0 : w'.cell? ⟨w.heap.size, 2, none⟩ = some (.slice (some ⟨g, o, none⟩) s.C.length cC) := by
            rw [f.cell (show w.heap.size < _ by simp)]; simp
          have b1 : w'.cell? ⟨w.heap.size, 3, none⟩ = some (.slice (some ⟨gm, om, none⟩) s.M.length cM) := by
            rw [f.cell (show w.heap.size < _ by simp)]; simp
          have HFF := Lib.hid FF
          clear f FF
          go_wp2
          go_ret
          exact ⟨ret_int HS.out.symm, HFF.out⟩
        · rw [if_neg h16] at B16
          cases save
          · replace HS := Lib.hid (HS.out.trans (show frame x a false = x % 16 * 16 + a % 16 from if_neg (by simp [h16])))
            clear B32
            go_enter Tryd.func65, Tryd.ntmps65
            go_wp2_with fail
            refine HU.out.mono ?_
            rintro e w' ⟨rfl, f⟩
            have FF := HF.out.trans f
            have d := D2.out
            rw [← FF.cell (p := ⟨g, o + 2, none⟩) hg] at d
            have dm := DM.out
            rw [← FF.cell (p := ⟨gm, om + (c + a / 16).toNat, none⟩) hgm] at dm
            have b0 : w'.cell? ⟨w.heap.size, 2, none⟩ = some (.slice (some ⟨g, o, none⟩) s.C.length cC) := by
              rw [f.cell (show w.heap.size < _ by simp)]; simp
            have b1 : w'.cell? ⟨w.heap.size, 3, none⟩ = some (.slice (some ⟨gm, om, none⟩) s.M.length cM) := by
              rw [f.cell (show w.heap.size < _ by simp)]; simp
            have HFF := Lib.hid FF
            clear f FF
            go_wp2
            go_ret
            exact ⟨ret_int HS.out.symm, HFF.out⟩
          · by_cases h32 : x / 32 % 2 = 0
            · rw [if_pos h32] at B32
              replace HS := Lib.hid (HS.out.trans (show frame x a true = -1 from if_pos (.inr ⟨rfl, h32⟩)))
              go_enter Tryd.func65, Tryd.ntmps65
              go_wp2_with fail
              refine HU.out.mono ?_
              rintro e w' ⟨rfl, f⟩
              have FF := HF.out.trans f
              have d := D2.out
              rw [← FF.cell (p := ⟨g, o + 2, none⟩) hg] at d
              have dm := DM.out
              rw [← FF.cell (p := ⟨gm, om + (c + a / 16).toNat, none⟩) hgm] at dm
              have b0 : w'.cell? ⟨w.heap.size, 2, none⟩ = some (.slice (some ⟨g, o, none⟩) s.C.length cC) := by
                rw [f.cell (show w.heap.size < _ by simp)]; simp
              have b1 : w'.cell? ⟨w.heap.size, 3, none⟩ = some (.slice (some ⟨gm, om, none⟩) s.M.length cM) := by
                rw [f.cell (show w.heap.size < _ by simp)]; simp
              have HFF := Lib.hid FF
              clear f FF
              go_wp2
              go_ret
              exact ⟨ret_int HS.out.symm, HFF.out⟩
            · rw [if_neg h32] at B32
              replace HS := Lib.hid (HS.out.trans (show frame x a true = x % 16 * 16 + a % 16 from if_neg (by simp [h16, h32])))
              go_enter Tryd.func65, Tryd.ntmps65
              go_wp2_with fail
              refine HU.out.mono ?_
              rintro e w' ⟨rfl, f⟩
              have FF := HF.out.trans f
              have d := D2.out
              rw [← FF.cell (p := ⟨g, o + 2, none⟩) hg] at d
              have dm := DM.out
              rw [← FF.cell (p := ⟨gm, om + (c + a / 16).toNat, none⟩) hgm] at dm
              have b0 : w'.cell? ⟨w.heap.size, 2, none⟩ = some (.slice (some ⟨g, o, none⟩) s.C.length cC) := by
                rw [f.cell (show w.heap.size < _ by simp)]; simp
              have b1 : w'.cell? ⟨w.heap.size, 3, none⟩ = some (.slice (some ⟨gm, om, none⟩) s.M.length cM) := by
                rw [f.cell (show w.heap.size < _ by simp)]; simp
              have HFF := Lib.hid FF
              clear f FF
              go_wp2
              go_ret
              exact ⟨ret_int HS.out.symm, HFF.out⟩
set_option maxHeartbeats 1000000 in
theorem spec_l4Frame (x a : Int) (save : Bool) (x0 : 0 ≤ x) (x1 : x < 65536) (a0 : 0 ≤ a) (a1 : a < 65536) (w : World) :
    Calls Tryd.prog 82 #[.int .i64 x, .int .i64 a, .bool save] w fun e w' => e = .returned (.int .i64 (frame x a save)) ∧ w = w' := by
  by_cases h16 : x / 16 % 2 = 0
  · have HS := Lib.hid (show frame x a save = -1 from if_pos (.inl h16))
    go_enter Tryd.func82, Tryd.ntmps82
    go_wp2
    go_ret
    exact ⟨ret_int HS.out.symm, rfl⟩
  · have h16' : (x / 16 % 2 == 0) = false := by simpa using h16
    cases save
    · have HS := Lib.hid (show frame x a false = x % 16 * 16 + a % 16 from if_neg (by simp [h16]))
      clear h16
      go_enter Tryd.func82, Tryd.ntmps82
      go_wp2
      go_ret
      exact ⟨ret_int HS.out.symm, rfl⟩
    · by_cases h32 : x / 32 % 2 = 0
      · have HS := Lib.hid (show frame x a true = -1 from if_pos (.inr ⟨rfl, h32⟩))
        clear h16
        go_enter Tryd.func82, Tryd.ntmps82
        go_wp2
        go_ret
        exact ⟨ret_int HS.out.symm, rfl⟩
      · have HS := Lib.hid (show frame x a true = x % 16 * 16 + a % 16 from if_neg (by simp [h16, h32]))
        have h32' : (x / 32 % 2 == 0) = false := by simpa using h32
        clear h16 h32
        go_enter Tryd.func82, Tryd.ntmps82
        go_wp2
        go_ret
        exact ⟨ret_int HS.out.symm, rfl⟩
/-- Where the word of a table stands. -/
def tabl (x3 x2 a : Int) : Int := if x3 % 2 = 0 then (if a < 256 then -2 else -1) else if 256 ≤ a ∨ 256 ≤ x2 + a / 16 then -1 else x2 + a / 16
set_option maxHeartbeats 1000000 in
theorem spec_l4Table (C : List Int) (ao : Option Addr) (cC : Nat) (a : Int) (w : World) (h : Src w C.length (ivl C) ao) (hl : C.length = 5) (hk : C.all okB = true) (a0 : 0 ≤ a) (a1 : a < 65536) :
    Calls Tryd.prog 81 #[.slice ao C.length cC, .int .i64 a] w fun e w' => e = .returned (.int .i64 (tabl (C.getD 3 0) (C.getD 2 0) a)) ∧ w = w' := by
  have c3 := ok_get hk 3
  have c2 := ok_get hk 2
  obtain ⟨g, o, rfl, hg, _, d2, d3⟩ := ctl_at h hl
  have hl3 : (3 : Int) < (C.length : Int) := by omega
  have hl2 : (2 : Int) < (C.length : Int) := by omega
  clear h hl hk
  generalize C.getD 3 0 = x3 at *
  generalize C.getD 2 0 = x2 at *
  by_cases h2 : x3 % 2 = 0
  · by_cases ha : a < 256
    · have HE := Lib.hid (show tabl x3 x2 a = -2 by rw [tabl, if_pos h2, if_pos ha])
      go_enter Tryd.func81, Tryd.ntmps81
      go_wp2
      go_ret
      exact ⟨ret_int HE.out.symm, rfl⟩
    · have HE := Lib.hid (show tabl x3 x2 a = -1 by rw [tabl, if_pos h2, if_neg ha])
      go_enter Tryd.func81, Tryd.ntmps81
      go_wp2
      go_ret
      exact ⟨ret_int HE.out.symm, rfl⟩
  · have hx : (x3 % 2 == 0) = false := by simpa using h2
    by_cases hA : 256 ≤ a
    · have HE := Lib.hid (show tabl x3 x2 a = -1 by rw [tabl, if_neg h2, if_pos (.inl hA)])
      clear h2
      go_enter Tryd.func81, Tryd.ntmps81
      go_wp2
      go_ret
      exact ⟨ret_int HE.out.symm, rfl⟩
    · have hd : decide (256 ≤ a) = false := by simp; omega
      by_cases hT : 256 ≤ x2 + a / 16
      · have HE := Lib.hid (show tabl x3 x2 a = -1 by rw [tabl, if_neg h2, if_pos (.inr hT)])
        clear h2 hA
        go_enter Tryd.func81, Tryd.ntmps81
        go_wp2
        go_ret
        exact ⟨ret_int HE.out.symm, rfl⟩
      · have HE := Lib.hid (show tabl x3 x2 a = x2 + a / 16 by rw [tabl, if_neg h2, if_neg (by omega)])
        have hd2 : decide (256 ≤ x2 + a / 16) = false := by simp; omega
        clear h2 hA hT
        go_enter Tryd.func81, Tryd.ntmps81
        go_wp2
        go_ret
        exact ⟨ret_int HE.out.symm, rfl⟩
theorem see_tabl {C M : List Int} {a : Int} {save : Bool} (a0 : 0 ≤ a) (h2 : 0 ≤ C.getD 2 0) : see C M a save = if tabl (C.getD 3 0) (C.getD 2 0) a = -2 then a else if tabl (C.getD 3 0) (C.getD 2 0) a < 0 then -1 else frame (M.getD (tabl (C.getD 3 0) (C.getD 2 0) a).toNat 0) a save := by
  unfold see
  generalize C.getD 3 0 = x3
  generalize C.getD 2 0 = x2 at *
  by_cases h : x3 % 2 = 0
  · rw [if_pos h]
    by_cases ha : a < 256
    · have : tabl x3 x2 a = -2 := by rw [tabl, if_pos h, if_pos ha]
      rw [if_pos ha, this, if_pos rfl]
    · have : tabl x3 x2 a = -1 := by rw [tabl, if_pos h, if_neg ha]
      rw [if_neg ha, this, if_neg (by decide), if_pos (by decide)]
  · rw [if_neg h]
    by_cases hA : 256 ≤ a ∨ 256 ≤ x2 + a / 16
    · have : tabl x3 x2 a = -1 := by rw [tabl, if_neg h, if_pos hA]
      rw [if_pos hA, this, if_neg (by decide), if_pos (by decide)]
    · have : tabl x3 x2 a = x2 + a / 16 := by rw [tabl, if_neg h, if_neg hA]
      rw [if_neg hA, this, if_neg (by omega), if_neg (by omega)]
theorem tabl_bd (x3 x2 a : Int) : tabl x3 x2 a < 256 := by
  unfold tabl
  split
  · split <;> omega
  · split <;> omega
set_option maxHeartbeats 1000000 in
theorem spec_l4Page (C M : List Int) (aC aM : Option Addr) (cC cM : Nat) (a : Int) (save : Bool) (w : World) (hC : Src w C.length (ivl C) aC) (hM : Src w M.length (ivl M) aM) (hl : C.length = 5) (hm : M.length = 256) (hk : C.all okB = true) (hj : M.all okB = true) (a0 : 0 ≤ a) (a1 : a < 65536) :
    Calls Tryd.prog 69 #[.slice aM M.length cM, .slice aC C.length cC, .int .i64 a, .bool save] w fun e w' => e = .returned (.int .i64 (see C M a save)) ∧ w = w' := by
  have E := Lib.hid (spec_l4Table C aC cC a w hC hl hk a0 a1)
  have HS := Lib.hid (see_tabl (M := M) (save := save) a0 (ok_get hk 2).1)
  have tb := tabl_bd (C.getD 3 0) (C.getD 2 0) a
  generalize tabl (C.getD 3 0) (C.getD 2 0) a = t at *
  clear hk hl hC
  by_cases h2 : t = -2
  · subst h2
    replace HS := Lib.hid (HS.out.trans (if_pos rfl))
    clear hM hm hj
    go_enter Tryd.func69, Tryd.ntmps69
    go_wp2_with fail
    refine E.out.mono ?_
    rintro e w' ⟨rfl, rfl⟩
    go_wp2
    go_ret
    exact ⟨ret_int HS.out.symm, rfl⟩
  · have hx : (t == -2) = false := by simpa using h2
    replace HS := Lib.hid (HS.out.trans (if_neg h2))
    clear h2
    by_cases h0 : t < 0
    · replace HS := Lib.hid (HS.out.trans (if_pos h0))
      clear hM hm hj
      go_enter Tryd.func69, Tryd.ntmps69
      go_wp2_with fail
      refine E.out.mono ?_
      rintro e w' ⟨rfl, rfl⟩
      go_wp2
      go_ret
      exact ⟨ret_int HS.out.symm, rfl⟩
    · replace HS := Lib.hid (HS.out.trans (if_neg h0))
      have t0 : 0 ≤ t := by omega
      obtain ⟨gm, om, rfl, hgm, _, hcm⟩ := src_at hM (by omega)
      have dm := hcm t.toNat (by omega)
      have hlm : t < (M.length : Int) := by omega
      have mb := ok_get hj t.toNat
      generalize M.getD t.toNat 0 = x at *
      clear hM hm hj hcm h0
      go_enter Tryd.func69, Tryd.ntmps69
      go_wp2_with fail
      refine E.out.mono ?_
      rintro e w' ⟨rfl, rfl⟩
      go_wp2_with (go_at_call 82; refine (spec_l4Frame x a save mb.1 mb.2 a0 a1 _).mono ?_; rintro e w' ⟨rfl, rfl⟩)
      go_ret
      exact ⟨ret_int HS.out.symm, rfl⟩
end Go.Proofs.YtbjapncfgancoaaDoor
