/- What is seen at an address: of the program and of the model; a word that is laid. -/
import Derived.Test.YtmkinbnopgfljaaPl4
import Derived.Test.YtmkinbnopgfljaaPl2
namespace Go.Proofs.Ytmkinbnopgfljaa
open Go.RowKit
set_option linter.unusedVariables false
set_option linter.unusedSimpArgs false
theorem usr_t {C : List Int} (h : C.getD 3 0 % 2 = 1) : usr C = true := by unfold usr; rw [h]; rfl
theorem usr_f {C : List Int} (h : C.getD 3 0 % 2 = 0) : usr C = false := by unfold usr; rw [h]; rfl
theorem ctl_at {u : World} {C : List Int} {ao : Option Addr} (h : Src u C.length (ivl C) ao) (hl : C.length = 5) : ∃ g o, ao = some ⟨g, o, none⟩ ∧ g < u.heap.size ∧ u.cell? ⟨g, o, none⟩ = some (.int .i64 (C.getD 0 0)) ∧ u.cell? ⟨g, o + 2, none⟩ = some (.int .i64 (C.getD 2 0)) ∧ u.cell? ⟨g, o + 3, none⟩ = some (.int .i64 (C.getD 3 0)) := by
  obtain ⟨g, o, e, hg, h0, hc⟩ := src_at h (by omega)
  exact ⟨g, o, e, hg, h0, hc 2 (by omega), hc 3 (by omega)⟩
set_option maxHeartbeats 1000000 in
theorem spec_l4Frame (x a : Int) (save : Bool) (x0 : 0 ≤ x) (x1 : x < 65536) (a0 : 0 ≤ a) (a1 : a < 65536) (w : World) :
    Calls Try.prog 66 #[.int .i64 x, .int .i64 a, .bool save] w fun e w' => e = .returned (.int .i64 (frame x a save)) ∧ w = w' := by
  by_cases h16 : x / 16 % 2 = 0
  · have HS := Lib.hid (show frame x a save = -1 from if_pos (.inl h16))
    go_enter Try.func66, Try.ntmps66
    go_wp2
    go_ret
    exact ⟨ret_int HS.out.symm, rfl⟩
  · have h16' : (x / 16 % 2 == 0) = false := by simpa using h16
    cases save
    · have HS := Lib.hid (show frame x a false = x % 16 * 16 + a % 16 from if_neg (by simp [h16]))
      clear h16
      go_enter Try.func66, Try.ntmps66
      go_wp2
      go_ret
      exact ⟨ret_int HS.out.symm, rfl⟩
    · by_cases h32 : x / 32 % 2 = 0
      · have HS := Lib.hid (show frame x a true = -1 from if_pos (.inr ⟨rfl, h32⟩))
        clear h16
        go_enter Try.func66, Try.ntmps66
        go_wp2
        go_ret
        exact ⟨ret_int HS.out.symm, rfl⟩
      · have HS := Lib.hid (show frame x a true = x % 16 * 16 + a % 16 from if_neg (by simp [h16, h32]))
        have h32' : (x / 32 % 2 == 0) = false := by simpa using h32
        clear h16 h32
        go_enter Try.func66, Try.ntmps66
        go_wp2
        go_ret
        exact ⟨ret_int HS.out.symm, rfl⟩
/-- Where the word of a table stands. -/
def tabl (x3 x2 a : Int) : Int := if x3 % 2 = 0 then (if a < 256 then -2 else -1) else if 256 ≤ a ∨ 256 ≤ x2 + a / 16 then -1 else x2 + a / 16
set_option maxHeartbeats 1000000 in
theorem spec_l4Table (C : List Int) (ao : Option Addr) (cC : Nat) (a : Int) (w : World) (h : Src w C.length (ivl C) ao) (hl : C.length = 5) (hk : C.all okB = true) (a0 : 0 ≤ a) (a1 : a < 65536) :
    Calls Try.prog 65 #[.slice ao C.length cC, .int .i64 a] w fun e w' => e = .returned (.int .i64 (tabl (C.getD 3 0) (C.getD 2 0) a)) ∧ w = w' := by
  have c3 := ok_get hk 3
  have c2 := ok_get hk 2
  obtain ⟨g, o, rfl, hg, _, d2, d3⟩ := ctl_at h hl
  have hl3 : (3 : Int) < (C.length : Int) := by omega
  have hl2 : (2 : Int) < (C.length : Int) := by omega
  clear h hl hk
  generalize C.getD 3 0 = x3 at *
  generalize C.getD 2 0 = x2 at *
  by_cases h2 : x3 % 2 = 0
  · by_cases ha : a < 256
    · have HE := Lib.hid (show tabl x3 x2 a = -2 by rw [tabl, if_pos h2, if_pos ha])
      go_enter Try.func65, Try.ntmps65
      go_wp2
      go_ret
      exact ⟨ret_int HE.out.symm, rfl⟩
    · have HE := Lib.hid (show tabl x3 x2 a = -1 by rw [tabl, if_pos h2, if_neg ha])
      go_enter Try.func65, Try.ntmps65
      go_wp2
      go_ret
      exact ⟨ret_int HE.out.symm, rfl⟩
  · have hx : (x3 % 2 == 0) = false := by simpa using h2
    by_cases hA : 256 ≤ a
    · have HE := Lib.hid (show tabl x3 x2 a = -1 by rw [tabl, if_neg h2, if_pos (.inl hA)])
      clear h2
      go_enter Try.func65, Try.ntmps65
      go_wp2
      go_ret
      exact ⟨ret_int HE.out.symm, rfl⟩
    · have hd : decide (256 ≤ a) = false := by simp; omega
      by_cases hT : 256 ≤ x2 + a / 16
      · have HE := Lib.hid (show tabl x3 x2 a = -1 by rw [tabl, if_neg h2, if_pos (.inr hT)])
        clear h2 hA
        go_enter Try.func65, Try.ntmps65
        go_wp2
        go_ret
        exact ⟨ret_int HE.out.symm, rfl⟩
      · have HE := Lib.hid (show tabl x3 x2 a = x2 + a / 16 by rw [tabl, if_neg h2, if_neg (by omega)])
        have hd2 : decide (256 ≤ x2 + a / 16) = false := by simp; omega
        clear h2 hA hT
        go_enter Try.func65, Try.ntmps65
        go_wp2
        go_ret
        exact ⟨ret_int HE.out.symm, rfl⟩
theorem see_tabl {C M : List Int} {a : Int} {save : Bool} (a0 : 0 ≤ a) (h2 : 0 ≤ C.getD 2 0) : see C M a save = if tabl (C.getD 3 0) (C.getD 2 0) a = -2 then a else if tabl (C.getD 3 0) (C.getD 2 0) a < 0 then -1 else frame (M.getD (tabl (C.getD 3 0) (C.getD 2 0) a).toNat 0) a save := by
  unfold see
  generalize C.getD 3 0 = x3
  generalize C.getD 2 0 = x2 at *
  by_cases h : x3 % 2 = 0
  · rw [if_pos h]
    by_cases ha : a < 256
    · have : tabl x3 x2 a = -2 := by rw [tabl, if_pos h, if_pos ha]
      rw [if_pos ha, this, if_pos rfl]
    · have : tabl x3 x2 a = -1 := by rw [tabl, if_pos h, if_neg ha]
      rw [if_neg ha, this, if_neg (by decide), if_pos (by decide)]
  · rw [if_neg h]
    by_cases hA : 256 ≤ a ∨ 256 ≤ x2 + a / 16
    · have : tabl x3 x2 a = -1 := by rw [tabl, if_neg h, if_pos hA]
      rw [if_pos hA, this, if_neg (by decide), if_pos (by decide)]
    · have : tabl x3 x2 a = x2 + a / 16 := by rw [tabl, if_neg h, if_neg hA]
      rw [if_neg hA, this, if_neg (by omega), if_neg (by omega)]
theorem tabl_bd (x3 x2 a : Int) : tabl x3 x2 a < 256 := by
  unfold tabl
  split
  · split <;> omega
  · split <;> omega
set_option maxHeartbeats 1000000 in
theorem spec_l4Page (C M : List Int) (aC aM : Option Addr) (cC cM : Nat) (a : Int) (save : Bool) (w : World) (hC : Src w C.length (ivl C) aC) (hM : Src w M.length (ivl M) aM) (hl : C.length = 5) (hm : M.length = 256) (hk : C.all okB = true) (hj : M.all okB = true) (a0 : 0 ≤ a) (a1 : a < 65536) :
    Calls Try.prog 55 #[.slice aM M.length cM, .slice aC C.length cC, .int .i64 a, .bool save] w fun e w' => e = .returned (.int .i64 (see C M a save)) ∧ w = w' := by
  have E := Lib.hid (spec_l4Table C aC cC a w hC hl hk a0 a1)
  have HS := Lib.hid (see_tabl (M := M) (save := save) a0 (ok_get hk 2).1)
  have tb := tabl_bd (C.getD 3 0) (C.getD 2 0) a
  generalize tabl (C.getD 3 0) (C.getD 2 0) a = t at *
  clear hk hl hC
  by_cases h2 : t = -2
  · subst h2
    replace HS := Lib.hid (HS.out.trans (if_pos rfl))
    clear hM hm hj
    go_enter Try.func55, Try.ntmps55
    go_wp2_with fail
    refine E.out.mono ?_
    rintro e w' ⟨rfl, rfl⟩
    go_wp2
    go_ret
    exact ⟨ret_int HS.out.symm, rfl⟩
  · have hx : (t == -2) = false := by simpa using h2
    replace HS := Lib.hid (HS.out.trans (if_neg h2))
    clear h2
    by_cases h0 : t < 0
    · replace HS := Lib.hid (HS.out.trans (if_pos h0))
      clear hM hm hj
      go_enter Try.func55, Try.ntmps55
      go_wp2_with fail
      refine E.out.mono ?_
      rintro e w' ⟨rfl, rfl⟩
      go_wp2
      go_ret
      exact ⟨ret_int HS.out.symm, rfl⟩
    · replace HS := Lib.hid (HS.out.trans (if_neg h0))
      have t0 : 0 ≤ t := by omega
      obtain ⟨gm, om, rfl, hgm, _, hcm⟩ := src_at hM (by omega)
      have dm := hcm t.toNat (by omega)
      have hlm : t < (M.length : Int) := by omega
      have mb := ok_get hj t.toNat
      generalize M.getD t.toNat 0 = x at *
      clear hM hm hj hcm h0
      go_enter Try.func55, Try.ntmps55
      go_wp2_with fail
      refine E.out.mono ?_
      rintro e w' ⟨rfl, rfl⟩
      go_wp2_with (go_at_call 66; refine (spec_l4Frame x a save mb.1 mb.2 a0 a1 _).mono ?_; rintro e w' ⟨rfl, rfl⟩)
      go_ret
      exact ⟨ret_int HS.out.symm, rfl⟩
end Go.Proofs.Ytmkinbnopgfljaa
