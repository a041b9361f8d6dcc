/- Chapter 3: words are written as lines (TxtWrite), by the program and by the model. -/
import Derived.Test.YtecdmafhjfnloaaGreatDoorVec
import Derived.Test.YtecdmafhjfnloaaGreatDoorCodSd
namespace Go.Proofs.YtecdmafhjfnloaaGreatDoor
open Go.RowKit
set_option linter.unusedVariables false
set_option linter.unusedSimpArgs false

/-- The line of a word. -/
def lineW (x : Int) : List UInt8 := if gd x = true then txtD (x / 4096) (rdv x 0) (rdv x 1) (rdv x 2) (rdv x 3) (rdv x 4) else [119, 111, 114, 100, 32] ++ Lib.itoa x
/-- The lines of words. -/
def wrT (xs : List Int) : List (List UInt8) := if xs.length ≤ 64 ∧ xs.all okB = true then xs.map lineW else []
abbrev tv (L : List (List UInt8)) (i : Nat) : Value := .string (bs (L.getD i []))
abbrev iv (xs : List Int) (i : Nat) : Value := .int .i64 (xs.getD i 0)
def WrP (w : World) (L : List (List UInt8)) (e : Ending) (w' : World) : Prop := ∃ ao cap, e = .returned (.slice ao L.length cap) ∧ Vc w.heap.size w' L.length (tv L) ao ∧ Fr w w'
theorem ownsT_vc {B : Nat} {u : World} {v : Value} {L : List (List UInt8)} (h : OwnsT B u v L) : ∃ ao cap, v = .slice ao L.length cap ∧ Vc B u L.length (tv L) ao := by
  obtain ⟨ao, cap, hv, hV, _⟩ := own_vc h
  refine ⟨ao, cap, hv, hV.cong fun i hi => ?_⟩
  simp [List.getD, List.getElem?_eq_getElem hi]
theorem itoa_le (x : Int) (h0 : -1000000000000 < x) (h1 : x < 1000000000000) : (Lib.itoa x).length ≤ 20 := by
  by_cases h : x < 0
  · rw [itoa_neg h]
    have := dec_len 11 x.natAbs (by omega)
    simp
    omega
  · rw [itoa_pos (by omega)]
    have := dec_len 11 x.toNat (by omega)
    omega
set_option maxRecDepth 4000 in
set_option maxHeartbeats 2000000 in
theorem impl_lineOf (x : Int) (hx : okB x = true) (w : World) (ht : Tabs2 w) : Calls Tryz.prog 30 #[.int .i64 x] w fun e w' => e = .returned (.string (bs (lineW x))) ∧ Fr w w' := by
  obtain ⟨x0, x1⟩ := okB_true hx
  have HT := Lib.hid ht
  clear ht
  cases hg : gd x
  · have hg' : lineW x = [119, 111, 114, 100, 32] ++ Lib.itoa x := by simp [lineW, hg]
    have hl := itoa_le x (by omega) (by omega)
    have HG := Lib.hid hg'
    clear hg'
    go_enter Tryz.func30, Tryz.ntmps30
    go_wp2_with fail
    refine (impl_CodRead _ _ HT.out.base).mono ?_
    rintro e u1 ⟨rfl, f1⟩
    unfold rV
    rw [hg]
    have F1 := f1.trans (Fr.alloc u1 (.cells #[.int .i64 (rI x (x / 4096)), .int .i64 (rI x (rdv x 0)), .int .i64 (rI x (rdv x 1)), .int .i64 (rI x (rdv x 2)), .int .i64 (rI x (rdv x 3)), .int .i64 (rI x (rdv x 4))] 45))
    go_wp2_with (go_at_call 48; refine (impl_Itoa _ (by omega) (by omega) _ (HT.out.fr F1)).mono ?_; rintro e w2 ⟨rfl, f2⟩)
    go_ret
    refine ⟨?_, F1.trans f2⟩
    rw [HG.out, bs_app]
    rfl
  · have hg' : lineW x = txtD (x / 4096) (rdv x 0) (rdv x 1) (rdv x 2) (rdv x 3) (rdv x 4) := by simp [lineW, hg]
    have HG := Lib.hid hg'
    clear hg'
    go_enter Tryz.func30, Tryz.ntmps30
    go_wp2_with fail
    refine (impl_CodRead _ _ HT.out.base).mono ?_
    rintro e u1 ⟨rfl, f1⟩
    unfold rV
    rw [rI_t hg, rI_t hg, rI_t hg, rI_t hg, rI_t hg, rI_t hg, hg]
    have F1 := f1.trans (Fr.alloc u1 (.cells #[.int .i64 (x / 4096), .int .i64 (rdv x 0), .int .i64 (rdv x 1), .int .i64 (rdv x 2), .int .i64 (rdv x 3), .int .i64 (rdv x 4)] 45))
    go_wp2_with (go_at_call 47; refine (impl_CodText _ _ _ _ _ _ _ (HT.out.fr F1)).mono ?_; rintro e w2 ⟨rfl, f2⟩)
    go_ret
    refine ⟨?_, F1.trans f2⟩
    rw [HG.out]
    rfl
/-- The words up to a place are written. -/
theorem wrT_all {xs : List Int} (h : xs.length ≤ 64) (ha : xs.all okB = true) : wrT xs = xs.map lineW := if_pos ⟨h, ha⟩
theorem wrT_bad {xs : List Int} {p : Nat} (hp : p < xs.length) (h : okB (xs.getD p 0) = false) : wrT xs = [] := by
  refine if_neg fun ⟨_, ha⟩ => ?_
  have := List.all_eq_true.1 ha (xs.getD p 0) (by rw [List.getD_eq_getElem?_getD, List.getElem?_eq_getElem hp]; exact List.getElem_mem hp)
  rw [h] at this
  cases this
theorem wrT_long {xs : List Int} (h : 64 < xs.length) : wrT xs = [] := if_neg fun ⟨h1, _⟩ => by omega
theorem take_ok {xs : List Int} {p : Nat} (hp : p < xs.length) (h : okB (xs.getD p 0) = true) (ha : (xs.take p).all okB = true) : (xs.take (p + 1)).all okB = true := by
  rw [List.take_add_one, List.all_append, ha]
  rw [List.getD_eq_getElem?_getD, List.getElem?_eq_getElem hp] at h
  simpa [List.getElem?_eq_getElem hp] using h
theorem take_map {xs : List Int} {p : Nat} (hp : p < xs.length) : (xs.take (p + 1)).map lineW = (xs.take p).map lineW ++ [lineW (xs.getD p 0)] := by
  rw [List.take_add_one, List.map_append, List.getElem?_eq_getElem hp, List.getD_eq_getElem?_getD, List.getElem?_eq_getElem hp]
  rfl
set_option maxRecDepth 4000 in
set_option maxHeartbeats 2000000 in
theorem impl_TxtWrite (xs : List Int) (ao : Option Addr) (cap : Nat) (w : World) (ht : Tabs2 w) (hs : Src w xs.length (iv xs) ao) (hn : xs.length ≤ 1048576) :
    Calls Tryz.prog 7 #[.slice ao xs.length cap] w (WrP w (wrT xs)) := by
  obtain ⟨i0, hi, hz0, hz1, hz2⟩ := info_parts info_str
  have hmx : maxLen = 9223372036854775807 := rfl
  have HT := Lib.hid ht
  have HS := Lib.hid hs
  clear ht hs
  go_enter Tryz.func7, Tryz.ntmps7
  by_cases h64 : 64 < xs.length
  · have h64' : (64 : Int) < (xs.length : Int) := by omega
    go_wp2_with fail
    go_ret
    exact ⟨none, 0, by rw [wrT_long h64]; rfl, by rw [wrT_long h64]; exact Vc.nil _ _ _ _, Below.refl _ _⟩
  · have h64' : ¬ (64 : Int) < (xs.length : Int) := by omega
    go_wp2_with (at_make; refine wpList_make_own _ rfl _ _ 25 rfl w.heap.size 9 i0 (.string ByteArray.empty) 1 Tryz.underlying25 hi hz0 hz1 .i64 .i64 (xs.length : Int) xs.length rfl rfl rfl (by rw [hz2]; omega) (by omega) (Nat.le_refl _) ?_; intro w1 hown hg)
    have F1 := grown_fr hg
    go_loopw [3, 14] (fun o i wr => ∃ p : Nat, p ≤ xs.length ∧ i = .int .i64 p ∧ (xs.take p).all okB = true ∧ OwnsT w.heap.size wr o ((xs.take p).map lineW) ∧ Fr w wr) (fun _ i _ => xs.length - (intOf i).toNat)
    case atStart => exact ⟨0, Nat.zero_le _, rfl, by simp, by simpa [OwnsT] using hown, F1⟩
    case round =>
      obtain ⟨p, hp, rfl, hA, hO, hF⟩ := hrel
      have HA := Lib.hid hA
      have HO := Lib.hid hO
      have HF := Lib.hid hF
      have hsz := hF.size
      clear hA hO hown hg
      by_cases hlt : p < xs.length
      · have hlt' : (p : Int) < (xs.length : Int) := by omega
        obtain ⟨g, o, rfl, hgl, hc⟩ := HS.out (by omega)
        have d0 : wr.cell? ⟨g, o + p, none⟩ = some (.int .i64 (xs.getD p 0)) := by rw [hF.cell hgl]; exact hc p hlt
        have HB := Lib.hid (fun h : okB (xs.getD p 0) = false => wrT_bad hlt h)
        have HM := Lib.hid (take_map hlt)
        have HK := Lib.hid (fun h : okB (xs.getD p 0) = true => take_ok hlt h HA.out)
        generalize xs.getD p 0 = x at d0 HB HM HK
        clear hc hF
        cases hx : okB x
        · go_wp2_with (go_at_call 16; refine (impl_WrdOk _ _).mono ?_; rintro e w' ⟨rfl, rfl⟩; rw [hx])
          go_ret
          exact ⟨none, 0, by rw [HB.out hx]; rfl, by rw [HB.out hx]; exact Vc.nil _ _ _ _, HF.out⟩
        · go_wp2_with (first | (go_at_call 16; refine (impl_WrdOk _ _).mono ?_; rintro e w' ⟨rfl, rfl⟩; rw [hx]) | (go_at_call 30; refine (impl_lineOf _ hx _ (HT.out.fr HF.out)).mono ?_; rintro e w2 ⟨rfl, f2⟩; have hs2 := f2.size; have HO2 := Lib.hid (HO.out.fr f2)) | (at_builtin; refine wpList_append_own _ rfl _ _ 25 rfl w.heap.size 9 i0 (.string ByteArray.empty) 1 16 Tryz.underlying25 hi hz0 hz1 hz2 rfl (by decide) _ _ _ rfl (World.ownsRow.alloc HO2.out _) _ 1 1 [.string (bs (lineW x))] rfl rfl (cell_str_at _ _ _ _ (by simp)) (fun x hx => by simp at hx; subst hx; rfl) (show ((xs.take p).map lineW).length + 1 ≤ maxLen by simp; omega) (by simp; omega) (by simp; omega) ?_; intro v1 w4 hown1 hg1 _))
          have F4 : Fr w w4 := Below.grown ((HF.out.trans f2).trans (Fr.alloc _ _)) hg1 (by simp; omega) (own_lt HO2.out)
          go_roundw
          case rel => exact ⟨p + 1, by omega, by go_num, HK.out hx, by rw [HM.out]; exact ownsT_app hown1, F4⟩
          case measure => simp [intOf]; omega
      · have hge : ¬ (p : Int) < (xs.length : Int) := by omega
        have e : p = xs.length := by omega
        subst e
        clear hF
        go_wp2_with fail
        go_ret
        have hA := HA.out
        have hO := HO.out
        rw [List.take_length] at hA hO
        obtain ⟨ao1, cap1, rfl, hV⟩ := ownsT_vc hO
        rw [← wrT_all (by omega) hA] at hV
        exact ⟨ao1, cap1, by rw [wrT_all (by omega) hA]; rfl, hV, HF.out⟩
set_option maxRecDepth 4000 in
set_option maxHeartbeats 2000000 in
theorem spec_TxtWrite (xs : List Int) (ao : Option Addr) (cap : Nat) (w : World) (hs : Src w xs.length (iv xs) ao) (hn : xs.length ≤ 1048576) :
    Calls Tryz.prog 9 #[.slice ao xs.length cap] w (WrP w (wrT xs)) := by
  obtain ⟨i0, hi, hz0, hz1, hz2⟩ := info_parts info_str
  have hmx : maxLen = 9223372036854775807 := rfl
  have HS := Lib.hid hs
  clear hs
  go_enter Tryz.func9, Tryz.ntmps9
  go_wp2_with fail
  go_loopw [3, 4] (fun o i wr => ∃ p : Nat, p ≤ xs.length ∧ i = .int .i64 p ∧ (0 < p → xs.length ≤ 64) ∧ (xs.take p).all okB = true ∧ OwnsT w.heap.size wr o ((xs.take p).map lineW) ∧ Fr w wr) (fun _ i _ => xs.length - (intOf i).toNat)
  case atStart => exact ⟨0, Nat.zero_le _, rfl, fun h => by omega, by simp, ownsT_empty _ _ (Nat.le_refl _), Fr.alloc _ _⟩
  case round =>
    obtain ⟨p, hp, rfl, h64, hA, hO, hF⟩ := hrel
    have HA := Lib.hid hA
    have HO := Lib.hid hO
    have HF := Lib.hid hF
    have hsz := hF.size
    clear hA hO
    by_cases hlt : p < xs.length
    · have hlt' : (p : Int) < (xs.length : Int) := by omega
      obtain ⟨g, o, rfl, hgl, hc⟩ := HS.out (by omega)
      have d0 : wr.cell? ⟨g, o + p, none⟩ = some (.int .i64 (xs.getD p 0)) := by rw [hF.cell hgl]; exact hc p hlt
      have hgw : g < wr.heap.size := by omega
      have HB := Lib.hid (fun h : okB (xs.getD p 0) = false => wrT_bad hlt h)
      have HM := Lib.hid (take_map hlt)
      have HK := Lib.hid (fun h : okB (xs.getD p 0) = true => take_ok hlt h HA.out)
      generalize xs.getD p 0 = x at d0 HB HM HK
      clear hc hF
      cases hx : okB x
      · go_wp2_with (go_at_call 10; refine (spec_WrdOk _ _).mono ?_; rintro e w' ⟨rfl, rfl⟩; rw [hx])
        go_ret
        exact ⟨_, 0, by rw [HB.out hx]; rfl, by rw [HB.out hx]; exact Vc.nil _ _ _ _, HF.out.trans (Fr.alloc _ _)⟩
      · by_cases h65 : 64 < xs.length
        · have h65' : (64 : Int) < (xs.length : Int) := by omega
          go_wp2_with (go_at_call 10; refine (spec_WrdOk _ _).mono ?_; rintro e w' ⟨rfl, rfl⟩; rw [hx])
          go_ret
          exact ⟨_, 0, by rw [wrT_long h65]; rfl, by rw [wrT_long h65]; exact Vc.nil _ _ _ _, HF.out.trans (Fr.alloc _ _)⟩
        · have h65' : ¬ (64 : Int) < (xs.length : Int) := by omega
          obtain ⟨x0, x1⟩ := okB_true hx
          cases hg : gd x
          · have hg' : lineW x = [119, 111, 114, 100, 32] ++ Lib.itoa x := by simp [lineW, hg]
            have hl := itoa_le x (by omega) (by omega)
            have HG := Lib.hid hg'
            clear hg'
            go_wp2_with (go_at_call 10; refine (spec_WrdOk _ _).mono ?_; rintro e w' ⟨rfl, rfl⟩; rw [hx])
            refine (spec_CodRead _ _).mono ?_
            rintro e u1 ⟨rfl, f1⟩
            unfold rV
            rw [hg]
            have F1 := f1.trans (Fr.alloc u1 (.cells #[.int .i64 (rI x (x / 4096)), .int .i64 (rI x (rdv x 0)), .int .i64 (rI x (rdv x 1)), .int .i64 (rI x (rdv x 2)), .int .i64 (rI x (rdv x 3)), .int .i64 (rI x (rdv x 4))] 45))
            have d1 := (F1.cell (p := ⟨g, o + p, none⟩) hgw).trans d0
            have hs1 := F1.size
            simp at hs1
            go_wp2_with (first | (go_at_call 33; refine (spec_l3Plain _ (by omega) (by omega) _).mono ?_; rintro e w2 ⟨rfl, f2⟩; have hs2 := Nat.le_trans F1.size f2.size; have HO2 := Lib.hid ((HO.out.fr F1).fr f2)) | (at_builtin; refine wpList_append_own _ rfl _ _ 25 rfl w.heap.size 9 i0 (.string ByteArray.empty) 1 16 Tryz.underlying25 hi hz0 hz1 hz2 rfl (by decide) _ _ _ rfl (World.ownsRow.alloc HO2.out _) _ 1 1 [.string (({ data := #[119, 111, 114, 100, 32] } : ByteArray) ++ bs (Lib.itoa x))] rfl rfl (cell_str_at _ _ _ _ (by simp)) (fun x hx => by simp at hx; subst hx; rfl) (show ((xs.take p).map lineW).length + 1 ≤ maxLen by simp; omega) (by simp; omega) (by simp; omega) ?_; intro v1 w4 hown1 hg1 _))
            have F4 : Fr w w4 := Below.grown (((HF.out.trans F1).trans f2).trans (Fr.alloc _ _)) hg1 (by simp; omega) (own_lt HO2.out)
            go_roundw
            case rel => exact ⟨p + 1, by omega, by go_num, fun _ => by omega, HK.out hx, by rw [show (({ data := #[119, 111, 114, 100, 32] } : ByteArray) ++ bs (Lib.itoa x)) = bs ([119, 111, 114, 100, 32] ++ Lib.itoa x) from bs_app [119, 111, 114, 100, 32] _] at hown1; rw [HM.out, HG.out]; exact ownsT_app hown1, F4⟩
            case measure => simp [intOf]; omega
          · have hg' : lineW x = txtD (x / 4096) (rdv x 0) (rdv x 1) (rdv x 2) (rdv x 3) (rdv x 4) := by simp [lineW, hg]
            have HG := Lib.hid hg'
            clear hg'
            go_wp2_with (go_at_call 10; refine (spec_WrdOk _ _).mono ?_; rintro e w' ⟨rfl, rfl⟩; rw [hx])
            refine (spec_CodRead _ _).mono ?_
            rintro e u1 ⟨rfl, f1⟩
            unfold rV
            rw [rI_t hg, rI_t hg, rI_t hg, rI_t hg, rI_t hg, rI_t hg, hg]
            have F1 := f1.trans (Fr.alloc u1 (.cells #[.int .i64 (x / 4096), .int .i64 (rdv x 0), .int .i64 (rdv x 1), .int .i64 (rdv x 2), .int .i64 (rdv x 3), .int .i64 (rdv x 4)] 45))
            have hs1 := F1.size
            simp at hs1
            go_wp2_with (first | (go_at_call 32; refine (spec_CodText _ _ _ _ _ _ _).mono ?_; rintro e w2 ⟨rfl, f2⟩; have hs2 := Nat.le_trans F1.size f2.size; have HO2 := Lib.hid ((HO.out.fr F1).fr f2)) | (at_builtin; refine wpList_append_own _ rfl _ _ 25 rfl w.heap.size 9 i0 (.string ByteArray.empty) 1 16 Tryz.underlying25 hi hz0 hz1 hz2 rfl (by decide) _ _ _ rfl (World.ownsRow.alloc HO2.out _) _ 1 1 [.string (bs (txtD (x / 4096) (rdv x 0) (rdv x 1) (rdv x 2) (rdv x 3) (rdv x 4)))] rfl rfl (cell_str_at _ _ _ _ (by simp)) (fun x hx => by simp at hx; subst hx; rfl) (show ((xs.take p).map lineW).length + 1 ≤ maxLen by simp; omega) (by simp; omega) (by simp; omega) ?_; intro v1 w4 hown1 hg1 _))
            have F4 : Fr w w4 := Below.grown (((HF.out.trans F1).trans f2).trans (Fr.alloc _ _)) hg1 (by simp; omega) (own_lt HO2.out)
            go_roundw
            case rel => exact ⟨p + 1, by omega, by go_num, fun _ => by omega, HK.out hx, by rw [HM.out, HG.out]; exact ownsT_app hown1, F4⟩
            case measure => simp [intOf]; omega
    · have hge : ¬ (p : Int) < (xs.length : Int) := by omega
      have e : p = xs.length := by omega
      subst e
      clear hF
      go_wp2_with fail
      go_ret
      have hA := HA.out
      have hO := HO.out
      rw [List.take_length] at hA hO
      have hw : wrT xs = xs.map lineW := by
        by_cases h0 : 0 < xs.length
        · exact wrT_all (h64 h0) hA
        · exact wrT_all (by omega) hA
      obtain ⟨ao1, cap1, rfl, hV⟩ := ownsT_vc hO
      rw [← hw] at hV
      exact ⟨ao1, cap1, by rw [hw]; rfl, hV, HF.out⟩
end Go.Proofs.YtecdmafhjfnloaaGreatDoor
