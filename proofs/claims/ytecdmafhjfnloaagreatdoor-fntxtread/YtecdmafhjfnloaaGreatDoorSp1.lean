/- Chapter 3: the model reads registers, numbers and names. -/
import Derived.Test.YtecdmafhjfnloaaGreatDoorTx2
import Derived.Test.YtecdmafhjfnloaaGreatDoorTxtSoft
namespace Go.Proofs.YtecdmafhjfnloaaGreatDoor
open Go.RowKit
set_option linter.unusedVariables false

theorem bs_get (l : List UInt8) (i : Nat) (h : i < (bs l).size) : (bs l)[i]'h = l.getD i 0 := by
  have h' : i < l.length := h
  rw [List.getD_eq_getElem?_getD, List.getElem?_eq_getElem h']
  rfl
theorem regS_two (c0 c1 : UInt8) : regS [c0, c1] = if (c0.toNat : Int) = 114 ∧ 48 ≤ (c1.toNat : Int) ∧ (c1.toNat : Int) ≤ 55 then (c1.toNat : Int) - 48 else -1 := by
  have e : (c0 = 114) ↔ ((c0.toNat : Int) = 114) := by
    constructor
    · intro h; rw [h]; rfl
    · intro h; apply UInt8.toNat_inj.1; simp; omega
  unfold regS
  simp only [e]
  congr 1
  simp only [eq_iff_iff]
  omega
theorem regS_no {l : List UInt8} (h : ¬ l.length = 2) : regS l = -1 := by
  unfold regS
  split
  · simp at h
  · rfl
set_option maxHeartbeats 1000000 in
theorem spec_l3Reg (l : List UInt8) (w : World) : Calls Tryz.prog 79 #[.string (bs l)] w fun e w' => e = .returned (.int .i64 (regS l)) ∧ w = w' := by
  by_cases h2 : l.length = 2
  · match l, h2 with
    | [c0, c1], _ =>
      have E := Lib.hid (regS_two c0 c1)
      have bg := bs_get [c0, c1]
      by_cases h1 : (c0.toNat : Int) = 114 ∧ 48 ≤ (c1.toNat : Int) ∧ (c1.toNat : Int) ≤ 55
      · rw [if_pos h1] at E
        obtain ⟨h3, h4, h5⟩ := h1
        go_enter Tryz.func79, Tryz.ntmps79
        go_wp2
        go_ret
        exact ⟨by rw [E.out]; rfl, rfl⟩
      · rw [if_neg h1] at E
        by_cases h3 : (c0.toNat : Int) = 114
        · by_cases h4 : 48 ≤ (c1.toNat : Int)
          · have h5 : ¬ (c1.toNat : Int) ≤ 55 := fun h => h1 ⟨h3, h4, h⟩
            clear h1
            go_enter Tryz.func79, Tryz.ntmps79
            go_wp2
            go_ret
            exact ⟨by rw [E.out]; rfl, rfl⟩
          · clear h1
            go_enter Tryz.func79, Tryz.ntmps79
            go_wp2
            go_ret
            exact ⟨by rw [E.out]; rfl, rfl⟩
        · clear h1
          go_enter Tryz.func79, Tryz.ntmps79
          go_wp2
          go_ret
          exact ⟨by rw [E.out]; rfl, rfl⟩
  · have E := Lib.hid (regS_no h2)
    have h2' : ((l.length : Int) == 2) = false := by simp; omega
    go_enter Tryz.func79, Tryz.ntmps79
    go_wp2
    go_ret
    exact ⟨by rw [E.out]; rfl, rfl⟩
/-- What a number is, as the model reads it. -/
def NumP (l : List UInt8) (w : World) (e : Ending) (w' : World) : Prop :=
  ∃ v ok, e = .returned (.tuple #[.int .i64 v, .bool ok]) ∧ Fr w w' ∧ (ok = true → num5 l = some v) ∧ (ok = false → num5 l = none)
/-- The loop over digits, from a text of at most five bytes on. -/
theorem dig_app {t : List UInt8} {i : Nat} (hi : i < t.length) : dval 0 (t.take (i + 1)) = dval 0 (t.take i) * 10 + ((t.getD i 0).toNat - 48) := by
  rw [List.take_add_one, List.getElem?_eq_getElem hi]
  simp only [Option.toList_some]
  rw [dval_app, List.getD_eq_getElem?_getD, List.getElem?_eq_getElem hi]
  rfl
theorem all_app {t : List UInt8} {i : Nat} (hi : i < t.length) : (t.take (i + 1)).all dig = ((t.take i).all dig && dig (t.getD i 0)) := by
  rw [List.take_add_one, List.getElem?_eq_getElem hi]
  simp only [Option.toList_some, List.all_append, List.all_cons, List.all_nil, Bool.and_true]
  rw [List.getD_eq_getElem?_getD, List.getElem?_eq_getElem hi]
  rfl
theorem ndig {c : UInt8} (h : dig c = false) : (c.toNat : Int) < 48 ∨ 57 < (c.toNat : Int) := by
  simp only [dig, decide_eq_false_iff_not] at h
  omega
theorem ydig {c : UInt8} (h : dig c = true) : 48 ≤ (c.toNat : Int) ∧ (c.toNat : Int) ≤ 57 := by
  simp only [dig, decide_eq_true_eq] at h
  omega
theorem num_tail (T : List UInt8) : (bs (45 :: T)).extract 1 (T.length + 1) = bs T := by
  apply ByteArray.ext
  simp
set_option maxRecDepth 4000 in
set_option maxHeartbeats 4000000 in
theorem spec_l3Num_neg (T : List UInt8) (hl : T.length ≤ 4000000000) (w : World) : Calls Tryz.prog 59 #[.string (bs (45 :: T))] w (NumP (45 :: T) w) := by
  have bg0 : ∀ (h : 0 < (bs (45 :: T)).size), (bs (45 :: T))[0]'h = 45 := fun h => rfl
  have bgT := bs_get T
  have eT := num_tail T
  have hmag : mag (45 :: T) = T := by simp [mag]
  have p0 : (0 : Int) < (T.length : Int) + 1 := by omega
  go_enter Tryz.func59, Tryz.ntmps59
  by_cases h0 : T = []
  · subst h0
    have NO := Lib.hid (num5_none (l := [45]) (.inl hmag))
    go_wp2
    go_ret2
    exact ⟨0, false, rfl, Below.refl _ _, fun h => (by cases h), fun _ => NO.out⟩
  · have hT0 : 0 < T.length := List.length_pos_iff.2 h0
    have n0 : ((T.length : Int) == 0) = false := by simp; omega
    by_cases h5 : T.length ≤ 5
    · have h5' : ¬ (5 : Int) < (T.length : Int) := by omega
      go_wp2
      go_loopw [5, 6] (fun v i wr => ∃ i' : Nat, i' ≤ T.length ∧ i = .int .i64 i' ∧ v = .int .i64 (dval 0 (T.take i')) ∧ (T.take i').all dig = true ∧ w = wr) (fun _ i _ => T.length - (intOf i).toNat)
      case atStart => exact ⟨0, by omega, rfl, rfl, rfl, rfl⟩
      case round =>
        obtain ⟨i, hi, rfl, hv, ha, rfl⟩ := hrel
        by_cases hlt : i < T.length
        · have hlt' : (i : Int) < (T.length : Int) := by omega
          have hb := dval_lt (T.take i) 0 ha
          have hp5 : 10 ^ (T.take i).length ≤ 10 ^ 5 := Nat.pow_le_pow_right (by decide) (by simp; omega)
          have hv1 : dval 0 (T.take i) ≤ 99999 := by omega
          have D1 := Lib.hid (dig_app hlt)
          have D2 := Lib.hid (all_app hlt)
          obtain rfl := hv
          have HA := Lib.hid ha
          generalize hV : dval 0 (T.take i) = V at hv1 D1
          have bgi : ∀ (h : i < T.length), T[i]'h = T.getD i 0 := fun h => by rw [List.getD_eq_getElem?_getD, List.getElem?_eq_getElem h]; rfl
          generalize hC : T.getD i 0 = c at bgi D1 D2
          clear hb hp5 ha
          cases hd : dig c
          · have NO := Lib.hid (num5_none (l := (45 :: T)) (.inr (.inr (by
              rw [hmag]
              cases hall : T.all dig with
              | false => rfl
              | true =>
                have := List.all_eq_true.1 hall c (by rw [← hC, List.getD_eq_getElem?_getD, List.getElem?_eq_getElem hlt]; exact List.getElem_mem _)
                rw [hd] at this; cases this))))
            have hc := ndig hd
            by_cases hc1 : (c.toNat : Int) < 48
            · clear hc hC hV
              go_wp2
              go_ret2
              exact ⟨0, false, rfl, Below.refl _ _, fun h => (by cases h), fun _ => NO.out⟩
            · have hc2 : 57 < (c.toNat : Int) := by omega
              clear hc hC hV
              go_wp2
              go_ret2
              exact ⟨0, false, rfl, Below.refl _ _, fun h => (by cases h), fun _ => NO.out⟩
          · obtain ⟨hc1, hc2⟩ := ydig hd
            have HV := Lib.hid hV
            clear hC hV
            go_wp2
            go_roundw
            case rel => exact ⟨i + 1, by omega, by go_num, by rw [D1.out]; congr 1; omega, by rw [D2.out, HA.out, hd]; rfl, trivial⟩
            case measure => simp [intOf]; omega
        · obtain rfl : i = T.length := by omega
          have hge : ¬ (T.length : Int) < (T.length : Int) := by omega
          rw [List.take_length] at ha hv
          have hb := dval_lt T 0 ha
          have hp5 : 10 ^ T.length ≤ 10 ^ 5 := Nat.pow_le_pow_right (by decide) h5
          have NW := Lib.hid (num5_walk (l := (45 :: T)) (by rw [hmag]; exact h5) (by rw [hmag]; exact ha))
          rw [hmag] at NW
          have hsg : sgz (45 :: T) (dval 0 T) = -(dval 0 T : Int) := by simp [sgz]
          rw [hsg] at NW
          have hv1 : dval 0 T ≤ 99999 := by omega
          generalize dval 0 T = V at hv1 NW hv
          obtain rfl := hv
          clear ha hb hp5 hsg
          cases hq : (Lib.itoa (-(V : Int)) == (45 :: T))
          · rw [if_neg (by simpa using hq)] at NW
            go_wp2_with (go_at_call 33; refine (spec_l3Plain _ (by omega) (by omega) _).mono ?_; rintro e w2 ⟨rfl, f2⟩)
            go_ret2
            exact ⟨_, false, rfl, f2, fun h => (by cases h), fun _ => NW.out⟩
          · rw [if_pos (by simpa using hq)] at NW
            go_wp2_with (go_at_call 33; refine (spec_l3Plain _ (by omega) (by omega) _).mono ?_; rintro e w2 ⟨rfl, f2⟩)
            go_ret2
            exact ⟨_, true, rfl, f2, fun _ => NW.out, fun h => by cases h⟩

    · have NO := Lib.hid (num5_none (l := 45 :: T) (.inr (.inl (by rw [hmag]; omega))))
      have h5' : (5 : Int) < (T.length : Int) := by omega
      go_wp2
      go_ret2
      exact ⟨0, false, rfl, Below.refl _ _, fun h => (by cases h), fun _ => NO.out⟩
set_option maxRecDepth 4000 in
set_option maxHeartbeats 4000000 in
theorem spec_l3Num_pos (T : List UInt8) (hh : ¬ T.head? = some 45) (hl : T.length ≤ 4000000000) (w : World) : Calls Tryz.prog 59 #[.string (bs T)] w (NumP T w) := by
  have bgT := bs_get T
  have hmag : mag T = T := by unfold mag; rw [if_neg hh]
  have h45 : ∀ (h : 0 < T.length), (((T[0]'h).toNat : Int) == 45) = false := by
    intro h
    cases T with
    | nil => simp at h
    | cons c t =>
      simp only [List.head?_cons, Option.some.injEq] at hh
      simp only [List.getElem_cons_zero, beq_eq_false_iff_ne]
      intro e
      apply hh
      apply UInt8.toNat_inj.1
      simp; omega
  go_enter Tryz.func59, Tryz.ntmps59
  by_cases h0 : T = []
  · subst h0
    have NO := Lib.hid (num5_none (l := []) (.inl hmag))
    go_wp2
    go_ret2
    exact ⟨0, false, rfl, Below.refl _ _, fun h => (by cases h), fun _ => NO.out⟩
  · have hT0 : 0 < T.length := List.length_pos_iff.2 h0
    have hT1 : (0 : Int) < (T.length : Int) := by omega
    have h45' := h45 hT0
    clear h45
    have n0 : ((T.length : Int) == 0) = false := by simp; omega
    by_cases h5 : T.length ≤ 5
    · have h5' : ¬ (5 : Int) < (T.length : Int) := by omega
      go_wp2
      go_loopw [5, 6] (fun v i wr => ∃ i' : Nat, i' ≤ T.length ∧ i = .int .i64 i' ∧ v = .int .i64 (dval 0 (T.take i')) ∧ (T.take i').all dig = true ∧ w = wr) (fun _ i _ => T.length - (intOf i).toNat)
      case atStart => exact ⟨0, by omega, rfl, rfl, rfl, rfl⟩
      case round =>
        obtain ⟨i, hi, rfl, hv, ha, rfl⟩ := hrel
        by_cases hlt : i < T.length
        · have hlt' : (i : Int) < (T.length : Int) := by omega
          have hb := dval_lt (T.take i) 0 ha
          have hp5 : 10 ^ (T.take i).length ≤ 10 ^ 5 := Nat.pow_le_pow_right (by decide) (by simp; omega)
          have hv1 : dval 0 (T.take i) ≤ 99999 := by omega
          have D1 := Lib.hid (dig_app hlt)
          have D2 := Lib.hid (all_app hlt)
          obtain rfl := hv
          have HA := Lib.hid ha
          generalize hV : dval 0 (T.take i) = V at hv1 D1
          have bgi : ∀ (h : i < T.length), T[i]'h = T.getD i 0 := fun h => by rw [List.getD_eq_getElem?_getD, List.getElem?_eq_getElem h]; rfl
          generalize hC : T.getD i 0 = c at bgi D1 D2
          clear hb hp5 ha
          cases hd : dig c
          · have NO := Lib.hid (num5_none (l := T) (.inr (.inr (by
              rw [hmag]
              cases hall : T.all dig with
              | false => rfl
              | true =>
                have := List.all_eq_true.1 hall c (by rw [← hC, List.getD_eq_getElem?_getD, List.getElem?_eq_getElem hlt]; exact List.getElem_mem _)
                rw [hd] at this; cases this))))
            have hc := ndig hd
            by_cases hc1 : (c.toNat : Int) < 48
            · clear hc hC hV
              go_wp2
              go_ret2
              exact ⟨0, false, rfl, Below.refl _ _, fun h => (by cases h), fun _ => NO.out⟩
            · have hc2 : 57 < (c.toNat : Int) := by omega
              clear hc hC hV
              go_wp2
              go_ret2
              exact ⟨0, false, rfl, Below.refl _ _, fun h => (by cases h), fun _ => NO.out⟩
          · obtain ⟨hc1, hc2⟩ := ydig hd
            have HV := Lib.hid hV
            clear hC hV
            go_wp2
            go_roundw
            case rel => exact ⟨i + 1, by omega, by go_num, by rw [D1.out]; congr 1; omega, by rw [D2.out, HA.out, hd]; rfl, trivial⟩
            case measure => simp [intOf]; omega
        · obtain rfl : i = T.length := by omega
          have hge : ¬ (T.length : Int) < (T.length : Int) := by omega
          rw [List.take_length] at ha hv
          have hb := dval_lt T 0 ha
          have hp5 : 10 ^ T.length ≤ 10 ^ 5 := Nat.pow_le_pow_right (by decide) h5
          have NW := Lib.hid (num5_walk (l := T) (by rw [hmag]; exact h5) (by rw [hmag]; exact ha))
          rw [hmag] at NW
          have hsg : sgz T (dval 0 T) = (dval 0 T : Int) := by unfold sgz; rw [if_neg hh]
          rw [hsg] at NW
          have hv1 : dval 0 T ≤ 99999 := by omega
          generalize dval 0 T = V at hv1 NW hv
          obtain rfl := hv
          clear ha hb hp5 hsg
          cases hq : (Lib.itoa ((V : Int)) == T)
          · rw [if_neg (by simpa using hq)] at NW
            go_wp2_with (go_at_call 33; refine (spec_l3Plain _ (by omega) (by omega) _).mono ?_; rintro e w2 ⟨rfl, f2⟩)
            go_ret2
            exact ⟨_, false, rfl, f2, fun h => (by cases h), fun _ => NW.out⟩
          · rw [if_pos (by simpa using hq)] at NW
            go_wp2_with (go_at_call 33; refine (spec_l3Plain _ (by omega) (by omega) _).mono ?_; rintro e w2 ⟨rfl, f2⟩)
            go_ret2
            exact ⟨_, true, rfl, f2, fun _ => NW.out, fun h => by cases h⟩

    · have NO := Lib.hid (num5_none (l := T) (.inr (.inl (by rw [hmag]; omega))))
      have h5' : (5 : Int) < (T.length : Int) := by omega
      go_wp2
      go_ret2
      exact ⟨0, false, rfl, Below.refl _ _, fun h => (by cases h), fun _ => NO.out⟩
theorem spec_l3Num (l : List UInt8) (hl : l.length ≤ 4000000000) (w : World) : Calls Tryz.prog 59 #[.string (bs l)] w (NumP l w) := by
  by_cases hh : l.head? = some 45
  · cases l with
    | nil => simp at hh
    | cons c T =>
      simp at hh
      subst hh
      exact spec_l3Num_neg T (by simp at hl; omega) w
  · exact spec_l3Num_pos l hh hl w
end Go.Proofs.YtecdmafhjfnloaaGreatDoor
