/- Chapter 3: the model reads registers, numbers and names. Chapter 3: the model reads names, labels, words. Chapter 3: the model cuts a line into words. -/
import Derived.BigRegion
import Derived.Test.YtmkinbnopgfljaaTx
import Derived.Test.YtmkinbnopgfljaaTxt
namespace Go.Proofs.Ytmkinbnopgfljaa
open Go.RowKit
set_option linter.unusedVariables false

theorem bs_get (l : List UInt8) (i : Nat) (h : i < (bs l).size) : (bs l)[i]'h = l.getD i 0 := by
  have h' : i < l.length := h
  rw [List.getD_eq_getElem?_getD, List.getElem?_eq_getElem h']
  rfl
theorem regS_two (c0 c1 : UInt8) : regS [c0, c1] = if (c0.toNat : Int) = 114 ∧ 48 ≤ (c1.toNat : Int) ∧ (c1.toNat : Int) ≤ 55 then (c1.toNat : Int) - 48 else -1 := by
  have e : (c0 = 114) ↔ ((c0.toNat : Int) = 114) := by
    constructor
    · intro h; rw [h]; rfl
    · intro h; apply UInt8.toNat_inj.1; simp; omega
  unfold regS
  simp only [e]
  congr 1
  simp only [eq_iff_iff]
  omega
theorem regS_no {l : List UInt8} (h : ¬ l.length = 2) : regS l = -1 := by
  unfold regS
  split
  · simp at h
  · rfl
set_option maxHeartbeats 1000000 in
theorem spec_l3Reg (l : List UInt8) (w : World) : Calls Try.prog 73 #[.string (bs l)] w fun e w' => e = .returned (.int .i64 (regS l)) ∧ w = w' := by
  by_cases h2 : l.length = 2
  · match l, h2 with
    | [c0, c1], _ =>
      have E := Lib.hid (regS_two c0 c1)
      have bg := bs_get [c0, c1]
      by_cases h1 : (c0.toNat : Int) = 114 ∧ 48 ≤ (c1.toNat : Int) ∧ (c1.toNat : Int) ≤ 55
      · rw [if_pos h1] at E
        obtain ⟨h3, h4, h5⟩ := h1
        go_enter Try.func73, Try.ntmps73
        go_wp2
        go_ret
        exact ⟨by rw [E.out]; rfl, rfl⟩
      · rw [if_neg h1] at E
        by_cases h3 : (c0.toNat : Int) = 114
        · by_cases h4 : 48 ≤ (c1.toNat : Int)
          · have h5 : ¬ (c1.toNat : Int) ≤ 55 := fun h => h1 ⟨h3, h4, h⟩
            clear h1
            go_enter Try.func73, Try.ntmps73
            go_wp2
            go_ret
            exact ⟨by rw [E.out]; rfl, rfl⟩
          · clear h1
            go_enter Try.func73, Try.ntmps73
            go_wp2
            go_ret
            exact ⟨by rw [E.out]; rfl, rfl⟩
        · clear h1
          go_enter Try.func73, Try.ntmps73
          go_wp2
          go_ret
          exact ⟨by rw [E.out]; rfl, rfl⟩
  · have E := Lib.hid (regS_no h2)
    have h2' : ((l.length : Int) == 2) = false := by simp; omega
    go_enter Try.func73, Try.ntmps73
    go_wp2
    go_ret
    exact ⟨by rw [E.out]; rfl, rfl⟩
/-- What a number is, as the model reads it. -/
def NumP (l : List UInt8) (w : World) (e : Ending) (w' : World) : Prop :=
  ∃ v ok, e = .returned (.tuple #[.int .i64 v, .bool ok]) ∧ Fr w w' ∧ (ok = true → num5 l = some v) ∧ (ok = false → num5 l = none)
/-- The loop over digits, from a text of at most five bytes on. -/
theorem dig_app {t : List UInt8} {i : Nat} (hi : i < t.length) : dval 0 (t.take (i + 1)) = dval 0 (t.take i) * 10 + ((t.getD i 0).toNat - 48) := by
  rw [List.take_add_one, List.getElem?_eq_getElem hi]
  simp only [Option.toList_some]
  rw [dval_app, List.getD_eq_getElem?_getD, List.getElem?_eq_getElem hi]
  rfl
theorem all_app {t : List UInt8} {i : Nat} (hi : i < t.length) : (t.take (i + 1)).all dig = ((t.take i).all dig && dig (t.getD i 0)) := by
  rw [List.take_add_one, List.getElem?_eq_getElem hi]
  simp only [Option.toList_some, List.all_append, List.all_cons, List.all_nil, Bool.and_true]
  rw [List.getD_eq_getElem?_getD, List.getElem?_eq_getElem hi]
  rfl
theorem ndig {c : UInt8} (h : dig c = false) : (c.toNat : Int) < 48 ∨ 57 < (c.toNat : Int) := by
  simp only [dig, decide_eq_false_iff_not] at h
  omega
theorem ydig {c : UInt8} (h : dig c = true) : 48 ≤ (c.toNat : Int) ∧ (c.toNat : Int) ≤ 57 := by
  simp only [dig, decide_eq_true_eq] at h
  omega
theorem num_tail (T : List UInt8) : (bs (45 :: T)).extract 1 (T.length + 1) = bs T := by
  apply ByteArray.ext
  simp
set_option maxRecDepth 4000 in
set_option maxHeartbeats 4000000 in
theorem spec_l3Num_neg (T : List UInt8) (hl : T.length ≤ 4000000000) (w : World) : Calls Try.prog 61 #[.string (bs (45 :: T))] w (NumP (45 :: T) w) := by
  have bg0 : ∀ (h : 0 < (bs (45 :: T)).size), (bs (45 :: T))[0]'h = 45 := fun h => rfl
  have bgT := bs_get T
  have eT := num_tail T
  have hmag : mag (45 :: T) = T := by simp [mag]
  have p0 : (0 : Int) < (T.length : Int) + 1 := by omega
  go_enter Try.func61, Try.ntmps61
  by_cases h0 : T = []
  · subst h0
    have NO := Lib.hid (num5_none (l := [45]) (.inl hmag))
    go_wp2
    go_ret2
    exact ⟨0, false, rfl, Below.refl _ _, fun h => (by cases h), fun _ => NO.out⟩
  · have hT0 : 0 < T.length := List.length_pos_iff.2 h0
    have n0 : ((T.length : Int) == 0) = false := by simp; omega
    by_cases h5 : T.length ≤ 5
    · have h5' : ¬ (5 : Int) < (T.length : Int) := by omega
      go_wp2
      go_loopw [5, 6] (fun v i wr => ∃ i' : Nat, i' ≤ T.length ∧ i = .int .i64 i' ∧ v = .int .i64 (dval 0 (T.take i')) ∧ (T.take i').all dig = true ∧ w = wr) (fun _ i _ => T.length - (intOf i).toNat)
      case atStart => exact ⟨0, by omega, rfl, rfl, rfl, rfl⟩
      case round =>
        obtain ⟨i, hi, rfl, hv, ha, rfl⟩ := hrel
        by_cases hlt : i < T.length
        · have hlt' : (i : Int) < (T.length : Int) := by omega
          have hb := dval_lt (T.take i) 0 ha
          have hp5 : 10 ^ (T.take i).length ≤ 10 ^ 5 := Nat.pow_le_pow_right (by decide) (by simp; omega)
          have hv1 : dval 0 (T.take i) ≤ 99999 := by omega
          have D1 := Lib.hid (dig_app hlt)
          have D2 := Lib.hid (all_app hlt)
          obtain rfl := hv
          have HA := Lib.hid ha
          generalize hV : dval 0 (T.take i) = V at hv1 D1
          have bgi : ∀ (h : i < T.length), T[i]'h = T.getD i 0 := fun h => by rw [List.getD_eq_getElem?_getD, List.getElem?_eq_getElem h]; rfl
          generalize hC : T.getD i 0 = c at bgi D1 D2
          clear hb hp5 ha
          cases hd : dig c
          · have NO := Lib.hid (num5_none (l := (45 :: T)) (.inr (.inr (by
              rw [hmag]
              cases hall : T.all dig with
              | false => rfl
              | true =>
                have := List.all_eq_true.1 hall c (by rw [← hC, List.getD_eq_getElem?_getD, List.getElem?_eq_getElem hlt]; exact List.getElem_mem _)
                rw [hd] at this; cases this))))
            have hc := ndig hd
            by_cases hc1 : (c.toNat : Int) < 48
            · clear hc hC hV
              go_wp2
              go_ret2
              exact ⟨0, false, rfl, Below.refl _ _, fun h => (by cases h), fun _ => NO.out⟩
            · have hc2 : 57 < (c.toNat : Int) := by omega
              clear hc hC hV
              go_wp2
              go_ret2
              exact ⟨0, false, rfl, Below.refl _ _, fun h => (by cases h), fun _ => NO.out⟩
          · obtain ⟨hc1, hc2⟩ := ydig hd
            have HV := Lib.hid hV
            clear hC hV
            go_wp2
            go_roundw
            case rel => exact ⟨i + 1, by omega, by go_num, by rw [D1.out]; congr 1; omega, by rw [D2.out, HA.out, hd]; rfl, trivial⟩
            case measure => simp [intOf]; omega
        · obtain rfl : i = T.length := by omega
          have hge : ¬ (T.length : Int) < (T.length : Int) := by omega
          rw [List.take_length] at ha hv
          have hb := dval_lt T 0 ha
          have hp5 : 10 ^ T.length ≤ 10 ^ 5 := Nat.pow_le_pow_right (by decide) h5
          have NW := Lib.hid (num5_walk (l := (45 :: T)) (by rw [hmag]; exact h5) (by rw [hmag]; exact ha))
          rw [hmag] at NW
          have hsg : sgz (45 :: T) (dval 0 T) = -(dval 0 T : Int) := by simp [sgz]
          rw [hsg] at NW
          have hv1 : dval 0 T ≤ 99999 := by omega
          generalize dval 0 T = V at hv1 NW hv
          obtain rfl := hv
          clear ha hb hp5 hsg
          cases hq : (Lib.itoa (-(V : Int)) == (45 :: T))
          · rw [if_neg (by simpa using hq)] at NW
            go_wp2_with (go_at_call 71; refine (spec_l3Plain _ (by omega) (by omega) _).mono ?_; rintro e w2 ⟨rfl, f2⟩)
            go_ret2
            exact ⟨_, false, rfl, f2, fun h => (by cases h), fun _ => NW.out⟩
          · rw [if_pos (by simpa using hq)] at NW
            go_wp2_with (go_at_call 71; refine (spec_l3Plain _ (by omega) (by omega) _).mono ?_; rintro e w2 ⟨rfl, f2⟩)
            go_ret2
            exact ⟨_, true, rfl, f2, fun _ => NW.out, fun h => by cases h⟩

    · have NO := Lib.hid (num5_none (l := 45 :: T) (.inr (.inl (by rw [hmag]; omega))))
      have h5' : (5 : Int) < (T.length : Int) := by omega
      go_wp2
      go_ret2
      exact ⟨0, false, rfl, Below.refl _ _, fun h => (by cases h), fun _ => NO.out⟩
set_option maxRecDepth 4000 in
set_option maxHeartbeats 4000000 in
theorem spec_l3Num_pos (T : List UInt8) (hh : ¬ T.head? = some 45) (hl : T.length ≤ 4000000000) (w : World) : Calls Try.prog 61 #[.string (bs T)] w (NumP T w) := by
  have bgT := bs_get T
  have hmag : mag T = T := by unfold mag; rw [if_neg hh]
  have h45 : ∀ (h : 0 < T.length), (((T[0]'h).toNat : Int) == 45) = false := by
    intro h
    cases T with
    | nil => simp at h
    | cons c t =>
      simp only [List.head?_cons, Option.some.injEq] at hh
      simp only [List.getElem_cons_zero, beq_eq_false_iff_ne]
      intro e
      apply hh
      apply UInt8.toNat_inj.1
      simp; omega
  go_enter Try.func61, Try.ntmps61
  by_cases h0 : T = []
  · subst h0
    have NO := Lib.hid (num5_none (l := []) (.inl hmag))
    go_wp2
    go_ret2
    exact ⟨0, false, rfl, Below.refl _ _, fun h => (by cases h), fun _ => NO.out⟩
  · have hT0 : 0 < T.length := List.length_pos_iff.2 h0
    have hT1 : (0 : Int) < (T.length : Int) := by omega
    have h45' := h45 hT0
    clear h45
    have n0 : ((T.length : Int) == 0) = false := by simp; omega
    by_cases h5 : T.length ≤ 5
    · have h5' : ¬ (5 : Int) < (T.length : Int) := by omega
      go_wp2
      go_loopw [5, 6] (fun v i wr => ∃ i' : Nat, i' ≤ T.length ∧ i = .int .i64 i' ∧ v = .int .i64 (dval 0 (T.take i')) ∧ (T.take i').all dig = true ∧ w = wr) (fun _ i _ => T.length - (intOf i).toNat)
      case atStart => exact ⟨0, by omega, rfl, rfl, rfl, rfl⟩
      case round =>
        obtain ⟨i, hi, rfl, hv, ha, rfl⟩ := hrel
        by_cases hlt : i < T.length
        · have hlt' : (i : Int) < (T.length : Int) := by omega
          have hb := dval_lt (T.take i) 0 ha
          have hp5 : 10 ^ (T.take i).length ≤ 10 ^ 5 := Nat.pow_le_pow_right (by decide) (by simp; omega)
          have hv1 : dval 0 (T.take i) ≤ 99999 := by omega
          have D1 := Lib.hid (dig_app hlt)
          have D2 := Lib.hid (all_app hlt)
          obtain rfl := hv
          have HA := Lib.hid ha
          generalize hV : dval 0 (T.take i) = V at hv1 D1
          have bgi : ∀ (h : i < T.length), T[i]'h = T.getD i 0 := fun h => by rw [List.getD_eq_getElem?_getD, List.getElem?_eq_getElem h]; rfl
          generalize hC : T.getD i 0 = c at bgi D1 D2
          clear hb hp5 ha
          cases hd : dig c
          · have NO := Lib.hid (num5_none (l := T) (.inr (.inr (by
              rw [hmag]
              cases hall : T.all dig with
              | false => rfl
              | true =>
                have := List.all_eq_true.1 hall c (by rw [← hC, List.getD_eq_getElem?_getD, List.getElem?_eq_getElem hlt]; exact List.getElem_mem _)
                rw [hd] at this; cases this))))
            have hc := ndig hd
            by_cases hc1 : (c.toNat : Int) < 48
            · clear hc hC hV
              go_wp2
              go_ret2
              exact ⟨0, false, rfl, Below.refl _ _, fun h => (by cases h), fun _ => NO.out⟩
            · have hc2 : 57 < (c.toNat : Int) := by omega
              clear hc hC hV
              go_wp2
              go_ret2
              exact ⟨0, false, rfl, Below.refl _ _, fun h => (by cases h), fun _ => NO.out⟩
          · obtain ⟨hc1, hc2⟩ := ydig hd
            have HV := Lib.hid hV
            clear hC hV
            go_wp2
            go_roundw
            case rel => exact ⟨i + 1, by omega, by go_num, by rw [D1.out]; congr 1; omega, by rw [D2.out, HA.out, hd]; rfl, trivial⟩
            case measure => simp [intOf]; omega
        · obtain rfl : i = T.length := by omega
          have hge : ¬ (T.length : Int) < (T.length : Int) := by omega
          rw [List.take_length] at ha hv
          have hb := dval_lt T 0 ha
          have hp5 : 10 ^ T.length ≤ 10 ^ 5 := Nat.pow_le_pow_right (by decide) h5
          have NW := Lib.hid (num5_walk (l := T) (by rw [hmag]; exact h5) (by rw [hmag]; exact ha))
          rw [hmag] at NW
          have hsg : sgz T (dval 0 T) = (dval 0 T : Int) := by unfold sgz; rw [if_neg hh]
          rw [hsg] at NW
          have hv1 : dval 0 T ≤ 99999 := by omega
          generalize dval 0 T = V at hv1 NW hv
          obtain rfl := hv
          clear ha hb hp5 hsg
          cases hq : (Lib.itoa ((V : Int)) == T)
          · rw [if_neg (by simpa using hq)] at NW
            go_wp2_with (go_at_call 71; refine (spec_l3Plain _ (by omega) (by omega) _).mono ?_; rintro e w2 ⟨rfl, f2⟩)
            go_ret2
            exact ⟨_, false, rfl, f2, fun h => (by cases h), fun _ => NW.out⟩
          · rw [if_pos (by simpa using hq)] at NW
            go_wp2_with (go_at_call 71; refine (spec_l3Plain _ (by omega) (by omega) _).mono ?_; rintro e w2 ⟨rfl, f2⟩)
            go_ret2
            exact ⟨_, true, rfl, f2, fun _ => NW.out, fun h => by cases h⟩

    · have NO := Lib.hid (num5_none (l := T) (.inr (.inl (by rw [hmag]; omega))))
      have h5' : (5 : Int) < (T.length : Int) := by omega
      go_wp2
      go_ret2
      exact ⟨0, false, rfl, Below.refl _ _, fun h => (by cases h), fun _ => NO.out⟩
theorem spec_l3Num (l : List UInt8) (hl : l.length ≤ 4000000000) (w : World) : Calls Try.prog 61 #[.string (bs l)] w (NumP l w) := by
  by_cases hh : l.head? = some 45
  · cases l with
    | nil => simp at hh
    | cons c T =>
      simp at hh
      subst hh
      exact spec_l3Num_neg T (by simp at hl; omega) w
  · exact spec_l3Num_pos l hh hl w

def KindP (l : List UInt8) (w : World) (e : Ending) (w' : World) : Prop :=
  ∃ kk ff ok, e = .returned (.tuple #[.int .i64 kk, .int .i64 ff, .bool ok]) ∧ Fr w w' ∧ (ok = true → ∃ i, kindOf l = some i ∧ kk = mk i ∧ ff = mf i) ∧ (ok = false → kindOf l = none)
theorem kindOf_of {l : List UInt8} {i : Nat} (hi : i < 23) (h : nmL.getD i [] = l) : kindOf l = some i := by rw [← h]; exact kindOf_nm i hi
theorem kindOf_not {l : List UInt8} (h : ∀ j, j < 23 → nmL.getD j [] ≠ l) : kindOf l = none := by
  unfold kindOf
  apply List.findIdx?_eq_none_iff.2
  intro x hx
  obtain ⟨j, hj, rfl⟩ := List.mem_iff_getElem.1 hx
  have := h j hj
  rw [List.getD_eq_getElem?_getD, List.getElem?_eq_getElem hj] at this
  simpa using this
set_option maxRecDepth 4000 in
set_option maxHeartbeats 2000000 in
theorem spec_l3Kind (l : List UInt8) (w : World) : Calls Try.prog 72 #[.string (bs l)] w (KindP l w) := by
  go_enter Try.func72, Try.ntmps72
  go_wp2_with fail
  refine (spec_l3Names w).mono ?_
  rintro e w1 ⟨rfl, hN, f1⟩
  have HN := Lib.hid hN
  have F1 := Lib.hid f1
  clear hN f1
  go_wp2_with fail
  go_loopw [7] (fun i wr => ∃ q : Nat, q ≤ 8 ∧ i = .int .i64 q ∧ (∀ j, j < q → nmL.getD j [] ≠ l) ∧ w1 = wr) (fun i _ => 8 - (intOf i).toNat)
  case atStart => exact ⟨0, by omega, rfl, fun j hj => by omega, rfl⟩
  case round =>
    obtain ⟨q, hq, rfl, hno, rfl⟩ := hrel
    by_cases h8 : q < 8
    · have c := HN.out.al q h8
      have h8' : (q : Int) < 8 := by omega
      generalize hnm : nmL.getD q [] = N at c
      have E1 := Lib.hid hnm
      have HO := Lib.hid hno
      clear hnm hno
      by_cases e : N = l
      · have e' : (N == l) = true := by simp [e]
        have KO := Lib.hid (kindOf_of (l := l) (i := q) (by omega) (E1.out.trans e))
        clear e
        go_wp2
        refine bodyPost_ret (v := .tuple #[.int .i64 0, .int .i64 q, .bool true]) (by simp [results, Try.results72, go_sem]) rfl ⟨0, q, true, rfl, F1.out, fun _ => ⟨q, KO.out, by simp [mk, h8], by simp [mf, h8]⟩, fun h => by cases h⟩
      · have e' : (N == l) = false := by simp [e]
        go_wp2
        go_roundw
        case rel => exact ⟨q + 1, by omega, by go_num, fun j hj => by
          by_cases hjq : j = q
          · rw [hjq, E1.out]; exact e
          · exact HO.out j (by omega), trivial⟩
        case measure => simp [intOf]; omega
    · obtain rfl : q = 8 := by omega
      have HO := Lib.hid hno
      clear hno
      go_wp2
      go_loopw [8] (fun i wr => ∃ q : Nat, 1 ≤ q ∧ q ≤ 16 ∧ i = .int .i64 q ∧ (∀ j, j < q + 7 → nmL.getD j [] ≠ l) ∧ w1 = wr) (fun i _ => 16 - (intOf i).toNat)
      case atStart => exact ⟨1, by omega, by omega, rfl, fun j hj => HO.out j (by omega), rfl⟩
      case round =>
        obtain ⟨q, hq1, hq, rfl, hno, rfl⟩ := hrel
        by_cases h16 : q < 16
        · have c := HN.out.ks q h16
          rw [nmK_nm q h16 hq1] at c
          have h16' : (q : Int) < 16 := by omega
          generalize hnm : nmL.getD (q + 7) [] = N at c
          have E1 := Lib.hid hnm
          have HO2 := Lib.hid hno
          clear hnm hno
          by_cases e : N = l
          · have e' : (N == l) = true := by simp [e]
            have KO := Lib.hid (kindOf_of (l := l) (i := q + 7) (by omega) (E1.out.trans e))
            clear e
            go_wp2
            refine bodyPost_ret (v := .tuple #[.int .i64 q, .int .i64 0, .bool true]) (by simp [results, Try.results72, go_sem]) rfl ⟨q, 0, true, rfl, F1.out, fun _ => ⟨q + 7, KO.out, by simp [mk]; omega, by simp [mf]; omega⟩, fun h => by cases h⟩
          · have e' : (N == l) = false := by simp [e]
            go_wp2
            go_roundw
            case rel => exact ⟨q + 1, by omega, by omega, by go_num, fun j hj => by
              by_cases hjq : j = q + 7
              · rw [hjq, E1.out]; exact e
              · exact HO2.out j (by omega), trivial⟩
            case measure => simp [intOf]; omega
        · obtain rfl : q = 16 := by omega
          have KO := Lib.hid (kindOf_not (l := l) hno)
          clear hno
          go_wp2
          refine bodyPost_ret (v := .tuple #[.int .i64 0, .int .i64 0, .bool false]) (by simp [results, Try.results72, go_sem]) rfl ⟨0, 0, false, rfl, F1.out, fun h => (by cases h), fun _ => KO.out⟩
/-- Labels in memory. -/
def Labs (u : World) (v : Value) (ls : List (List UInt8 × Int)) : Prop :=
  ∃ ao cap, v = .slice ao ls.length cap ∧ (0 < ls.length → ∃ g, ao = some ⟨g, 0, none⟩ ∧ g < u.heap.size ∧ ∀ i, i < ls.length → u.cell? ⟨g, i * 2, none⟩ = some (.string (bs (ls.getD i ([], 0)).1)) ∧ u.cell? ⟨g, i * 2 + 1, none⟩ = some (.int .i64 (ls.getD i ([], 0)).2))
theorem Labs.fr {u u' : World} {v : Value} {ls : List (List UInt8 × Int)} (h : Labs u v ls) (f : Fr u u') : Labs u' v ls := by
  obtain ⟨ao, cap, e, h⟩ := h
  refine ⟨ao, cap, e, fun h0 => ?_⟩
  obtain ⟨g, e2, hg, hc⟩ := h h0
  exact ⟨g, e2, Nat.lt_of_lt_of_le hg f.size, fun i hi => by rw [f.cell (show g < u.heap.size from hg), f.cell (show g < u.heap.size from hg)]; exact hc i hi⟩
/-- Where a label stands, or -1. -/
def findD (ls : List (List UInt8 × Int)) (x : List UInt8) : Int := (look ls x).getD (-1)
theorem look_at {ls : List (List UInt8 × Int)} {x : List UInt8} {i : Nat} (hi : i < ls.length) (h : (ls.getD i ([], 0)).1 = x) (hno : ∀ j, j < i → (ls.getD j ([], 0)).1 ≠ x) : look ls x = some (ls.getD i ([], 0)).2 := by
  unfold look
  have : ls.find? (fun e => e.1 == x) = some (ls.getD i ([], 0)) := by
    apply List.find?_eq_some_iff_getElem.2
    refine ⟨by simpa using h, i, hi, ?_, fun j hj => ?_⟩
    · rw [List.getD_eq_getElem?_getD, List.getElem?_eq_getElem hi]; rfl
    · have := hno j hj
      rw [List.getD_eq_getElem?_getD, List.getElem?_eq_getElem (by omega)] at this
      simpa using this
  rw [this]; rfl
theorem look_none {ls : List (List UInt8 × Int)} {x : List UInt8} (hno : ∀ j, j < ls.length → (ls.getD j ([], 0)).1 ≠ x) : look ls x = none := by
  unfold look
  have : ls.find? (fun e => e.1 == x) = none := by
    apply List.find?_eq_none.2
    intro e he
    obtain ⟨j, hj, rfl⟩ := List.mem_iff_getElem.1 he
    have := hno j hj
    rw [List.getD_eq_getElem?_getD, List.getElem?_eq_getElem hj] at this
    simpa using this
  rw [this]; rfl
set_option maxRecDepth 4000 in
set_option maxHeartbeats 2000000 in
theorem spec_l3Find (v : Value) (ls : List (List UInt8 × Int)) (x : List UInt8) (w : World) (h : Labs w v ls) (hn : ls.length ≤ 1000) : Calls Try.prog 58 #[v, .string (bs x)] w fun e w' => e = .returned (.int .i64 (findD ls x)) ∧ w = w' := by
  obtain ⟨ao, cap, rfl, hc⟩ := h
  go_enter Try.func58, Try.ntmps58
  go_wp2_with fail
  go_loopw [5] (fun i wr => ∃ q : Nat, q ≤ ls.length ∧ i = .int .i64 q ∧ (∀ j, j < q → (ls.getD j ([], 0)).1 ≠ x) ∧ w = wr) (fun i _ => ls.length - (intOf i).toNat)
  case atStart => exact ⟨0, by omega, rfl, fun j hj => by omega, rfl⟩
  case round =>
    obtain ⟨q, hq, rfl, hno, rfl⟩ := hrel
    by_cases hlt : q < ls.length
    · obtain ⟨g, rfl, hg, hcc⟩ := hc (by omega)
      obtain ⟨c0, c1⟩ := hcc q hlt
      have hlt' : (q : Int) < (ls.length : Int) := by omega
      have HO := Lib.hid hno
      generalize hE : ls.getD q ([], 0) = E at c0 c1
      have HE := Lib.hid hE
      obtain ⟨N, A⟩ := E
      simp only at c0 c1
      clear hno hE hcc hc
      by_cases e : N = x
      · have e' : (N == x) = true := by simp [e]
        have LO : Hid (findD ls x = A) := by
          show findD ls x = A
          unfold findD
          rw [look_at hlt (by rw [HE.out]; exact e) HO.out, HE.out]; rfl
        clear e
        go_wp2
        go_ret
        exact ⟨by rw [LO.out]; rfl, rfl⟩
      · have e' : (N == x) = false := by simp [e]
        go_wp2
        go_roundw
        case rel => exact ⟨q + 1, by omega, by go_num, fun j hj => by
          by_cases hjq : j = q
          · rw [hjq, HE.out]; exact e
          · exact HO.out j (by omega), trivial⟩
        case measure => simp [intOf]; omega
    · obtain rfl : q = ls.length := by omega
      have LO : Hid (findD ls x = -1) := by
        show findD ls x = -1
        unfold findD
        rw [look_none hno]; rfl
      have hge : ¬ (ls.length : Int) < (ls.length : Int) := by omega
      clear hno hc
      go_wp2
      go_ret
      exact ⟨by rw [LO.out]; rfl, rfl⟩
def LastP (k at' : Int) (ls : List (List UInt8 × Int)) (l : List UInt8) (w : World) (e : Ending) (w' : World) : Prop :=
  ∃ v ok, e = .returned (.tuple #[.int .i64 v, .bool ok]) ∧ Fr w w' ∧ (ok = true → lastS k at' (look ls) l = some v) ∧ (ok = false → lastS k at' (look ls) l = none)
set_option maxRecDepth 4000 in
set_option maxHeartbeats 2000000 in
theorem spec_l3Last (k at' : Int) (l : List UInt8) (hl : l.length ≤ 4000000000) (v : Value) (ls : List (List UInt8 × Int)) (w : World) (h : Labs w v ls) (hn : ls.length ≤ 1000) (HL : ∀ x t, look ls x = some t → 0 ≤ t ∧ t ≤ 1000) (hat : 0 ≤ at' ∧ at' ≤ 1000) :
    Calls Try.prog 74 #[.int .i64 k, .string (bs l), .int .i64 at', v] w (LastP k at' ls l w) := by
  obtain ⟨at0, at1⟩ := hat
  have H := Lib.hid h
  have HLL := Lib.hid HL
  clear h HL
  go_enter Try.func74, Try.ntmps74
  go_wp2_with fail
  refine (spec_l3Num l hl w).mono ?_
  rintro e w1 ⟨n, ok, rfl, f1, n1, n2⟩
  have F1 := Lib.hid f1
  have HF := Lib.hid (H.out.fr f1)
  clear f1 H
  cases ok
  · have N5 := Lib.hid (n2 rfl)
    clear n1 n2
    have HF2 : findD ls l = -1 ∨ (0 ≤ findD ls l ∧ findD ls l ≤ 1000 ∧ look ls l = some (findD ls l)) := by
      unfold findD
      cases hlk : look ls l with
      | none => left; rfl
      | some t => right; have := HLL.out l t hlk; exact ⟨this.1, this.2, rfl⟩
    have LN : Hid (look ls l = none ∨ 0 ≤ findD ls l) := by
      show _ ∨ _
      unfold findD
      cases hlk : look ls l with
      | none => exact .inl rfl
      | some t => exact .inr (HLL.out l t hlk).1
    generalize hD : findD ls l = D at HF2 LN
    have HD := Lib.hid hD
    have LS : Hid (lastS k at' (look ls) l = if k = 5 ∨ k = 6 ∨ k = 7 then labD at' (look ls) l else none) := by
      show lastS k at' (look ls) l = _
      unfold lastS
      rw [N5.out]
    clear hD
    rcases HF2 with hm | ⟨d0, d1, d2⟩
    · have LZ : Hid (lastS k at' (look ls) l = none) := by
        show _ = none
        rw [LS.out]
        rcases LN.out with h | h
        · unfold labD; rw [h]; simp
        · omega
      subst hm
      go_wp2_with (go_at_call 58; refine (spec_l3Find _ _ _ _ HF.out hn).mono ?_; rintro e w2 ⟨rfl, rfl⟩; rw [HD.out])
      go_ret2
      exact ⟨0, false, rfl, F1.out, fun h => (by cases h), fun _ => LZ.out⟩
    · have dn : ¬ D < 0 := by omega
      by_cases hk : k = 5 ∨ k = 6 ∨ k = 7
      · have LZ : Hid (lastS k at' (look ls) l = some (D - at' - 1)) := by
          show _ = some _
          rw [LS.out, if_pos hk]
          unfold labD
          rw [d2]; rfl
        clear d2
        rcases hk with rfl | rfl | rfl
        all_goals
          go_wp2_with (go_at_call 58; refine (spec_l3Find _ _ _ _ HF.out hn).mono ?_; rintro e w2 ⟨rfl, rfl⟩; rw [HD.out])
          go_ret2
          exact ⟨D - at' - 1, true, rfl, F1.out, fun _ => LZ.out, fun h => (by cases h)⟩
      · have LZ : Hid (lastS k at' (look ls) l = none) := by
          show _ = none
          rw [LS.out, if_neg hk]
        have k5 : (k != 5) = true := by simp; omega
        have k6 : (k != 6) = true := by simp; omega
        have k7 : (k != 7) = true := by simp; omega
        clear d2 hk
        go_wp2_with (go_at_call 58; refine (spec_l3Find _ _ _ _ HF.out hn).mono ?_; rintro e w2 ⟨rfl, rfl⟩; rw [HD.out])
        go_ret2
        exact ⟨0, false, rfl, F1.out, fun h => (by cases h), fun _ => LZ.out⟩
  · have N5 := Lib.hid (n1 rfl)
    have LS : Hid (lastS k at' (look ls) l = some n) := by
      show _ = some n
      unfold lastS
      rw [N5.out]
    clear n1 n2
    go_wp2
    go_ret2
    exact ⟨n, true, rfl, F1.out, fun _ => LS.out, fun h => (by cases h)⟩
theorem info_str : (Try.prog.info? 9).map (fun i => (i.zero, i.size, i.bytes)) = some (some (.string ByteArray.empty), 1, 16) := by kernel_rfl
/-- A slice that the call made, of texts. -/
def OwnsT (B : Nat) (u : World) (v : Value) (L : List (List UInt8)) : Prop := u.ownsRow B 9 1 v L.length (L.map (fun x => Value.string (bs x)))
theorem ownsT_empty (B : Nat) (w : World) (hB : B ≤ w.heap.size) : OwnsT B (w.alloc (.cells #[] 9)) (.slice (some ⟨w.heap.size, 0, none⟩) 0 0) [] := by
  refine ⟨rfl, .inr ⟨w.heap.size, 0, #[], rfl, hB, ?_, Nat.le_refl _, Nat.zero_le _, rfl, rfl⟩⟩
  show (w.heap.push _)[w.heap.size]? = _
  simp
theorem OwnsT.fr {B : Nat} {u u' : World} {v : Value} {L : List (List UInt8)} (h : OwnsT B u v L) (f : Fr u u') : OwnsT B u' v L := by
  obtain ⟨h1, h2⟩ := h
  refine ⟨h1, ?_⟩
  rcases h2 with h2 | ⟨g, cap, cur, hv, hB, hg, h3⟩
  · exact .inl h2
  · refine .inr ⟨g, cap, cur, hv, hB, ?_, h3⟩
    have hlt : g < u.heap.size := by
      by_cases hh : g < u.heap.size
      · exact hh
      · rw [Array.getElem?_eq_none (by omega)] at hg; cases hg
    rw [f.block g hlt]; exact hg
/-- Words in memory, from some place of a block on. -/
def Wds (u : World) (v : Value) (ws : List (List UInt8)) : Prop :=
  ∃ ao cap, v = .slice ao ws.length cap ∧ ws.length ≤ cap ∧ cap ≤ maxLen ∧ (0 < ws.length → ∃ g off, ao = some ⟨g, off, none⟩ ∧ g < u.heap.size ∧ ∀ i, i < ws.length → u.cell? ⟨g, off + i, none⟩ = some (.string (bs (ws.getD i []))))
theorem Wds.fr {u u' : World} {v : Value} {ws : List (List UInt8)} (h : Wds u v ws) (f : Fr u u') : Wds u' v ws := by
  obtain ⟨ao, cap, e, h1, h2, h⟩ := h
  refine ⟨ao, cap, e, h1, h2, fun h0 => ?_⟩
  obtain ⟨g, off, e2, hg, hc⟩ := h h0
  exact ⟨g, off, e2, Nat.lt_of_lt_of_le hg f.size, fun i hi => by rw [f.cell (show g < u.heap.size from hg)]; exact hc i hi⟩
theorem OwnsT.wds {B : Nat} {u : World} {v : Value} {L : List (List UInt8)} (h : OwnsT B u v L) : Wds u v L := by
  rcases h.2 with ⟨hv, hn⟩ | ⟨g, cap, cur, hv, hB, hg, hcap, hmx, hcs, hxs⟩
  · exact ⟨none, 0, by rw [hn]; exact hv, by omega, by decide, fun h0 => by omega⟩
  · refine ⟨_, cap, hv, by omega, by omega, fun _ => ⟨g, 0, rfl, ?_, fun i hi => ?_⟩⟩
    · by_cases hh : g < u.heap.size
      · exact hh
      · rw [Array.getElem?_eq_none (by omega)] at hg; cases hg
    · simp only [World.cell?, hg]
      have h1 : (cur.toList.take (L.length * 1))[i]? = (L.map (fun x => Value.string (bs x)))[i]? := by rw [hxs]
      rw [List.getElem?_take_of_lt (by omega), List.getElem?_map, List.getElem?_eq_getElem hi] at h1
      simpa [List.getD, List.getElem?_eq_getElem hi] using h1

theorem cell_str_at (w : World) (x : Value) (t : TypeId) (g : Nat) (hg : w.heap.size = g) : ∀ j u, [x][j]? = some u → (w.alloc (.cells #[x] t)).cell? ((⟨g, 0, none⟩ : Addr).add j) = some u := by
  subst hg
  intro j u hj
  match j, hj with
  | 0, hj => simp at hj; subst hj; simp [Addr.add]
def WordsP (l : List UInt8) (w : World) (e : Ending) (w' : World) : Prop := ∃ v, e = .returned v ∧ OwnsT w.heap.size w' v (sp l) ∧ Fr w w'
theorem ownsT_app {B : Nat} {u : World} {v : Value} {L : List (List UInt8)} {x : List UInt8} (h : u.ownsRow B 9 1 v (L.length + 1) (L.map (fun x => Value.string (bs x)) ++ [Value.string (bs x)])) : OwnsT B u v (L ++ [x]) := by
  unfold OwnsT
  simpa using h
theorem own_lt {B : Nat} {u : World} {v : Value} {L : List (List UInt8)} (h : OwnsT B u v L) : ∀ q, v.ownBlock = some q → B ≤ q := fun q hq => (World.ownsRow.lt h q hq).1
theorem ext_one (l : List UInt8) (q : Nat) (hq : q < l.length) : (bs l).extract q (q + 1) = bs [l.getD q 0] := by
  apply ByteArray.ext
  have h : (l.drop q).take 1 = [l.getD q 0] := by
    rw [List.drop_eq_getElem_cons hq, List.take_succ_cons, List.take_zero, List.getD_eq_getElem?_getD, List.getElem?_eq_getElem hq]
    rfl
  rw [← h]
  simp
set_option maxRecDepth 4000 in
set_option maxHeartbeats 4000000 in
theorem spec_l3Words (l : List UInt8) (hl : l.length ≤ 4000000) (w : World) : Calls Try.prog 60 #[.string (bs l)] w (WordsP l w) := by
  obtain ⟨i0, hi, hz0, hz1, hz2⟩ := info_parts info_str
  have bg := bs_get l
  go_enter Try.func60, Try.ntmps60
  go_wp2
  go_loopw [3, 4, 5] (fun o s i wr => ∃ (q : Nat) (done : List (List UInt8)) (cur : List UInt8), q ≤ l.length ∧ i = .int .i64 q ∧ s = .string (bs cur) ∧ OwnsT w.heap.size wr o done ∧ done ++ ahead cur (sp (l.drop q)) = sp l ∧ cur.length ≤ q ∧ done.length ≤ q ∧ Fr w wr) (fun _ _ i _ => l.length - (intOf i).toNat)
  case atStart => exact ⟨0, [], [], by omega, rfl, rfl, ownsT_empty _ _ (Nat.le_refl _), by simp [ahead_nil], by simp, by simp, Fr.alloc _ _⟩
  case round =>
    obtain ⟨q, done, cur, hq, rfl, rfl, hO, hS, hc, hdn, hF⟩ := hrel
    have hsz := hF.size
    have HF := Lib.hid hF
    by_cases hlt : q < l.length
    · have hlt' : (q : Int) < (l.length : Int) := by omega
      have bq : ∀ (h : q < l.length), l[q]'h = l.getD q 0 := fun h => by rw [List.getD_eq_getElem?_getD, List.getElem?_eq_getElem h]; rfl
      have eX := ext_one l q hlt
      have hdr : l.drop q = l.getD q 0 :: l.drop (q + 1) := by
        rw [List.drop_eq_getElem_cons hlt, bq hlt]
      rw [hdr] at hS
      generalize l.getD q 0 = c at bq eX hS
      clear hdr
      by_cases h32 : c = 32
      · subst h32
        rw [ahead_blank] at hS
        have HS := Lib.hid hS
        have HO := Lib.hid hO
        clear hS hO hF
        go_wp2_with (at_builtin; refine wpList_append_own _ rfl _ _ 61 rfl w.heap.size 9 i0 (.string ByteArray.empty) 1 16 Try.underlying61 hi hz0 hz1 hz2 rfl (by decide) _ _ _ rfl (World.ownsRow.alloc HO.out _) _ 1 1 [.string (bs cur)] rfl rfl (cell_str_at _ _ _ _ (by simp)) (fun x hx => by simp at hx; subst hx; rfl) (show done.length + 1 ≤ maxLen by have : maxLen = 9223372036854775807 := rfl; omega) (by omega) (by simp; omega) ?_; intro v1 w4 hown1 hg1 _)
        have F4 : Fr w w4 := Below.grown (HF.out.trans (Fr.alloc _ _)) hg1 (by simp; omega) (own_lt HO.out)
        go_roundw
        case rel => exact ⟨q + 1, done ++ [cur], [], by omega, by go_num, rfl, ownsT_app hown1, by rw [ahead_nil, List.append_assoc]; exact HS.out, by simp, by simp; omega, F4⟩
        case measure => simp [intOf]; omega
      · have hc32 : ¬ ((c.toNat : Int) = 32) := fun e => h32 (by apply UInt8.toNat_inj.1; simp; omega)
        have hc32' : ((c.toNat : Int) == 32) = false := by simp [hc32]
        rw [ahead_char h32] at hS
        have HS := Lib.hid hS
        have HO := Lib.hid hO
        clear hS hO hF
        go_wp2
        go_roundw
        case rel => exact ⟨q + 1, done, cur ++ [c], by omega, by go_num, by rw [bs_app], HO.out, HS.out, by simp; omega, by omega, HF.out⟩
        case measure => simp [intOf]; omega
    · obtain rfl : q = l.length := by omega
      have hge : ¬ (l.length : Int) < (l.length : Int) := by omega
      rw [List.drop_length] at hS
      have hS' : done ++ [cur] = sp l := by simpa [sp, ahead] using hS
      have HS := Lib.hid hS'
      have HO := Lib.hid hO
      clear hS hS' hO hF
      go_wp2_with (at_builtin; refine wpList_append_own _ rfl _ _ 61 rfl w.heap.size 9 i0 (.string ByteArray.empty) 1 16 Try.underlying61 hi hz0 hz1 hz2 rfl (by decide) _ _ _ rfl (World.ownsRow.alloc HO.out _) _ 1 1 [.string (bs cur)] rfl rfl (cell_str_at _ _ _ _ (by simp)) (fun x hx => by simp at hx; subst hx; rfl) (show done.length + 1 ≤ maxLen by have : maxLen = 9223372036854775807 := rfl; omega) (by omega) (by simp; omega) ?_; intro v1 w4 hown1 hg1 _)
      have F4 : Fr w w4 := Below.grown (HF.out.trans (Fr.alloc _ _)) hg1 (by simp; omega) (own_lt HO.out)
      go_ret
      exact ⟨v1, rfl, by rw [← HS.out]; exact ownsT_app hown1, F4⟩

end Go.Proofs.Ytmkinbnopgfljaa
