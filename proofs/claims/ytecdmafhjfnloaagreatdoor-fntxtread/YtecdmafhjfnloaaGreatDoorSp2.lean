/- Chapter 3: the model reads names, labels, words. -/
import Derived.Test.YtecdmafhjfnloaaGreatDoorSp1
import Derived.Test.YtecdmafhjfnloaaGreatDoorTxtLines
namespace Go.Proofs.YtecdmafhjfnloaaGreatDoor
open Go.RowKit
set_option linter.unusedVariables false

def KindP (l : List UInt8) (w : World) (e : Ending) (w' : World) : Prop :=
  ∃ kk ff ok, e = .returned (.tuple #[.int .i64 kk, .int .i64 ff, .bool ok]) ∧ Fr w w' ∧ (ok = true → ∃ i, kindOf l = some i ∧ kk = mk i ∧ ff = mf i) ∧ (ok = false → kindOf l = none)
theorem kindOf_of {l : List UInt8} {i : Nat} (hi : i < 23) (h : nmL.getD i [] = l) : kindOf l = some i := by rw [← h]; exact kindOf_nm i hi
theorem kindOf_not {l : List UInt8} (h : ∀ j, j < 23 → nmL.getD j [] ≠ l) : kindOf l = none := by
  unfold kindOf
  apply List.findIdx?_eq_none_iff.2
  intro x hx
  obtain ⟨j, hj, rfl⟩ := List.mem_iff_getElem.1 hx
  have := h j hj
  rw [List.getD_eq_getElem?_getD, List.getElem?_eq_getElem hj] at this
  simpa using this
set_option maxRecDepth 4000 in
set_option maxHeartbeats 2000000 in
theorem spec_l3Kind (l : List UInt8) (w : World) : Calls Tryz.prog 78 #[.string (bs l)] w (KindP l w) := by
  go_enter Tryz.func78, Tryz.ntmps78
  go_wp2_with fail
  refine (spec_l3Names w).mono ?_
  rintro e w1 ⟨rfl, hN, f1⟩
  have HN := Lib.hid hN
  have F1 := Lib.hid f1
  clear hN f1
  go_wp2_with fail
  go_loopw [7] (fun i wr => ∃ q : Nat, q ≤ 8 ∧ i = .int .i64 q ∧ (∀ j, j < q → nmL.getD j [] ≠ l) ∧ w1 = wr) (fun i _ => 8 - (intOf i).toNat)
  case atStart => exact ⟨0, by omega, rfl, fun j hj => by omega, rfl⟩
  case round =>
    obtain ⟨q, hq, rfl, hno, rfl⟩ := hrel
    by_cases h8 : q < 8
    · have c := HN.out.al q h8
      have h8' : (q : Int) < 8 := by omega
      generalize hnm : nmL.getD q [] = N at c
      have E1 := Lib.hid hnm
      have HO := Lib.hid hno
      clear hnm hno
      by_cases e : N = l
      · have e' : (N == l) = true := by simp [e]
        have KO := Lib.hid (kindOf_of (l := l) (i := q) (by omega) (E1.out.trans e))
        clear e
        go_wp2
        refine bodyPost_ret (v := .tuple #[.int .i64 0, .int .i64 q, .bool true]) (by simp [results, Tryz.results78, go_sem]) rfl ⟨0, q, true, rfl, F1.out, fun _ => ⟨q, KO.out, by simp [mk, h8], by simp [mf, h8]⟩, fun h => by cases h⟩
      · have e' : (N == l) = false := by simp [e]
        go_wp2
        go_roundw
        case rel => exact ⟨q + 1, by omega, by go_num, fun j hj => by
          by_cases hjq : j = q
          · rw [hjq, E1.out]; exact e
          · exact HO.out j (by omega), trivial⟩
        case measure => simp [intOf]; omega
    · obtain rfl : q = 8 := by omega
      have HO := Lib.hid hno
      clear hno
      go_wp2
      go_loopw [8] (fun i wr => ∃ q : Nat, 1 ≤ q ∧ q ≤ 16 ∧ i = .int .i64 q ∧ (∀ j, j < q + 7 → nmL.getD j [] ≠ l) ∧ w1 = wr) (fun i _ => 16 - (intOf i).toNat)
      case atStart => exact ⟨1, by omega, by omega, rfl, fun j hj => HO.out j (by omega), rfl⟩
      case round =>
        obtain ⟨q, hq1, hq, rfl, hno, rfl⟩ := hrel
        by_cases h16 : q < 16
        · have c := HN.out.ks q h16
          rw [nmK_nm q h16 hq1] at c
          have h16' : (q : Int) < 16 := by omega
          generalize hnm : nmL.getD (q + 7) [] = N at c
          have E1 := Lib.hid hnm
          have HO2 := Lib.hid hno
          clear hnm hno
          by_cases e : N = l
          · have e' : (N == l) = true := by simp [e]
            have KO := Lib.hid (kindOf_of (l := l) (i := q + 7) (by omega) (E1.out.trans e))
            clear e
            go_wp2
            refine bodyPost_ret (v := .tuple #[.int .i64 q, .int .i64 0, .bool true]) (by simp [results, Tryz.results78, go_sem]) rfl ⟨q, 0, true, rfl, F1.out, fun _ => ⟨q + 7, KO.out, by simp [mk]; omega, by simp [mf]; omega⟩, fun h => by cases h⟩
          · have e' : (N == l) = false := by simp [e]
            go_wp2
            go_roundw
            case rel => exact ⟨q + 1, by omega, by omega, by go_num, fun j hj => by
              by_cases hjq : j = q + 7
              · rw [hjq, E1.out]; exact e
              · exact HO2.out j (by omega), trivial⟩
            case measure => simp [intOf]; omega
        · obtain rfl : q = 16 := by omega
          have KO := Lib.hid (kindOf_not (l := l) hno)
          clear hno
          go_wp2
          refine bodyPost_ret (v := .tuple #[.int .i64 0, .int .i64 0, .bool false]) (by simp [results, Tryz.results78, go_sem]) rfl ⟨0, 0, false, rfl, F1.out, fun h => (by cases h), fun _ => KO.out⟩
/-- Labels in memory. -/
def Labs (u : World) (v : Value) (ls : List (List UInt8 × Int)) : Prop :=
  ∃ ao cap, v = .slice ao ls.length cap ∧ (0 < ls.length → ∃ g, ao = some ⟨g, 0, none⟩ ∧ g < u.heap.size ∧ ∀ i, i < ls.length → u.cell? ⟨g, i * 2, none⟩ = some (.string (bs (ls.getD i ([], 0)).1)) ∧ u.cell? ⟨g, i * 2 + 1, none⟩ = some (.int .i64 (ls.getD i ([], 0)).2))
theorem Labs.fr {u u' : World} {v : Value} {ls : List (List UInt8 × Int)} (h : Labs u v ls) (f : Fr u u') : Labs u' v ls := by
  obtain ⟨ao, cap, e, h⟩ := h
  refine ⟨ao, cap, e, fun h0 => ?_⟩
  obtain ⟨g, e2, hg, hc⟩ := h h0
  exact ⟨g, e2, Nat.lt_of_lt_of_le hg f.size, fun i hi => by rw [f.cell (show g < u.heap.size from hg), f.cell (show g < u.heap.size from hg)]; exact hc i hi⟩
/-- Where a label stands, or -1. -/
def findD (ls : List (List UInt8 × Int)) (x : List UInt8) : Int := (look ls x).getD (-1)
theorem look_at {ls : List (List UInt8 × Int)} {x : List UInt8} {i : Nat} (hi : i < ls.length) (h : (ls.getD i ([], 0)).1 = x) (hno : ∀ j, j < i → (ls.getD j ([], 0)).1 ≠ x) : look ls x = some (ls.getD i ([], 0)).2 := by
  unfold look
  have : ls.find? (fun e => e.1 == x) = some (ls.getD i ([], 0)) := by
    apply List.find?_eq_some_iff_getElem.2
    refine ⟨by simpa using h, i, hi, ?_, fun j hj => ?_⟩
    · rw [List.getD_eq_getElem?_getD, List.getElem?_eq_getElem hi]; rfl
    · have := hno j hj
      rw [List.getD_eq_getElem?_getD, List.getElem?_eq_getElem (by omega)] at this
      simpa using this
  rw [this]; rfl
theorem look_none {ls : List (List UInt8 × Int)} {x : List UInt8} (hno : ∀ j, j < ls.length → (ls.getD j ([], 0)).1 ≠ x) : look ls x = none := by
  unfold look
  have : ls.find? (fun e => e.1 == x) = none := by
    apply List.find?_eq_none.2
    intro e he
    obtain ⟨j, hj, rfl⟩ := List.mem_iff_getElem.1 he
    have := hno j hj
    rw [List.getD_eq_getElem?_getD, List.getElem?_eq_getElem hj] at this
    simpa using this
  rw [this]; rfl
set_option maxRecDepth 4000 in
set_option maxHeartbeats 2000000 in
theorem spec_l3Find (v : Value) (ls : List (List UInt8 × Int)) (x : List UInt8) (w : World) (h : Labs w v ls) (hn : ls.length ≤ 1000) : Calls Tryz.prog 56 #[v, .string (bs x)] w fun e w' => e = .returned (.int .i64 (findD ls x)) ∧ w = w' := by
  obtain ⟨ao, cap, rfl, hc⟩ := h
  go_enter Tryz.func56, Tryz.ntmps56
  go_wp2_with fail
  go_loopw [5] (fun i wr => ∃ q : Nat, q ≤ ls.length ∧ i = .int .i64 q ∧ (∀ j, j < q → (ls.getD j ([], 0)).1 ≠ x) ∧ w = wr) (fun i _ => ls.length - (intOf i).toNat)
  case atStart => exact ⟨0, by omega, rfl, fun j hj => by omega, rfl⟩
  case round =>
    obtain ⟨q, hq, rfl, hno, rfl⟩ := hrel
    by_cases hlt : q < ls.length
    · obtain ⟨g, rfl, hg, hcc⟩ := hc (by omega)
      obtain ⟨c0, c1⟩ := hcc q hlt
      have hlt' : (q : Int) < (ls.length : Int) := by omega
      have HO := Lib.hid hno
      generalize hE : ls.getD q ([], 0) = E at c0 c1
      have HE := Lib.hid hE
      obtain ⟨N, A⟩ := E
      simp only at c0 c1
      clear hno hE hcc hc
      by_cases e : N = x
      · have e' : (N == x) = true := by simp [e]
        have LO : Hid (findD ls x = A) := by
          show findD ls x = A
          unfold findD
          rw [look_at hlt (by rw [HE.out]; exact e) HO.out, HE.out]; rfl
        clear e
        go_wp2
        go_ret
        exact ⟨by rw [LO.out]; rfl, rfl⟩
      · have e' : (N == x) = false := by simp [e]
        go_wp2
        go_roundw
        case rel => exact ⟨q + 1, by omega, by go_num, fun j hj => by
          by_cases hjq : j = q
          · rw [hjq, HE.out]; exact e
          · exact HO.out j (by omega), trivial⟩
        case measure => simp [intOf]; omega
    · obtain rfl : q = ls.length := by omega
      have LO : Hid (findD ls x = -1) := by
        show findD ls x = -1
        unfold findD
        rw [look_none hno]; rfl
      have hge : ¬ (ls.length : Int) < (ls.length : Int) := by omega
      clear hno hc
      go_wp2
      go_ret
      exact ⟨by rw [LO.out]; rfl, rfl⟩
def LastP (k at' : Int) (ls : List (List UInt8 × Int)) (l : List UInt8) (w : World) (e : Ending) (w' : World) : Prop :=
  ∃ v ok, e = .returned (.tuple #[.int .i64 v, .bool ok]) ∧ Fr w w' ∧ (ok = true → lastS k at' (look ls) l = some v) ∧ (ok = false → lastS k at' (look ls) l = none)
set_option maxRecDepth 4000 in
set_option maxHeartbeats 2000000 in
theorem spec_l3Last (k at' : Int) (l : List UInt8) (hl : l.length ≤ 4000000000) (v : Value) (ls : List (List UInt8 × Int)) (w : World) (h : Labs w v ls) (hn : ls.length ≤ 1000) (HL : ∀ x t, look ls x = some t → 0 ≤ t ∧ t ≤ 1000) (hat : 0 ≤ at' ∧ at' ≤ 1000) :
    Calls Tryz.prog 80 #[.int .i64 k, .string (bs l), .int .i64 at', v] w (LastP k at' ls l w) := by
  obtain ⟨at0, at1⟩ := hat
  have H := Lib.hid h
  have HLL := Lib.hid HL
  clear h HL
  go_enter Tryz.func80, Tryz.ntmps80
  go_wp2_with fail
  refine (spec_l3Num l hl w).mono ?_
  rintro e w1 ⟨n, ok, rfl, f1, n1, n2⟩
  have F1 := Lib.hid f1
  have HF := Lib.hid (H.out.fr f1)
  clear f1 H
  cases ok
  · have N5 := Lib.hid (n2 rfl)
    clear n1 n2
    have HF2 : findD ls l = -1 ∨ (0 ≤ findD ls l ∧ findD ls l ≤ 1000 ∧ look ls l = some (findD ls l)) := by
      unfold findD
      cases hlk : look ls l with
      | none => left; rfl
      | some t => right; have := HLL.out l t hlk; exact ⟨this.1, this.2, rfl⟩
    have LN : Hid (look ls l = none ∨ 0 ≤ findD ls l) := by
      show _ ∨ _
      unfold findD
      cases hlk : look ls l with
      | none => exact .inl rfl
      | some t => exact .inr (HLL.out l t hlk).1
    generalize hD : findD ls l = D at HF2 LN
    have HD := Lib.hid hD
    have LS : Hid (lastS k at' (look ls) l = if k = 5 ∨ k = 6 ∨ k = 7 then labD at' (look ls) l else none) := by
      show lastS k at' (look ls) l = _
      unfold lastS
      rw [N5.out]
    clear hD
    rcases HF2 with hm | ⟨d0, d1, d2⟩
    · have LZ : Hid (lastS k at' (look ls) l = none) := by
        show _ = none
        rw [LS.out]
        rcases LN.out with h | h
        · unfold labD; rw [h]; simp
        · omega
      subst hm
      go_wp2_with (go_at_call 56; refine (spec_l3Find _ _ _ _ HF.out hn).mono ?_; rintro e w2 ⟨rfl, rfl⟩; rw [HD.out])
      go_ret2
      exact ⟨0, false, rfl, F1.out, fun h => (by cases h), fun _ => LZ.out⟩
    · have dn : ¬ D < 0 := by omega
      by_cases hk : k = 5 ∨ k = 6 ∨ k = 7
      · have LZ : Hid (lastS k at' (look ls) l = some (D - at' - 1)) := by
          show _ = some _
          rw [LS.out, if_pos hk]
          unfold labD
          rw [d2]; rfl
        clear d2
        rcases hk with rfl | rfl | rfl
        all_goals
          go_wp2_with (go_at_call 56; refine (spec_l3Find _ _ _ _ HF.out hn).mono ?_; rintro e w2 ⟨rfl, rfl⟩; rw [HD.out])
          go_ret2
          exact ⟨D - at' - 1, true, rfl, F1.out, fun _ => LZ.out, fun h => (by cases h)⟩
      · have LZ : Hid (lastS k at' (look ls) l = none) := by
          show _ = none
          rw [LS.out, if_neg hk]
        have k5 : (k != 5) = true := by simp; omega
        have k6 : (k != 6) = true := by simp; omega
        have k7 : (k != 7) = true := by simp; omega
        clear d2 hk
        go_wp2_with (go_at_call 56; refine (spec_l3Find _ _ _ _ HF.out hn).mono ?_; rintro e w2 ⟨rfl, rfl⟩; rw [HD.out])
        go_ret2
        exact ⟨0, false, rfl, F1.out, fun h => (by cases h), fun _ => LZ.out⟩
  · have N5 := Lib.hid (n1 rfl)
    have LS : Hid (lastS k at' (look ls) l = some n) := by
      show _ = some n
      unfold lastS
      rw [N5.out]
    clear n1 n2
    go_wp2
    go_ret2
    exact ⟨n, true, rfl, F1.out, fun _ => LS.out, fun h => (by cases h)⟩
theorem info_str : (Tryz.prog.info? 9).map (fun i => (i.zero, i.size, i.bytes)) = some (some (.string ByteArray.empty), 1, 16) := by kernel_rfl
/-- A slice that the call made, of texts. -/
def OwnsT (B : Nat) (u : World) (v : Value) (L : List (List UInt8)) : Prop := u.ownsRow B 9 1 v L.length (L.map (fun x => Value.string (bs x)))
theorem ownsT_empty (B : Nat) (w : World) (hB : B ≤ w.heap.size) : OwnsT B (w.alloc (.cells #[] 9)) (.slice (some ⟨w.heap.size, 0, none⟩) 0 0) [] := by
  refine ⟨rfl, .inr ⟨w.heap.size, 0, #[], rfl, hB, ?_, Nat.le_refl _, Nat.zero_le _, rfl, rfl⟩⟩
  show (w.heap.push _)[w.heap.size]? = _
  simp
theorem OwnsT.fr {B : Nat} {u u' : World} {v : Value} {L : List (List UInt8)} (h : OwnsT B u v L) (f : Fr u u') : OwnsT B u' v L := by
  obtain ⟨h1, h2⟩ := h
  refine ⟨h1, ?_⟩
  rcases h2 with h2 | ⟨g, cap, cur, hv, hB, hg, h3⟩
  · exact .inl h2
  · refine .inr ⟨g, cap, cur, hv, hB, ?_, h3⟩
    have hlt : g < u.heap.size := by
      by_cases hh : g < u.heap.size
      · exact hh
      · rw [Array.getElem?_eq_none (by omega)] at hg; cases hg
    rw [f.block g hlt]; exact hg
/-- Words in memory, from some place of a block on. -/
def Wds (u : World) (v : Value) (ws : List (List UInt8)) : Prop :=
  ∃ ao cap, v = .slice ao ws.length cap ∧ ws.length ≤ cap ∧ cap ≤ maxLen ∧ (0 < ws.length → ∃ g off, ao = some ⟨g, off, none⟩ ∧ g < u.heap.size ∧ ∀ i, i < ws.length → u.cell? ⟨g, off + i, none⟩ = some (.string (bs (ws.getD i []))))
theorem Wds.fr {u u' : World} {v : Value} {ws : List (List UInt8)} (h : Wds u v ws) (f : Fr u u') : Wds u' v ws := by
  obtain ⟨ao, cap, e, h1, h2, h⟩ := h
  refine ⟨ao, cap, e, h1, h2, fun h0 => ?_⟩
  obtain ⟨g, off, e2, hg, hc⟩ := h h0
  exact ⟨g, off, e2, Nat.lt_of_lt_of_le hg f.size, fun i hi => by rw [f.cell (show g < u.heap.size from hg)]; exact hc i hi⟩
theorem OwnsT.wds {B : Nat} {u : World} {v : Value} {L : List (List UInt8)} (h : OwnsT B u v L) : Wds u v L := by
  rcases h.2 with ⟨hv, hn⟩ | ⟨g, cap, cur, hv, hB, hg, hcap, hmx, hcs, hxs⟩
  · exact ⟨none, 0, by rw [hn]; exact hv, by omega, by decide, fun h0 => by omega⟩
  · refine ⟨_, cap, hv, by omega, by omega, fun _ => ⟨g, 0, rfl, ?_, fun i hi => ?_⟩⟩
    · by_cases hh : g < u.heap.size
      · exact hh
      · rw [Array.getElem?_eq_none (by omega)] at hg; cases hg
    · simp only [World.cell?, hg]
      have h1 : (cur.toList.take (L.length * 1))[i]? = (L.map (fun x => Value.string (bs x)))[i]? := by rw [hxs]
      rw [List.getElem?_take_of_lt (by omega), List.getElem?_map, List.getElem?_eq_getElem hi] at h1
      simpa [List.getD, List.getElem?_eq_getElem hi] using h1
end Go.Proofs.YtecdmafhjfnloaaGreatDoor
