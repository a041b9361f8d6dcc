/- Rows of bools: in memory, copied, compared, marked, held. -/
import Derived.Test.YtddllgjieccikaaVo
namespace Go.Proofs.Ytddllgjieccikaa
open Go.RowKit
set_option linter.unusedVariables false
set_option linter.unusedSimpArgs false
theorem getD_setB {l : List Bool} {i j : Nat} {v : Bool} : (l.set i v).getD j false = if i = j ∧ j < l.length then v else l.getD j false := by
  simp only [List.getD_eq_getElem?_getD, List.getElem?_set]
  by_cases h : i = j
  · subst h
    by_cases h2 : i < l.length
    · simp [h2]
    · simp [h2]
  · simp [h]
/-- A list as the values of a row. -/
abbrev bvl (l : List Bool) : Nat → Value := fun i => .bool (l.getD i false)
/-- Bools lie in block g, and may be written. -/
structure RoB (u : World) (g : Nat) (xs : List Bool) : Prop where
  lt : g < u.heap.size
  cel : ∀ i, i < xs.length → u.cell? ⟨g, i, none⟩ = some (.bool (xs.getD i false))
  fro : ∀ i, i < xs.length → u.frozen? ⟨g, i, none⟩ = false
theorem RoB.but {L : List Nat} {u u' : World} {g : Nat} {xs : List Bool} (h : RoB u g xs) (f : But L u u') (hn : g ∉ L) : RoB u' g xs :=
  ⟨Nat.lt_of_lt_of_le h.lt f.size, fun i hi => by rw [f.cell h.lt hn]; exact h.cel i hi, fun i hi => by rw [f.frozen h.lt hn]; exact h.fro i hi⟩
theorem RoB.fr {u u' : World} {g : Nat} {xs : List Bool} (h : RoB u g xs) (f : Fr u u') : RoB u' g xs := h.but (L := []) (But.of f) (by simp)
theorem RoB.other {u : World} {g : Nat} {xs : List Bool} (h : RoB u g xs) (Z j : Nat) (v : Value) (hz : ¬ Z = g) : RoB (u.setCell ⟨Z, j, none⟩ v) g xs :=
  h.but (L := [Z]) ((But.refl _ _).set Z j v (.inl (by simp))) (by simp; try omega)
theorem RoB.set {u : World} {g : Nat} {xs : List Bool} (h : RoB u g xs) (i : Nat) (v : Bool) (hi : i < xs.length) : RoB (u.setCell ⟨g, i, none⟩ (.bool v)) g (xs.set i v) := by
  refine ⟨by have := h.lt; simpa [World.setCell] using this, fun j hj => ?_, fun j hj => by rw [World.frozen?_setCell]; exact h.fro j (by simpa using hj)⟩
  rw [List.length_set] at hj
  rw [getD_setB]
  by_cases e : i = j
  · subst e
    rw [World.cell?_setCell_same _ _ _ (h.cel i hi), if_pos ⟨rfl, hi⟩]
  · rw [World.cell?_setCell_other _ _ _ _ (by simp; try omega), if_neg (fun h => e h.1)]
    exact h.cel j hj
theorem RoB.alloc {u : World} {g : Nat} {xs : List Bool} (h : RoB u g xs) (o : Obj) : RoB (u.alloc o) g xs := h.fr (Fr.alloc _ _)
theorem RoB.drew {u : World} {g : Nat} {xs : List Bool} (h : RoB u g xs) : RoB u.drew g xs := ⟨h.lt, h.cel, h.fro⟩
theorem RoB.drewN {u : World} {g : Nat} {xs : List Bool} (h : RoB u g xs) (n : Nat) : RoB (u.drewN n) g xs := h.but (L := []) ((But.refl _ _).drewN n) (by simp)
theorem RoB.src {u : World} {g : Nat} {xs : List Bool} (h : RoB u g xs) : Src u xs.length (bvl xs) (some ⟨g, 0, none⟩) := fun _ => ⟨g, 0, rfl, h.lt, fun i hi => by rw [Nat.zero_add]; exact h.cel i hi⟩
theorem RoB.vc {B : Nat} {u : World} {g : Nat} {xs : List Bool} (h : RoB u g xs) (hB : B ≤ g) : Vc B u xs.length (bvl xs) (some ⟨g, 0, none⟩) := ⟨fun _ => ⟨g, rfl, hB, h.lt, h.cel, h.fro⟩⟩
theorem info_boolV : (Try.prog.info? 4).map (fun i => (i.zero, i.size, i.bytes)) = some (some (.bool false), 1, 1) := by kernel_rfl
theorem info_partsB {P : Program} {t : TypeId} {z : Value} {b : Nat} (h : (P.info? t).map (fun i => (i.zero, i.size, i.bytes)) = some (some z, 1, b)) : ∃ i, P.info? t = some i ∧ i.zero = some z ∧ i.size = 1 ∧ i.bytes = b := by
  cases hi : P.info? t with
  | none => rw [hi] at h; simp at h
  | some i => rw [hi] at h; simp at h; exact ⟨i, rfl, h.1, h.2.1, h.2.2⟩
set_option maxRecDepth 4000 in
set_option maxHeartbeats 2000000 in
theorem laws_toBoolS (w : World) (ao : Option Addr) (n cap : Nat) (c : Nat → Bool) (h : Src w n (fun i => .bool (c i)) ao) (hn : n ≤ 1048576) :
    Calls Try.prog 62 #[.slice ao n cap] w fun e w' => ∃ g, e = .returned (.slice (some ⟨g, 0, none⟩) n n) ∧ w.heap.size ≤ g ∧ g < w'.heap.size ∧ Vc w.heap.size w' n (fun i => .bool (c i)) (some ⟨g, 0, none⟩) ∧ Fr w w' := by
  obtain ⟨i0, hi, hz0, hz1, hz2⟩ := info_partsB info_boolV
  have hmx : maxLen = 9223372036854775807 := rfl
  go_enter Try.func62, Try.ntmps62
  go_wp2_with (at_make; refine wpList_make_full _ rfl _ _ 23 rfl w.heap.size 4 i0 (.bool false) 1 Try.underlying23 hi hz0 hz1 .i64 .i64 (n : Int) (n : Int) n rfl rfl rfl rfl (by rw [hz2]; omega) (by omega) (Nat.le_refl _) ?_; intro w1 hown hg)
  obtain ⟨ao1, cap1, hv, hV, _⟩ := own_vc hown
  cases hv
  have F1 := grown_fr hg
  have hs1 : w.heap.size < w1.heap.size := by have := (World.ownsRow.lt hown _ rfl).2; exact this
  have hV' : Vc w.heap.size w1 n (fun _ => .bool false) (some ⟨w.heap.size, 0, none⟩) := hV.cong fun i hi => made_get _ _ _ hi rfl
  have P0 : Put w.heap.size n (fun _ => .bool false) (fun i => .bool (c i)) w1 0 w1 := by
    by_cases h0 : 0 < n
    · obtain ⟨g, e, _, _, hc, hf⟩ := hV'.at0 h0
      cases e
      exact ⟨grown_refl _ _, fun i hi => by simpa using hc i hi, hf⟩
    · exact ⟨grown_refl _ _, fun i hi => by omega, fun i hi => by omega⟩
  have HP0 := Lib.hid P0
  have HS := Lib.hid h
  clear hV hV' P0 hown hg h
  go_loopw [4] (fun i wr => ∃ p : Nat, p ≤ n ∧ i = .int .i64 p ∧ Put w.heap.size n (fun _ => .bool false) (fun i => .bool (c i)) w1 p wr ∧ w.heap.size < wr.heap.size) (fun i _ => n - (intOf i).toNat)
  case atStart => exact ⟨0, Nat.zero_le _, rfl, HP0.out, hs1⟩
  case round =>
    obtain ⟨p, hp, rfl, hM, hsz⟩ := hrel
    have HM := Lib.hid hM
    by_cases hlt : p < n
    · obtain ⟨g, o, rfl, hgl, hc⟩ := HS.out (by omega)
      have d0 : wr.cell? ⟨g, o + p, none⟩ = some (.bool (c p)) := by rw [(grown_fr' F1 hM.grw).cell hgl]; exact hc p hlt
      have d1 := hM.cel p hlt
      have d2 := hM.fro p hlt
      simp at d1
      have hlt' : (p : Int) < (n : Int) := by omega
      clear hM hc
      go_wp2
      go_roundw
      case rel => exact ⟨p + 1, by omega, by go_num, HM.out.next hlt _ rfl, by simpa using hsz⟩
      case measure => simp [intOf]; omega
    · have hge : ¬ (p : Int) < (n : Int) := by omega
      have e : p = n := by omega
      subst e
      clear hM
      go_wp2
      go_ret
      refine ⟨w.heap.size, rfl, Nat.le_refl _, hsz, ⟨fun _ => ⟨_, rfl, Nat.le_refl _, hsz, fun i hi => ?_, HM.out.fro⟩⟩, grown_fr' F1 HM.out.grw⟩
      have := HM.out.cel i hi
      rw [if_pos hi] at this
      exact this
set_option maxRecDepth 4000 in
set_option maxHeartbeats 2000000 in
theorem laws_eqBoolSo (u : World) (n : Nat) (c : Nat → Bool) (ao1 ao2 : Option Addr) (cap1 cap2 : Nat) (h1 : Src u n (fun i => .bool (c i)) ao1) (h2 : Src u n (fun i => .bool (c i)) ao2) (hn : n ≤ 1048576) :
    Calls Try.prog 52 #[.slice ao1 n cap1, .slice ao2 n cap2] u fun e u' => e = .returned (.bool true) ∧ ∃ m, u.drewN m = u' := by
  go_enter Try.func52, Try.ntmps52
  go_wp2_with fail
  go_loopw [5] (fun i wr => ∃ (p m : Nat), p ≤ n ∧ i = .int .i64 p ∧ u.drewN m = wr) (fun i _ => n - (intOf i).toNat)
  case atStart => exact ⟨0, 0, Nat.zero_le _, rfl, rfl⟩
  case round =>
    obtain ⟨p, m, hp, rfl, rfl⟩ := hrel
    by_cases hlt : p < n
    · obtain ⟨g1, o1, rfl, _, hc1⟩ := h1 (by omega)
      obtain ⟨g2, o2, rfl, _, hc2⟩ := h2 (by omega)
      have d1 := hc1 p hlt
      have d2 := hc2 p hlt
      have hlt' : (p : Int) < (n : Int) := by omega
      clear h1 h2 hc1 hc2
      generalize c p = z at d1 d2
      go_wp2_with fail
      go_quiet (fail)
      go_wp2
      go_roundw
      case rel => exact ⟨p + 1, _, by omega, by go_num, rfl⟩
      case measure => simp [intOf]; omega
    · have hge : ¬ (p : Int) < (n : Int) := by omega
      clear h1 h2
      go_wp2
      go_ret
      exact ⟨rfl, m, rfl⟩
set_option maxRecDepth 4000 in
set_option maxHeartbeats 2000000 in
theorem laws_haBoolso (u : World) (n : Nat) (c : Nat → Bool) (ao1 ao2 : Option Addr) (cap1 cap2 : Nat) (h1 : Src u n (fun i => .bool (c i)) ao1) (h2 : Src u n (fun i => .bool (c i)) ao2) (hn : n ≤ 1048576) :
    Calls Try.prog 81 #[.slice ao1 n cap1, .slice ao2 n cap2] u fun e u' => e = .returned (.bool true) ∧ ∃ m, u.drewN m = u' := by
  go_enter Try.func81, Try.ntmps81
  go_wp2_with fail
  go_loopw [5] (fun i wr => ∃ (p m : Nat), p ≤ n ∧ i = .int .i64 p ∧ u.drewN m = wr) (fun i _ => n - (intOf i).toNat)
  case atStart => exact ⟨0, 0, Nat.zero_le _, rfl, rfl⟩
  case round =>
    obtain ⟨p, m, hp, rfl, rfl⟩ := hrel
    by_cases hlt : p < n
    · obtain ⟨g1, o1, rfl, _, hc1⟩ := h1 (by omega)
      obtain ⟨g2, o2, rfl, _, hc2⟩ := h2 (by omega)
      have d1 := hc1 p hlt
      have d2 := hc2 p hlt
      have hlt' : (p : Int) < (n : Int) := by omega
      clear h1 h2 hc1 hc2
      generalize c p = z at d1 d2
      go_wp2_with fail
      go_quiet (fail)
      go_wp2
      go_roundw
      case rel => exact ⟨p + 1, _, by omega, by go_num, rfl⟩
      case measure => simp [intOf]; omega
    · have hge : ¬ (p : Int) < (n : Int) := by omega
      clear h1 h2
      go_wp2
      go_ret
      exact ⟨rfl, m, rfl⟩
set_option maxRecDepth 4000 in
set_option maxHeartbeats 2000000 in
theorem laws_heldBoolSo (u : World) (n : Nat) (ao : Option Addr) (cap : Nat) (k : Int) (h : Src u n (fun i => .bool ((k + i) % 3 == 0)) ao) (hn : n ≤ 1048576) (k0 : 1 ≤ k) (k1 : k ≤ 10000000) :
    Calls Try.prog 56 #[.slice ao n cap, .int .i64 k] u fun e u' => e = .returned (.int .i64 (k + n)) ∧ Fr u u' := by
  go_enter Try.func56, Try.ntmps56
  go_wp2_with fail
  go_loopw [1, 5] (fun q i wr => ∃ p : Nat, p ≤ n ∧ q = .int .i64 (k + p) ∧ i = .int .i64 p ∧ Fr u wr) (fun _ i _ => n - (intOf i).toNat)
  case atStart => exact ⟨0, Nat.zero_le _, by simp, rfl, Below.refl _ _⟩
  case round =>
    obtain ⟨p, hp, rfl, rfl, hF⟩ := hrel
    have HF := Lib.hid hF
    by_cases hlt : p < n
    · obtain ⟨g, o, rfl, hgl, hc⟩ := h (by omega)
      have hsz := hF.size
      have hlt' : (p : Int) < (n : Int) := by omega
      have d1 : wr.cell? ⟨g, o + p, none⟩ = _ := (hF.cell hgl).trans (hc p hlt)
      have hgl2 : g < wr.heap.size := by omega
      clear h hc hF
      go_wp2
      go_roundw
      case rel => exact ⟨p + 1, by omega, by go_num, by go_num, HF.out⟩
      case measure => simp [intOf]; omega
    · have hge : ¬ (p : Int) < (n : Int) := by omega
      have e : p = n := by omega
      subst e
      clear h hF
      go_wp2_with fail
      go_ret
      exact ⟨rfl, HF.out⟩
theorem laws_markBoolS0 (w : World) (ao : Option Addr) (cap : Nat) (k : Int) :
    Calls Try.prog 54 #[.slice ao 0 cap, .int .i64 k] w fun e w' => e = .returned (.int .i64 k) ∧ w = w' := by
  go_enter Try.func54, Try.ntmps54
  go_wp2_with fail
  go_loopw [1, 5] (fun q i wr => q = .int .i64 k ∧ i = .int .i64 0 ∧ w = wr) (fun _ _ _ => 0)
  case atStart => exact ⟨rfl, rfl, rfl⟩
  case round =>
    obtain ⟨rfl, rfl, rfl⟩ := hrel
    go_wp2_with fail
    go_ret
    exact ⟨rfl, rfl⟩
set_option maxRecDepth 4000 in
set_option maxHeartbeats 2000000 in
theorem laws_markBoolSo (B : Nat) (u : World) (n : Nat) (c : Nat → Bool) (ao : Option Addr) (cap : Nat) (k : Int) (h : Vo B u n (fun i => .bool (c i)) ao) (hn : n ≤ 1048576) (k0 : 1 ≤ k) (k1 : k ≤ 10000000) :
    Calls Try.prog 54 #[.slice ao n cap, .int .i64 k] u fun e u' => e = .returned (.int .i64 (k + n)) ∧ Vo B u' n (fun i => .bool ((k + i) % 3 == 0)) ao ∧ But (bkS n ao) u u' := by
  by_cases h0 : 0 < n
  · obtain ⟨g, o, rfl, hB, hlt, hc, hf⟩ := h.at0 h0
    have M0 : Hid (Puo g o n (fun i => .bool (c i)) (fun i => .bool ((k + i) % 3 == 0)) u 0 u) := Lib.hid ⟨But.refl _ _, fun i hi => by simpa using hc i hi, hf⟩
    clear h hc hf
    go_enter Try.func54, Try.ntmps54
    go_wp2_with fail
    go_loopw [1, 5] (fun q i wr => ∃ p : Nat, p ≤ n ∧ q = .int .i64 (k + p) ∧ i = .int .i64 p ∧ Puo g o n (fun i => .bool (c i)) (fun i => .bool ((k + i) % 3 == 0)) u p wr ∧ g < wr.heap.size) (fun _ i _ => n - (intOf i).toNat)
    case atStart => exact ⟨0, Nat.zero_le _, by simp, rfl, M0.out, hlt⟩
    case round =>
      obtain ⟨p, hp, rfl, rfl, hM, hsz⟩ := hrel
      by_cases hlt : p < n
      · have hlt' : (p : Int) < (n : Int) := by omega
        have HM := Lib.hid hM
        have d1 := hM.cel p hlt
        have d2 := hM.fro p hlt
        simp at d1
        clear hM
        go_wp2
        go_roundw
        case rel => exact ⟨p + 1, by omega, by go_num, by go_num, HM.out.next hlt _ rfl, by simpa using hsz⟩
        case measure => simp [intOf]; omega
      · have hge : ¬ (p : Int) < (n : Int) := by omega
        have e : p = n := by omega
        subst e
        have HM := Lib.hid hM
        clear hM
        go_wp2_with fail
        go_ret
        refine ⟨rfl, ⟨fun _ => ⟨g, o, rfl, hB, hsz, fun i hi => ?_, HM.out.fro⟩⟩, by simpa [bkS, h0] using HM.out.grw⟩
        have := HM.out.cel i hi
        rw [if_pos hi] at this
        exact this
  · have hz : n = 0 := by omega
    rw [hz]
    refine (laws_markBoolS0 u ao cap k).mono ?_
    rintro e u' ⟨he, rfl⟩
    exact ⟨by simpa using he, Vo.nil _ _ _ _, But.refl _ _⟩
theorem laws_szBoolS (ao : Option Addr) (n cap : Nat) (left : Int) (w : World) (hn : n ≤ 9223372036854775807) (l0 : 0 ≤ left) (l1 : left ≤ 1048576) :
    Calls Try.prog 58 #[.slice ao n cap, .int .i64 left] w fun e w' => (∃ r : Int, e = .returned (.int .i64 r) ∧ ((0 ≤ r ∧ r + n = left) ∨ (r = -1 ∧ left < n))) ∧ w = w' := by
  have h1 : left - (n : Int) ≤ 9223372036854775807 := by omega
  have h2 : -9223372036854775808 ≤ left - (n : Int) := by omega
  by_cases hlt : left - (n : Int) < 0
  · go_enter Try.func58, Try.ntmps58
    go_wp2
    go_ret
    exact ⟨⟨-1, rfl, .inr ⟨rfl, by omega⟩⟩, rfl⟩
  · go_enter Try.func58, Try.ntmps58
    go_wp2
    go_ret
    exact ⟨⟨_, rfl, .inl ⟨by omega, by omega⟩⟩, rfl⟩

end Go.Proofs.Ytddllgjieccikaa
