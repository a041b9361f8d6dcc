/- Slices that the calls made: compared, marked, held. -/
import Derived.Test.YtlnpileicdggiaaDoorCodUses
import Derived.Deep.QuietTactic
import Derived.BigQuiet
namespace Go.Proofs.YtlnpileicdggiaaDoor
open Go.RowKit
set_option linter.unusedVariables false
/-- A slice of n numbers, told by 'c', in block g (where there is one at all). -/
structure Sl (B : Nat) (u : World) (v : Value) (n : Nat) (c : Nat → Int) (ao : Option Addr) (cap : Nat) : Prop where
  val : v = .slice ao n cap
  at0 : 0 < n → ∃ g, ao = some ⟨g, 0, none⟩ ∧ B ≤ g ∧ g < u.heap.size ∧ (∀ i, i < n → u.cell? ⟨g, i, none⟩ = some (.int .i64 (c i))) ∧ ∀ i, i < n → u.frozen? ⟨g, i, none⟩ = false
theorem Owns.sl {B : Nat} {u : World} {v : Value} {L : List Int} (h : Owns B u v L) : ∃ ao cap, Sl B u v L.length (fun i => L.getD i 0) ao cap := by
  rcases h.2 with ⟨hv, hn⟩ | ⟨g, cap, cur, hv, hB, hg, hcap, _, hcs, hxs⟩
  · exact ⟨none, 0, by rw [hn]; exact hv, fun h0 => by omega⟩
  · refine ⟨_, cap, hv, fun _ => ⟨g, rfl, hB, ?_, fun i hi => ?_, fun i hi => ?_⟩⟩
    · by_cases hh : g < u.heap.size
      · exact hh
      · rw [Array.getElem?_eq_none (by omega)] at hg; cases hg
    · simp only [World.cell?, hg]
      have h1 : (cur.toList.take (L.length * 1))[i]? = (L.map (Value.int .i64))[i]? := by rw [hxs]
      rw [List.getElem?_take_of_lt (by omega), List.getElem?_map, List.getElem?_eq_getElem hi] at h1
      simpa [List.getD, List.getElem?_eq_getElem hi] using h1
    · simp [World.frozen?, hg]
theorem Sl.fr {B : Nat} {u u' : World} {v : Value} {n : Nat} {c : Nat → Int} {ao : Option Addr} {cap : Nat} (h : Sl B u v n c ao cap) (f : Fr u u') : Sl B u' v n c ao cap := by
  refine ⟨h.val, fun h0 => ?_⟩
  obtain ⟨g, e, hB, hlt, hc, hf⟩ := h.at0 h0
  have := f.size
  exact ⟨g, e, hB, by omega, fun i hi => by rw [f.cell (show g < u.heap.size by omega)]; exact hc i hi, fun i hi => by rw [f.frozen (show g < u.heap.size by omega)]; exact hf i hi⟩
/-- A slice below B stays where only what lies from B on turned. -/
theorem Sl.low {B B' : Nat} {u u' : World} {v : Value} {n : Nat} {c : Nat → Int} {ao : Option Addr} {cap : Nat} (h : Sl B u v n c ao cap) (f : Below B' u u') (hlt : ∀ g, ao = some ⟨g, 0, none⟩ → 0 < n → g < B') : Sl B u' v n c ao cap := by
  refine ⟨h.val, fun h0 => ?_⟩
  obtain ⟨g, e, hB, hl, hc, hf⟩ := h.at0 h0
  have := f.size
  have hg := hlt g e h0
  exact ⟨g, e, hB, by omega, fun i hi => by rw [f.cell (show g < B' by omega)]; exact hc i hi, fun i hi => by rw [f.frozen (show g < B' by omega)]; exact hf i hi⟩
theorem Fr.trans' {a b c : World} {B : Nat} (h : Fr a b) (k : Below B b c) (hB : a.heap.size ≤ B) : Fr a c := Below.trans h (k.mono hB)
set_option maxHeartbeats 2000000 in
theorem laws_eqIntS_same (B1 B2 : Nat) (u : World) (v1 v2 : Value) (n : Nat) (c : Nat → Int) (ao1 ao2 : Option Addr) (cap1 cap2 : Nat) (h1 : Sl B1 u v1 n c ao1 cap1) (h2 : Sl B2 u v2 n c ao2 cap2) (hn : n ≤ 1000) :
    Calls Tryd.prog 32 #[v1, v2] u fun e u' => e = .returned (.bool true) ∧ ∃ m, u.drewN m = u' := by
  obtain rfl := h1.val
  obtain rfl := h2.val
  go_enter Tryd.func32, Tryd.ntmps32
  go_wp2_with fail
  go_loopw [5] (fun i wr => ∃ (p m : Nat), p ≤ n ∧ i = .int .i64 p ∧ u.drewN m = wr) (fun i _ => n - (intOf i).toNat)
  case atStart => exact ⟨0, 0, Nat.zero_le _, rfl, rfl⟩
  case round =>
    obtain ⟨p, m, hp, rfl, rfl⟩ := hrel
    by_cases hlt : p < n
    · obtain ⟨g1, rfl, _, _, hc1, _⟩ := h1.at0 (by omega)
      obtain ⟨g2, rfl, _, _, hc2, _⟩ := h2.at0 (by omega)
      have d1 := hc1 p hlt
      have d2 := hc2 p hlt
      have hlt' : (p : Int) < (n : Int) := by omega
      clear h1 h2 hc1 hc2
      go_wp2_with fail
      go_quiet (fail)
      go_wp2
      go_roundw
      case rel => exact ⟨p + 1, _, by omega, by go_num, rfl⟩
      case measure => simp [intOf]; omega
    · have hge : ¬ (p : Int) < (n : Int) := by omega
      clear h1 h2
      go_wp2
      go_ret
      exact ⟨rfl, m, rfl⟩
set_option maxHeartbeats 2000000 in
theorem laws_haInts_same (B1 B2 : Nat) (u : World) (v1 v2 : Value) (n : Nat) (c : Nat → Int) (ao1 ao2 : Option Addr) (cap1 cap2 : Nat) (h1 : Sl B1 u v1 n c ao1 cap1) (h2 : Sl B2 u v2 n c ao2 cap2) (hn : n ≤ 1000) :
    Calls Tryd.prog 25 #[v1, v2] u fun e u' => e = .returned (.bool true) ∧ ∃ m, u.drewN m = u' := by
  obtain rfl := h1.val
  obtain rfl := h2.val
  go_enter Tryd.func25, Tryd.ntmps25
  go_wp2_with fail
  go_loopw [5] (fun i wr => ∃ (p m : Nat), p ≤ n ∧ i = .int .i64 p ∧ u.drewN m = wr) (fun i _ => n - (intOf i).toNat)
  case atStart => exact ⟨0, 0, Nat.zero_le _, rfl, rfl⟩
  case round =>
    obtain ⟨p, m, hp, rfl, rfl⟩ := hrel
    by_cases hlt : p < n
    · obtain ⟨g1, rfl, _, _, hc1, _⟩ := h1.at0 (by omega)
      obtain ⟨g2, rfl, _, _, hc2, _⟩ := h2.at0 (by omega)
      have d1 := hc1 p hlt
      have d2 := hc2 p hlt
      have hlt' : (p : Int) < (n : Int) := by omega
      clear h1 h2 hc1 hc2
      go_wp2_with fail
      go_quiet (fail)
      go_wp2
      go_roundw
      case rel => exact ⟨p + 1, _, by omega, by go_num, rfl⟩
      case measure => simp [intOf]; omega
    · have hge : ¬ (p : Int) < (n : Int) := by omega
      clear h1 h2
      go_wp2
      go_ret
      exact ⟨rfl, m, rfl⟩
/-- The row behind p marks. -/
structure Mk (B g n : Nat) (k : Int) (c : Nat → Int) (u : World) (p : Nat) (wr : World) : Prop where
  bel : Below B u wr
  cel : ∀ i, i < n → wr.cell? ⟨g, i, none⟩ = some (.int .i64 (if i < p then k + i else c i))
  fro : ∀ i, i < n → wr.frozen? ⟨g, i, none⟩ = false
theorem Mk.next {B g n : Nat} {k : Int} {c : Nat → Int} {u wr : World} {p : Nat} (h : Mk B g n k c u p wr) (hB : B ≤ g) (hp : p < n) (z : Int) (hz : z = k + p) : Mk B g n k c u (p + 1) (wr.setCell ⟨g, p, none⟩ (.int .i64 z)) := by
  refine ⟨Below.setCell h.bel hB _, fun i hi => ?_, fun i hi => by rw [World.frozen?_setCell]; exact h.fro i hi⟩
  by_cases e : i = p
  · subst e
    rw [World.cell?_setCell_same _ _ _ (h.cel i hi), hz]
    simp
  · rw [World.cell?_setCell_other _ _ _ _ (by simp; try omega), h.cel i hi]
    have e1 : i < p ↔ i < p + 1 := by omega
    simp only [e1]
set_option maxHeartbeats 2000000 in
theorem laws_markIntS (B : Nat) (u : World) (v : Value) (n : Nat) (c : Nat → Int) (ao : Option Addr) (cap : Nat) (k : Int) (h : Sl B u v n c ao cap) (hn : n ≤ 1000) (k0 : 0 ≤ k) (k1 : k ≤ 1000) :
    Calls Tryd.prog 33 #[v, .int .i64 k] u fun e u' => e = .returned (.int .i64 (k + n)) ∧ Sl B u' v n (fun i => k + i) ao cap ∧ Below B u u' := by
  obtain rfl := h.val
  by_cases hz : n = 0
  · subst hz
    clear h
    go_enter Tryd.func33, Tryd.ntmps33
    go_wp2_with fail
    go_loopw [1, 5] (fun q i wr => q = .int .i64 k ∧ i = .int .i64 0 ∧ u = wr) (fun _ _ _ => 0)
    case atStart => exact ⟨rfl, rfl, rfl⟩
    case round =>
      obtain ⟨rfl, rfl, rfl⟩ := hrel
      go_wp2
      go_ret
      exact ⟨ret_int (by simp), ⟨rfl, fun h0 => by omega⟩, Below.refl _ _⟩
  · obtain ⟨g, rfl, hB, hlt, hc, hf⟩ := h.at0 (by omega)
    have M0 : Hid (Mk B g n k c u 0 u) := ⟨Below.refl _ _, fun i hi => by simpa using hc i hi, hf⟩
    have SZ := Lib.hid hlt
    clear h hc hf hlt
    go_enter Tryd.func33, Tryd.ntmps33
    go_wp2_with fail
    go_loopw [1, 5] (fun q i wr => ∃ p : Nat, p ≤ n ∧ q = .int .i64 (k + p) ∧ i = .int .i64 p ∧ Mk B g n k c u p wr) (fun _ i _ => n - (intOf i).toNat)
    case atStart => exact ⟨0, Nat.zero_le _, by simp, rfl, M0.out⟩
    case round =>
      obtain ⟨p, hp, rfl, rfl, hM⟩ := hrel
      have HM := Lib.hid hM
      by_cases hlt : p < n
      · have d1 := hM.cel p hlt
        have d2 := hM.fro p hlt
        simp at d1
        have hlt' : (p : Int) < (n : Int) := by omega
        clear hM
        go_wp2
        go_roundw
        case rel => exact ⟨p + 1, by omega, by go_num, by go_num, HM.out.next hB hlt _ rfl⟩
        case measure => simp [intOf]; omega
      · have hge : ¬ (p : Int) < (n : Int) := by omega
        have e : p = n := by omega
        subst e
        clear hM
        go_wp2
        go_ret
        refine ⟨rfl, ⟨rfl, fun _ => ⟨g, rfl, hB, ?_, fun i hi => ?_, HM.out.fro⟩⟩, HM.out.bel⟩
        · exact Nat.lt_of_lt_of_le SZ.out HM.out.bel.size
        · have := HM.out.cel i hi
          rw [if_pos hi] at this
          exact this
set_option maxHeartbeats 2000000 in
theorem laws_heldIntS (B : Nat) (u : World) (v : Value) (n : Nat) (ao : Option Addr) (cap : Nat) (k : Int) (h : Sl B u v n (fun i => k + i) ao cap) (hn : n ≤ 1000) (k0 : 0 ≤ k) (k1 : k ≤ 1000) :
    Calls Tryd.prog 34 #[v, .int .i64 k] u fun e u' => e = .returned (.int .i64 (k + n)) ∧ u = u' := by
  obtain rfl := h.val
  go_enter Tryd.func34, Tryd.ntmps34
  go_wp2_with fail
  go_loopw [1, 5] (fun q i wr => ∃ p : Nat, p ≤ n ∧ q = .int .i64 (k + p) ∧ i = .int .i64 p ∧ u = wr) (fun _ i _ => n - (intOf i).toNat)
  case atStart => exact ⟨0, Nat.zero_le _, by simp, rfl, rfl⟩
  case round =>
    obtain ⟨p, hp, rfl, rfl, rfl⟩ := hrel
    by_cases hlt : p < n
    · obtain ⟨g, rfl, _, _, hc, _⟩ := h.at0 (by omega)
      have d1 := hc p hlt
      have hlt' : (p : Int) < (n : Int) := by omega
      clear h hc
      go_wp2
      go_roundw
      case rel => exact ⟨p + 1, by omega, by go_num, by go_num, trivial⟩
      case measure => simp [intOf]; omega
    · have hge : ¬ (p : Int) < (n : Int) := by omega
      have e : p = n := by omega
      subst e
      clear h
      go_wp2
      go_ret
      exact ⟨rfl, rfl⟩
end Go.Proofs.YtlnpileicdggiaaDoor
