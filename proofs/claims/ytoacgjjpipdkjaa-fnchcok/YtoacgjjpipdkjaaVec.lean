/- Slices of values: copied, compared, marked, held. -/
import Derived.Deep.QuietTactic
import Derived.BigQuiet
import Derived.OwnWalk
import Derived.Test.YtoacgjjpipdkjaaTx
namespace Go.Proofs.Ytoacgjjpipdkjaa
open Go.RowKit
set_option linter.unusedVariables false
set_option linter.unusedSimpArgs false

/-- n values, told by c, lie at ao, in a block from B on. -/
structure Vc (B : Nat) (u : World) (n : Nat) (c : Nat → Value) (ao : Option Addr) : Prop where
  at0 : 0 < n → ∃ g, ao = some ⟨g, 0, none⟩ ∧ B ≤ g ∧ g < u.heap.size ∧ (∀ i, i < n → u.cell? ⟨g, i, none⟩ = some (c i)) ∧ ∀ i, i < n → u.frozen? ⟨g, i, none⟩ = false
/-- n values, told by c, are read at ao. -/
def Src (u : World) (n : Nat) (c : Nat → Value) (ao : Option Addr) : Prop :=
  0 < n → ∃ g o, ao = some ⟨g, o, none⟩ ∧ g < u.heap.size ∧ ∀ i, i < n → u.cell? ⟨g, o + i, none⟩ = some (c i)
theorem Vc.src {B : Nat} {u : World} {n : Nat} {c : Nat → Value} {ao : Option Addr} (h : Vc B u n c ao) : Src u n c ao := fun h0 => by
  obtain ⟨g, e, _, hl, hc, _⟩ := h.at0 h0
  exact ⟨g, 0, e, hl, fun i hi => by rw [Nat.zero_add]; exact hc i hi⟩
theorem Src.fr {u u' : World} {n : Nat} {c : Nat → Value} {ao : Option Addr} (h : Src u n c ao) (f : Fr u u') : Src u' n c ao := fun h0 => by
  obtain ⟨g, o, e, hl, hc⟩ := h h0
  exact ⟨g, o, e, Nat.lt_of_lt_of_le hl f.size, fun i hi => by rw [f.cell hl]; exact hc i hi⟩
theorem Vc.nil (B : Nat) (u : World) (c : Nat → Value) (ao : Option Addr) : Vc B u 0 c ao := ⟨fun h => absurd h (Nat.lt_irrefl 0)⟩
theorem Vc.fr {B : Nat} {u u' : World} {n : Nat} {c : Nat → Value} {ao : Option Addr} (h : Vc B u n c ao) (f : Fr u u') : Vc B u' n c ao := by
  refine ⟨fun h0 => ?_⟩
  obtain ⟨g, e, hB, hlt, hc, hf⟩ := h.at0 h0
  exact ⟨g, e, hB, Nat.lt_of_lt_of_le hlt f.size, fun i hi => by rw [f.cell (show g < u.heap.size by omega)]; exact hc i hi, fun i hi => by rw [f.frozen (show g < u.heap.size by omega)]; exact hf i hi⟩
/-- What lies below B' stays where only what lies from B' on turned. -/
theorem Vc.low {B B' : Nat} {u u' : World} {n : Nat} {c : Nat → Value} {ao : Option Addr} (h : Vc B u n c ao) (f : Below B' u u') (hlt : 0 < n → ∀ g, ao = some ⟨g, 0, none⟩ → g < B') : Vc B u' n c ao := by
  refine ⟨fun h0 => ?_⟩
  obtain ⟨g, e, hB, hl, hc, hf⟩ := h.at0 h0
  have := f.size
  have hg := hlt h0 g e
  exact ⟨g, e, hB, by omega, fun i hi => by rw [f.cell (show g < B' by omega)]; exact hc i hi, fun i hi => by rw [f.frozen (show g < B' by omega)]; exact hf i hi⟩
theorem Vc.mono {B B' : Nat} {u : World} {n : Nat} {c : Nat → Value} {ao : Option Addr} (h : Vc B u n c ao) (hB : B' ≤ B) : Vc B' u n c ao := by
  refine ⟨fun h0 => ?_⟩
  obtain ⟨g, e, h1, r⟩ := h.at0 h0
  exact ⟨g, e, by omega, r⟩
theorem Vc.cong {B : Nat} {u : World} {n : Nat} {c c' : Nat → Value} {ao : Option Addr} (h : Vc B u n c ao) (e : ∀ i, i < n → c i = c' i) : Vc B u n c' ao := by
  refine ⟨fun h0 => ?_⟩
  obtain ⟨g, e1, h1, h2, h3, h4⟩ := h.at0 h0
  exact ⟨g, e1, h1, h2, fun i hi => by rw [← e i hi]; exact h3 i hi, h4⟩
/-- A row that the call owns, as values. -/
theorem own_vc {B : Nat} {u : World} {e : TypeId} {v : Value} {n : Nat} {xs : List Value} (h : u.ownsRow B e 1 v n xs) : ∃ ao cap, v = .slice ao n cap ∧ Vc B u n (fun i => xs.getD i (.int .i64 0)) ao ∧ (∀ g, ao = some g → B ≤ g.block) := by
  obtain ⟨hl, hc⟩ := h
  rcases hc with ⟨rfl, rfl⟩ | ⟨g, cap, cur, rfl, hB, hg, hcap, _, hcs, hxs⟩
  · exact ⟨none, 0, rfl, Vc.nil _ _ _ _, fun g h => by cases h⟩
  · refine ⟨_, cap, rfl, ⟨fun h0 => ⟨g, rfl, hB, ?_, fun i hi => ?_, fun i hi => ?_⟩⟩, fun q hq => by cases hq; exact hB⟩
    · by_cases hh : g < u.heap.size
      · exact hh
      · rw [Array.getElem?_eq_none (by omega)] at hg; cases hg
    · simp only [World.cell?, hg]
      have h1 : (cur.toList.take (n * 1))[i]? = xs[i]? := by rw [hxs]
      rw [List.getElem?_take_of_lt (by omega), List.getElem?_eq_getElem (by omega : i < xs.length)] at h1
      simpa [List.getD, List.getElem?_eq_getElem (by omega : i < xs.length)] using h1
    · simp [World.frozen?, hg]
theorem src_of_row {w : World} {x : Addr} {n : Nat} {c : Nat → Value} (hcell : ∀ i, i < n → w.cell? (x.add i) = some (c i)) : Src w n c (some x) := fun h0 => by
  obtain ⟨b, off, spot⟩ := x
  have hc := hcell 0 h0
  have hspot : spot = none := by simpa [Addr.add] using World.cell?_spot hc
  subst hspot
  refine ⟨b, off, rfl, lt_of_cell hc, fun i hi => ?_⟩
  have := hcell i hi
  rcases Nat.eq_zero_or_pos i with rfl | h
  · simpa [Addr.add] using this
  · simpa [Addr.add, show i ≠ 0 by omega] using this
theorem fr_row {u u' : World} (f : Fr u u') (row : Option Nat) : u.grownBy u' row := ⟨f.os, f.tape, f.output, f.size, fun k hk _ => f.block k hk⟩
/-- Rows elsewhere stay. -/
theorem Vc.grown {B : Nat} {u u' : World} {n : Nat} {c : Nat → Value} {ao ro : Option Addr} (h : Vc B u n c ao) (f : u.grownBy u' (ro.map (·.block))) (hne : 0 < n → ∀ g b, ao = some ⟨g, 0, none⟩ → ro = some b → g ≠ b.block) : Vc B u' n c ao := by
  refine ⟨fun h0 => ?_⟩
  obtain ⟨g, e, hB, hl, hc, hf⟩ := h.at0 h0
  have hb : u'.heap[g]? = u.heap[g]? := f.block g hl (fun h => by
    cases ro with
    | none => cases h
    | some b =>
      have h' : g = b.block := Option.some.inj h
      exact hne h0 g b e rfl h')
  exact ⟨g, e, hB, Nat.lt_of_lt_of_le hl f.size, fun i hi => by rw [World.cell?_of_block hb]; exact hc i hi, fun i hi => by rw [World.frozen?_of_block hb]; exact hf i hi⟩
/-- The row behind p stores. -/
structure Put (g n : Nat) (c c' : Nat → Value) (u : World) (p : Nat) (wr : World) : Prop where
  grw : u.grownBy wr (some g)
  cel : ∀ i, i < n → wr.cell? ⟨g, i, none⟩ = some (if i < p then c' i else c i)
  fro : ∀ i, i < n → wr.frozen? ⟨g, i, none⟩ = false
theorem Put.next {g n : Nat} {c c' : Nat → Value} {u wr : World} {p : Nat} (h : Put g n c c' u p wr) (hp : p < n) (z : Value) (hz : z = c' p) : Put g n c c' u (p + 1) (wr.setCell ⟨g, p, none⟩ z) := by
  refine ⟨grown_trans h.grw (grown_set _ _ _ _), fun i hi => ?_, fun i hi => by rw [World.frozen?_setCell]; exact h.fro i hi⟩
  by_cases e : i = p
  · subst e
    rw [World.cell?_setCell_same _ _ _ (h.cel i hi), hz]
    simp
  · rw [World.cell?_setCell_other _ _ _ _ (by simp; try omega), h.cel i hi]
    have e1 : i < p ↔ i < p + 1 := by omega
    simp only [e1]
theorem Put.fr {g n : Nat} {c c' : Nat → Value} {u wr wr' : World} {p : Nat} (h : Put g n c c' u p wr) (f : Fr wr wr') (hg : g < wr.heap.size) : Put g n c c' u p wr' :=
  ⟨grown_trans h.grw (fr_row f _), fun i hi => by rw [f.cell (show g < wr.heap.size from hg)]; exact h.cel i hi, fun i hi => by rw [f.frozen (show g < wr.heap.size from hg)]; exact h.fro i hi⟩
theorem grown_fr {w w' : World} (h : w.grownBy w' none) : Fr w w' := ⟨h.os, h.tape, h.output, h.size, fun k hk => h.block k hk (by simp)⟩
theorem grown_fr' {w w1 w' : World} (f : Fr w w1) (h : w1.grownBy w' (some w.heap.size)) : Fr w w' := Below.trans f (grown_below (B := w.heap.size) h (Nat.le_refl _) f.size)
theorem made_get (z : Value) (n i : Nat) (hi : i < n) (hz : z.cells = #[z]) : (madeCells z.cells (n * 1)).toList.getD i (.int .i64 0) = z := by
  rw [hz]
  simp [madeCells, hi, Nat.mod_one]
theorem info_intV : (Try.prog.info? 3).map (fun i => (i.zero, i.size, i.bytes)) = some (some (.int .i64 0), 1, 8) := by kernel_rfl
set_option maxRecDepth 4000 in
set_option maxHeartbeats 2000000 in
theorem laws_toIntS (w : World) (ao : Option Addr) (n cap : Nat) (c : Nat → Int) (h : Src w n (fun i => .int .i64 (c i)) ao) (hn : n ≤ 1048576) :
    Calls Try.prog 65 #[.slice ao n cap] w fun e w' => ∃ g, e = .returned (.slice (some ⟨g, 0, none⟩) n n) ∧ w.heap.size ≤ g ∧ g < w'.heap.size ∧ Vc w.heap.size w' n (fun i => .int .i64 (c i)) (some ⟨g, 0, none⟩) ∧ Fr w w' := by
  obtain ⟨i0, hi, hz0, hz1, hz2⟩ := info_parts info_intV
  have hmx : maxLen = 9223372036854775807 := rfl
  go_enter Try.func65, Try.ntmps65
  go_wp2_with (at_make; refine wpList_make_full _ rfl _ _ 22 rfl w.heap.size 3 i0 (.int .i64 0) 1 Try.underlying22 hi hz0 hz1 .i64 .i64 (n : Int) (n : Int) n rfl rfl rfl rfl (by rw [hz2]; omega) (by omega) (Nat.le_refl _) ?_; intro w1 hown hg)
  obtain ⟨ao1, cap1, hv, hV, _⟩ := own_vc hown
  cases hv
  have F1 := grown_fr hg
  have hs1 : w.heap.size < w1.heap.size := by have := (World.ownsRow.lt hown _ rfl).2; exact this
  have hV' : Vc w.heap.size w1 n (fun _ => .int .i64 0) (some ⟨w.heap.size, 0, none⟩) := hV.cong fun i hi => made_get _ _ _ hi rfl
  have P0 : Put w.heap.size n (fun _ => .int .i64 0) (fun i => .int .i64 (c i)) w1 0 w1 := by
    by_cases h0 : 0 < n
    · obtain ⟨g, e, _, _, hc, hf⟩ := hV'.at0 h0
      cases e
      exact ⟨grown_refl _ _, fun i hi => by simpa using hc i hi, hf⟩
    · exact ⟨grown_refl _ _, fun i hi => by omega, fun i hi => by omega⟩
  have HP0 := Lib.hid P0
  have HS := Lib.hid h
  clear hV hV' P0 hown hg h
  go_loopw [4] (fun i wr => ∃ p : Nat, p ≤ n ∧ i = .int .i64 p ∧ Put w.heap.size n (fun _ => .int .i64 0) (fun i => .int .i64 (c i)) w1 p wr ∧ w.heap.size < wr.heap.size) (fun i _ => n - (intOf i).toNat)
  case atStart => exact ⟨0, Nat.zero_le _, rfl, HP0.out, hs1⟩
  case round =>
    obtain ⟨p, hp, rfl, hM, hsz⟩ := hrel
    have HM := Lib.hid hM
    by_cases hlt : p < n
    · obtain ⟨g, o, rfl, hgl, hc⟩ := HS.out (by omega)
      have d0 : wr.cell? ⟨g, o + p, none⟩ = some (.int .i64 (c p)) := by rw [(grown_fr' F1 hM.grw).cell hgl]; exact hc p hlt
      have d1 := hM.cel p hlt
      have d2 := hM.fro p hlt
      simp at d1
      have hlt' : (p : Int) < (n : Int) := by omega
      clear hM hc
      go_wp2
      go_roundw
      case rel => exact ⟨p + 1, by omega, by go_num, HM.out.next hlt _ rfl, by simpa using hsz⟩
      case measure => simp [intOf]; omega
    · have hge : ¬ (p : Int) < (n : Int) := by omega
      have e : p = n := by omega
      subst e
      clear hM
      go_wp2
      go_ret
      refine ⟨w.heap.size, rfl, Nat.le_refl _, hsz, ⟨fun _ => ⟨_, rfl, Nat.le_refl _, hsz, fun i hi => ?_, HM.out.fro⟩⟩, grown_fr' F1 HM.out.grw⟩
      have := HM.out.cel i hi
      rw [if_pos hi] at this
      exact this
set_option maxRecDepth 4000 in
set_option maxHeartbeats 2000000 in
theorem laws_markIntS (B : Nat) (u : World) (n : Nat) (c : Nat → Int) (ao : Option Addr) (cap : Nat) (k : Int) (h : Vc B u n (fun i => .int .i64 (c i)) ao) (hB0 : B ≤ u.heap.size) (hn : n ≤ 1048576) (k0 : 1 ≤ k) (k1 : k ≤ 10000000) :
    Calls Try.prog 34 #[.slice ao n cap, .int .i64 k] u fun e u' => e = .returned (.int .i64 (k + n)) ∧ Vc B u' n (fun i => .int .i64 (k + i)) ao ∧ u.grownBy u' (ao.map (·.block)) ∧ Below B u u' := by
  by_cases hz : n = 0
  · subst hz
    clear h
    go_enter Try.func34, Try.ntmps34
    go_wp2_with fail
    go_loopw [1, 5] (fun q i wr => q = .int .i64 k ∧ i = .int .i64 0 ∧ u = wr) (fun _ _ _ => 0)
    case atStart => exact ⟨rfl, rfl, rfl⟩
    case round =>
      obtain ⟨rfl, rfl, rfl⟩ := hrel
      go_wp2_with fail
      go_ret
      exact ⟨ret_int (by simp), Vc.nil _ _ _ _, grown_refl _ _, Below.refl _ _⟩
  · obtain ⟨g, rfl, hB, hlt, hc, hf⟩ := h.at0 (by omega)
    have M0 : Hid (Put g n (fun i => .int .i64 (c i)) (fun i => .int .i64 (k + i)) u 0 u) := ⟨grown_refl _ _, fun i hi => by simpa using hc i hi, hf⟩
    clear h hc hf
    go_enter Try.func34, Try.ntmps34
    go_wp2_with fail
    go_loopw [1, 5] (fun q i wr => ∃ p : Nat, p ≤ n ∧ q = .int .i64 (k + p) ∧ i = .int .i64 p ∧ Put g n (fun i => .int .i64 (c i)) (fun i => .int .i64 (k + i)) u p wr ∧ g < wr.heap.size) (fun _ i _ => n - (intOf i).toNat)
    case atStart => exact ⟨0, Nat.zero_le _, by simp, rfl, M0.out, hlt⟩
    case round =>
      obtain ⟨p, hp, rfl, rfl, hM, hsz⟩ := hrel
      by_cases hlt : p < n
      · have hlt' : (p : Int) < (n : Int) := by omega
        have hBs : B ≤ wr.heap.size := by omega
        have HM := Lib.hid hM
        have d1 := hM.cel p hlt
        have d2 := hM.fro p hlt
        simp at d1
        clear hM
        go_wp2
        go_roundw
        case rel => exact ⟨p + 1, by omega, by go_num, by go_num, HM.out.next hlt _ rfl, by simpa using hsz⟩
        case measure => simp [intOf]; omega
      · have hge : ¬ (p : Int) < (n : Int) := by omega
        have e : p = n := by omega
        subst e
        have HM := Lib.hid hM
        clear hM
        go_wp2_with fail
        go_ret
        refine ⟨rfl, ⟨fun _ => ⟨g, rfl, hB, ?_, fun i hi => ?_, HM.out.fro⟩⟩, HM.out.grw, grown_below HM.out.grw hB hB0⟩
        · exact hsz
        · have := HM.out.cel i hi
          rw [if_pos hi] at this
          exact this
end Go.Proofs.Ytoacgjjpipdkjaa
