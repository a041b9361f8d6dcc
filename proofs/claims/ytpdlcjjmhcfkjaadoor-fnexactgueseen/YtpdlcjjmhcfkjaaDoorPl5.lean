/- A machine at the beginning of words. -/
import Derived.StillTailTactics
import Derived.Test.YtpdlcjjmhcfkjaaDoorPl4
namespace Go.Proofs.YtpdlcjjmhcfkjaaDoor
open Go.RowKit
set_option linter.unusedVariables false
set_option linter.unusedSimpArgs false
def zeros (n : Nat) : List Int := List.replicate n 0
def newM (ws : List Int) : List Int := ws ++ zeros (256 - ws.length)
def newS (ws : List Int) : St := ⟨0, zeros 8, zeros 5, newM ws⟩
def goodW (ws : List Int) : Bool := decide (ws.length ≤ 256) && ws.all okB
abbrev noSt : Value := .agg #[.int .i64 0, .slice none 0 0, .slice none 0 0, .slice none 0 0]
/-- Behind PlnNew. -/
def BegP (ws : List Int) (w : World) (e : Ending) (w' : World) : Prop := (goodW ws = true ∧ CpS (newS ws) w e w') ∨ (goodW ws = false ∧ e = .returned noSt ∧ Fr w w')
theorem zeros_len (n : Nat) : (zeros n).length = n := List.length_replicate
theorem newM_len {ws : List Int} (h : ws.length ≤ 256) : (newM ws).length = 256 := by simp [newM, zeros]; omega
theorem own_heap {u : World} {B g n : Nat} {e : TypeId} {vs : List Value} (h : u.ownsRow B e 1 (.slice (some ⟨g, 0, none⟩) n n) n vs) : u.heap[g]? = some (.cells vs.toArray e (0, 0)) := by
  obtain ⟨hl, hc⟩ := h
  rcases hc with ⟨h, _⟩ | ⟨g', cap, cur, hv, hB, hg, hcap, _, hcs, hxs⟩
  · cases h
  · cases hv
    rw [hg]
    congr 2
    rw [← hxs, List.take_of_length_le (by simp [hcs])]
theorem ro_heap {u : World} {g : Nat} {xs : List Int} {e : TypeId} (h : u.heap[g]? = some (.cells (xs.map (Value.int .i64)).toArray e (0, 0))) : Ro u g xs := by
  refine ⟨?_, fun i hi => ?_, fun i hi => by simp [World.frozen?, h]⟩
  · by_cases hh : g < u.heap.size
    · exact hh
    · rw [Array.getElem?_eq_none (by omega)] at h; cases h
  · simp [World.cell?, h, hi]
theorem splice_gen (ws : List Int) (n : Nat) : splice ((zeros n).map (Value.int .i64)) 0 (ws.map (Value.int .i64)) = (ws ++ zeros (n - ws.length)).map (Value.int .i64) := by
  simp [splice, zeros, List.map_append]
theorem splice_new (ws : List Int) (h : ws.length ≤ 256) : splice ((zeros 256).map (Value.int .i64)) 0 (ws.map (Value.int .i64)) = (newM ws).map (Value.int .i64) := splice_gen ws 256
/-- The words, copied over a row of noughts. -/
theorem run_copy_new (ws : List Int) (ao : Option Addr) (cap g : Nat) (u : World) (h : Src u ws.length (ivl ws) ao) (hl : ws.length ≤ 256) (t : TypeId) (hh : u.heap[g]? = some (.cells ((zeros 256).map (Value.int .i64)).toArray t (0, 0))) :
    ∃ u2, Sem.run Tryd.prog (Builtin.copy_ #[23, 23] 3 #[.slice (some ⟨g, 0, none⟩) 256 256, .slice ao ws.length cap]) u = .ok (.int .i64 (ws.length : Int)) u2 ∧ u2.heap[g]? = some (.cells ((newM ws).map (Value.int .i64)).toArray t (0, 0)) ∧ Below g u u2 := by
  obtain ⟨i0, hi, hz0, hz1, hz2⟩ := info_parts info_intV
  by_cases h0 : ws.length = 0
  · obtain rfl : ws = [] := List.eq_nil_of_length_eq_zero h0
    exact ⟨u, run_copy_none u _ _ _ 3 _ _ _ _ _ _ Tryd.underlying23 (by rw [hi]; simp [hz1]) (by simp), by rw [hh]; rfl, Below.refl _ _⟩
  · obtain ⟨b, o, rfl, hb, hc⟩ := h (by omega)
    have hr := run_copy_row (P := Tryd.prog) u 23 23 3 3 g 0 256 256 ⟨b, o, none⟩ ws.length cap ((zeros 256).map (Value.int .i64)).toArray t (ws.map (Value.int .i64)) Tryd.underlying23 (by rw [hi]; simp [hz1]) hh (by rw [List.length_map]; exact (Nat.min_eq_left hl).symm) (cells_of ws hc) (by rw [List.length_map, List.size_toArray, List.length_map, zeros_len]; omega) (ints_one ws)
    rw [List.length_map] at hr
    refine ⟨_, hr, ?_, below_setRow (Below.refl _ _) (Nat.le_refl _) _⟩
    rw [setRow_heap u g _ _ t _ hh]
    have := splice_new ws hl
    rw [← this]
    simp only [splice, List.append_assoc, List.length_map]
/-- A row of noughts out of make. -/
theorem ro_made {u : World} {B g n : Nat} {e : TypeId} (h : u.ownsRow B e 1 (.slice (some ⟨g, 0, none⟩) n n) n (madeCells (Value.int .i64 0).cells (n * 1)).toList) : Ro u g (zeros n) := by
  rw [made_zero] at h
  exact (ro_own h).1
def ipSF (B gm : Nat) (M : List Int) : Nat → Value → World → Prop
  | 0, v, u => ∃ g, v = .slice (some ⟨g, 0, none⟩) 8 8 ∧ B ≤ g ∧ Ro u g (zeros 8)
  | 1, v, u => ∃ g, v = .slice (some ⟨g, 0, none⟩) 5 5 ∧ B ≤ g ∧ Ro u g (zeros 5)
  | 2, v, _ => v = .slice (some ⟨gm, 0, none⟩) 256 256
  | 3, v, u => ∃ gr gc, v = .agg #[.int .i64 0, .slice (some ⟨gr, 0, none⟩) 8 8, .slice (some ⟨gc, 0, none⟩) 5 5, .slice (some ⟨gm, 0, none⟩) 256 256] ∧ Ro u gr (zeros 8) ∧ Ro u gc (zeros 5) ∧ B ≤ gr ∧ B ≤ gc ∧ gr ≠ gc
  | _, _, _ => True
def spSF (B : Nat) (x : Nat → Value) : Nat → World → Prop
  | 0, u => ∃ g, x 0 = .slice (some ⟨g, 0, none⟩) 8 8 ∧ B ≤ g ∧ Ro u g (zeros 8)
  | 1, u => ∃ g, x 1 = .slice (some ⟨g, 0, none⟩) 5 5 ∧ B ≤ g ∧ Ro u g (zeros 5)
  | 2, u => ∃ g, x 2 = .slice (some ⟨g, 0, none⟩) 256 256 ∧ B ≤ g ∧ Ro u g (zeros 256)
  | 3, _ => ∃ g0 g1 g2, x 0 = .slice (some ⟨g0, 0, none⟩) 8 8 ∧ x 1 = .slice (some ⟨g1, 0, none⟩) 5 5 ∧ x 2 = .slice (some ⟨g2, 0, none⟩) 256 256 ∧ x 3 = .agg #[.int .i64 0, .slice (some ⟨g0, 0, none⟩) 8 8, .slice (some ⟨g1, 0, none⟩) 5 5, .slice (some ⟨g2, 0, none⟩) 256 256]
  | 4, u => ∃ z, x 4 = .pointer (some ⟨z, 0, none⟩) ∧ B ≤ z ∧ Box4 u z (.int .i64 0) (.slice none 0 0) (.slice none 0 0) (.slice none 0 0)
  | _, _ => True
theorem take_set {ws : List Int} {p : Nat} (hp : p < ws.length) (hl : ws.length ≤ 256) : (ws.take p ++ zeros (256 - p)).set p (ws.getD p 0) = ws.take (p + 1) ++ zeros (256 - (p + 1)) := by
  have e : zeros (256 - p) = 0 :: zeros (256 - (p + 1)) := by
    have : 256 - p = (256 - (p + 1)) + 1 := by omega
    rw [this]; rfl
  have hlen : (ws.take p).length = p := by rw [List.length_take]; omega
  have h2 : ws.take (p + 1) = ws.take p ++ [ws.getD p 0] := by
    rw [List.take_add_one, List.getD_eq_getElem?_getD, List.getElem?_eq_getElem hp]
    rfl
  rw [e, List.set_append_right _ _ (by omega), hlen, Nat.sub_self, List.set_cons_zero, h2, List.append_assoc]
  rfl
def midS (ws : List Int) (p : Nat) : St := ⟨0, zeros 8, zeros 5, ws.take p ++ zeros (256 - p)⟩
theorem mid_len (ws : List Int) (p : Nat) (hp : p ≤ ws.length) (hl : ws.length ≤ 256) : (midS ws p).M.length = 256 := by
  simp [midS, zeros]; omega
theorem ret_no (w : World) (h : w.heap.size = w.heap.size) : True := trivial
end Go.Proofs.YtpdlcjjmhcfkjaaDoor
