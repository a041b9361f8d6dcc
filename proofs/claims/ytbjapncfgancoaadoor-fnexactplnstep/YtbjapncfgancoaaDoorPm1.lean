/- What the program's machine asks: who sees what; what stops. -/
import Derived.Test.YtbjapncfgancoaaDoorPm0
namespace Go.Proofs.YtbjapncfgancoaaDoor
open Go.RowKit
set_option linter.unusedVariables false
set_option linter.unusedSimpArgs false
/-- The first four cells. -/
theorem Mx.four {u : World} {m gr gc gm cr cc cm : Nat} {s : St} {e : Ev} {nx : Int} (h : Mx u m gr gc gm cr cc cm s e nx) : u.cell? ⟨m, 0, none⟩ = some (.int .i64 s.pc) ∧ u.cell? ⟨m, 1, none⟩ = some (.slice (some ⟨gr, 0, none⟩) 8 cr) ∧ u.cell? ⟨m, 2, none⟩ = some (.slice (some ⟨gc, 0, none⟩) 5 cc) ∧ u.cell? ⟨m, 3, none⟩ = some (.slice (some ⟨gm, 0, none⟩) 256 cm) :=
  ⟨h.cel 0 (by decide), h.cel 1 (by decide), h.cel 2 (by decide), h.cel 3 (by decide)⟩
theorem user_of {u : World} {gr gc gm cr cc cm : Nat} {s : St} (ho : Own u gr gc gm s) (hk : OkS s) : Calls Tryd.prog 75 #[.agg #[.int .i64 s.pc, .slice (some ⟨gr, 0, none⟩) 8 cr, .slice (some ⟨gc, 0, none⟩) 5 cc, .slice (some ⟨gm, 0, none⟩) 256 cm]] u fun e w' => e = .returned (.bool (usr s.C)) ∧ Fr u w' := by
  have E := impl_inUserMode s (some ⟨gr, 0, none⟩) (some ⟨gc, 0, none⟩) (some ⟨gm, 0, none⟩) cr cc cm u ho.C.src hk.Cl (ok_get hk.C 3).1
  rw [hk.Rl, hk.Cl, hk.Ml] at E
  exact E
theorem trans_of {u : World} {gr gc gm cr cc cm : Nat} {s : St} (ho : Own u gr gc gm s) (hk : OkS s) (a : Int) (save : Bool) (a0 : 0 ≤ a) (a1 : a < 65536) : Calls Tryd.prog 65 #[.agg #[.int .i64 s.pc, .slice (some ⟨gr, 0, none⟩) 8 cr, .slice (some ⟨gc, 0, none⟩) 5 cc, .slice (some ⟨gm, 0, none⟩) 256 cm], .int .i64 a, .bool save] u fun e w' => e = .returned (.int .i64 (see s.C s.M a save)) ∧ Fr u w' := by
  have E := impl_translate s (some ⟨gr, 0, none⟩) (some ⟨gc, 0, none⟩) (some ⟨gm, 0, none⟩) cr cc cm a save u ho.src hk a0 a1
  rw [hk.Rl, hk.Cl, hk.Ml] at E
  exact E
set_option maxHeartbeats 1000000 in
theorem impl_demand (u : World) (m gr gc gm cr cc cm : Nat) (s : St) (e : Ev) (nx : Int) (h : Mx u m gr gc gm cr cc cm s e nx) (hk : OkS s) :
    Calls Tryd.prog 120 #[.pointer (some ⟨m, 0, none⟩)] u fun r u' => ((usr s.C = true ∧ r = trapE 6) ∨ (usr s.C = false ∧ r = .returned (.tuple #[]))) ∧ Fr u u' := by
  obtain ⟨c0, c1, c2, c3⟩ := h.four
  have E := Lib.hid (user_of (cr := cr) (cc := cc) (cm := cm) h.ow hk)
  clear h hk
  go_enter Tryd.func120, Tryd.ntmps120
  go_wp2_with fail
  refine E.out.mono ?_
  rintro r u1 ⟨rfl, f1⟩
  have HF := Lib.hid f1
  clear f1 E
  cases hu : usr s.C
  · go_wp2
    (first | refine bodyPost_end (results_none rfl _ _ _) rfl ?_ | refine bodyPost_ret (results_none rfl _ _ _) rfl ?_)
    exact ⟨.inr ⟨hu, rfl⟩, HF.out⟩
  · go_wp2
    exact ⟨rfl, .inl ⟨hu, rfl⟩, HF.out⟩
set_option maxHeartbeats 1000000 in
theorem impl_see (u : World) (m gr gc gm cr cc cm : Nat) (s : St) (e : Ev) (nx : Int) (h : Mx u m gr gc gm cr cc cm s e nx) (hk : OkS s) (a : Int) (save : Bool) (why : Int) (a0 : 0 ≤ a) (a1 : a < 65536) :
    Calls Tryd.prog 90 #[.pointer (some ⟨m, 0, none⟩), .int .i64 a, .bool save, .int .i64 why] u fun r u' => ((see s.C s.M a save < 0 ∧ r = trapE why) ∨ (0 ≤ see s.C s.M a save ∧ r = .returned (.int .i64 (see s.C s.M a save)))) ∧ Fr u u' := by
  obtain ⟨c0, c1, c2, c3⟩ := h.four
  have E := Lib.hid (trans_of (cr := cr) (cc := cc) (cm := cm) h.ow hk a save a0 a1)
  clear h hk
  go_enter Tryd.func90, Tryd.ntmps90
  go_wp2_with fail
  refine E.out.mono ?_
  rintro r u1 ⟨rfl, f1⟩
  have HF := Lib.hid f1
  clear f1 E
  by_cases hx : see s.C s.M a save < 0
  · go_wp2
    exact ⟨rfl, .inl ⟨hx, rfl⟩, HF.out⟩
  · go_wp2
    go_ret
    exact ⟨.inr ⟨by omega, rfl⟩, HF.out⟩

end Go.Proofs.YtbjapncfgancoaaDoor
