/- The bit reader: Len64 at 65535, take, value. -/
import Derived.Test.YtecdmafhjfnloaaGreatDoorCodLaws
import Derived.Test.YtecdmafhjfnloaaGreatDoorSign
namespace Go.Proofs.YtecdmafhjfnloaaGreatDoor
open Go.RowKit
set_option linter.unusedVariables false
set_option maxRecDepth 100000 in
theorem bits_Len64 (w : World) : Calls Tryz.prog 81 #[.int .u64 65535] w fun e w' => e = .returned (.int .i64 16) ∧ w = w' := by
  go_enter Tryz.func81, Tryz.ntmps81
  go_wp2
  go_ret
  exact ⟨by kernel_rfl, rfl⟩
def taken (x b : Int) : Int := x / 2 ^ (16 - b).toNat
def rested (x b : Int) : Int := x * 2 ^ b.toNat % 65536
--[need (*impl.bitReader[impl.word]).take]
theorem impl_take (g : Nat) (x b : Int) (b0 : 0 ≤ b) (b1 : b ≤ 16) (x0 : 0 ≤ x) (x1 : x < 65536) (w : World) (hc : w.cell? ⟨g, 0, none⟩ = some (.int .u16 x)) (hf : w.frozen? ⟨g, 0, none⟩ = false) :
    Calls Tryz.prog 63 #[.pointer (some ⟨g, 0, none⟩), .int .i64 b] w fun e w' => e = .returned (.int .u16 (taken x b)) ∧ w.setCell ⟨g, 0, none⟩ (.int .u16 (rested x b)) = w' := by
  go_enter Tryz.func63, Tryz.ntmps63
  go_wp2_with (go_at_call 81; refine (bits_Len64 _).mono ?_; rintro e w' ⟨rfl, rfl⟩)
  go_ret
  have e : rested x b = IntKind.u16.wrap (x * 2 ^ b.toNat) := by simp [rested, IntKind.wrap, IntKind.bits, IntKind.signed]
  exact ⟨rfl, by rw [e]⟩
--[end]
def valD (b l x : Int) : Int := if l < 0 then sgnW (ext x b) else x
theorem valD_t {b l x : Int} (h : l < 0) : valD b l x = sgnW (ext x b) := if_pos h
theorem valD_f {b l x : Int} (h : ¬ l < 0) : valD b l x = x := if_neg h
theorem impl_value (b l g x : Int) (b0 : l < 0 → 1 ≤ b) (b1 : b ≤ 16) (x0 : 0 ≤ x) (x1 : x < 65536) (x2 : l < 0 → x < 2 ^ b.toNat) (w : World) :
    Calls Tryz.prog 64 #[.agg #[.int .i64 b, .int .i64 l, .int .i64 g], .int .u16 x] w fun e w' => e = .returned (.int .i64 (valD b l x)) ∧ Fr w w' := by
  by_cases hl : l < 0
  · have H := Lib.hid (valD_t (b := b) (x := x) hl)
    have X := Lib.hid (x2 hl)
    have b2 := b0 hl
    obtain ⟨e0, e1⟩ := ext_bd x b b2 b1 x0 X.out
    clear b0 x2
    go_enter Tryz.func64, Tryz.ntmps64
    go_wp2_with (first | (go_at_call 82; refine (impl_extend _ _ b2 b1 x0 X.out _).mono ?_; rintro e w' ⟨rfl, rfl⟩) | (go_at_call 83; refine (impl_signed _ e0 e1 _).mono ?_; rintro e w' ⟨rfl, rfl⟩))
    go_ret
    exact ⟨ret_int H.out.symm, Fr.alloc _ _⟩
  · have H := Lib.hid (valD_f (b := b) (x := x) hl)
    clear b0 x2
    go_enter Tryz.func64, Tryz.ntmps64
    go_wp2
    go_ret
    exact ⟨ret_int (by rw [H.out]; try simp), Fr.alloc _ _⟩
end Go.Proofs.YtecdmafhjfnloaaGreatDoor
