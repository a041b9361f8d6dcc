/- Chapter 3: the table of names; numbers' texts; the name of an instruction. Chapter 3: the model's texts: a number, the names, an instruction. Small laws for regions told slot by slot; two words, two texts. -/
import Derived.Deep.MidRow
import Derived.Laws.BytesArg
import Derived.Test.YtmkinbnopgfljaaTxt
import Derived.Test.YtmkinbnopgfljaaCod
import Derived.Test.YtmkinbnopgfljaaCodSd
import Derived.Test.YtmkinbnopgfljaaDrawInst
import Derived.Test.YtmkinbnopgfljaaRegion
namespace Go.Proofs.Ytmkinbnopgfljaa
open Go.RowKit
set_option linter.unusedVariables false

abbrev bs (l : List UInt8) : ByteArray := ⟨l.toArray⟩
theorem bs_app (a b : List UInt8) : bs a ++ bs b = bs (a ++ b) := by
  apply ByteArray.ext
  simp
/-- A text of one byte. -/
theorem one_byte (w : World) (c : Int) (t : TypeId) : (convert 32 9 (.slice (some ⟨w.heap.size, 0, none⟩) 1 1)).run Try.prog (w.alloc (.cells #[.int .u8 c] t)) = .ok (.string (bs [UInt8.ofNat c.toNat])) (w.alloc (.cells #[.int .u8 c] t)) := by
  exact run_convert_bytes_arg _ 32 5 Try.underlying32 Try.underlying5 w.heap.size 0 1 1 [c] rfl (fun i hi => by
    obtain rfl : i = 0 := by omega
    simp) 9 Try.underlying9
set_option maxRecDepth 4000 in
set_option maxHeartbeats 400000 in
theorem spec_l3Plain_pos (n : Nat) (hn : n < 1000000000000) (w : World) : Calls Try.prog 71 #[.int .i64 n] w fun e w' => e = .returned (.string (bs (Lib.decDigits n))) ∧ Fr w w' := by
  have n0 : ¬ (n : Int) < 0 := by omega
  go_enter Try.func71, Try.ntmps71
  go_wp2
  go_loopw [0, 3] (fun i o wr => ∃ (m : Nat) (out : List UInt8), i = .int .i64 m ∧ o = .string (bs out) ∧ m ≤ n ∧ out.length ≤ 12 ∧ Lib.decDigits n = Lib.decDigits m ++ out ∧ Fr w wr) (fun i _ _ => (intOf i).toNat)
  case atStart => exact ⟨n, [], rfl, rfl, Nat.le_refl _, by simp, by simp, Below.refl _ _⟩
  case round =>
    obtain ⟨m, out, rfl, rfl, hm, hl, hd, hF⟩ := hrel
    have HD := Lib.hid hd
    have HF := Lib.hid hF
    have hsz := hF.size
    clear hd hF
    by_cases h9 : m ≤ 9
    · have h9' : ¬ (9 : Int) < m := by omega
      have X := one_byte wr (48 + (m : Int)) 5
      rw [show (48 + (m : Int)).toNat = 48 + m by omega] at X
      generalize hc : UInt8.ofNat (48 + m) = c at X
      have HC := Lib.hid hc
      clear hc
      go_wp2
      go_ret
      refine ⟨?_, by have := HF.out; (repeat' first | (with_reducible exact Below.refl _ _) | (with_reducible assumption) | ((with_reducible refine Below.setCell ?_ ?hb _); (case hb => first | exact Nat.le_refl _ | (simp; done) | (simp; omega) | omega)) | ((with_reducible refine Below.alloc ?_ ?hb _); (case hb => first | exact Nat.le_refl _ | (simp; done) | (simp; omega) | omega)) | (with_reducible refine Below.drew ?_))⟩
      rw [HD.out, dec_small (by omega), ← bs_app, HC.out]
      rfl
    · have h9' : (9 : Int) < m := by omega
      have X := one_byte wr (48 + (m : Int) % 10) 5
      rw [show (48 + (m : Int) % 10).toNat = 48 + m % 10 by omega] at X
      generalize hc : UInt8.ofNat (48 + m % 10) = c at X
      have HC := Lib.hid hc
      clear hc
      go_wp2
      go_roundw
      case rel =>
        have e : Lib.decDigits n = Lib.decDigits (m / 10) ++ (c :: out) := by rw [HD.out, dec_big (by omega), List.append_assoc, HC.out]; rfl
        have hl2 := dec_len 11 n (by omega)
        rw [e, List.length_append] at hl2
        refine ⟨m / 10, c :: out, by go_num, ?_, by omega, by omega, e, by have := HF.out; (repeat' first | (with_reducible exact Below.refl _ _) | (with_reducible assumption) | ((with_reducible refine Below.setCell ?_ ?hb _); (case hb => first | exact Nat.le_refl _ | (simp; done) | (simp; omega) | omega)) | ((with_reducible refine Below.alloc ?_ ?hb _); (case hb => first | exact Nat.le_refl _ | (simp; done) | (simp; omega) | omega)) | (with_reducible refine Below.drew ?_))⟩
        rw [bs_app]
        rfl
      case measure => simp [intOf]; omega
theorem spec_l3Plain (n : Int) (h0 : -1000000000000 < n) (h1 : n < 1000000000000) (w : World) : Calls Try.prog 71 #[.int .i64 n] w fun e w' => e = .returned (.string (bs (Lib.itoa n))) ∧ Fr w w' := by
  by_cases h : n < 0
  · obtain ⟨m, rfl⟩ : ∃ m : Nat, n = -(m : Int) := ⟨n.natAbs, by omega⟩
    have hl := dec_len 11 m (by omega)
    have hm := spec_l3Plain_pos m (by omega)
    have E : Hid (Lib.itoa (-(m : Int)) = 45 :: Lib.decDigits m) := by show _ = _; rw [itoa_neg h]; congr 2; omega
    go_enter Try.func71, Try.ntmps71
    go_wp2_with (go_at_call 71; refine (spec_l3Plain_pos m (by omega) _).mono ?_; rintro e w1 ⟨rfl, f1⟩)
    go_ret
    refine ⟨?_, f1⟩
    rw [E.out]
    rfl
  · obtain ⟨m, rfl⟩ : ∃ m : Nat, n = (m : Int) := ⟨n.toNat, by omega⟩
    rw [itoa_pos (by omega)]
    exact spec_l3Plain_pos m (by omega) w
--MK2
def nmK : List (List UInt8) := [[], [97, 100, 100, 105], [108, 117, 105], [108, 111, 97, 100], [115, 97, 118, 101], [101, 113], [108, 116], [106, 117, 109, 112], [99, 97, 108, 108], [109, 117, 108], [115, 119, 97, 112], [119, 97, 105, 116], [115, 121, 115], [98, 97, 99, 107], [103, 101, 116], [115, 101, 116]]
/-- The names, as the model lays them: by kinds in block g, by operations in block g + 1. -/
structure NamesAt (g : Nat) (u : World) : Prop where
  ks : ∀ i, i < 16 → u.cell? ⟨g, i, none⟩ = some (.string (bs (nmK.getD i [])))
  al : ∀ i, i < 8 → u.cell? ⟨g + 1, i, none⟩ = some (.string (bs (nmL.getD i [])))
theorem NamesAt.fr {g : Nat} {u u' : World} (h : NamesAt g u) (f : Fr u u') : NamesAt g u' :=
  ⟨fun i hi => by rw [f.cell (show g < u.heap.size from lt_of_cell (h.ks 0 (by decide)))]; exact h.ks i hi, fun i hi => by rw [f.cell (show g + 1 < u.heap.size from lt_of_cell (h.al 0 (by decide)))]; exact h.al i hi⟩
theorem names_new (w : World) (t t' : TypeId) : NamesAt w.heap.size ((w.alloc (.cells #[.string ⟨#[]⟩, .string ⟨#[97, 100, 100, 105]⟩, .string ⟨#[108, 117, 105]⟩, .string ⟨#[108, 111, 97, 100]⟩, .string ⟨#[115, 97, 118, 101]⟩, .string ⟨#[101, 113]⟩, .string ⟨#[108, 116]⟩, .string ⟨#[106, 117, 109, 112]⟩, .string ⟨#[99, 97, 108, 108]⟩, .string ⟨#[109, 117, 108]⟩, .string ⟨#[115, 119, 97, 112]⟩, .string ⟨#[119, 97, 105, 116]⟩, .string ⟨#[115, 121, 115]⟩, .string ⟨#[98, 97, 99, 107]⟩, .string ⟨#[103, 101, 116]⟩, .string ⟨#[115, 101, 116]⟩] t)).alloc (.cells #[.string ⟨#[97, 100, 100]⟩, .string ⟨#[115, 117, 98]⟩, .string ⟨#[97, 110, 100]⟩, .string ⟨#[111, 114]⟩, .string ⟨#[120, 111, 114]⟩, .string ⟨#[108, 101, 115, 115]⟩, .string ⟨#[115, 104, 108]⟩, .string ⟨#[115, 104, 114]⟩] t')) := by
  have hs : (w.alloc (.cells #[.string ⟨#[]⟩, .string ⟨#[97, 100, 100, 105]⟩, .string ⟨#[108, 117, 105]⟩, .string ⟨#[108, 111, 97, 100]⟩, .string ⟨#[115, 97, 118, 101]⟩, .string ⟨#[101, 113]⟩, .string ⟨#[108, 116]⟩, .string ⟨#[106, 117, 109, 112]⟩, .string ⟨#[99, 97, 108, 108]⟩, .string ⟨#[109, 117, 108]⟩, .string ⟨#[115, 119, 97, 112]⟩, .string ⟨#[119, 97, 105, 116]⟩, .string ⟨#[115, 121, 115]⟩, .string ⟨#[98, 97, 99, 107]⟩, .string ⟨#[103, 101, 116]⟩, .string ⟨#[115, 101, 116]⟩] t)).heap.size = w.heap.size + 1 := by simp
  refine ⟨fun i hi => ?_, fun i hi => ?_⟩
  · rw [(Fr.alloc _ _).cell (show w.heap.size < _ by omega), World.cell?_alloc_new]
    have h : i = 0 ∨ i = 1 ∨ i = 2 ∨ i = 3 ∨ i = 4 ∨ i = 5 ∨ i = 6 ∨ i = 7 ∨ i = 8 ∨ i = 9 ∨ i = 10 ∨ i = 11 ∨ i = 12 ∨ i = 13 ∨ i = 14 ∨ i = 15 := by omega
    rcases h with rfl | rfl | rfl | rfl | rfl | rfl | rfl | rfl | rfl | rfl | rfl | rfl | rfl | rfl | rfl | rfl <;> rfl
  · rw [← hs, World.cell?_alloc_new]
    have h : i = 0 ∨ i = 1 ∨ i = 2 ∨ i = 3 ∨ i = 4 ∨ i = 5 ∨ i = 6 ∨ i = 7 := by omega
    rcases h with rfl | rfl | rfl | rfl | rfl | rfl | rfl | rfl <;> rfl
theorem spec_l3Names (w : World) : Calls Try.prog 79 #[] w fun e w' => e = .returned (.tuple #[.slice (some ⟨w.heap.size, 0, none⟩) 16 16, .slice (some ⟨w.heap.size + 1, 0, none⟩) 8 8]) ∧ NamesAt w.heap.size w' ∧ Fr w w' := by
  go_enter Try.func79, Try.ntmps79
  go_wp2
  refine bodyPost_ret (v := .tuple #[.slice (some ⟨w.heap.size, 0, none⟩) 16 16, .slice (some ⟨w.heap.size + 1, 0, none⟩) 8 8]) (by simp [results, Try.results79, go_sem]) rfl ⟨rfl, ?_, ?_⟩
  · exact names_new w _ _
  · (repeat' first | (with_reducible exact Below.refl _ _) | (with_reducible assumption) | ((with_reducible refine Below.setCell ?_ ?hb _); (case hb => first | exact Nat.le_refl _ | (simp; done) | (simp; omega) | omega)) | ((with_reducible refine Below.alloc ?_ ?hb _); (case hb => first | exact Nat.le_refl _ | (simp; done) | (simp; omega) | omega)) | (with_reducible refine Below.drew ?_))
theorem nmK_nm : ∀ k : Nat, k < 16 → 1 ≤ k → nmK.getD k [] = nmL.getD (k + 7) [] := by decide
theorem fr_grown {u u' : World} (f : Fr u u') : u.grownBy u' (some 0) := ⟨f.os, f.tape, f.output, f.size, fun k hk _ => f.block k hk⟩
end Go.Proofs.Ytmkinbnopgfljaa
