/- Chapter 3: the table of names; numbers' texts; the name of an instruction. Chapter 3: the model's texts: a number, the names, an instruction. Small laws for regions told slot by slot; two words, two texts. -/
import Derived.Deep.MidRow
import Derived.Laws.BytesArg
import Derived.Test.YtpdlcjjmhcfkjaaDoorTxt
import Derived.Test.YtpdlcjjmhcfkjaaDoorCod
import Derived.Test.YtpdlcjjmhcfkjaaDoorCodSd
import Derived.Test.YtpdlcjjmhcfkjaaDoorDrawInst
import Derived.Test.YtpdlcjjmhcfkjaaDoorRegion
namespace Go.Proofs.YtpdlcjjmhcfkjaaDoor
open Go.RowKit
set_option linter.unusedVariables false

abbrev bs (l : List UInt8) : ByteArray := ⟨l.toArray⟩
theorem bs_app (a b : List UInt8) : bs a ++ bs b = bs (a ++ b) := by
  apply ByteArray.ext
  simp
/-- What the table of names holds: 23 names, kinds and operations. -/
def mnL : List Value := (List.range 23).flatMap fun i => [.string (bs (nmL.getD i [])), .int .i64 (mk i), .int .i64 (mf i)]
/-- Which row of the table an instruction's name is. -/
theorem mn_hit {k d a b f n : Int} (h : iok k d a b f n = true) {i : Nat} (hi : i < 23) : (mk i = k ∧ (mk i ≠ 0 ∨ mf i = f)) ↔ i = nmI k f := by
  obtain ⟨m1, m2⟩ := mk_nmI h
  have hl := nmI_lt h
  constructor
  · rintro ⟨h1, h2⟩
    unfold nmI
    by_cases h0 : k = 0
    · rw [if_pos h0]
      have : i < 8 := by unfold mk at h1; split at h1 <;> omega
      simp [mk, mf, this] at h1 h2
      omega
    · rw [if_neg h0]
      have : ¬ i < 8 := by intro h8; simp [mk, h8] at h1; omega
      simp [mk, this] at h1
      omega
  · intro e
    subst e
    refine ⟨m1, ?_⟩
    rw [m1, m2]
    by_cases h0 : k = 0
    · right; rw [if_pos h0]
    · left; exact h0
/-- An instruction's text, or nothing. -/
def txtD (k d a b f n : Int) : List UInt8 := if iok k d a b f n = true then txt k d a b f n else []
/-- A text of one byte. -/
theorem one_byte (w : World) (c : Int) (t : TypeId) : (convert 36 9 (.slice (some ⟨w.heap.size, 0, none⟩) 1 1)).run Tryd.prog (w.alloc (.cells #[.int .u8 c] t)) = .ok (.string (bs [UInt8.ofNat c.toNat])) (w.alloc (.cells #[.int .u8 c] t)) := by
  exact run_convert_bytes_arg _ 36 5 Tryd.underlying36 Tryd.underlying5 w.heap.size 0 1 1 [c] rfl (fun i hi => by
    obtain rfl : i = 0 := by omega
    simp) 9 Tryd.underlying9
def nmK : List (List UInt8) := [[], [97, 100, 100, 105], [108, 117, 105], [108, 111, 97, 100], [115, 97, 118, 101], [101, 113], [108, 116], [106, 117, 109, 112], [99, 97, 108, 108], [109, 117, 108], [115, 119, 97, 112], [119, 97, 105, 116], [115, 121, 115], [98, 97, 99, 107], [103, 101, 116], [115, 101, 116]]
/-- The names, as the model lays them: by kinds in block g, by operations in block g + 1. -/
structure NamesAt (g : Nat) (u : World) : Prop where
  ks : ∀ i, i < 16 → u.cell? ⟨g, i, none⟩ = some (.string (bs (nmK.getD i [])))
  al : ∀ i, i < 8 → u.cell? ⟨g + 1, i, none⟩ = some (.string (bs (nmL.getD i [])))
theorem NamesAt.fr {g : Nat} {u u' : World} (h : NamesAt g u) (f : Fr u u') : NamesAt g u' :=
  ⟨fun i hi => by rw [f.cell (show g < u.heap.size from lt_of_cell (h.ks 0 (by decide)))]; exact h.ks i hi, fun i hi => by rw [f.cell (show g + 1 < u.heap.size from lt_of_cell (h.al 0 (by decide)))]; exact h.al i hi⟩
theorem names_new (w : World) (t t' : TypeId) : NamesAt w.heap.size ((w.alloc (.cells #[.string ⟨#[]⟩, .string ⟨#[97, 100, 100, 105]⟩, .string ⟨#[108, 117, 105]⟩, .string ⟨#[108, 111, 97, 100]⟩, .string ⟨#[115, 97, 118, 101]⟩, .string ⟨#[101, 113]⟩, .string ⟨#[108, 116]⟩, .string ⟨#[106, 117, 109, 112]⟩, .string ⟨#[99, 97, 108, 108]⟩, .string ⟨#[109, 117, 108]⟩, .string ⟨#[115, 119, 97, 112]⟩, .string ⟨#[119, 97, 105, 116]⟩, .string ⟨#[115, 121, 115]⟩, .string ⟨#[98, 97, 99, 107]⟩, .string ⟨#[103, 101, 116]⟩, .string ⟨#[115, 101, 116]⟩] t)).alloc (.cells #[.string ⟨#[97, 100, 100]⟩, .string ⟨#[115, 117, 98]⟩, .string ⟨#[97, 110, 100]⟩, .string ⟨#[111, 114]⟩, .string ⟨#[120, 111, 114]⟩, .string ⟨#[108, 101, 115, 115]⟩, .string ⟨#[115, 104, 108]⟩, .string ⟨#[115, 104, 114]⟩] t')) := by
  have hs : (w.alloc (.cells #[.string ⟨#[]⟩, .string ⟨#[97, 100, 100, 105]⟩, .string ⟨#[108, 117, 105]⟩, .string ⟨#[108, 111, 97, 100]⟩, .string ⟨#[115, 97, 118, 101]⟩, .string ⟨#[101, 113]⟩, .string ⟨#[108, 116]⟩, .string ⟨#[106, 117, 109, 112]⟩, .string ⟨#[99, 97, 108, 108]⟩, .string ⟨#[109, 117, 108]⟩, .string ⟨#[115, 119, 97, 112]⟩, .string ⟨#[119, 97, 105, 116]⟩, .string ⟨#[115, 121, 115]⟩, .string ⟨#[98, 97, 99, 107]⟩, .string ⟨#[103, 101, 116]⟩, .string ⟨#[115, 101, 116]⟩] t)).heap.size = w.heap.size + 1 := by simp
  refine ⟨fun i hi => ?_, fun i hi => ?_⟩
  · rw [(Fr.alloc _ _).cell (show w.heap.size < _ by omega), World.cell?_alloc_new]
    have h : i = 0 ∨ i = 1 ∨ i = 2 ∨ i = 3 ∨ i = 4 ∨ i = 5 ∨ i = 6 ∨ i = 7 ∨ i = 8 ∨ i = 9 ∨ i = 10 ∨ i = 11 ∨ i = 12 ∨ i = 13 ∨ i = 14 ∨ i = 15 := by omega
    rcases h with rfl | rfl | rfl | rfl | rfl | rfl | rfl | rfl | rfl | rfl | rfl | rfl | rfl | rfl | rfl | rfl <;> rfl
  · rw [← hs, World.cell?_alloc_new]
    have h : i = 0 ∨ i = 1 ∨ i = 2 ∨ i = 3 ∨ i = 4 ∨ i = 5 ∨ i = 6 ∨ i = 7 := by omega
    rcases h with rfl | rfl | rfl | rfl | rfl | rfl | rfl | rfl <;> rfl
theorem nmK_nm : ∀ k : Nat, k < 16 → 1 ≤ k → nmK.getD k [] = nmL.getD (k + 7) [] := by decide
theorem nm_k {k f : Int} (hk : 0 ≤ k ∧ k < 16) (h0 : ¬ k = 0) : nmK.getD k.toNat [] = nm k f := by
  rw [nmK_nm k.toNat (by omega) (by omega)]
  unfold nm nmI
  rw [if_neg h0]
theorem nmK_lens : ∀ k : Nat, k < 16 → (nmK.getD k []).length ≤ 4 := by decide
theorem bs_blank : ({ data := #[32] } : ByteArray) = bs [32] := rfl
theorem bs_blankr : ({ data := #[32, 114] } : ByteArray) = bs [32, 114] := rfl

theorem fr_grown {u u' : World} (f : Fr u u') : u.grownBy u' (some 0) := ⟨f.os, f.tape, f.output, f.size, fun k hk _ => f.block k hk⟩
theorem word_inj {k d a b f n k' d' a' b' f' n' : Int} (h : iok k d a b f n = true) (h' : iok k' d' a' b' f' n' = true) (e : worD k d a b f n = worD k' d' a' b' f' n') : k = k' ∧ d = d' ∧ a = a' ∧ b = b' ∧ f = f' ∧ n = n' := by
  obtain ⟨_, g1, g2, g3, g4, g5, g6⟩ := gd_word h
  obtain ⟨_, e1, e2, e3, e4, e5, e6⟩ := gd_word h'
  rw [e] at g1 g2 g3 g4 g5 g6
  exact ⟨g1.symm.trans e1, g2.symm.trans e2, g3.symm.trans e3, g4.symm.trans e4, g5.symm.trans e5, g6.symm.trans e6⟩
theorem ifs6 {α : Type} {k d a b f n k' d' a' b' f' n' : Int} (h : ¬ (k = k' ∧ d = d' ∧ a = a' ∧ b = b' ∧ f = f' ∧ n = n')) (x y : α) :
    (if k = k' then if d = d' then if a = a' then if b = b' then if f = f' then if n = n' then x else y else y else y else y else y else y) = y := by
  by_cases h1 : k = k'
  · by_cases h2 : d = d'
    · by_cases h3 : a = a'
      · by_cases h4 : b = b'
        · by_cases h5 : f = f'
          · by_cases h6 : n = n'
            · exact absurd ⟨h1, h2, h3, h4, h5, h6⟩ h
            · rw [if_pos h1, if_pos h2, if_pos h3, if_pos h4, if_pos h5, if_neg h6]
          · rw [if_pos h1, if_pos h2, if_pos h3, if_pos h4, if_neg h5]
        · rw [if_pos h1, if_pos h2, if_pos h3, if_neg h4]
      · rw [if_pos h1, if_pos h2, if_neg h3]
    · rw [if_pos h1, if_neg h2]
  · rw [if_neg h1]
theorem bs_inj {x y : List UInt8} (h : bs x = bs y) : x = y := by
  have := congrArg (fun z : ByteArray => z.data.toList) h
  simpa using this

end Go.Proofs.YtpdlcjjmhcfkjaaDoor
