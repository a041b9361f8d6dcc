/- The draw of a text (DrawCodParse): some text, not long; nothing that was there has turned. -/
import Derived.Test.YtecdmafhjfnloaaDoorDrawCod
import Derived.Test.YtecdmafhjfnloaaDoorCodUp
import Derived.Test.YtecdmafhjfnloaaDoorTx2
import Derived.Test.YtecdmafhjfnloaaDoorSp3
import Derived.Deep.QuietTactic
import Derived.BigQuiet
namespace Go.Proofs.YtecdmafhjfnloaaDoor
open Go.RowKit
set_option linter.unusedVariables false
set_option linter.unusedSimpArgs false

def Bent (B N b : Nat) (w : World) (e : Ending) (w' : World) : Prop :=
  ∃ l : List UInt8, l.length ≤ 1001 ∧ e = .returned (.string (bs l)) ∧ Rd B N w' b ∧ w.grownBy w' (some b)
theorem all7 (a b c d e f x : Int) (p : Int → Prop) (ha : p a) (hb : p b) (hc : p c) (hd : p d) (he : p e) (hf : p f) (hx : p x) : ∀ i, i < (#[Value.int .i64 a, .int .i64 b, .int .i64 c, .int .i64 d, .int .i64 e, .int .i64 f, .int .i64 x]).size → ∃ v : Int, p v ∧ (#[Value.int .i64 a, .int .i64 b, .int .i64 c, .int .i64 d, .int .i64 e, .int .i64 f, .int .i64 x])[i]? = some (.int .i64 v) := by
  intro i hi
  simp at hi
  have : i = 0 ∨ i = 1 ∨ i = 2 ∨ i = 3 ∨ i = 4 ∨ i = 5 ∨ i = 6 := by omega
  rcases this with rfl | rfl | rfl | rfl | rfl | rfl | rfl
  · exact ⟨a, ha, rfl⟩
  · exact ⟨b, hb, rfl⟩
  · exact ⟨c, hc, rfl⟩
  · exact ⟨d, hd, rfl⟩
  · exact ⟨e, he, rfl⟩
  · exact ⟨f, hf, rfl⟩
  · exact ⟨x, hx, rfl⟩
theorem ext_take (l : List UInt8) (k : Nat) : (bs l).extract 0 k = bs (l.take k) := by
  apply ByteArray.ext
  simp [bs]
theorem ext_drop (l : List UInt8) (k : Nat) : (bs l).extract k l.length = bs (l.drop k) := by
  apply ByteArray.ext
  simp [bs]
  exact List.take_of_length_le (by simp)
theorem grown_drew {a w : World} {row : Option Nat} (h : a.grownBy w row) : a.grownBy w.drew row := ⟨h.os, h.tape, h.output, h.size, h.block⟩
theorem Rd.drewN {B N b : Nat} {w : World} (h : Rd B N w b) (n : Nat) : Rd B N (w.drewN n) b := h
set_option maxRecDepth 8000 in
set_option maxHeartbeats 4000000 in
theorem l20Bent (B N b : Nat) (l : List UInt8) (w : World) (h : Rd B N w b) (hN : N ≤ 900000000) (hl : l.length ≤ 1000) :
    Calls Tryd.prog 53 #[.pointer (some ⟨b, 0, none⟩), .string (bs l)] w (Bent B (N + 4) b w) := by
  go_enter Tryd.func53, Tryd.ntmps53
  go_wp2_with fail
  refine (pick B N b _ w h (by omega)).mono ?_
  rintro e w1 ⟨x1, x10, x11, rfl, r1, g1⟩
  replace x11 := x11 (by omega)
  obtain ⟨k, rfl⟩ : ∃ k : Nat, x1 = k := ⟨x1.toNat, by omega⟩
  go_wp2_with fail
  refine (pick B _ b _ w1 r1 (by omega)).mono ?_
  rintro e w2 ⟨x2, x20, x21, rfl, r2, g2⟩
  replace x21 := x21 (by omega)
  go_wp2_with fail
  refine (pick B _ b _ _ (r2.alloc _) (by omega)).mono ?_
  rintro e w3 ⟨x3, x30, x31, rfl, r3, g3⟩
  replace x31 := x31 (by omega)
  obtain ⟨v, ⟨v0, v1⟩, hv⟩ := rowN r2.lt g3 (fun n => 0 ≤ n ∧ n ≤ 255) (all7 _ _ _ _ _ _ _ _ (by decide) (by decide) (by decide) (by decide) (by decide) (by decide) ⟨x20, by omega⟩) x3 x30 x31
  have X := one_byte w3 v 5
  generalize UInt8.ofNat v.toNat = c at X
  have G3 := Lib.hid (grown_trans g1 (grown_trans g2 (grown_trans (World.grownBy_alloc _ _ _) g3)))
  have R3 := Lib.hid r3
  clear r1 r2 g1 g2 g3 r3 h
  go_wp2_with fail
  refine (pick B _ b _ _ (R3.out.alloc _) (by omega)).mono ?_
  rintro e w4 ⟨x4, x40, x41, rfl, r4, g4⟩
  replace x41 := x41 (by omega)
  have G4 := Lib.hid (grown_trans G3.out (grown_trans (World.grownBy_alloc _ _ _) g4))
  have R4 := Lib.hid r4
  clear G3 R3 r4 g4 X hv
  have E0 := ext_take l k
  have E1 := ext_drop l k
  have E2 := ext_drop l (k + 1)
  have L0 : (l.take k).length ≤ 1000 := by simp; omega
  have L1 : (l.drop k).length ≤ 1000 := by simp; omega
  have L2 : (l.drop (k + 1)).length ≤ 1000 := by simp; omega
  have LS : (l.take k).length + (l.drop k).length ≤ 1000 := by simp; omega
  have LT : (l.take k).length + (l.drop (k + 1)).length ≤ 1000 := by simp; omega
  generalize l.take k = A at E0 L0 LS LT
  generalize l.drop k = D at E1 L1 LS
  generalize l.drop (k + 1) = D2 at E2 L2 LT
  have hk0 : (k : Int) ≤ (l.length : Int) := by omega
  have hkn : k ≤ l.length := by omega
  have e4 : x4 = 0 ∨ x4 = 1 ∨ x4 = 2 := by omega
  have hA1 : ¬ 9223372036854775807 < A.length + 1 := by omega
  rcases e4 with rfl | rfl | rfl
  · go_wp2_with fail
    go_quiet (fail)
    go_wp2
    go_ret
    exact ⟨A ++ [c] ++ D, by simp; omega, by rw [← bs_app, ← bs_app]; rfl, R4.out.drewN _, grown_drewN G4.out _⟩
  · by_cases hk : k < l.length
    · have hk' : (k : Int) < (l.length : Int) := by omega
      go_wp2_with fail
      go_quiet (fail)
      go_wp2
      go_ret
      exact ⟨A ++ D2, by simp; omega, by rw [← bs_app]; rfl, R4.out.drewN _, grown_drewN G4.out _⟩
    · have hk' : ¬ (k : Int) < (l.length : Int) := by omega
      go_wp2_with fail
      go_ret
      exact ⟨l, by omega, rfl, R4.out, G4.out⟩
  · by_cases hk : k < l.length
    · have hk' : (k : Int) < (l.length : Int) := by omega
      go_wp2_with fail
      go_quiet (fail)
      go_wp2
      go_ret
      exact ⟨A ++ [c] ++ D2, by simp; omega, by rw [← bs_app, ← bs_app]; rfl, R4.out.drewN _, grown_drewN G4.out _⟩
    · have hk' : ¬ (k : Int) < (l.length : Int) := by omega
      go_wp2_with fail
      go_ret
      exact ⟨l, by omega, rfl, R4.out, G4.out⟩
theorem txtD_len (k d a b f n : Int) : (txtD k d a b f n).length ≤ 30 := by
  unfold txtD
  split
  · rename_i h; exact txt_len h
  · simp
def texts12 : List (List UInt8) := [[], [97, 100, 100], [97, 100, 100, 32, 114, 49, 32, 114, 50], [97, 100, 100, 32, 114, 49, 32, 114, 50, 32, 114, 56], [97, 100, 100, 105, 32, 114, 49, 32, 114, 50, 32, 51, 50], [97, 100, 100, 105, 32, 114, 49, 32, 114, 50, 32, 45, 51, 51], [97, 100, 100, 105, 32, 114, 49, 32, 114, 50, 32, 45, 48], [108, 117, 105, 32, 114, 49, 32, 53, 49, 50], [119, 97, 105, 116, 32, 114, 49], [101, 113, 32, 114, 49, 32, 114, 50, 32, 104, 101, 114, 101], [103, 101, 116, 32, 114, 49, 32, 53], [115, 121, 115, 32, 45, 49]]
theorem row12 {w w1 : World} {b : Nat} {t : TypeId} (hb : b < w.heap.size) (hg : (w.alloc (.cells #[.string ⟨#[]⟩, .string ⟨#[97, 100, 100]⟩, .string ⟨#[97, 100, 100, 32, 114, 49, 32, 114, 50]⟩, .string ⟨#[97, 100, 100, 32, 114, 49, 32, 114, 50, 32, 114, 56]⟩, .string ⟨#[97, 100, 100, 105, 32, 114, 49, 32, 114, 50, 32, 51, 50]⟩, .string ⟨#[97, 100, 100, 105, 32, 114, 49, 32, 114, 50, 32, 45, 51, 51]⟩, .string ⟨#[97, 100, 100, 105, 32, 114, 49, 32, 114, 50, 32, 45, 48]⟩, .string ⟨#[108, 117, 105, 32, 114, 49, 32, 53, 49, 50]⟩, .string ⟨#[119, 97, 105, 116, 32, 114, 49]⟩, .string ⟨#[101, 113, 32, 114, 49, 32, 114, 50, 32, 104, 101, 114, 101]⟩, .string ⟨#[103, 101, 116, 32, 114, 49, 32, 53]⟩, .string ⟨#[115, 121, 115, 32, 45, 49]⟩] t)).grownBy w1 (some b)) (x : Int) (x0 : 0 ≤ x) (x1 : x < 12) :
    ∃ l : List UInt8, l.length ≤ 20 ∧ w1.cell? ⟨w.heap.size, x.toNat, none⟩ = some (.string (bs l)) := by
  rw [row_at hb hg]
  obtain ⟨i, hi, rfl⟩ := int_lt x 12 x0 (by omega)
  refine ⟨texts12.getD i [], ?_, ?_⟩
  · have : ∀ i, i < 12 → (texts12.getD i []).length ≤ 20 := by decide
    exact this i hi
  · have : i = 0 ∨ i = 1 ∨ i = 2 ∨ i = 3 ∨ i = 4 ∨ i = 5 ∨ i = 6 ∨ i = 7 ∨ i = 8 ∨ i = 9 ∨ i = 10 ∨ i = 11 := by omega
    rcases this with rfl | rfl | rfl | rfl | rfl | rfl | rfl | rfl | rfl | rfl | rfl | rfl <;> rfl
def OneT (B : Nat) (w : World) (e : Ending) (w' : World) : Prop := ∃ l : List UInt8, l.length ≤ 1001 ∧ e = .returned (.string (bs l)) ∧ Below B w w'
set_option maxRecDepth 8000 in
set_option maxHeartbeats 4000000 in
theorem DrawCodParse (B : Nat) (s : Option Addr) (len cap : Nat) (w : World) (h : Code1 B w s len cap) : Calls Tryd.prog 22 #[.slice s len cap] w (OneT B w) := by
  have hB := h.1
  go_enter Tryd.func22, Tryd.ntmps22
  go_wp2_with fail
  refine (opens B s len cap w h).mono ?_
  rintro e w1 ⟨rfl, r1, b1⟩
  go_wp2_with fail
  refine (l20Inst B _ _ _ w1 r1 (by omega) (by omega) (by omega)).mono ?_
  rintro e w2 ⟨k, d, a, x, f, n, rfl, r2, g2⟩
  have HB := Lib.hid (below_of hB b1 g2)
  have hT := txtD_len k d a x f n
  clear r1 g2 b1 h
  go_wp2_with fail
  refine (spec_CodText _ _ _ _ _ _ _).mono ?_
  rintro e w3 ⟨rfl, f3⟩
  generalize txtD k d a x f n = T at hT ⊢
  have hBw : B ≤ w2.heap.size := Nat.le_trans r2.ge (Nat.le_of_lt r2.lt)
  have H3 := Lib.hid (HB.out.trans (f3.mono hBw))
  have R3 := Lib.hid (show Rd B _ w3 _ from by
    obtain ⟨h1, h2, s, len, cap, p, h3, h4, h5, h6, h7, h8⟩ := r2
    exact ⟨h1, Nat.lt_of_lt_of_le h2 f3.size, s, len, cap, p, by rw [f3.cell h2]; exact h3, by rw [f3.cell h2]; exact h4, by rw [f3.frozen h2]; exact h5, h6, h7, h8.below (f3.mono hBw)⟩)
  clear HB r2 f3 hBw
  go_wp2_with fail
  refine (pick B _ _ _ _ R3.out (by omega)).mono ?_
  rintro e w4 ⟨x4, x40, x41, rfl, r4, g4⟩
  have hbw : B ≤ w.heap.size := hB
  have H4 := Lib.hid (H3.out.trans (grown_below g4 hB (Nat.le_trans R3.out.ge (Nat.le_of_lt R3.out.lt))))
  have R4 := Lib.hid r4
  clear H3 R3 r4 g4
  by_cases e0 : x4 = 0
  · subst e0
    go_wp2_with fail
    refine (l20Bent B _ _ T _ R4.out (by omega) (by omega)).mono ?_
    rintro e w5 ⟨l, hl, rfl, r5, g5⟩
    have H5 := Lib.hid (H4.out.trans (grown_below g5 hB (Nat.le_trans R4.out.ge (Nat.le_of_lt R4.out.lt))))
    clear r5 g5 H4 R4
    go_wp2
    go_ret
    exact ⟨l, hl, rfl, H5.out⟩
  · have e0' : (x4 == 0) = false := by simp [e0]
    by_cases e1 : x4 = 1
    · subst e1
      go_wp2_with fail
      refine (pick B _ _ _ _ (R4.out.alloc _) (by omega)).mono ?_
      rintro e w5 ⟨x5, x50, x51, rfl, r5, g5⟩
      replace x51 := x51 (by omega)
      obtain ⟨l, hl, hv⟩ := row12 R4.out.lt g5 x5 x50 x51
      have H5 := Lib.hid ((H4.out.alloc (Nat.le_trans R4.out.ge (Nat.le_of_lt R4.out.lt)) _).trans (grown_below g5 hB (Nat.le_trans R4.out.ge (by simp; exact Nat.le_of_lt (Nat.lt_succ_of_lt R4.out.lt)))))
      clear r5 g5 H4 R4
      go_wp2
      go_ret
      exact ⟨l, by omega, rfl, H5.out⟩
    · have e1' : (x4 == 1) = false := by simp [e1]
      go_wp2
      go_ret
      exact ⟨T, by omega, rfl, H4.out⟩
end Go.Proofs.YtecdmafhjfnloaaDoor
