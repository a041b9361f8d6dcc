/- Chapter 3: the model's texts: a number, the names, an instruction. -/
import Derived.Test.YtecdmafhjfnloaaGreatDoorTx1
import Derived.Laws.BytesArg
namespace Go.Proofs.YtecdmafhjfnloaaGreatDoor
open Go.RowKit
set_option linter.unusedVariables false

/-- A text of one byte. -/
theorem one_byte (w : World) (c : Int) (t : TypeId) : (convert 22 9 (.slice (some ⟨w.heap.size, 0, none⟩) 1 1)).run Tryz.prog (w.alloc (.cells #[.int .u8 c] t)) = .ok (.string (bs [UInt8.ofNat c.toNat])) (w.alloc (.cells #[.int .u8 c] t)) := by
  exact run_convert_bytes_arg _ 22 5 Tryz.underlying22 Tryz.underlying5 w.heap.size 0 1 1 [c] rfl (fun i hi => by
    obtain rfl : i = 0 := by omega
    simp) 9 Tryz.underlying9
set_option maxRecDepth 4000 in
set_option maxHeartbeats 400000 in
theorem spec_l3Plain_pos (n : Nat) (hn : n < 1000000000000) (w : World) : Calls Tryz.prog 33 #[.int .i64 n] w fun e w' => e = .returned (.string (bs (Lib.decDigits n))) ∧ Fr w w' := by
  have n0 : ¬ (n : Int) < 0 := by omega
  go_enter Tryz.func33, Tryz.ntmps33
  go_wp2
  go_loopw [0, 3] (fun i o wr => ∃ (m : Nat) (out : List UInt8), i = .int .i64 m ∧ o = .string (bs out) ∧ m ≤ n ∧ out.length ≤ 12 ∧ Lib.decDigits n = Lib.decDigits m ++ out ∧ Fr w wr) (fun i _ _ => (intOf i).toNat)
  case atStart => exact ⟨n, [], rfl, rfl, Nat.le_refl _, by simp, by simp, Below.refl _ _⟩
  case round =>
    obtain ⟨m, out, rfl, rfl, hm, hl, hd, hF⟩ := hrel
    have HD := Lib.hid hd
    have HF := Lib.hid hF
    have hsz := hF.size
    clear hd hF
    by_cases h9 : m ≤ 9
    · have h9' : ¬ (9 : Int) < m := by omega
      have X := one_byte wr (48 + (m : Int)) 5
      rw [show (48 + (m : Int)).toNat = 48 + m by omega] at X
      generalize hc : UInt8.ofNat (48 + m) = c at X
      have HC := Lib.hid hc
      clear hc
      go_wp2
      go_ret
      refine ⟨?_, by have := HF.out; (repeat' first | (with_reducible exact Below.refl _ _) | (with_reducible assumption) | ((with_reducible refine Below.setCell ?_ ?hb _); (case hb => first | exact Nat.le_refl _ | (simp; done) | (simp; omega) | omega)) | ((with_reducible refine Below.alloc ?_ ?hb _); (case hb => first | exact Nat.le_refl _ | (simp; done) | (simp; omega) | omega)) | (with_reducible refine Below.drew ?_))⟩
      rw [HD.out, dec_small (by omega), ← bs_app, HC.out]
      rfl
    · have h9' : (9 : Int) < m := by omega
      have X := one_byte wr (48 + (m : Int) % 10) 5
      rw [show (48 + (m : Int) % 10).toNat = 48 + m % 10 by omega] at X
      generalize hc : UInt8.ofNat (48 + m % 10) = c at X
      have HC := Lib.hid hc
      clear hc
      go_wp2
      go_roundw
      case rel =>
        have e : Lib.decDigits n = Lib.decDigits (m / 10) ++ (c :: out) := by rw [HD.out, dec_big (by omega), List.append_assoc, HC.out]; rfl
        have hl2 := dec_len 11 n (by omega)
        rw [e, List.length_append] at hl2
        refine ⟨m / 10, c :: out, by go_num, ?_, by omega, by omega, e, by have := HF.out; (repeat' first | (with_reducible exact Below.refl _ _) | (with_reducible assumption) | ((with_reducible refine Below.setCell ?_ ?hb _); (case hb => first | exact Nat.le_refl _ | (simp; done) | (simp; omega) | omega)) | ((with_reducible refine Below.alloc ?_ ?hb _); (case hb => first | exact Nat.le_refl _ | (simp; done) | (simp; omega) | omega)) | (with_reducible refine Below.drew ?_))⟩
        rw [bs_app]
        rfl
      case measure => simp [intOf]; omega
theorem spec_l3Plain (n : Int) (h0 : -1000000000000 < n) (h1 : n < 1000000000000) (w : World) : Calls Tryz.prog 33 #[.int .i64 n] w fun e w' => e = .returned (.string (bs (Lib.itoa n))) ∧ Fr w w' := by
  by_cases h : n < 0
  · obtain ⟨m, rfl⟩ : ∃ m : Nat, n = -(m : Int) := ⟨n.natAbs, by omega⟩
    have hl := dec_len 11 m (by omega)
    have hm := spec_l3Plain_pos m (by omega)
    have E : Hid (Lib.itoa (-(m : Int)) = 45 :: Lib.decDigits m) := by show _ = _; rw [itoa_neg h]; congr 2; omega
    go_enter Tryz.func33, Tryz.ntmps33
    go_wp2_with (go_at_call 33; refine (spec_l3Plain_pos m (by omega) _).mono ?_; rintro e w1 ⟨rfl, f1⟩)
    go_ret
    refine ⟨?_, f1⟩
    rw [E.out]
    rfl
  · obtain ⟨m, rfl⟩ : ∃ m : Nat, n = (m : Int) := ⟨n.toNat, by omega⟩
    rw [itoa_pos (by omega)]
    exact spec_l3Plain_pos m (by omega) w
--MK2
def nmK : List (List UInt8) := [[], [97, 100, 100, 105], [108, 117, 105], [108, 111, 97, 100], [115, 97, 118, 101], [101, 113], [108, 116], [106, 117, 109, 112], [99, 97, 108, 108], [109, 117, 108], [115, 119, 97, 112], [119, 97, 105, 116], [115, 121, 115], [98, 97, 99, 107], [103, 101, 116], [115, 101, 116]]
/-- The names, as the model lays them: by kinds in block g, by operations in block g + 1. -/
structure NamesAt (g : Nat) (u : World) : Prop where
  ks : ∀ i, i < 16 → u.cell? ⟨g, i, none⟩ = some (.string (bs (nmK.getD i [])))
  al : ∀ i, i < 8 → u.cell? ⟨g + 1, i, none⟩ = some (.string (bs (nmL.getD i [])))
theorem NamesAt.fr {g : Nat} {u u' : World} (h : NamesAt g u) (f : Fr u u') : NamesAt g u' :=
  ⟨fun i hi => by rw [f.cell (show g < u.heap.size from lt_of_cell (h.ks 0 (by decide)))]; exact h.ks i hi, fun i hi => by rw [f.cell (show g + 1 < u.heap.size from lt_of_cell (h.al 0 (by decide)))]; exact h.al i hi⟩
theorem names_new (w : World) (t t' : TypeId) : NamesAt w.heap.size ((w.alloc (.cells #[.string ⟨#[]⟩, .string ⟨#[97, 100, 100, 105]⟩, .string ⟨#[108, 117, 105]⟩, .string ⟨#[108, 111, 97, 100]⟩, .string ⟨#[115, 97, 118, 101]⟩, .string ⟨#[101, 113]⟩, .string ⟨#[108, 116]⟩, .string ⟨#[106, 117, 109, 112]⟩, .string ⟨#[99, 97, 108, 108]⟩, .string ⟨#[109, 117, 108]⟩, .string ⟨#[115, 119, 97, 112]⟩, .string ⟨#[119, 97, 105, 116]⟩, .string ⟨#[115, 121, 115]⟩, .string ⟨#[98, 97, 99, 107]⟩, .string ⟨#[103, 101, 116]⟩, .string ⟨#[115, 101, 116]⟩] t)).alloc (.cells #[.string ⟨#[97, 100, 100]⟩, .string ⟨#[115, 117, 98]⟩, .string ⟨#[97, 110, 100]⟩, .string ⟨#[111, 114]⟩, .string ⟨#[120, 111, 114]⟩, .string ⟨#[108, 101, 115, 115]⟩, .string ⟨#[115, 104, 108]⟩, .string ⟨#[115, 104, 114]⟩] t')) := by
  have hs : (w.alloc (.cells #[.string ⟨#[]⟩, .string ⟨#[97, 100, 100, 105]⟩, .string ⟨#[108, 117, 105]⟩, .string ⟨#[108, 111, 97, 100]⟩, .string ⟨#[115, 97, 118, 101]⟩, .string ⟨#[101, 113]⟩, .string ⟨#[108, 116]⟩, .string ⟨#[106, 117, 109, 112]⟩, .string ⟨#[99, 97, 108, 108]⟩, .string ⟨#[109, 117, 108]⟩, .string ⟨#[115, 119, 97, 112]⟩, .string ⟨#[119, 97, 105, 116]⟩, .string ⟨#[115, 121, 115]⟩, .string ⟨#[98, 97, 99, 107]⟩, .string ⟨#[103, 101, 116]⟩, .string ⟨#[115, 101, 116]⟩] t)).heap.size = w.heap.size + 1 := by simp
  refine ⟨fun i hi => ?_, fun i hi => ?_⟩
  · rw [(Fr.alloc _ _).cell (show w.heap.size < _ by omega), World.cell?_alloc_new]
    have h : i = 0 ∨ i = 1 ∨ i = 2 ∨ i = 3 ∨ i = 4 ∨ i = 5 ∨ i = 6 ∨ i = 7 ∨ i = 8 ∨ i = 9 ∨ i = 10 ∨ i = 11 ∨ i = 12 ∨ i = 13 ∨ i = 14 ∨ i = 15 := by omega
    rcases h with rfl | rfl | rfl | rfl | rfl | rfl | rfl | rfl | rfl | rfl | rfl | rfl | rfl | rfl | rfl | rfl <;> rfl
  · rw [← hs, World.cell?_alloc_new]
    have h : i = 0 ∨ i = 1 ∨ i = 2 ∨ i = 3 ∨ i = 4 ∨ i = 5 ∨ i = 6 ∨ i = 7 := by omega
    rcases h with rfl | rfl | rfl | rfl | rfl | rfl | rfl | rfl <;> rfl
theorem spec_l3Names (w : World) : Calls Tryz.prog 49 #[] w fun e w' => e = .returned (.tuple #[.slice (some ⟨w.heap.size, 0, none⟩) 16 16, .slice (some ⟨w.heap.size + 1, 0, none⟩) 8 8]) ∧ NamesAt w.heap.size w' ∧ Fr w w' := by
  go_enter Tryz.func49, Tryz.ntmps49
  go_wp2
  refine bodyPost_ret (v := .tuple #[.slice (some ⟨w.heap.size, 0, none⟩) 16 16, .slice (some ⟨w.heap.size + 1, 0, none⟩) 8 8]) (by simp [results, Tryz.results49, go_sem]) rfl ⟨rfl, ?_, ?_⟩
  · exact names_new w _ _
  · (repeat' first | (with_reducible exact Below.refl _ _) | (with_reducible assumption) | ((with_reducible refine Below.setCell ?_ ?hb _); (case hb => first | exact Nat.le_refl _ | (simp; done) | (simp; omega) | omega)) | ((with_reducible refine Below.alloc ?_ ?hb _); (case hb => first | exact Nat.le_refl _ | (simp; done) | (simp; omega) | omega)) | (with_reducible refine Below.drew ?_))
theorem nmK_nm : ∀ k : Nat, k < 16 → 1 ≤ k → nmK.getD k [] = nmL.getD (k + 7) [] := by decide
theorem nm_k {k f : Int} (hk : 0 ≤ k ∧ k < 16) (h0 : ¬ k = 0) : nmK.getD k.toNat [] = nm k f := by
  rw [nmK_nm k.toNat (by omega) (by omega)]
  unfold nm nmI
  rw [if_neg h0]
theorem nmK_lens : ∀ k : Nat, k < 16 → (nmK.getD k []).length ≤ 4 := by decide
theorem bs_blank : ({ data := #[32] } : ByteArray) = bs [32] := rfl
theorem bs_blankr : ({ data := #[32, 114] } : ByteArray) = bs [32, 114] := rfl

set_option maxRecDepth 4000 in
set_option maxHeartbeats 1000000 in
theorem spec_CodText_dab (k d a b f n : Int) (hk : 0 ≤ k ∧ k < 16) (kz : ¬ k = 0) (e0 : hD k = true) (e1 : hA k = true) (e2 : hB k = true) (e3 : hN k = 0) (e4 : (¬ k = 14 ∧ ¬ k = 15)) (bd : -256 ≤ d ∧ d ≤ 511) (ba : -256 ≤ a ∧ a ≤ 511) (bb : -256 ≤ b ∧ b ≤ 511) (bf : -256 ≤ f ∧ f ≤ 511) (bn : -256 ≤ n ∧ n ≤ 511) (hs : sok k d a b f n = true) (w : World) :
    Calls Tryz.prog 32 #[.agg #[.int .i64 k, .int .i64 d, .int .i64 a, .int .i64 b, .int .i64 f, .int .i64 n]] w fun e w' => e = .returned (.string (bs ((((nmK.getD k.toNat []) ++ (32 :: 114 :: Lib.itoa d)) ++ (32 :: 114 :: Lib.itoa a)) ++ (32 :: 114 :: Lib.itoa b)))) ∧ Fr w w' := by
  have HK := Lib.hid hk
  have k0 : 0 ≤ k := hk.1
  have k1 : k < 16 := hk.2
  clear hk
  have n14 : (k == 14) = false := by simp [e4.1]
  have n15 : (k == 15) = false := by simp [e4.2]
  obtain ⟨bd0, bd1⟩ := bd
  obtain ⟨ba0, ba1⟩ := ba
  obtain ⟨bb0, bb1⟩ := bb
  obtain ⟨bf0, bf1⟩ := bf
  obtain ⟨bn0, bn1⟩ := bn
  have NL : (nmK.getD k.toNat []).length ≤ 4 := nmK_lens _ (by omega)
  generalize HNM : nmK.getD k.toNat [] = N at NL ⊢
  replace HNM := Lib.hid HNM
  have ld := itoa_len4 bd0 bd1
  have la := itoa_len4 ba0 ba1
  have lb := itoa_len4 bb0 bb1
  go_enter Tryz.func32, Tryz.ntmps32
  go_wp2_with (first
    | (go_at_call 44; refine (spec_CodOk _ _ _ _ _ _ _).mono ?_; rintro e w1 ⟨rfl, f1⟩; rw [hs]; have B := Lib.hid ((Box.new _ _ d a b f n _).fr f1); have F := Lib.hid (Fr.trans (Fr.alloc _ _) f1); obtain ⟨c0, c1, c2, c3, c4, c5⟩ := B.out; clear f1)
    | (go_at_call 49; refine (spec_l3Names _).mono ?_; rintro e w2 ⟨rfl, hN, f2⟩; replace B := Lib.hid (B.out.fr f2); replace F := Lib.hid (F.out.trans f2); clear c0 c1 c2 c3 c4 c5 f2; obtain ⟨c0, c1, c2, c3, c4, c5⟩ := B.out; have NA := hN.ks k.toNat (by omega); rw [HNM.out] at NA; clear hN)
    | (go_at_call 45; refine (spec_l2Has _ HK.out _).mono ?_; rintro e w3 ⟨rfl, rfl⟩; rw [e0, e1, e2])
    | (go_at_call 33; refine (spec_l3Plain _ (by omega) (by omega) _).mono ?_; rintro e w4 ⟨rfl, f4⟩; replace B := Lib.hid (B.out.fr f4); replace F := Lib.hid (F.out.trans f4); clear c0 c1 c2 c3 c4 c5 f4; obtain ⟨c0, c1, c2, c3, c4, c5⟩ := B.out))
  go_ret
  refine ⟨?_, F.out⟩
  simp only [bs_blankr, bs_app]
  simp [List.append_assoc]

set_option maxRecDepth 4000 in
set_option maxHeartbeats 1000000 in
theorem spec_CodText_dan (k d a b f n : Int) (hk : 0 ≤ k ∧ k < 16) (kz : ¬ k = 0) (e0 : hD k = true) (e1 : hA k = true) (e2 : hB k = false) (e3 : 0 < hN k) (e4 : (¬ k = 14 ∧ ¬ k = 15)) (bd : -256 ≤ d ∧ d ≤ 511) (ba : -256 ≤ a ∧ a ≤ 511) (bb : -256 ≤ b ∧ b ≤ 511) (bf : -256 ≤ f ∧ f ≤ 511) (bn : -256 ≤ n ∧ n ≤ 511) (hs : sok k d a b f n = true) (w : World) :
    Calls Tryz.prog 32 #[.agg #[.int .i64 k, .int .i64 d, .int .i64 a, .int .i64 b, .int .i64 f, .int .i64 n]] w fun e w' => e = .returned (.string (bs ((((nmK.getD k.toNat []) ++ (32 :: 114 :: Lib.itoa d)) ++ (32 :: 114 :: Lib.itoa a)) ++ (32 :: Lib.itoa n)))) ∧ Fr w w' := by
  have HK := Lib.hid hk
  have k0 : 0 ≤ k := hk.1
  have k1 : k < 16 := hk.2
  clear hk
  have n14 : (k == 14) = false := by simp [e4.1]
  have n15 : (k == 15) = false := by simp [e4.2]
  obtain ⟨bd0, bd1⟩ := bd
  obtain ⟨ba0, ba1⟩ := ba
  obtain ⟨bb0, bb1⟩ := bb
  obtain ⟨bf0, bf1⟩ := bf
  obtain ⟨bn0, bn1⟩ := bn
  have NL : (nmK.getD k.toNat []).length ≤ 4 := nmK_lens _ (by omega)
  generalize HNM : nmK.getD k.toNat [] = N at NL ⊢
  replace HNM := Lib.hid HNM
  have ld := itoa_len4 bd0 bd1
  have la := itoa_len4 ba0 ba1
  have ln := itoa_len4 bn0 bn1
  go_enter Tryz.func32, Tryz.ntmps32
  go_wp2_with (first
    | (go_at_call 44; refine (spec_CodOk _ _ _ _ _ _ _).mono ?_; rintro e w1 ⟨rfl, f1⟩; rw [hs]; have B := Lib.hid ((Box.new _ _ d a b f n _).fr f1); have F := Lib.hid (Fr.trans (Fr.alloc _ _) f1); obtain ⟨c0, c1, c2, c3, c4, c5⟩ := B.out; clear f1)
    | (go_at_call 49; refine (spec_l3Names _).mono ?_; rintro e w2 ⟨rfl, hN, f2⟩; replace B := Lib.hid (B.out.fr f2); replace F := Lib.hid (F.out.trans f2); clear c0 c1 c2 c3 c4 c5 f2; obtain ⟨c0, c1, c2, c3, c4, c5⟩ := B.out; have NA := hN.ks k.toNat (by omega); rw [HNM.out] at NA; clear hN)
    | (go_at_call 45; refine (spec_l2Has _ HK.out _).mono ?_; rintro e w3 ⟨rfl, rfl⟩; rw [e0, e1, e2])
    | (go_at_call 33; refine (spec_l3Plain _ (by omega) (by omega) _).mono ?_; rintro e w4 ⟨rfl, f4⟩; replace B := Lib.hid (B.out.fr f4); replace F := Lib.hid (F.out.trans f4); clear c0 c1 c2 c3 c4 c5 f4; obtain ⟨c0, c1, c2, c3, c4, c5⟩ := B.out))
  go_ret
  refine ⟨?_, F.out⟩
  simp only [bs_blank, bs_blankr, bs_app]
  simp [List.append_assoc]

set_option maxRecDepth 4000 in
set_option maxHeartbeats 1000000 in
theorem spec_CodText_dn (k d a b f n : Int) (hk : 0 ≤ k ∧ k < 16) (kz : ¬ k = 0) (e0 : hD k = true) (e1 : hA k = false) (e2 : hB k = false) (e3 : 0 < hN k) (e4 : (¬ k = 14 ∧ ¬ k = 15)) (bd : -256 ≤ d ∧ d ≤ 511) (ba : -256 ≤ a ∧ a ≤ 511) (bb : -256 ≤ b ∧ b ≤ 511) (bf : -256 ≤ f ∧ f ≤ 511) (bn : -256 ≤ n ∧ n ≤ 511) (hs : sok k d a b f n = true) (w : World) :
    Calls Tryz.prog 32 #[.agg #[.int .i64 k, .int .i64 d, .int .i64 a, .int .i64 b, .int .i64 f, .int .i64 n]] w fun e w' => e = .returned (.string (bs (((nmK.getD k.toNat []) ++ (32 :: 114 :: Lib.itoa d)) ++ (32 :: Lib.itoa n)))) ∧ Fr w w' := by
  have HK := Lib.hid hk
  have k0 : 0 ≤ k := hk.1
  have k1 : k < 16 := hk.2
  clear hk
  have n14 : (k == 14) = false := by simp [e4.1]
  have n15 : (k == 15) = false := by simp [e4.2]
  obtain ⟨bd0, bd1⟩ := bd
  obtain ⟨ba0, ba1⟩ := ba
  obtain ⟨bb0, bb1⟩ := bb
  obtain ⟨bf0, bf1⟩ := bf
  obtain ⟨bn0, bn1⟩ := bn
  have NL : (nmK.getD k.toNat []).length ≤ 4 := nmK_lens _ (by omega)
  generalize HNM : nmK.getD k.toNat [] = N at NL ⊢
  replace HNM := Lib.hid HNM
  have ld := itoa_len4 bd0 bd1
  have ln := itoa_len4 bn0 bn1
  go_enter Tryz.func32, Tryz.ntmps32
  go_wp2_with (first
    | (go_at_call 44; refine (spec_CodOk _ _ _ _ _ _ _).mono ?_; rintro e w1 ⟨rfl, f1⟩; rw [hs]; have B := Lib.hid ((Box.new _ _ d a b f n _).fr f1); have F := Lib.hid (Fr.trans (Fr.alloc _ _) f1); obtain ⟨c0, c1, c2, c3, c4, c5⟩ := B.out; clear f1)
    | (go_at_call 49; refine (spec_l3Names _).mono ?_; rintro e w2 ⟨rfl, hN, f2⟩; replace B := Lib.hid (B.out.fr f2); replace F := Lib.hid (F.out.trans f2); clear c0 c1 c2 c3 c4 c5 f2; obtain ⟨c0, c1, c2, c3, c4, c5⟩ := B.out; have NA := hN.ks k.toNat (by omega); rw [HNM.out] at NA; clear hN)
    | (go_at_call 45; refine (spec_l2Has _ HK.out _).mono ?_; rintro e w3 ⟨rfl, rfl⟩; rw [e0, e1, e2])
    | (go_at_call 33; refine (spec_l3Plain _ (by omega) (by omega) _).mono ?_; rintro e w4 ⟨rfl, f4⟩; replace B := Lib.hid (B.out.fr f4); replace F := Lib.hid (F.out.trans f4); clear c0 c1 c2 c3 c4 c5 f4; obtain ⟨c0, c1, c2, c3, c4, c5⟩ := B.out))
  go_ret
  refine ⟨?_, F.out⟩
  simp only [bs_blank, bs_blankr, bs_app]
  simp [List.append_assoc]

set_option maxRecDepth 4000 in
set_option maxHeartbeats 1000000 in
theorem spec_CodText_abn (k d a b f n : Int) (hk : 0 ≤ k ∧ k < 16) (kz : ¬ k = 0) (e0 : hD k = false) (e1 : hA k = true) (e2 : hB k = true) (e3 : 0 < hN k) (e4 : (¬ k = 14 ∧ ¬ k = 15)) (bd : -256 ≤ d ∧ d ≤ 511) (ba : -256 ≤ a ∧ a ≤ 511) (bb : -256 ≤ b ∧ b ≤ 511) (bf : -256 ≤ f ∧ f ≤ 511) (bn : -256 ≤ n ∧ n ≤ 511) (hs : sok k d a b f n = true) (w : World) :
    Calls Tryz.prog 32 #[.agg #[.int .i64 k, .int .i64 d, .int .i64 a, .int .i64 b, .int .i64 f, .int .i64 n]] w fun e w' => e = .returned (.string (bs ((((nmK.getD k.toNat []) ++ (32 :: 114 :: Lib.itoa a)) ++ (32 :: 114 :: Lib.itoa b)) ++ (32 :: Lib.itoa n)))) ∧ Fr w w' := by
  have HK := Lib.hid hk
  have k0 : 0 ≤ k := hk.1
  have k1 : k < 16 := hk.2
  clear hk
  have n14 : (k == 14) = false := by simp [e4.1]
  have n15 : (k == 15) = false := by simp [e4.2]
  obtain ⟨bd0, bd1⟩ := bd
  obtain ⟨ba0, ba1⟩ := ba
  obtain ⟨bb0, bb1⟩ := bb
  obtain ⟨bf0, bf1⟩ := bf
  obtain ⟨bn0, bn1⟩ := bn
  have NL : (nmK.getD k.toNat []).length ≤ 4 := nmK_lens _ (by omega)
  generalize HNM : nmK.getD k.toNat [] = N at NL ⊢
  replace HNM := Lib.hid HNM
  have la := itoa_len4 ba0 ba1
  have lb := itoa_len4 bb0 bb1
  have ln := itoa_len4 bn0 bn1
  go_enter Tryz.func32, Tryz.ntmps32
  go_wp2_with (first
    | (go_at_call 44; refine (spec_CodOk _ _ _ _ _ _ _).mono ?_; rintro e w1 ⟨rfl, f1⟩; rw [hs]; have B := Lib.hid ((Box.new _ _ d a b f n _).fr f1); have F := Lib.hid (Fr.trans (Fr.alloc _ _) f1); obtain ⟨c0, c1, c2, c3, c4, c5⟩ := B.out; clear f1)
    | (go_at_call 49; refine (spec_l3Names _).mono ?_; rintro e w2 ⟨rfl, hN, f2⟩; replace B := Lib.hid (B.out.fr f2); replace F := Lib.hid (F.out.trans f2); clear c0 c1 c2 c3 c4 c5 f2; obtain ⟨c0, c1, c2, c3, c4, c5⟩ := B.out; have NA := hN.ks k.toNat (by omega); rw [HNM.out] at NA; clear hN)
    | (go_at_call 45; refine (spec_l2Has _ HK.out _).mono ?_; rintro e w3 ⟨rfl, rfl⟩; rw [e0, e1, e2])
    | (go_at_call 33; refine (spec_l3Plain _ (by omega) (by omega) _).mono ?_; rintro e w4 ⟨rfl, f4⟩; replace B := Lib.hid (B.out.fr f4); replace F := Lib.hid (F.out.trans f4); clear c0 c1 c2 c3 c4 c5 f4; obtain ⟨c0, c1, c2, c3, c4, c5⟩ := B.out))
  go_ret
  refine ⟨?_, F.out⟩
  simp only [bs_blank, bs_blankr, bs_app]
  simp [List.append_assoc]

set_option maxRecDepth 4000 in
set_option maxHeartbeats 1000000 in
theorem spec_CodText_none (k d a b f n : Int) (hk : 0 ≤ k ∧ k < 16) (kz : ¬ k = 0) (e0 : hD k = false) (e1 : hA k = false) (e2 : hB k = false) (e3 : hN k = 0) (e4 : (¬ k = 14 ∧ ¬ k = 15)) (bd : -256 ≤ d ∧ d ≤ 511) (ba : -256 ≤ a ∧ a ≤ 511) (bb : -256 ≤ b ∧ b ≤ 511) (bf : -256 ≤ f ∧ f ≤ 511) (bn : -256 ≤ n ∧ n ≤ 511) (hs : sok k d a b f n = true) (w : World) :
    Calls Tryz.prog 32 #[.agg #[.int .i64 k, .int .i64 d, .int .i64 a, .int .i64 b, .int .i64 f, .int .i64 n]] w fun e w' => e = .returned (.string (bs (nmK.getD k.toNat []))) ∧ Fr w w' := by
  have HK := Lib.hid hk
  have k0 : 0 ≤ k := hk.1
  have k1 : k < 16 := hk.2
  clear hk
  have n14 : (k == 14) = false := by simp [e4.1]
  have n15 : (k == 15) = false := by simp [e4.2]
  obtain ⟨bd0, bd1⟩ := bd
  obtain ⟨ba0, ba1⟩ := ba
  obtain ⟨bb0, bb1⟩ := bb
  obtain ⟨bf0, bf1⟩ := bf
  obtain ⟨bn0, bn1⟩ := bn
  have NL : (nmK.getD k.toNat []).length ≤ 4 := nmK_lens _ (by omega)
  generalize HNM : nmK.getD k.toNat [] = N at NL ⊢
  replace HNM := Lib.hid HNM
  go_enter Tryz.func32, Tryz.ntmps32
  go_wp2_with (first
    | (go_at_call 44; refine (spec_CodOk _ _ _ _ _ _ _).mono ?_; rintro e w1 ⟨rfl, f1⟩; rw [hs]; have B := Lib.hid ((Box.new _ _ d a b f n _).fr f1); have F := Lib.hid (Fr.trans (Fr.alloc _ _) f1); obtain ⟨c0, c1, c2, c3, c4, c5⟩ := B.out; clear f1)
    | (go_at_call 49; refine (spec_l3Names _).mono ?_; rintro e w2 ⟨rfl, hN, f2⟩; replace B := Lib.hid (B.out.fr f2); replace F := Lib.hid (F.out.trans f2); clear c0 c1 c2 c3 c4 c5 f2; obtain ⟨c0, c1, c2, c3, c4, c5⟩ := B.out; have NA := hN.ks k.toNat (by omega); rw [HNM.out] at NA; clear hN)
    | (go_at_call 45; refine (spec_l2Has _ HK.out _).mono ?_; rintro e w3 ⟨rfl, rfl⟩; rw [e0, e1, e2])
    | (go_at_call 33; refine (spec_l3Plain _ (by omega) (by omega) _).mono ?_; rintro e w4 ⟨rfl, f4⟩; replace B := Lib.hid (B.out.fr f4); replace F := Lib.hid (F.out.trans f4); clear c0 c1 c2 c3 c4 c5 f4; obtain ⟨c0, c1, c2, c3, c4, c5⟩ := B.out))
  go_ret
  refine ⟨?_, F.out⟩
  rfl

set_option maxRecDepth 4000 in
set_option maxHeartbeats 1000000 in
theorem spec_CodText_n (k d a b f n : Int) (hk : 0 ≤ k ∧ k < 16) (kz : ¬ k = 0) (e0 : hD k = false) (e1 : hA k = false) (e2 : hB k = false) (e3 : 0 < hN k) (e4 : (¬ k = 14 ∧ ¬ k = 15)) (bd : -256 ≤ d ∧ d ≤ 511) (ba : -256 ≤ a ∧ a ≤ 511) (bb : -256 ≤ b ∧ b ≤ 511) (bf : -256 ≤ f ∧ f ≤ 511) (bn : -256 ≤ n ∧ n ≤ 511) (hs : sok k d a b f n = true) (w : World) :
    Calls Tryz.prog 32 #[.agg #[.int .i64 k, .int .i64 d, .int .i64 a, .int .i64 b, .int .i64 f, .int .i64 n]] w fun e w' => e = .returned (.string (bs ((nmK.getD k.toNat []) ++ (32 :: Lib.itoa n)))) ∧ Fr w w' := by
  have HK := Lib.hid hk
  have k0 : 0 ≤ k := hk.1
  have k1 : k < 16 := hk.2
  clear hk
  have n14 : (k == 14) = false := by simp [e4.1]
  have n15 : (k == 15) = false := by simp [e4.2]
  obtain ⟨bd0, bd1⟩ := bd
  obtain ⟨ba0, ba1⟩ := ba
  obtain ⟨bb0, bb1⟩ := bb
  obtain ⟨bf0, bf1⟩ := bf
  obtain ⟨bn0, bn1⟩ := bn
  have NL : (nmK.getD k.toNat []).length ≤ 4 := nmK_lens _ (by omega)
  generalize HNM : nmK.getD k.toNat [] = N at NL ⊢
  replace HNM := Lib.hid HNM
  have ln := itoa_len4 bn0 bn1
  go_enter Tryz.func32, Tryz.ntmps32
  go_wp2_with (first
    | (go_at_call 44; refine (spec_CodOk _ _ _ _ _ _ _).mono ?_; rintro e w1 ⟨rfl, f1⟩; rw [hs]; have B := Lib.hid ((Box.new _ _ d a b f n _).fr f1); have F := Lib.hid (Fr.trans (Fr.alloc _ _) f1); obtain ⟨c0, c1, c2, c3, c4, c5⟩ := B.out; clear f1)
    | (go_at_call 49; refine (spec_l3Names _).mono ?_; rintro e w2 ⟨rfl, hN, f2⟩; replace B := Lib.hid (B.out.fr f2); replace F := Lib.hid (F.out.trans f2); clear c0 c1 c2 c3 c4 c5 f2; obtain ⟨c0, c1, c2, c3, c4, c5⟩ := B.out; have NA := hN.ks k.toNat (by omega); rw [HNM.out] at NA; clear hN)
    | (go_at_call 45; refine (spec_l2Has _ HK.out _).mono ?_; rintro e w3 ⟨rfl, rfl⟩; rw [e0, e1, e2])
    | (go_at_call 33; refine (spec_l3Plain _ (by omega) (by omega) _).mono ?_; rintro e w4 ⟨rfl, f4⟩; replace B := Lib.hid (B.out.fr f4); replace F := Lib.hid (F.out.trans f4); clear c0 c1 c2 c3 c4 c5 f4; obtain ⟨c0, c1, c2, c3, c4, c5⟩ := B.out))
  go_ret
  refine ⟨?_, F.out⟩
  simp only [bs_blank, bs_app]
  simp [List.append_assoc]

set_option maxRecDepth 4000 in
set_option maxHeartbeats 1000000 in
theorem spec_CodText_dc (k d a b f n : Int) (hk : 0 ≤ k ∧ k < 16) (kz : k = 14) (e0 : hD k = true) (e1 : hA k = false) (e2 : hB k = false) (e3 : hN k = 0) (e4 : (k = 14 ∨ k = 15)) (bd : -256 ≤ d ∧ d ≤ 511) (ba : -256 ≤ a ∧ a ≤ 511) (bb : -256 ≤ b ∧ b ≤ 511) (bf : -256 ≤ f ∧ f ≤ 511) (bn : -256 ≤ n ∧ n ≤ 511) (hs : sok k d a b f n = true) (w : World) :
    Calls Tryz.prog 32 #[.agg #[.int .i64 k, .int .i64 d, .int .i64 a, .int .i64 b, .int .i64 f, .int .i64 n]] w fun e w' => e = .returned (.string (bs (((nmK.getD k.toNat []) ++ (32 :: 114 :: Lib.itoa d)) ++ (32 :: Lib.itoa f)))) ∧ Fr w w' := by
  have HK := Lib.hid hk
  have k0 : 0 ≤ k := hk.1
  have k1 : k < 16 := hk.2
  clear hk
  subst kz
  obtain ⟨bd0, bd1⟩ := bd
  obtain ⟨ba0, ba1⟩ := ba
  obtain ⟨bb0, bb1⟩ := bb
  obtain ⟨bf0, bf1⟩ := bf
  obtain ⟨bn0, bn1⟩ := bn
  have NL : (nmK.getD (14 : Int).toNat []).length ≤ 4 := nmK_lens _ (by omega)
  generalize HNM : nmK.getD (14 : Int).toNat [] = N at NL ⊢
  replace HNM := Lib.hid HNM
  have ld := itoa_len4 bd0 bd1
  have lf := itoa_len4 bf0 bf1
  go_enter Tryz.func32, Tryz.ntmps32
  go_wp2_with (first
    | (go_at_call 44; refine (spec_CodOk _ _ _ _ _ _ _).mono ?_; rintro e w1 ⟨rfl, f1⟩; rw [hs]; have B := Lib.hid ((Box.new _ _ d a b f n _).fr f1); have F := Lib.hid (Fr.trans (Fr.alloc _ _) f1); obtain ⟨c0, c1, c2, c3, c4, c5⟩ := B.out; clear f1)
    | (go_at_call 49; refine (spec_l3Names _).mono ?_; rintro e w2 ⟨rfl, hN, f2⟩; replace B := Lib.hid (B.out.fr f2); replace F := Lib.hid (F.out.trans f2); clear c0 c1 c2 c3 c4 c5 f2; obtain ⟨c0, c1, c2, c3, c4, c5⟩ := B.out; have NA := hN.ks 14 (by omega); rw [show nmK.getD 14 [] = N from HNM.out] at NA; clear hN)
    | (go_at_call 45; refine (spec_l2Has _ HK.out _).mono ?_; rintro e w3 ⟨rfl, rfl⟩; rw [e0, e1, e2])
    | (go_at_call 33; refine (spec_l3Plain _ (by omega) (by omega) _).mono ?_; rintro e w4 ⟨rfl, f4⟩; replace B := Lib.hid (B.out.fr f4); replace F := Lib.hid (F.out.trans f4); clear c0 c1 c2 c3 c4 c5 f4; obtain ⟨c0, c1, c2, c3, c4, c5⟩ := B.out))
  go_ret
  refine ⟨?_, F.out⟩
  simp only [bs_blank, bs_blankr, bs_app]
  simp [List.append_assoc]

set_option maxRecDepth 4000 in
set_option maxHeartbeats 1000000 in
theorem spec_CodText_ac (k d a b f n : Int) (hk : 0 ≤ k ∧ k < 16) (kz : k = 15) (e0 : hD k = false) (e1 : hA k = true) (e2 : hB k = false) (e3 : hN k = 0) (e4 : (k = 14 ∨ k = 15)) (bd : -256 ≤ d ∧ d ≤ 511) (ba : -256 ≤ a ∧ a ≤ 511) (bb : -256 ≤ b ∧ b ≤ 511) (bf : -256 ≤ f ∧ f ≤ 511) (bn : -256 ≤ n ∧ n ≤ 511) (hs : sok k d a b f n = true) (w : World) :
    Calls Tryz.prog 32 #[.agg #[.int .i64 k, .int .i64 d, .int .i64 a, .int .i64 b, .int .i64 f, .int .i64 n]] w fun e w' => e = .returned (.string (bs (((nmK.getD k.toNat []) ++ (32 :: 114 :: Lib.itoa a)) ++ (32 :: Lib.itoa f)))) ∧ Fr w w' := by
  have HK := Lib.hid hk
  have k0 : 0 ≤ k := hk.1
  have k1 : k < 16 := hk.2
  clear hk
  subst kz
  obtain ⟨bd0, bd1⟩ := bd
  obtain ⟨ba0, ba1⟩ := ba
  obtain ⟨bb0, bb1⟩ := bb
  obtain ⟨bf0, bf1⟩ := bf
  obtain ⟨bn0, bn1⟩ := bn
  have NL : (nmK.getD (15 : Int).toNat []).length ≤ 4 := nmK_lens _ (by omega)
  generalize HNM : nmK.getD (15 : Int).toNat [] = N at NL ⊢
  replace HNM := Lib.hid HNM
  have la := itoa_len4 ba0 ba1
  have lf := itoa_len4 bf0 bf1
  go_enter Tryz.func32, Tryz.ntmps32
  go_wp2_with (first
    | (go_at_call 44; refine (spec_CodOk _ _ _ _ _ _ _).mono ?_; rintro e w1 ⟨rfl, f1⟩; rw [hs]; have B := Lib.hid ((Box.new _ _ d a b f n _).fr f1); have F := Lib.hid (Fr.trans (Fr.alloc _ _) f1); obtain ⟨c0, c1, c2, c3, c4, c5⟩ := B.out; clear f1)
    | (go_at_call 49; refine (spec_l3Names _).mono ?_; rintro e w2 ⟨rfl, hN, f2⟩; replace B := Lib.hid (B.out.fr f2); replace F := Lib.hid (F.out.trans f2); clear c0 c1 c2 c3 c4 c5 f2; obtain ⟨c0, c1, c2, c3, c4, c5⟩ := B.out; have NA := hN.ks 15 (by omega); rw [show nmK.getD 15 [] = N from HNM.out] at NA; clear hN)
    | (go_at_call 45; refine (spec_l2Has _ HK.out _).mono ?_; rintro e w3 ⟨rfl, rfl⟩; rw [e0, e1, e2])
    | (go_at_call 33; refine (spec_l3Plain _ (by omega) (by omega) _).mono ?_; rintro e w4 ⟨rfl, f4⟩; replace B := Lib.hid (B.out.fr f4); replace F := Lib.hid (F.out.trans f4); clear c0 c1 c2 c3 c4 c5 f4; obtain ⟨c0, c1, c2, c3, c4, c5⟩ := B.out))
  go_ret
  refine ⟨?_, F.out⟩
  simp only [bs_blank, bs_blankr, bs_app]
  simp [List.append_assoc]

set_option maxRecDepth 4000 in
set_option maxHeartbeats 1000000 in
theorem spec_CodText_dab0 (k d a b f n : Int) (hk : 0 ≤ k ∧ k < 16) (kz : k = 0) (hf : 0 ≤ f ∧ f < 8) (e0 : hD k = true) (e1 : hA k = true) (e2 : hB k = true) (e3 : hN k = 0) (e4 : (¬ k = 14 ∧ ¬ k = 15)) (bd : -256 ≤ d ∧ d ≤ 511) (ba : -256 ≤ a ∧ a ≤ 511) (bb : -256 ≤ b ∧ b ≤ 511) (bf : -256 ≤ f ∧ f ≤ 511) (bn : -256 ≤ n ∧ n ≤ 511) (hs : sok k d a b f n = true) (w : World) :
    Calls Tryz.prog 32 #[.agg #[.int .i64 k, .int .i64 d, .int .i64 a, .int .i64 b, .int .i64 f, .int .i64 n]] w fun e w' => e = .returned (.string (bs ((((nmL.getD f.toNat []) ++ (32 :: 114 :: Lib.itoa d)) ++ (32 :: 114 :: Lib.itoa a)) ++ (32 :: 114 :: Lib.itoa b)))) ∧ Fr w w' := by
  have HK := Lib.hid hk
  have k0 : 0 ≤ k := hk.1
  have k1 : k < 16 := hk.2
  clear hk
  subst kz
  obtain ⟨f0, f8⟩ := hf
  obtain ⟨bd0, bd1⟩ := bd
  obtain ⟨ba0, ba1⟩ := ba
  obtain ⟨bb0, bb1⟩ := bb
  obtain ⟨bf0, bf1⟩ := bf
  obtain ⟨bn0, bn1⟩ := bn
  have NL : (nmL.getD f.toNat []).length ≤ 4 := nm_lens _ (by omega)
  generalize HNM : nmL.getD f.toNat [] = N at NL ⊢
  replace HNM := Lib.hid HNM
  have ld := itoa_len4 bd0 bd1
  have la := itoa_len4 ba0 ba1
  have lb := itoa_len4 bb0 bb1
  go_enter Tryz.func32, Tryz.ntmps32
  go_wp2_with (first
    | (go_at_call 44; refine (spec_CodOk _ _ _ _ _ _ _).mono ?_; rintro e w1 ⟨rfl, f1⟩; rw [hs]; have B := Lib.hid ((Box.new _ _ d a b f n _).fr f1); have F := Lib.hid (Fr.trans (Fr.alloc _ _) f1); obtain ⟨c0, c1, c2, c3, c4, c5⟩ := B.out; clear f1)
    | (go_at_call 49; refine (spec_l3Names _).mono ?_; rintro e w2 ⟨rfl, hN, f2⟩; replace B := Lib.hid (B.out.fr f2); replace F := Lib.hid (F.out.trans f2); clear c0 c1 c2 c3 c4 c5 f2; obtain ⟨c0, c1, c2, c3, c4, c5⟩ := B.out; have NA := hN.al f.toNat (by omega); have NA0 := hN.ks 0 (by omega); rw [HNM.out] at NA; clear hN)
    | (go_at_call 45; refine (spec_l2Has _ HK.out _).mono ?_; rintro e w3 ⟨rfl, rfl⟩; rw [e0, e1, e2])
    | (go_at_call 33; refine (spec_l3Plain _ (by omega) (by omega) _).mono ?_; rintro e w4 ⟨rfl, f4⟩; replace B := Lib.hid (B.out.fr f4); replace F := Lib.hid (F.out.trans f4); clear c0 c1 c2 c3 c4 c5 f4; obtain ⟨c0, c1, c2, c3, c4, c5⟩ := B.out))
  go_ret
  refine ⟨?_, F.out⟩
  simp only [bs_blankr, bs_app]
  simp [List.append_assoc]

theorem spec_CodText_ok (k d a b f n : Int) (h : iok k d a b f n = true) (w : World) : Calls Tryz.prog 32 #[.agg #[.int .i64 k, .int .i64 d, .int .i64 a, .int .i64 b, .int .i64 f, .int .i64 n]] w fun e w' => e = .returned (.string (bs (txt k d a b f n))) ∧ Fr w w' := by
  obtain ⟨hk, hd, ha, hb, hf, hn⟩ := iok_parts h
  have bd := okAt_bd hk (by decide) hd
  have ba := okAt_bd hk (by decide) ha
  have bb := okAt_bd hk (by decide) hb
  have bf := okAt_bd hk (by decide) hf
  have bn := okAt_bd hk (by decide) hn
  have hs : sok k d a b f n = true := (sok_eq k d a b f n).trans h
  rcases kinds hk with rfl | rfl | rfl | rfl | rfl | rfl | rfl | rfl | rfl | rfl | rfl | rfl | rfl | rfl | rfl | rfl
  · have hf' : 0 ≤ f ∧ f < 8 := by
      simp only [okAt, decide_eq_true_eq] at hf
      have e1 : eL (layN 0 3) = 0 := rfl
      have e2 : eG (layN 0 3) = 7 := rfl
      omega
    refine (spec_CodText_dab0 0 d a b f n hk rfl hf' rfl rfl rfl (by decide) (by decide) bd ba bb bf bn hs w).mono ?_
    rintro e w' ⟨rfl, f1⟩
    exact ⟨by simp [txt, txtTo, piece, fldL, nm, nmI, show layN 0 0 = 1 from rfl, show layN 0 1 = 1 from rfl, show layN 0 2 = 1 from rfl, show layN 0 3 = 2 from rfl, show layN 0 4 = 0 from rfl], f1⟩
  · refine (spec_CodText_dan 1 d a b f n hk (by decide) rfl rfl rfl (by decide) (by decide) bd ba bb bf bn hs w).mono ?_
    rintro e w' ⟨rfl, f1⟩
    exact ⟨by rw [show nmK.getD (1 : Int).toNat [] = nm 1 f from nm_k hk (by decide)]; simp [txt, txtTo, piece, fldL, show layN 1 0 = 1 from rfl, show layN 1 1 = 1 from rfl, show layN 1 2 = 0 from rfl, show layN 1 3 = 0 from rfl, show layN 1 4 = 4 from rfl], f1⟩
  · refine (spec_CodText_dn 2 d a b f n hk (by decide) rfl rfl rfl (by decide) (by decide) bd ba bb bf bn hs w).mono ?_
    rintro e w' ⟨rfl, f1⟩
    exact ⟨by rw [show nmK.getD (2 : Int).toNat [] = nm 2 f from nm_k hk (by decide)]; simp [txt, txtTo, piece, fldL, show layN 2 0 = 1 from rfl, show layN 2 1 = 0 from rfl, show layN 2 2 = 0 from rfl, show layN 2 3 = 0 from rfl, show layN 2 4 = 6 from rfl], f1⟩
  · refine (spec_CodText_dan 3 d a b f n hk (by decide) rfl rfl rfl (by decide) (by decide) bd ba bb bf bn hs w).mono ?_
    rintro e w' ⟨rfl, f1⟩
    exact ⟨by rw [show nmK.getD (3 : Int).toNat [] = nm 3 f from nm_k hk (by decide)]; simp [txt, txtTo, piece, fldL, show layN 3 0 = 1 from rfl, show layN 3 1 = 1 from rfl, show layN 3 2 = 0 from rfl, show layN 3 3 = 0 from rfl, show layN 3 4 = 4 from rfl], f1⟩
  · refine (spec_CodText_abn 4 d a b f n hk (by decide) rfl rfl rfl (by decide) (by decide) bd ba bb bf bn hs w).mono ?_
    rintro e w' ⟨rfl, f1⟩
    exact ⟨by rw [show nmK.getD (4 : Int).toNat [] = nm 4 f from nm_k hk (by decide)]; simp [txt, txtTo, piece, fldL, show layN 4 0 = 0 from rfl, show layN 4 1 = 1 from rfl, show layN 4 2 = 1 from rfl, show layN 4 3 = 0 from rfl, show layN 4 4 = 4 from rfl], f1⟩
  · refine (spec_CodText_abn 5 d a b f n hk (by decide) rfl rfl rfl (by decide) (by decide) bd ba bb bf bn hs w).mono ?_
    rintro e w' ⟨rfl, f1⟩
    exact ⟨by rw [show nmK.getD (5 : Int).toNat [] = nm 5 f from nm_k hk (by decide)]; simp [txt, txtTo, piece, fldL, show layN 5 0 = 0 from rfl, show layN 5 1 = 1 from rfl, show layN 5 2 = 1 from rfl, show layN 5 3 = 0 from rfl, show layN 5 4 = 4 from rfl], f1⟩
  · refine (spec_CodText_abn 6 d a b f n hk (by decide) rfl rfl rfl (by decide) (by decide) bd ba bb bf bn hs w).mono ?_
    rintro e w' ⟨rfl, f1⟩
    exact ⟨by rw [show nmK.getD (6 : Int).toNat [] = nm 6 f from nm_k hk (by decide)]; simp [txt, txtTo, piece, fldL, show layN 6 0 = 0 from rfl, show layN 6 1 = 1 from rfl, show layN 6 2 = 1 from rfl, show layN 6 3 = 0 from rfl, show layN 6 4 = 4 from rfl], f1⟩
  · refine (spec_CodText_dn 7 d a b f n hk (by decide) rfl rfl rfl (by decide) (by decide) bd ba bb bf bn hs w).mono ?_
    rintro e w' ⟨rfl, f1⟩
    exact ⟨by rw [show nmK.getD (7 : Int).toNat [] = nm 7 f from nm_k hk (by decide)]; simp [txt, txtTo, piece, fldL, show layN 7 0 = 1 from rfl, show layN 7 1 = 0 from rfl, show layN 7 2 = 0 from rfl, show layN 7 3 = 0 from rfl, show layN 7 4 = 5 from rfl], f1⟩
  · refine (spec_CodText_dan 8 d a b f n hk (by decide) rfl rfl rfl (by decide) (by decide) bd ba bb bf bn hs w).mono ?_
    rintro e w' ⟨rfl, f1⟩
    exact ⟨by rw [show nmK.getD (8 : Int).toNat [] = nm 8 f from nm_k hk (by decide)]; simp [txt, txtTo, piece, fldL, show layN 8 0 = 1 from rfl, show layN 8 1 = 1 from rfl, show layN 8 2 = 0 from rfl, show layN 8 3 = 0 from rfl, show layN 8 4 = 4 from rfl], f1⟩
  · refine (spec_CodText_dab 9 d a b f n hk (by decide) rfl rfl rfl (by decide) (by decide) bd ba bb bf bn hs w).mono ?_
    rintro e w' ⟨rfl, f1⟩
    exact ⟨by rw [show nmK.getD (9 : Int).toNat [] = nm 9 f from nm_k hk (by decide)]; simp [txt, txtTo, piece, fldL, show layN 9 0 = 1 from rfl, show layN 9 1 = 1 from rfl, show layN 9 2 = 1 from rfl, show layN 9 3 = 0 from rfl, show layN 9 4 = 0 from rfl], f1⟩
  · refine (spec_CodText_dab 10 d a b f n hk (by decide) rfl rfl rfl (by decide) (by decide) bd ba bb bf bn hs w).mono ?_
    rintro e w' ⟨rfl, f1⟩
    exact ⟨by rw [show nmK.getD (10 : Int).toNat [] = nm 10 f from nm_k hk (by decide)]; simp [txt, txtTo, piece, fldL, show layN 10 0 = 1 from rfl, show layN 10 1 = 1 from rfl, show layN 10 2 = 1 from rfl, show layN 10 3 = 0 from rfl, show layN 10 4 = 0 from rfl], f1⟩
  · refine (spec_CodText_none 11 d a b f n hk (by decide) rfl rfl rfl (by decide) (by decide) bd ba bb bf bn hs w).mono ?_
    rintro e w' ⟨rfl, f1⟩
    exact ⟨by rw [show nmK.getD (11 : Int).toNat [] = nm 11 f from nm_k hk (by decide)]; simp [txt, txtTo, piece, show layN 11 0 = 0 from rfl, show layN 11 1 = 0 from rfl, show layN 11 2 = 0 from rfl, show layN 11 3 = 0 from rfl, show layN 11 4 = 0 from rfl], f1⟩
  · refine (spec_CodText_n 12 d a b f n hk (by decide) rfl rfl rfl (by decide) (by decide) bd ba bb bf bn hs w).mono ?_
    rintro e w' ⟨rfl, f1⟩
    exact ⟨by rw [show nmK.getD (12 : Int).toNat [] = nm 12 f from nm_k hk (by decide)]; simp [txt, txtTo, piece, fldL, show layN 12 0 = 0 from rfl, show layN 12 1 = 0 from rfl, show layN 12 2 = 0 from rfl, show layN 12 3 = 0 from rfl, show layN 12 4 = 6 from rfl], f1⟩
  · refine (spec_CodText_none 13 d a b f n hk (by decide) rfl rfl rfl (by decide) (by decide) bd ba bb bf bn hs w).mono ?_
    rintro e w' ⟨rfl, f1⟩
    exact ⟨by rw [show nmK.getD (13 : Int).toNat [] = nm 13 f from nm_k hk (by decide)]; simp [txt, txtTo, piece, show layN 13 0 = 0 from rfl, show layN 13 1 = 0 from rfl, show layN 13 2 = 0 from rfl, show layN 13 3 = 0 from rfl, show layN 13 4 = 0 from rfl], f1⟩
  · refine (spec_CodText_dc 14 d a b f n hk (by decide) rfl rfl rfl (by decide) (by decide) bd ba bb bf bn hs w).mono ?_
    rintro e w' ⟨rfl, f1⟩
    exact ⟨by rw [show nmK.getD (14 : Int).toNat [] = nm 14 f from nm_k hk (by decide)]; simp [txt, txtTo, piece, fldL, show layN 14 0 = 1 from rfl, show layN 14 1 = 0 from rfl, show layN 14 2 = 0 from rfl, show layN 14 3 = 3 from rfl, show layN 14 4 = 0 from rfl], f1⟩
  · refine (spec_CodText_ac 15 d a b f n hk (by decide) rfl rfl rfl (by decide) (by decide) bd ba bb bf bn hs w).mono ?_
    rintro e w' ⟨rfl, f1⟩
    exact ⟨by rw [show nmK.getD (15 : Int).toNat [] = nm 15 f from nm_k hk (by decide)]; simp [txt, txtTo, piece, fldL, show layN 15 0 = 0 from rfl, show layN 15 1 = 1 from rfl, show layN 15 2 = 0 from rfl, show layN 15 3 = 3 from rfl, show layN 15 4 = 0 from rfl], f1⟩
theorem spec_CodText (k d a b f n : Int) (w : World) : Calls Tryz.prog 32 #[.agg #[.int .i64 k, .int .i64 d, .int .i64 a, .int .i64 b, .int .i64 f, .int .i64 n]] w fun e w' => e = .returned (.string (bs (txtD k d a b f n))) ∧ Fr w w' := by
  cases hi : iok k d a b f n
  · have hs : sok k d a b f n = false := (sok_eq k d a b f n).trans hi
    have e0 : Hid (txtD k d a b f n = []) := by show txtD k d a b f n = []; unfold txtD; rw [if_neg (by simp [hi])]
    go_enter Tryz.func32, Tryz.ntmps32
    go_wp2_with (go_at_call 44; refine (spec_CodOk _ _ _ _ _ _ _).mono ?_; rintro e w1 ⟨rfl, f1⟩; rw [hs])
    go_ret
    exact ⟨by rw [e0.out]; rfl, Fr.trans (Fr.alloc _ _) f1⟩
  · have := spec_CodText_ok k d a b f n hi w
    unfold txtD
    rw [if_pos hi]
    exact this
end Go.Proofs.YtecdmafhjfnloaaGreatDoor
