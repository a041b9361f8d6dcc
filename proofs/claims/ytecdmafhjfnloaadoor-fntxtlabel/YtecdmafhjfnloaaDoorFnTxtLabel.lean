/- For every code (any bytes), law FnTxtLabel returns true and its argument reads as before (no condition; the tables and errors read as the program's text lays them, which the card ties). -/
import Derived.Test.YtecdmafhjfnloaaDoorCards
import Derived.Test.YtecdmafhjfnloaaDoorTie
import Derived.Test.YtecdmafhjfnloaaDoorLaid3
import Derived.Test.YtecdmafhjfnloaaDoorLb
import Derived.Test.YtecdmafhjfnloaaDoorRegion2
import Derived.WalkKit
import Derived.ProofKit
import Derived.OpenShut
import Derived.ShutString
import Derived.SliceStrings
import Derived.ChangeOld
import Derived.Below
import Derived.SevenTiedAt
namespace Go.Proofs.YtecdmafhjfnloaaDoor.fnTxtLabel
open Go.ChangeShapes Go.WideShapes Go.ChangeAt Go.RowKit
set_option linter.unusedVariables false

def IsRow (k : IntKind) (w : World) (a : Option Addr) (len cap : Nat) (zs : List Int) : Prop :=
  (a = none ∧ len = 0 ∧ cap = 0 ∧ zs = []) ∨
  ∃ x, a = some x ∧ len ≤ cap ∧ cap ≤ maxLen ∧ zs.length = cap ∧ (∀ i, i < zs.length → w.cell? (x.add i) = some (.int k (zs.getD i 0))) ∧ ∀ n ∈ zs, (Lit.int k n).wf = true

set_option maxRecDepth 20000 in
set_option maxHeartbeats 8000000 in
theorem walk (a0 : Option Addr) (len0 cap0 : Nat) (z0 : List Int) (w : World) (ht : Tabs3 w) (w0 : IsRow .u8 w a0 len0 cap0 z0) :
    Calls Tryd.prog 6 #[.slice a0 len0 cap0] w fun e w' => e = .returned (.bool true) ∧ Below w.heap.size w w' := by
  have HT := Lib.hid ht
  clear ht w0 z0
  obtain ⟨i0, hi, hz0, hz1, hz2⟩ := info_parts info_str
  have hmx : maxLen = 9223372036854775807 := rfl
  go_enter Tryd.func6, Tryd.ntmps6
  by_cases hl : len0 ≤ 1048576
  · have hl' : ¬ (1048576 : Int) < (len0 : Int) := by omega
    obtain ⟨b, hb, eb⟩ : ∃ b : Nat, b < 9 ∧ (len0 : Int) % 9 = b := ⟨len0 % 9, by omega, by omega⟩
    obtain ⟨c, hc, ec⟩ : ∃ c : Nat, c < 9 ∧ (len0 : Int) / 9 % 9 = c := ⟨len0 / 9 % 9, by omega, by omega⟩
    go_wp2_with fail
    go_loopw [5, 6, 7] (fun o t i wr => ∃ p : Nat, p ≤ b ∧ i = .int .i64 p ∧ Pair2 w.heap.size wr o t ([] ++ List.replicate p wtL) ([] ++ List.replicate p wtL) ∧ Fr w wr) (fun _ _ i _ => b - (intOf i).toNat)
    case atStart => exact ⟨0, Nat.zero_le _, rfl, by simpa using pair2_start w, (Fr.alloc _ _).trans (Fr.alloc _ _)⟩
    case round =>
      obtain ⟨p, hp, rfl, hP, hF⟩ := hrel
      have P1 := Lib.hid hP
      have F1 := Lib.hid hF
      have hsz := hF.size
      clear hP hF 
      by_cases hlt : p < b
      · have hlt' : (p : Int) < (b : Int) := by omega
        go_wp2_with (first | (at_builtin; refine wpList_append_own_at _ rfl _ _ 38 rfl w.heap.size 9 i0 (.string ByteArray.empty) 1 16 Tryd.underlying38 hi hz0 hz1 hz2 rfl (by decide) _ _ _ rfl (World.ownsRow.alloc P2.out.symm.l _) _ 1 1 [.string ⟨#[119, 97, 105, 116]⟩] rfl rfl (cells_at _ [.string ⟨#[119, 97, 105, 116]⟩] _ _ (by simp)) (fun x hx => by simp at hx; rcases hx with rfl | rfl <;> rfl) (by simp; omega) (by simp; omega) (by simp; omega) ?_; intro v3 w3 hoP3 hgP3 _ hlP3; have P3 := Lib.hid (Pair2.app (N := [wtL]) (P2.out.symm.fr (Fr.alloc _ _)) rfl hoP3 hgP3 hlP3).symm; have F3 := Lib.hid (Pair2.below (P2.out.symm.fr (Fr.alloc _ _)) (Fr.trans F2.out (Fr.alloc _ _)) (by simp; omega) hgP3); have hsP3 := F3.out.size; clear hoP3 hgP3 hlP3) | (at_builtin; refine wpList_append_own_at _ rfl _ _ 38 rfl w.heap.size 9 i0 (.string ByteArray.empty) 1 16 Tryd.underlying38 hi hz0 hz1 hz2 rfl (by decide) _ _ _ rfl (World.ownsRow.alloc P1.out.l _) _ 1 1 [.string ⟨#[119, 97, 105, 116]⟩] rfl rfl (cells_at _ [.string ⟨#[119, 97, 105, 116]⟩] _ _ (by simp)) (fun x hx => by simp at hx; rcases hx with rfl | rfl <;> rfl) (by simp; omega) (by simp; omega) (by simp; omega) ?_; intro v2 w2 hoP2 hgP2 _ hlP2; have P2 := Lib.hid (Pair2.app (N := [wtL]) (P1.out.fr (Fr.alloc _ _)) rfl hoP2 hgP2 hlP2); have F2 := Lib.hid (Pair2.below (P1.out.fr (Fr.alloc _ _)) (Fr.trans F1.out (Fr.alloc _ _)) (by simp; omega) hgP2); have hsP2 := F2.out.size; clear hoP2 hgP2 hlP2))
        go_roundw
        case rel => exact ⟨p + 1, by omega, by go_num, by simp only [rep_snoc]; exact P3.out, F3.out⟩
        case measure => simp [intOf]; omega
      · have hge : ¬ (p : Int) < (b : Int) := by omega
        obtain rfl : p = b := by omega
        go_wp2_with (first | (at_builtin; refine wpList_append_own_at _ rfl _ _ 38 rfl w.heap.size 9 i0 (.string ByteArray.empty) 1 16 Tryd.underlying38 hi hz0 hz1 hz2 rfl (by decide) _ _ _ rfl (World.ownsRow.alloc P2.out.symm.l _) _ 1 1 [.string ⟨#[97, 100, 100, 32, 114, 49, 32, 114, 50, 32, 114, 51]⟩] rfl rfl (cells_at _ [.string ⟨#[97, 100, 100, 32, 114, 49, 32, 114, 50, 32, 114, 51]⟩] _ _ (by simp)) (fun x hx => by simp at hx; rcases hx with rfl | rfl <;> rfl) (by simp; omega) (by simp; omega) (by simp; omega) ?_; intro v3 w3 hoP3 hgP3 _ hlP3; have P3 := Lib.hid (Pair2.app (N := [adL]) (P2.out.symm.fr (Fr.alloc _ _)) rfl hoP3 hgP3 hlP3).symm; have F3 := Lib.hid (Pair2.below (P2.out.symm.fr (Fr.alloc _ _)) (Fr.trans F2.out (Fr.alloc _ _)) (by simp; omega) hgP3); have hsP3 := F3.out.size; clear hoP3 hgP3 hlP3) | (at_builtin; refine wpList_append_own_at _ rfl _ _ 38 rfl w.heap.size 9 i0 (.string ByteArray.empty) 1 16 Tryd.underlying38 hi hz0 hz1 hz2 rfl (by decide) _ _ _ rfl (World.ownsRow.alloc P1.out.l _) _ 2 2 [.string ⟨#[104, 101, 114, 101, 58]⟩, .string ⟨#[97, 100, 100, 32, 114, 49, 32, 114, 50, 32, 114, 51]⟩] rfl rfl (cells_at _ [.string ⟨#[104, 101, 114, 101, 58]⟩, .string ⟨#[97, 100, 100, 32, 114, 49, 32, 114, 50, 32, 114, 51]⟩] _ _ (by simp)) (fun x hx => by simp at hx; rcases hx with rfl | rfl <;> rfl) (by simp; omega) (by simp; omega) (by simp; omega) ?_; intro v2 w2 hoP2 hgP2 _ hlP2; have P2 := Lib.hid (Pair2.app (N := [hrL, adL]) (P1.out.fr (Fr.alloc _ _)) rfl hoP2 hgP2 hlP2); have F2 := Lib.hid (Pair2.below (P1.out.fr (Fr.alloc _ _)) (Fr.trans F1.out (Fr.alloc _ _)) (by simp; omega) hgP2); have hsP2 := F2.out.size; clear hoP2 hgP2 hlP2))
        clear P1 P2 F1 F2 hsz hsP2
        have hsz := hsP3
        clear hsP3
        go_loopw [5, 6, 8] (fun o t i wr => ∃ q : Nat, q ≤ c ∧ i = .int .i64 q ∧ Pair2 w.heap.size wr o t (([] ++ List.replicate p wtL ++ [hrL, adL]) ++ List.replicate q w7L) (([] ++ List.replicate p wtL ++ [adL]) ++ List.replicate q w7L) ∧ Fr w wr) (fun _ _ i _ => c - (intOf i).toNat)
        case atStart => exact ⟨0, Nat.zero_le _, rfl, by simpa only [List.replicate_zero, List.append_nil] using P3.out, F3.out⟩
        case round =>
          obtain ⟨q, hq, rfl, hP, hF⟩ := hrel
          have P1 := Lib.hid hP
          have F1 := Lib.hid hF
          have hsz := hF.size
          clear hP hF 
          by_cases hlt : q < c
          · have hlt' : (q : Int) < (c : Int) := by omega
            go_wp2_with (first | (at_builtin; refine wpList_append_own_at _ rfl _ _ 38 rfl w.heap.size 9 i0 (.string ByteArray.empty) 1 16 Tryd.underlying38 hi hz0 hz1 hz2 rfl (by decide) _ _ _ rfl (World.ownsRow.alloc P2.out.symm.l _) _ 1 1 [.string ⟨#[119, 111, 114, 100, 32, 55]⟩] rfl rfl (cells_at _ [.string ⟨#[119, 111, 114, 100, 32, 55]⟩] _ _ (by simp)) (fun x hx => by simp at hx; rcases hx with rfl | rfl <;> rfl) (by simp; omega) (by simp; omega) (by simp; omega) ?_; intro v3 w3 hoP3 hgP3 _ hlP3; have P3 := Lib.hid (Pair2.app (N := [w7L]) (P2.out.symm.fr (Fr.alloc _ _)) rfl hoP3 hgP3 hlP3).symm; have F3 := Lib.hid (Pair2.below (P2.out.symm.fr (Fr.alloc _ _)) (Fr.trans F2.out (Fr.alloc _ _)) (by simp; omega) hgP3); have hsP3 := F3.out.size; clear hoP3 hgP3 hlP3) | (at_builtin; refine wpList_append_own_at _ rfl _ _ 38 rfl w.heap.size 9 i0 (.string ByteArray.empty) 1 16 Tryd.underlying38 hi hz0 hz1 hz2 rfl (by decide) _ _ _ rfl (World.ownsRow.alloc P1.out.l _) _ 1 1 [.string ⟨#[119, 111, 114, 100, 32, 55]⟩] rfl rfl (cells_at _ [.string ⟨#[119, 111, 114, 100, 32, 55]⟩] _ _ (by simp)) (fun x hx => by simp at hx; rcases hx with rfl | rfl <;> rfl) (by simp; omega) (by simp; omega) (by simp; omega) ?_; intro v2 w2 hoP2 hgP2 _ hlP2; have P2 := Lib.hid (Pair2.app (N := [w7L]) (P1.out.fr (Fr.alloc _ _)) rfl hoP2 hgP2 hlP2); have F2 := Lib.hid (Pair2.below (P1.out.fr (Fr.alloc _ _)) (Fr.trans F1.out (Fr.alloc _ _)) (by simp; omega) hgP2); have hsP2 := F2.out.size; clear hoP2 hgP2 hlP2))
            go_roundw
            case rel => exact ⟨q + 1, by omega, by go_num, by simp only [rep_snoc]; exact P3.out, F3.out⟩
            case measure => simp [intOf]; omega
          · have hge : ¬ (q : Int) < (c : Int) := by omega
            obtain rfl : q = c := by omega
            go_wp2_with (at_builtin; refine wpList_append_own_at _ rfl _ _ 38 rfl w.heap.size 9 i0 (.string ByteArray.empty) 1 16 Tryd.underlying38 hi hz0 hz1 hz2 rfl (by decide) _ _ _ rfl (World.ownsRow.alloc P1.out.l _) _ 2 2 [.string ⟨#[101, 113, 32, 114, 49, 32, 114, 50, 32, 104, 101, 114, 101]⟩, .string ⟨#[106, 117, 109, 112, 32, 114, 55, 32, 104, 101, 114, 101]⟩] rfl rfl (cells_at _ [.string ⟨#[101, 113, 32, 114, 49, 32, 114, 50, 32, 104, 101, 114, 101]⟩, .string ⟨#[106, 117, 109, 112, 32, 114, 55, 32, 104, 101, 114, 101]⟩] _ _ (by simp)) (fun x hx => by simp at hx; rcases hx with rfl | rfl <;> rfl) (by simp; omega) (by simp; omega) (by simp; omega) ?_; intro v2 w2 hoP2 hgP2 _ hlP2; have P2 := Lib.hid (Pair2.app (N := [ehL, jhL]) (P1.out.fr (Fr.alloc _ _)) rfl hoP2 hgP2 hlP2); have F2 := Lib.hid (Pair2.below (P1.out.fr (Fr.alloc _ _)) (Fr.trans F1.out (Fr.alloc _ _)) (by simp; omega) hgP2); have hsP2 := F2.out.size; clear hoP2 hgP2 hlP2)
            have L2 := Lib.hid (m2_len q hc)
            clear P1 P3 F1 F3
            have hM : 0 < ([] ++ List.replicate p wtL ++ [adL] ++ List.replicate q w7L).length := by simp; omega
            have hLM : ([] ++ List.replicate p wtL ++ [adL] ++ List.replicate q w7L).length ≤ 30 := by simp; omega
            generalize hMM : [] ++ List.replicate p wtL ++ [adL] ++ List.replicate q w7L = MM at P2 hM hLM
            generalize hLL : [] ++ List.replicate p wtL ++ [hrL, adL] ++ List.replicate q w7L ++ [ehL, jhL] = LL at P2
            have hq9 : q < 9 := hc
            have hqI : (q : Int) < 9 := by omega
            have L2a := L2.out.1
            have L2b := L2.out.2
            refine wp_region_mix 99 13 6 (by kernel_rfl) (lbW w w2) (lbSF w.heap.size w2.heap.size q u6 v2 LL MM) (by kernel_rfl) (by kernel_rfl) rfl (by kernel_rfl) ⟨fun _ => Below.drew (Below.refl _ _), Below.drew F2.out, Nat.le_refl _⟩ ?step ?fin
            case step =>
              intro i o ho
              rcases i with _ | _ | _ | _ | _ | _ | _ | _ | _ | _ | _ | _ | _ | _ | i
              · cases ho
                intro lf act u hW hl0 hK1 hL hK2 hdep
                have hwu : w.heap.size ≤ u.heap.size := hW.2.1.size
                obtain ⟨y, ha, hy⟩ := hL.puts [56, 57, 58, 59, 60, 61, 62, 63, 64, 65, 66, 67, 68, 6] (by kernel_rfl)
                have e6 : y 6 = u6 := (hy 6).symm.trans (hK2 (by decide))
                simp only [List.foldl, List.setIfInBounds_toArray, List.set_cons_succ, List.set_cons_zero, e6] at ha
                subst ha
                clear hdep hL hy hK2
                refine wpOp_step rfl (fun K hK => ?_)
                go_simp
                exact hK _ _ ⟨_, rfl, rfl, fun _ _ _ _ h => h, hW.step (Below.refl _ _) (by decide) hwu⟩
              · cases ho
                intro lf act u hW hl0 hK1 hL hK2 hdep
                have hwu : w.heap.size ≤ u.heap.size := hW.2.1.size
                obtain ⟨y, ha, hy⟩ := hL.puts [56, 57, 58, 59, 60, 61, 62, 63, 64, 65, 66, 67, 68, 6] (by kernel_rfl)
                simp only [List.foldl, List.setIfInBounds_toArray, List.set_cons_succ, List.set_cons_zero] at ha
                subst ha
                clear hdep hL hy hK2
                refine wpOp_step rfl (fun K hK => ?_)
                go_simp
                exact hK _ _ ⟨_, rfl, nine_new m2L u 9 hW.2.2, fun j v' _ _ h => lbSF_fr (Fr.alloc _ _) j v' h, hW.step (Fr.alloc _ _) (by decide) hwu⟩
              · cases ho
                intro lf act u hW hl0 hK1 hL hK2 hdep
                have hwu : w.heap.size ≤ u.heap.size := hW.2.1.size
                obtain ⟨y, ha, hy⟩ := hL.puts [56, 57, 58, 59, 60, 61, 62, 63, 64, 65, 66, 67, 68, 6] (by kernel_rfl)
                simp only [List.foldl, List.setIfInBounds_toArray, List.set_cons_succ, List.set_cons_zero] at ha
                subst ha
                clear hdep hL hy hK2
                refine wpOp_step rfl (fun K hK => ?_)
                go_simp
                exact hK _ _ ⟨_, rfl, rfl, fun _ _ _ _ h => h, hW.step (Below.refl _ _) (by decide) hwu⟩
              · cases ho
                intro lf act u hW hl0 hK1 hL hK2 hdep
                have hwu : w.heap.size ≤ u.heap.size := hW.2.1.size
                have d1 : lbSF w.heap.size w2.heap.size q u6 v2 LL MM 1 _ u := hdep { on := 1, ground := .data } (by simp) rfl _ rfl
                have d2 : lbSF w.heap.size w2.heap.size q u6 v2 LL MM 2 _ u := hdep { on := 2, ground := .data } (by simp) rfl _ rfl
                obtain ⟨y, ha, hy⟩ := hL.puts [56, 57, 58, 59, 60, 61, 62, 63, 64, 65, 66, 67, 68, 6] (by kernel_rfl)
                have s1 : lbSF w.heap.size w2.heap.size q u6 v2 LL MM 1 (y 57) u := by rw [← hy 57]; exact d1
                obtain ⟨g1, e1, p1⟩ := Nine.ptr (q := q) s1 (by show q < 9; exact hq9)
                replace e1 : y 57 = .slice (some ⟨g1, 0, none⟩) 9 9 := e1
                have s2 : lbSF w.heap.size w2.heap.size q u6 v2 LL MM 2 (y 58) u := by rw [← hy 58]; exact d2
                have e2 : y 58 = _ := s2
                simp only [List.foldl, List.setIfInBounds_toArray, List.set_cons_succ, List.set_cons_zero, e1, e2] at ha
                subst ha
                clear hdep hL hy hK2 d1 d2
                refine wpOp_step rfl (fun K hK => ?_)
                go_simp
                exact hK _ _ ⟨_, rfl, p1, fun _ _ _ _ h => h, hW.step (Below.refl _ _) (by decide) hwu⟩
              · cases ho
                intro lf act u hW hl0 hK1 hL hK2 hdep
                have hwu : w.heap.size ≤ u.heap.size := hW.2.1.size
                have d3 : lbSF w.heap.size w2.heap.size q u6 v2 LL MM 3 _ u := hdep { on := 3, ground := .data } (by simp) rfl _ rfl
                obtain ⟨y, ha, hy⟩ := hL.puts [56, 57, 58, 59, 60, 61, 62, 63, 64, 65, 66, 67, 68, 6] (by kernel_rfl)
                have s3 : lbSF w.heap.size w2.heap.size q u6 v2 LL MM 3 (y 59) u := by rw [← hy 59]; exact d3
                obtain ⟨g3, e3, _, lt3, c3⟩ := s3
                simp only [List.foldl, List.setIfInBounds_toArray, List.set_cons_succ, List.set_cons_zero, e3] at ha
                subst ha
                clear hdep hL hy hK2 d3
                refine wpOp_step rfl (fun K hK => ?_)
                go_simp
                exact hK _ _ ⟨_, rfl, rfl, fun _ _ _ _ h => h, hW.step (Below.refl _ _) (by decide) hwu⟩
              · cases ho
                intro lf act u hW hl0 hK1 hL hK2 hdep
                have hwu : w.heap.size ≤ u.heap.size := hW.2.1.size
                have d4 : lbSF w.heap.size w2.heap.size q u6 v2 LL MM 4 _ u := hdep { on := 4, ground := .data } (by simp) rfl _ rfl
                obtain ⟨y, ha, hy⟩ := hL.puts [56, 57, 58, 59, 60, 61, 62, 63, 64, 65, 66, 67, 68, 6] (by kernel_rfl)
                have s4 : lbSF w.heap.size w2.heap.size q u6 v2 LL MM 4 (y 60) u := by rw [← hy 60]; exact d4
                have e4 : y 60 = _ := s4
                simp only [List.foldl, List.setIfInBounds_toArray, List.set_cons_succ, List.set_cons_zero, e4] at ha
                subst ha
                clear hdep hL hy hK2 d4
                obtain ⟨sA, hsA⟩ : ∃ sA, sA = m2L.getD q [] := ⟨_, rfl⟩
                have LL2 : sA.length ≤ 3 := by rw [hsA]; exact L2a
                rw [← hsA]
                replace hsA := Lib.hid hsA
                refine wpOp_step rfl (fun K hK => ?_)
                go_simp
                rw [if_neg (show ¬ 9223372036854775807 < 9 + sA.length by omega)]
                go_simp
                exact hK _ _ ⟨.string (⟨#[101, 113, 32, 114, 49, 32, 114, 50, 32]⟩ ++ bs sA), rfl, (by show Value.string (bs [101, 113, 32, 114, 49, 32, 114, 50, 32] ++ bs sA) = Value.string (bs (eqL q)); rw [bs_app, hsA.out]; rfl), fun _ _ _ _ h => h, hW.step (Below.refl _ _) (by decide) hwu⟩
              · cases ho
                intro lf act u hW hl0 hK1 hL hK2 hdep
                have hwu : w.heap.size ≤ u.heap.size := hW.2.1.size
                obtain ⟨y, ha, hy⟩ := hL.puts [56, 57, 58, 59, 60, 61, 62, 63, 64, 65, 66, 67, 68, 6] (by kernel_rfl)
                simp only [List.foldl, List.setIfInBounds_toArray, List.set_cons_succ, List.set_cons_zero] at ha
                subst ha
                clear hdep hL hy hK2
                refine wpOp_step rfl (fun K hK => ?_)
                go_simp
                exact hK _ _ ⟨_, rfl, nine_new m3L u 9 hW.2.2, fun j v' _ _ h => lbSF_fr (Fr.alloc _ _) j v' h, hW.step (Fr.alloc _ _) (by decide) hwu⟩
              · cases ho
                intro lf act u hW hl0 hK1 hL hK2 hdep
                have hwu : w.heap.size ≤ u.heap.size := hW.2.1.size
                obtain ⟨y, ha, hy⟩ := hL.puts [56, 57, 58, 59, 60, 61, 62, 63, 64, 65, 66, 67, 68, 6] (by kernel_rfl)
                simp only [List.foldl, List.setIfInBounds_toArray, List.set_cons_succ, List.set_cons_zero] at ha
                subst ha
                clear hdep hL hy hK2
                refine wpOp_step rfl (fun K hK => ?_)
                go_simp
                exact hK _ _ ⟨_, rfl, rfl, fun _ _ _ _ h => h, hW.step (Below.refl _ _) (by decide) hwu⟩
              · cases ho
                intro lf act u hW hl0 hK1 hL hK2 hdep
                have hwu : w.heap.size ≤ u.heap.size := hW.2.1.size
                have d6 : lbSF w.heap.size w2.heap.size q u6 v2 LL MM 6 _ u := hdep { on := 6, ground := .data } (by simp) rfl _ rfl
                have d7 : lbSF w.heap.size w2.heap.size q u6 v2 LL MM 7 _ u := hdep { on := 7, ground := .data } (by simp) rfl _ rfl
                obtain ⟨y, ha, hy⟩ := hL.puts [56, 57, 58, 59, 60, 61, 62, 63, 64, 65, 66, 67, 68, 6] (by kernel_rfl)
                have s6 : lbSF w.heap.size w2.heap.size q u6 v2 LL MM 6 (y 62) u := by rw [← hy 62]; exact d6
                obtain ⟨g6, e6, p6⟩ := Nine.ptr (q := q) s6 (by show q < 9; exact hq9)
                replace e6 : y 62 = .slice (some ⟨g6, 0, none⟩) 9 9 := e6
                have s7 : lbSF w.heap.size w2.heap.size q u6 v2 LL MM 7 (y 63) u := by rw [← hy 63]; exact d7
                have e7 : y 63 = _ := s7
                simp only [List.foldl, List.setIfInBounds_toArray, List.set_cons_succ, List.set_cons_zero, e6, e7] at ha
                subst ha
                clear hdep hL hy hK2 d6 d7
                refine wpOp_step rfl (fun K hK => ?_)
                go_simp
                exact hK _ _ ⟨_, rfl, p6, fun _ _ _ _ h => h, hW.step (Below.refl _ _) (by decide) hwu⟩
              · cases ho
                intro lf act u hW hl0 hK1 hL hK2 hdep
                have hwu : w.heap.size ≤ u.heap.size := hW.2.1.size
                have d8 : lbSF w.heap.size w2.heap.size q u6 v2 LL MM 8 _ u := hdep { on := 8, ground := .data } (by simp) rfl _ rfl
                obtain ⟨y, ha, hy⟩ := hL.puts [56, 57, 58, 59, 60, 61, 62, 63, 64, 65, 66, 67, 68, 6] (by kernel_rfl)
                have s8 : lbSF w.heap.size w2.heap.size q u6 v2 LL MM 8 (y 64) u := by rw [← hy 64]; exact d8
                obtain ⟨g8, e8, _, lt8, c8⟩ := s8
                simp only [List.foldl, List.setIfInBounds_toArray, List.set_cons_succ, List.set_cons_zero, e8] at ha
                subst ha
                clear hdep hL hy hK2 d8
                refine wpOp_step rfl (fun K hK => ?_)
                go_simp
                exact hK _ _ ⟨_, rfl, rfl, fun _ _ _ _ h => h, hW.step (Below.refl _ _) (by decide) hwu⟩
              · cases ho
                intro lf act u hW hl0 hK1 hL hK2 hdep
                have hwu : w.heap.size ≤ u.heap.size := hW.2.1.size
                have d9 : lbSF w.heap.size w2.heap.size q u6 v2 LL MM 9 _ u := hdep { on := 9, ground := .data } (by simp) rfl _ rfl
                obtain ⟨y, ha, hy⟩ := hL.puts [56, 57, 58, 59, 60, 61, 62, 63, 64, 65, 66, 67, 68, 6] (by kernel_rfl)
                have s9 : lbSF w.heap.size w2.heap.size q u6 v2 LL MM 9 (y 65) u := by rw [← hy 65]; exact d9
                have e9 : y 65 = _ := s9
                simp only [List.foldl, List.setIfInBounds_toArray, List.set_cons_succ, List.set_cons_zero, e9] at ha
                subst ha
                clear hdep hL hy hK2 d9
                obtain ⟨sA, hsA⟩ : ∃ sA, sA = m3L.getD q [] := ⟨_, rfl⟩
                have LL2 : sA.length ≤ 3 := by rw [hsA]; exact L2b
                rw [← hsA]
                replace hsA := Lib.hid hsA
                refine wpOp_step rfl (fun K hK => ?_)
                go_simp
                rw [if_neg (show ¬ 9223372036854775807 < 8 + sA.length by omega)]
                go_simp
                exact hK _ _ ⟨.string (⟨#[106, 117, 109, 112, 32, 114, 55, 32]⟩ ++ bs sA), rfl, (by show Value.string (bs [106, 117, 109, 112, 32, 114, 55, 32] ++ bs sA) = Value.string (bs (juL q)); rw [bs_app, hsA.out]; rfl), fun _ _ _ _ h => h, hW.step (Below.refl _ _) (by decide) hwu⟩
              · cases ho
                intro lf act u hW hl0 hK1 hL hK2 hdep
                have hwu : w.heap.size ≤ u.heap.size := hW.2.1.size
                have d5 : lbSF w.heap.size w2.heap.size q u6 v2 LL MM 5 _ u := hdep { on := 5, ground := .data } (by simp) rfl _ rfl
                have d10 : lbSF w.heap.size w2.heap.size q u6 v2 LL MM 10 _ u := hdep { on := 10, ground := .data } (by simp) rfl _ rfl
                obtain ⟨y, ha, hy⟩ := hL.puts [56, 57, 58, 59, 60, 61, 62, 63, 64, 65, 66, 67, 68, 6] (by kernel_rfl)
                have s5 : lbSF w.heap.size w2.heap.size q u6 v2 LL MM 5 (y 61) u := by rw [← hy 61]; exact d5
                have e5 : y 61 = _ := s5
                have s10 : lbSF w.heap.size w2.heap.size q u6 v2 LL MM 10 (y 66) u := by rw [← hy 66]; exact d10
                have e10 : y 66 = _ := s10
                simp only [List.foldl, List.setIfInBounds_toArray, List.set_cons_succ, List.set_cons_zero, e5, e10] at ha
                subst ha
                clear hdep hL hy hK2 d5 d10
                refine wpOp_step rfl (fun K hK => ?_)
                go_simp
                exact hK _ _ ⟨_, rfl, nine_new [eqL q, juL q] u 9 hW.2.2, fun j v' _ _ h => lbSF_fr (Fr.alloc _ _) j v' h, hW.step (Fr.alloc _ _) (by decide) hwu⟩
              · cases ho
                intro lf act u hW hl0 hK1 hL hK2 hdep
                have hwu : w.heap.size ≤ u.heap.size := hW.2.1.size
                have d0 : lbSF w.heap.size w2.heap.size q u6 v2 LL MM 0 _ u := hdep { on := 0, ground := .data } (by simp) rfl _ rfl
                have d11 : lbSF w.heap.size w2.heap.size q u6 v2 LL MM 11 _ u := hdep { on := 11, ground := .data } (by simp) rfl _ rfl
                obtain ⟨y, ha, hy⟩ := hL.puts [56, 57, 58, 59, 60, 61, 62, 63, 64, 65, 66, 67, 68, 6] (by kernel_rfl)
                have s0 : lbSF w.heap.size w2.heap.size q u6 v2 LL MM 0 (y 56) u := by rw [← hy 56]; exact d0
                have e0 : y 56 = _ := s0
                have s11 : lbSF w.heap.size w2.heap.size q u6 v2 LL MM 11 (y 67) u := by rw [← hy 67]; exact d11
                obtain ⟨g11, e11, b11, lt11, c11⟩ := s11
                replace e11 : y 67 = .slice (some ⟨g11, 0, none⟩) 2 2 := e11
                simp only [List.foldl, List.setIfInBounds_toArray, List.set_cons_succ, List.set_cons_zero, e0, e11] at ha
                subst ha
                clear hdep hL hy hK2 d0 d11
                have hFu : Fr w2 u := hW.1 hl0
                have PP := Lib.hid ((P2.out.fr hFu).symm)
                refine wpOp_append_own_at rfl rfl _ _ 38 rfl w.heap.size 9 i0 (.string ByteArray.empty) 1 16 Tryd.underlying38 hi hz0 hz1 hz2 rfl (by decide) u6 _ _ rfl PP.out.l ⟨g11, 0, none⟩ 2 2 [.string (bs (eqL q)), .string (bs (juL q))] rfl rfl
                  (fun j x hj => by
                    match j, hj with
                    | 0, hj => simp at hj; subst hj; exact c11 0 (by simp)
                    | 1, hj => simp at hj; subst hj; exact c11 1 (by simp)) (fun x hx => by simp at hx; rcases hx with rfl | rfl <;> rfl) (by omega) (by omega) hwu ?_
                intro vn wn hown hgr hloc
                refine ⟨vn, rfl, (Pair2.app (N := [eqL q, juL q]) PP.out rfl hown hgr hloc).symm, ?_, ?_⟩
                · intro j v' hj hlj hS
                  have hj13 : j ≠ 13 := fun e => by subst e; have := hK1 hlj 12 (by decide); rw [hl0] at this; cases this
                  have hj12 : j ≠ 12 := fun e => by subst e; rw [hl0] at hlj; cases hlj
                  have hj14 : j < 14 := hj
                  exact lbSF_grown hgr (fun b hb => (World.ownsRow.lt P2.out.r b hb).2) j v' (by omega) hS
                · exact ⟨fun h => by simp at h, Pair2.below PP.out hW.2.1 hwu hgr, Nat.le_trans hW.2.2 hgr.size⟩
              · cases ho
                intro lf act u hW hl0 hK1 hL hK2 hdep
                have hwu : w.heap.size ≤ u.heap.size := hW.2.1.size
                have d12 : lbSF w.heap.size w2.heap.size q u6 v2 LL MM 12 _ u := hdep { on := 12, ground := .data } (by simp) rfl _ rfl
                obtain ⟨y, ha, hy⟩ := hL.puts [56, 57, 58, 59, 60, 61, 62, 63, 64, 65, 66, 67, 68, 6] (by kernel_rfl)
                have s12 : lbSF w.heap.size w2.heap.size q u6 v2 LL MM 12 (y 68) u := by rw [← hy 68]; exact d12
                have e12 : y 68 = y 68 := rfl
                simp only [List.foldl, List.setIfInBounds_toArray, List.set_cons_succ, List.set_cons_zero] at ha
                subst ha
                clear hdep hL hy hK2 d12
                refine wpOp_step rfl (fun K hK => ?_)
                go_simp
                exact hK _ _ ⟨_, rfl, s12, fun _ _ _ _ h => h, hW.step (Below.refl _ _) (by decide) hwu⟩
              · exact absurd ho (by simp)
            case fin =>
              intro lf act u hall hW hL hF
              have d13 : Pair2 w.heap.size u v2 _ LL (MM ++ [eqL q, juL q]) := hF 13 _ rfl
              obtain ⟨y, ha, hy⟩ := hL.puts [56, 57, 58, 59, 60, 61, 62, 63, 64, 65, 66, 67, 68, 6] (by kernel_rfl)
              have PP := Lib.hid (show Pair2 w.heap.size u v2 (y 6) LL (MM ++ [eqL q, juL q]) by rw [← hy 6]; exact d13)
              have FU := Lib.hid (show Fr w u from hW.2.1)
              clear d13 hF hL hy hall
              obtain ⟨ao1, cp1, e1, V1⟩ := ownsT_vc PP.out.l
              obtain ⟨ao2, cp2, e2, V2⟩ := ownsT_vc PP.out.r
              simp only [List.foldl, List.setIfInBounds_toArray, List.set_cons_succ, List.set_cons_zero, e2] at ha
              subst ha
              subst e1
              clear e2 P2 PP hW
              have h1 : LL = oneL p q := hLL.symm
              have h2 : MM ++ [eqL q, juL q] = twoL p q := by rw [← hMM]; rfl
              obtain ⟨k1, k2, k3⟩ := label_lines p hb q hc
              obtain ⟨⟨s1, s2⟩, s3, s4⟩ := label_short p q hb hc
              rw [← h1] at k1 k2 k3 s1 s2
              rw [← h2] at k1 s3 s4
              generalize MM ++ [eqL q, juL q] = M2 at *
              obtain ⟨ws, n0, hws⟩ : ∃ ws n0, tread LL = (ws, n0) := ⟨_, _, rfl⟩
              rw [hws] at k1 k2 k3
              obtain rfl : n0 = 0 := k2
              have k3' : ws.length = p + q + 3 := k3
              have C1 := impl_TxtRead LL ao1 cp1 u (HT.out.fr FU.out) V1.src (by omega) (fun x hx => by have := s2 x hx; omega)
              rw [hws] at C1
              have C2 : ∀ u1, Fr u u1 → Calls Tryd.prog 27 #[.slice ao2 M2.length cp2] u1 (RdP u1 (ws, 0)) := fun u1 f1 => by rw [k1]; exact impl_TxtRead M2 ao2 cp2 u1 (HT.out.fr (FU.out.trans f1)) (V2.src.fr f1) (by omega) (fun x hx => by have := s4 x hx; omega)
              have K3 := Lib.hid k3'
              replace C2 := Lib.hid C2
              clear h1 h2 k1 k3 k3' s1 s2 s3 s4 hws V1 V2 hLL hMM hM hLM L2 L2a L2b
              go_wp2_with fail
              refine C1.mono ?_
              rintro e u1 ⟨aX, cX, rfl, VX, f1⟩
              have F1 := FU.out.trans f1
              have hwl : ws.length ≤ 1048576 := by have := K3.out; omega
              clear C1
              go_wp2_with fail
              refine (C2.out _ f1).mono ?_
              rintro e u2 ⟨aY, cY, rfl, VY, f2⟩
              have F2' := F1.trans f2
              clear C2
              go_wp2_with fail
              refine (laws_haInts_same _ _ _ ws.length (fun i => ws.getD i 0) _ _ _ _ (VX.fr f2) VY hwl).mono ?_
              rintro e u3 ⟨rfl, m3, hm3⟩
              have f3 : Fr u2 u3 := by rw [← hm3]; exact Below.drewN (Below.refl _ _) _
              clear hm3
              have k4 := K3.out
              have k5 : ((ws.length : Int) == (p : Int) + q + 3) = true := by simp; omega
              clear K3
              go_wp2
              go_ret
              exact ⟨rfl, F2'.trans f3⟩
  · go_wp2
    go_ret
    exact ⟨rfl, Below.refl _ _⟩

set_option maxRecDepth 100000 in
theorem lifted (os : Os) (started : os.Started) (H : Type) (enc : TypeId × Value → H) :
    ReturnsInHanded {} Tryd.checked os 6 .any (fun w args => (Rows.fnTxtLabelSpec.pre enc Tryd.prog Tryd.f6 [] false w args ∧ laidMetH Tryd.prog laidAll3 w) ∧ sizedMet enc Tryd.prog Tryd.f6 (OpenSpec.ofChange Rows.fnTxtLabelSpec) false w args)
      (Rows.fnTxtLabelSpec.post enc Tryd.prog Tryd.f6 false true false false) := by
  refine handed_and_shaped (C := Tryd.checked) (X := fun w _ => laidMetH Tryd.prog laidAll3 w) (fun _ _ _ hh h => h.of_heap hh) own started (by kernel_rfl) Tryd.func6
    (ChangeSpec.witness_shaped (enc := enc) (C := Tryd.checked) (os := os) (X := fun w _ => laidMetH Tryd.prog laidAll3 w) false (World.laidAll Tryd.prog os laidAll3) #[.slice none 0 0] 8 (World.laidAll_os _ _ _) (wit_shape os) (by kernel_rfl) (by kernel_rfl) (by kernel_rfl) (wit_met os _)) ?_
  intro W base args ds gs before hval0 hW _ _ hL hsh _
  have hval : ∀ (j : Nat) t v, Tryd.f6.params[j]? = some t → args[j]? = some v → Value.okWide Tryd.prog W .any base t v := hval0
  have hW' := hW
  obtain ⟨p, q, hA0, hV0, rfl, hfz, hnd⟩ := hW
  have hA : DataW.TrodAll enc Tryd.prog W 0 (fun _ => true) true Tryd.f6.params.toList args.toList ds p := hA0
  have hV : DataW.TrodVars enc Tryd.prog W (fun _ => true) Rows.fnTxtLabelSpec.vars gs q := hV0
  rw [Tryd.params6] at hA hval
  obtain ⟨v0, vs0, d0, ds0, p0, q0, hargs, rfl, rfl, h0, r0⟩ := trodAll_cons hA
  obtain ⟨rfl, rfl, rfl⟩ := trodAll_nil r0
  obtain rfl : args = #[v0] := by cases args; simp_all
  have hV1 := hV
  obtain ⟨g0, g1, g2, g3, g4, g5, g6, g7, g8, g9, rfl⟩ := list10 (trodVars_len hV1)
  obtain ⟨a0, len0, cap0, rfl⟩ := okWide_slice Tryd.underlying22 (hval 0 22 v0 rfl rfl)
  have k0 := h0
  have lt0 : ∀ x ∈ p0, x.block < W.heap.size := by obtain ⟨m, hm⟩ := k0; exact DataW.trod_lt m _ _ _ hm
  obtain ⟨z0, w0⟩ : ∃ zs, IsRow .u8 W a0 len0 cap0 zs := by
    obtain ⟨fuel, hf⟩ := h0
    rcases open_ints Tryd.underlying22 Tryd.underlying5 (by kernel_rfl) hf with ⟨hcs, _⟩ | ⟨x, l, c, zs, hcs, _, hl, hm, hz, _, hcell, hwz⟩
    · simp [Value.cells] at hcs
      obtain ⟨rfl, rfl, rfl⟩ := hcs
      exact ⟨[], .inl ⟨rfl, rfl, rfl, rfl⟩⟩
    · simp [Value.cells] at hcs
      obtain ⟨rfl, rfl, rfl⟩ := hcs
      exact ⟨zs, .inr ⟨_, rfl, hl, hm, by simpa using hz, hcell, hwz⟩⟩
  clear hA0 hval0 hV1
  refine (walk a0 len0 cap0 z0 W (tabs3_of_laid hL hsh) w0).mono fun e W' ⟨he, bel⟩ => ?_
  subst he
  exact ⟨_, rfl, _, _, _, [], _, _, hW', trodAll_mk1 (shut_bool Tryd.underlying4 _), (trodAll_cons_mk (Below.trod laidOut (by kernel_rfl) (of_decide_eq_true (by kernel_rfl)) k0 bel lt0) trodAll_mk0), bel.trodVars laidOut (by kernel_rfl) hV, bel.frame _, fun h => by cases h⟩

theorem over : Rows.fnTxtLabelRow.holds Tryd.pinned (OpenSpec.ofChange Rows.fnTxtLabelSpec) :=
  OpenClaim.holds_of_wide 6 Tryd.f6 rfl rfl rfl rfl rfl rfl rfl ⟨rfl, rfl, rfl, rfl, rfl⟩ rfl rfl rfl rfl rfl (by kernel_rfl) Tryd.func6 (by kernel_rfl)
    (of_decide_eq_true (by kernel_rfl)) (by unfold Func.isWrapper; first | (rw [if_pos (by decide +kernel)]; kernel_rfl) | (rw [if_neg (by decide +kernel)]; exact ⟨rfl, rfl⟩))
    (fun os started H enc _ => lifted os started H enc)

/-- THE STATEMENT: the tied card. -/
theorem proved : Rows.FnTxtLabelCardSaid :=
  Claim7.holds_tied_plain_at .later [] [.data, .data, .data, .data, .sentinel, .sentinel, .wider, .data, .data, .sentinel, .sentinel, .sentinel, .sentinel, .sentinel, .sentinel, .sentinel, .pinned] true (true, "b52127b27052be8e1379b4928e638b8b16f290584df6f950925e06d10987c8aa") true
    over (fun _ h => by cases h) (by kernel_rfl) (fun _ h => by cases h) fnTxtLabel_row_tie rfl ⟨rfl, rfl⟩ (by kernel_rfl) rfl
    (fun f fn hf hfn => by
      obtain rfl : f = 6 := Option.some.inj ((show Tryd.prog.funcNamed "loop.example/harbinger/laws.FnTxtLabel" = some 6 by kernel_rfl).symm.trans hf) |>.symm
      obtain rfl : fn = Tryd.f6 := (Option.some.inj (Tryd.func6.symm.trans hfn)).symm
      exact ⟨by kernel_rfl, fun j t ht => by
        rw [Tryd.params6] at ht
        have hm : t ∈ [22] := by simpa using Array.mem_of_getElem? ht
        have hall : ([22].all fun u => !Tryd.prog.wantsStandIn u) = true := by kernel_rfl
        exact (show Tryd.prog.wantsStandIn t = false by simpa using List.all_eq_true.1 hall t hm)⟩)
    (by kernel_rfl)
#print axioms proved
end Go.Proofs.YtecdmafhjfnloaaDoor.fnTxtLabel
