/- Chapter 3: the model cuts a line into words. -/
import Derived.Test.YtecdmafhjfnloaaGreatDoorSp2
import Derived.BigRegion
namespace Go.Proofs.YtecdmafhjfnloaaGreatDoor
open Go.RowKit
set_option linter.unusedVariables false

theorem cell_str_at (w : World) (x : Value) (t : TypeId) (g : Nat) (hg : w.heap.size = g) : ∀ j u, [x][j]? = some u → (w.alloc (.cells #[x] t)).cell? ((⟨g, 0, none⟩ : Addr).add j) = some u := by
  subst hg
  intro j u hj
  match j, hj with
  | 0, hj => simp at hj; subst hj; simp [Addr.add]
def WordsP (l : List UInt8) (w : World) (e : Ending) (w' : World) : Prop := ∃ v, e = .returned v ∧ OwnsT w.heap.size w' v (sp l) ∧ Fr w w'
theorem ownsT_app {B : Nat} {u : World} {v : Value} {L : List (List UInt8)} {x : List UInt8} (h : u.ownsRow B 9 1 v (L.length + 1) (L.map (fun x => Value.string (bs x)) ++ [Value.string (bs x)])) : OwnsT B u v (L ++ [x]) := by
  unfold OwnsT
  simpa using h
theorem own_lt {B : Nat} {u : World} {v : Value} {L : List (List UInt8)} (h : OwnsT B u v L) : ∀ q, v.ownBlock = some q → B ≤ q := fun q hq => (World.ownsRow.lt h q hq).1
theorem ext_one (l : List UInt8) (q : Nat) (hq : q < l.length) : (bs l).extract q (q + 1) = bs [l.getD q 0] := by
  apply ByteArray.ext
  have h : (l.drop q).take 1 = [l.getD q 0] := by
    rw [List.drop_eq_getElem_cons hq, List.take_succ_cons, List.take_zero, List.getD_eq_getElem?_getD, List.getElem?_eq_getElem hq]
    rfl
  rw [← h]
  simp
set_option maxRecDepth 4000 in
set_option maxHeartbeats 4000000 in
theorem spec_l3Words (l : List UInt8) (hl : l.length ≤ 4000000) (w : World) : Calls Tryz.prog 58 #[.string (bs l)] w (WordsP l w) := by
  obtain ⟨i0, hi, hz0, hz1, hz2⟩ := info_parts info_str
  have bg := bs_get l
  go_enter Tryz.func58, Tryz.ntmps58
  go_wp2
  go_loopw [3, 4, 5] (fun o s i wr => ∃ (q : Nat) (done : List (List UInt8)) (cur : List UInt8), q ≤ l.length ∧ i = .int .i64 q ∧ s = .string (bs cur) ∧ OwnsT w.heap.size wr o done ∧ done ++ ahead cur (sp (l.drop q)) = sp l ∧ cur.length ≤ q ∧ done.length ≤ q ∧ Fr w wr) (fun _ _ i _ => l.length - (intOf i).toNat)
  case atStart => exact ⟨0, [], [], by omega, rfl, rfl, ownsT_empty _ _ (Nat.le_refl _), by simp [ahead_nil], by simp, by simp, Fr.alloc _ _⟩
  case round =>
    obtain ⟨q, done, cur, hq, rfl, rfl, hO, hS, hc, hdn, hF⟩ := hrel
    have hsz := hF.size
    have HF := Lib.hid hF
    by_cases hlt : q < l.length
    · have hlt' : (q : Int) < (l.length : Int) := by omega
      have bq : ∀ (h : q < l.length), l[q]'h = l.getD q 0 := fun h => by rw [List.getD_eq_getElem?_getD, List.getElem?_eq_getElem h]; rfl
      have eX := ext_one l q hlt
      have hdr : l.drop q = l.getD q 0 :: l.drop (q + 1) := by
        rw [List.drop_eq_getElem_cons hlt, bq hlt]
      rw [hdr] at hS
      generalize l.getD q 0 = c at bq eX hS
      clear hdr
      by_cases h32 : c = 32
      · subst h32
        rw [ahead_blank] at hS
        have HS := Lib.hid hS
        have HO := Lib.hid hO
        clear hS hO hF
        go_wp2_with (at_builtin; refine wpList_append_own _ rfl _ _ 25 rfl w.heap.size 9 i0 (.string ByteArray.empty) 1 16 Tryz.underlying25 hi hz0 hz1 hz2 rfl (by decide) _ _ _ rfl (World.ownsRow.alloc HO.out _) _ 1 1 [.string (bs cur)] rfl rfl (cell_str_at _ _ _ _ (by simp)) (fun x hx => by simp at hx; subst hx; rfl) (show done.length + 1 ≤ maxLen by have : maxLen = 9223372036854775807 := rfl; omega) (by omega) (by simp; omega) ?_; intro v1 w4 hown1 hg1 _)
        have F4 : Fr w w4 := Below.grown (HF.out.trans (Fr.alloc _ _)) hg1 (by simp; omega) (own_lt HO.out)
        go_roundw
        case rel => exact ⟨q + 1, done ++ [cur], [], by omega, by go_num, rfl, ownsT_app hown1, by rw [ahead_nil, List.append_assoc]; exact HS.out, by simp, by simp; omega, F4⟩
        case measure => simp [intOf]; omega
      · have hc32 : ¬ ((c.toNat : Int) = 32) := fun e => h32 (by apply UInt8.toNat_inj.1; simp; omega)
        have hc32' : ((c.toNat : Int) == 32) = false := by simp [hc32]
        rw [ahead_char h32] at hS
        have HS := Lib.hid hS
        have HO := Lib.hid hO
        clear hS hO hF
        go_wp2
        go_roundw
        case rel => exact ⟨q + 1, done, cur ++ [c], by omega, by go_num, by rw [bs_app], HO.out, HS.out, by simp; omega, by omega, HF.out⟩
        case measure => simp [intOf]; omega
    · obtain rfl : q = l.length := by omega
      have hge : ¬ (l.length : Int) < (l.length : Int) := by omega
      rw [List.drop_length] at hS
      have hS' : done ++ [cur] = sp l := by simpa [sp, ahead] using hS
      have HS := Lib.hid hS'
      have HO := Lib.hid hO
      clear hS hS' hO hF
      go_wp2_with (at_builtin; refine wpList_append_own _ rfl _ _ 25 rfl w.heap.size 9 i0 (.string ByteArray.empty) 1 16 Tryz.underlying25 hi hz0 hz1 hz2 rfl (by decide) _ _ _ rfl (World.ownsRow.alloc HO.out _) _ 1 1 [.string (bs cur)] rfl rfl (cell_str_at _ _ _ _ (by simp)) (fun x hx => by simp at hx; subst hx; rfl) (show done.length + 1 ≤ maxLen by have : maxLen = 9223372036854775807 := rfl; omega) (by omega) (by simp; omega) ?_; intro v1 w4 hown1 hg1 _)
      have F4 : Fr w w4 := Below.grown (HF.out.trans (Fr.alloc _ _)) hg1 (by simp; omega) (own_lt HO.out)
      go_ret
      exact ⟨v1, rfl, by rw [← HS.out]; exact ownsT_app hown1, F4⟩
end Go.Proofs.YtecdmafhjfnloaaGreatDoor
