/- Of caches: which line, which block; what is ok, of the program and of the model. What is ok, of caches: the program's. What is ok, of caches: the program's ChcOk, the model's ChcOk. What is ok, of caches: the model's ChcOk. -/
import Derived.StillTailTactics
import Derived.IntWalk
import Derived.Test.YtoacgjjpipdkjaaK0
namespace Go.Proofs.Ytoacgjjpipdkjaa
open Go.RowKit
set_option linter.unusedVariables false
set_option linter.unusedSimpArgs false
theorem drewN_two (w : World) (m n : Nat) : w.drewN (m + n) = (w.drewN m).drewN n := by simp [World.drewN, Nat.add_assoc]
theorem quiet_eq {P : Program} {f : FuncId} {args : Array Value} {w : World} {n : Nat} {v : Value}
    (h : Calls P f args (w.drewN n) fun e w' => e = .returned v ∧ w.drewN n = w') : Calls P f args (w.drewN n) fun e w'' => e = .returned v ∧ ∃ m, w'' = w.drewN m :=
  h.mono fun _ _ ⟨he, hm⟩ => ⟨he, n, hm.symm⟩
theorem spec_l7Slot (a : Int) (w : World) (h0 : 0 ≤ a) (h1 : a < 1000) : Calls Try.prog 89 #[.int .i64 a] w fun e w' => e = .returned (.int .i64 (a / 4 % 4)) ∧ w = w' := by
  go_enter Try.func89, Try.ntmps89
  go_wp2
  go_ret
  exact ⟨rfl, rfl⟩
theorem impl_indexOf (a : Int) (w : World) (h0 : 0 ≤ a) (h1 : a < 1000) : Calls Try.prog 97 #[.int .i64 a] w fun e w' => e = .returned (.int .i64 (a / 4 % 4)) ∧ w = w' := by
  go_enter Try.func97, Try.ntmps97
  go_wp2
  go_ret
  exact ⟨rfl, rfl⟩
theorem impl_blockOf (a : Int) (w : World) (h0 : 0 ≤ a) (h1 : a < 1000) : Calls Try.prog 104 #[.int .i64 a] w fun e w' => e = .returned (.int .i64 (blkA a)) ∧ w = w' := by
  go_enter Try.func104, Try.ntmps104
  go_wp2
  go_ret
  exact ⟨rfl, rfl⟩
theorem impl_isPlace7 (a : Int) (w : World) : Calls Try.prog 67 #[.int .i64 a] w fun e w' => e = .returned (.bool (plcB a)) ∧ w = w' := by
  by_cases h1 : 0 ≤ a
  · by_cases h2 : a < 256
    · have H := Lib.hid (show plcB a = true by simp [plcB]; omega)
      have h3 : decide (a < 256) = true := by simpa using h2
      go_enter Try.func67, Try.ntmps67
      go_wp2
      go_ret
      exact ⟨ret_bool H.out.symm, rfl⟩
    · have H := Lib.hid (show plcB a = false by simp [plcB]; omega)
      have h3 : decide (a < 256) = false := by simpa using h2
      go_enter Try.func67, Try.ntmps67
      go_wp2
      go_ret
      exact ⟨ret_bool H.out.symm, rfl⟩
  · have H := Lib.hid (show plcB a = false by simp [plcB]; omega)
    have h3 : decide (0 ≤ a) = false := by simpa using h1
    go_enter Try.func67, Try.ntmps67
    go_wp2
    go_ret
    exact ⟨ret_bool H.out.symm, rfl⟩
theorem plc_l1In (a : Int) (w : World) : Calls Try.prog 63 #[.int .i64 a, .int .i64 0, .int .i64 255] w fun e w' => e = .returned (.bool (plcB a)) ∧ w = w' :=
  (spec_l1In a 0 255 w).mono fun e w' ⟨h, h2⟩ => ⟨by rw [h]; exact ret_bool (by unfold plcB; rw [decide_eq_decide]; omega), h2⟩
theorem impl_holds (l : La) (a : Int) (w : World) (h0 : 0 ≤ a) (h1 : a < 1000) : Calls Try.prog 126 #[lav l, .int .i64 a] w fun e w' => e = .returned (.bool (holdsL l.n a)) ∧ Fr w w' := by
  obtain ⟨⟨u, p, d, W⟩, ao, c⟩ := l
  have F0 : Fr w (w.alloc (.cells #[.bool u, .int .i64 p, .bool d, .slice ao W.length c] 59)) := Fr.alloc _ _
  have HF := Lib.hid F0
  have HX := Lib.hid (Box4.new w (.bool u) (.int .i64 p) (.bool d) (.slice ao W.length c) 59 _ rfl)
  clear F0
  cases u
  · have H := Lib.hid (show holdsL ⟨false, p, d, W⟩ a = false by simp [holdsL])
    go_enter Try.func126, Try.ntmps126
    go_wp2_with fail
    generalize (w.alloc (.cells #[.bool false, .int .i64 p, .bool d, .slice ao W.length c] 59)) = u0 at *
    obtain ⟨_, c0, c1, _, _, _, _, _, _⟩ := HX.out
    go_quiet (fail)
    go_wp2
    go_ret
    exact ⟨ret_bool H.out.symm, Below.trans HF.out (Below.drewN (Below.refl _ _) _)⟩
  · have H := Lib.hid (show holdsL ⟨true, p, d, W⟩ a = decide (p = blkA a) by simp [holdsL])
    go_enter Try.func126, Try.ntmps126
    go_wp2_with fail
    generalize (w.alloc (.cells #[.bool true, .int .i64 p, .bool d, .slice ao W.length c] 59)) = u0 at *
    obtain ⟨_, c0, c1, _, _, _, _, _, _⟩ := HX.out
    go_quiet ((go_at_call 104; exact quiet_eq (impl_blockOf _ _ h0 h1)))
    go_wp2
    go_ret
    refine ⟨ret_bool ?_, Below.trans HF.out (Below.drewN (Below.refl _ _) _)⟩
    rw [H.out]
    simp [BEq.beq]
/-- Two rows of four numbers are the same. -/
def eq4 (A B : List Int) : Bool := (List.range 4).all fun j => decide (A.getD j 0 = B.getD j 0)
theorem slices_Equal4 (A B : List Int) (a1 a2 : Option Addr) (c1 c2 : Nat) (w : World) (h1 : Src w A.length (ivl A) a1) (h2 : Src w B.length (ivl B) a2) (hA : A.length = 4) (hB : B.length = 4) :
    Calls Try.prog 105 #[.slice a1 A.length c1, .slice a2 4 c2] w fun e w' => e = .returned (.bool (eq4 A B)) ∧ ∃ m, w.drewN m = w' := by
  obtain ⟨g1, o1, rfl, hg1, k1⟩ := h1 (by omega)
  obtain ⟨g2, o2, rfl, hg2, k2⟩ := h2 (by omega)
  rw [hA] at k1
  rw [hB] at k2
  have K1 := Lib.hid k1
  have K2 := Lib.hid k2
  rw [hA]
  clear k1 k2 h1 h2 hA hB
  go_enter Try.func105, Try.ntmps105
  go_wp2_with fail
  go_loopw [13] (fun i wr => ∃ p m : Nat, p ≤ 4 ∧ i = .int .i64 p ∧ (∀ j, j < p → A.getD j 0 = B.getD j 0) ∧ w.drewN m = wr) (fun i _ => 4 - (intOf i).toNat)
  case atStart => exact ⟨0, 0, by omega, rfl, fun j hj => absurd hj (Nat.not_lt_zero _), rfl⟩
  case round =>
    obtain ⟨p, m, hp, rfl, hs, rfl⟩ := hrel
    have HS := Lib.hid hs
    clear hs
    by_cases hlt : p < 4
    · have x0 := K1.out p hlt
      have y0 := K2.out p hlt
      simp only [ivl] at x0 y0
      have hp0 : (0 : Int) ≤ (p : Int) := Int.natCast_nonneg _
      have hp4 : (p : Int) < 4 := by omega
      by_cases e : A.getD p 0 = B.getD p 0
      · rw [← e] at y0
        have HE := Lib.hid e
        clear e
        generalize A.getD p 0 = z at x0 y0
        go_wp2_with fail
        go_quiet (fail)
        go_wp2
        go_roundw
        case rel => exact ⟨p + 1, _, by omega, by go_num, fun j hj => by
          rcases Nat.lt_succ_iff_lt_or_eq.1 hj with h | h
          · exact HS.out j h
          · rw [h]; exact HE.out, rfl⟩
        case measure => simp [intOf]; omega
      · have HN := Lib.hid (show eq4 A B = false from List.all_eq_false.2 ⟨p, by simpa using hlt, by simpa using e⟩)
        have e' : (A.getD p 0 != B.getD p 0) = true := by simpa using e
        clear e
        generalize A.getD p 0 = z at x0 e'
        generalize B.getD p 0 = z' at y0 e'
        go_wp2_with fail
        go_quiet (fail)
        go_wp2
        go_ret
        exact ⟨ret_bool HN.out.symm, _, drewN_two _ _ _⟩
    · have hge : ¬ (p : Int) < 4 := by omega
      have HA := Lib.hid (show eq4 A B = true from List.all_eq_true.2 fun j hj => by simpa using HS.out j (by simp at hj; omega))
      go_wp2
      go_ret
      exact ⟨ret_bool HA.out.symm, _, rfl⟩

theorem quiet_drew {P : Program} {f : FuncId} {args : Array Value} {w : World} {n : Nat} {v : Value}
    (h : Calls P f args (w.drewN n) fun e w' => e = .returned v ∧ ∃ m, (w.drewN n).drewN m = w') : Calls P f args (w.drewN n) fun e w'' => e = .returned v ∧ ∃ m, w'' = w.drewN m :=
  h.mono fun _ _ ⟨he, m, hm⟩ => ⟨he, n + m, by rw [← hm, drewN_two]⟩
theorem fr_drewN {w u : World} (h : Fr w u) (n : Nat) : Fr w (u.drewN n) := Below.trans h (Below.drewN (Below.refl _ _) _)
theorem slice_mid (g o n c N : Nat) (hN : N + 4 ≤ c) (v : World) :
    (Instr.slice 22 (.slice (some ⟨g, o, none⟩) n c) (some (.int .i64 (N : Int))) (some (.int .i64 ((N : Int) + 4))) none).run Try.prog v = .ok (.slice (some ⟨g, o + N, none⟩) 4 (c - N)) v := by
  have ht : Try.prog.underlying 22 = some (.slice (Try.prog.elem 22)) := by kernel_rfl
  have hs : ∀ v : World, (sizeOf (Try.prog.elem 22)).run Try.prog v = .ok 1 v := fun _ => by kernel_rfl
  rw [run_slice_lh (t := 22) (a := some ⟨g, o, none⟩) (len := n) (cap := c) (ht := ht) (kl := .i64) (kh := .i64) (l := (N : Int)) (h := (N : Int) + 4) (h0 := by omega) (h1 := by omega) (h2 := by omega), hs]
  have e1 : ((N : Int) + 4).toNat = N + 4 := by omega
  have e2 : ¬ c = N := by omega
  rw [e1]
  rcases Nat.eq_zero_or_pos N with h | h
  · subst h
    simp [Result.andThen, sliced, Addr.add]
  · simp [Result.andThen, sliced, e2, Addr.add, show N ≠ 0 by omega]
theorem slice_midAt (g o n c N : Nat) (hN : N + 4 ≤ c) (v : World) :
    (Instr.sliceAt 22 (.slice (some ⟨g, o, none⟩) n c) (some (.int .i64 (N : Int))) (some (.int .i64 ((N : Int) + 4))) none).run Try.prog v = .ok (.slice (some ⟨g, o + N, none⟩) 4 (c - N)) v := by
  have ht : Try.prog.underlying 22 = some (.slice (Try.prog.elem 22)) := by kernel_rfl
  rw [run_sliceAt_slice (h := ht)]
  exact slice_mid g o n c N hN v
theorem src_drewN {u : World} {n : Nat} {c : Nat → Value} {ao : Option Addr} (h : Src u n c ao) (m : Nat) : Src (u.drewN m) n c ao := h
theorem eq4_same (M W : List Int) (p : Nat) (hM : M.length = 256) (hp : p ≤ 252) : eq4 W ((M.drop p).take 4) = sameB M W p := by
  have e : ∀ j, j < 4 → ((M.drop p).take 4).getD j 0 = M.getD (p + j) 0 := fun j hj => by
    simp only [List.getD_eq_getElem?_getD, List.getElem?_take_of_lt hj, List.getElem?_drop]
  rw [Bool.eq_iff_iff]
  simp only [eq4, sameB, List.all_eq_true, List.mem_range, decide_eq_true_eq]
  exact ⟨fun h j hj => by rw [← e j hj]; exact h j hj, fun h j hj => by rw [e j hj]; exact h j hj⟩
theorem okLn_free_eq (M : List Int) (k : Int) (p : Int) (d : Bool) (W : List Int) : okLn M k ⟨false, p, d, W⟩ = (decide (p = 0) && (!d && decide (W.length = 0))) := by simp [okLn]
set_option maxRecDepth 100000 in
set_option maxHeartbeats 2000000 in
theorem impl_fits7 (l : La) (k : Int) (M : List Int) (aM : Option Addr) (cM : Nat) (w : World) (hk : 0 ≤ k) (hk4 : k < 4) (hM : M.length = 256) (hc : 256 ≤ cM) (hs : Src w M.length (ivl M) aM) (hw : WSrc w l) (hn : l.n.W.length ≤ 1048576) :
    Calls Try.prog 87 #[lav l, .int .i64 k, .slice aM M.length cM] w fun e w' => e = .returned (.bool (okLn M k l.n)) ∧ Fr w w' := by
  obtain ⟨⟨u, p, d, W⟩, ao, c⟩ := l
  simp only at hn hw ⊢
  have F0 : Fr w (w.alloc (.cells #[.bool u, .int .i64 p, .bool d, .slice ao W.length c] 59)) := Fr.alloc _ _
  have HF := Lib.hid F0
  have HX := Lib.hid (Box4.new w (.bool u) (.int .i64 p) (.bool d) (.slice ao W.length c) 59 _ rfl)
  have HS := Lib.hid (hs.fr F0)
  have HW := Lib.hid (show Src (w.alloc (.cells #[.bool u, .int .i64 p, .bool d, .slice ao W.length c] 59)) W.length (ivl W) ao from Src.fr hw F0)
  have HL := Lib.hid hM
  clear F0 hs hw hM
  cases u
  · rw [okLn_free_eq]
    have hl : ∀ m : Nat, decide ((m : Int) = 0) = decide (m = 0) := fun m => by rw [decide_eq_decide]; omega
    rw [← hl]
    have HP : ∀ b, (decide (p = 0) && (!d && decide ((W.length : Int) = 0))) = b → Hid ((decide (p = 0) && (!d && decide ((W.length : Int) = 0))) = b) := fun b h => Lib.hid h
    clear hl
    by_cases h1 : p = 0
    · cases d
      · by_cases h2 : W.length = 0
        · have H := HP true (by simp [h1, h2])
          rw [H.out]
          clear HP H
          have h1' : (p == 0) = true := by simpa using h1
          have h2' : ((W.length : Int) == 0) = true := by simp [h2]
          clear h1 h2
          go_enter Try.func87, Try.ntmps87
          go_wp2
          go_ret
          exact ⟨rfl, HF.out⟩
        · have H := HP false (by rw [decide_eq_false (show ¬ ((W.length : Int) = 0) by omega)]; simp)
          rw [H.out]
          clear HP H
          have h1' : (p == 0) = true := by simpa using h1
          have h2' : ((W.length : Int) == 0) = false := by simpa using h2
          clear h1 h2
          go_enter Try.func87, Try.ntmps87
          go_wp2
          go_ret
          exact ⟨rfl, HF.out⟩
      · have H := HP false (by simp)
        rw [H.out]
        clear HP H
        have h1' : (p == 0) = true := by simpa using h1
        clear h1
        go_enter Try.func87, Try.ntmps87
        go_wp2
        go_ret
        exact ⟨rfl, HF.out⟩
    · have H := HP false (by simp [h1])
      rw [H.out]
      clear HP H
      have h1' : (p == 0) = false := by simpa using h1
      clear h1
      go_enter Try.func87, Try.ntmps87
      go_wp2
      go_ret
      exact ⟨rfl, HF.out⟩
  · have HR : ∀ b, okLn M k ⟨true, p, d, W⟩ = b → Hid (okLn M k ⟨true, p, d, W⟩ = b) := fun b h => Lib.hid h
    have P1 := fun w => impl_isPlace7 p w
    have P4 := impl_areWords W ao c 4
    have e4 : (W.all okB && decide ((W.length : Int) = 4)) = wordsB W 4 := words_eq W 4
    rw [e4] at P4
    cases h1 : plcB p
    · have hnp : ¬ (0 ≤ p ∧ p < 256) := fun hh => by rw [(plcB_iff p).2 hh] at h1; cases h1
      have H := HR false (by
        simp only [okLn, if_true]
        rw [decide_eq_false (show ¬ (0 ≤ p ∧ p ≤ 252 ∧ p % 4 = 0 ∧ p / 4 % 4 = k) by omega)]
        rfl)
      clear hnp
      clear HR P4 e4
      rw [H.out]
      rw [h1] at P1
      have HP := Lib.hid P1
      clear P1 H h1
      go_enter Try.func87, Try.ntmps87
      go_wp2_with fail
      generalize (w.alloc (.cells #[.bool true, .int .i64 p, .bool d, .slice ao W.length c] 59)) = u0 at *
      obtain ⟨_, c0, c1, c2, c3, _, _, _, _⟩ := HX.out
      go_quiet ((go_at_call 67; exact quiet_eq (HP.out _)))
      go_wp2
      go_ret
      exact ⟨rfl, (by repeat first | exact HF.out | refine fr_drewN ?_ _)⟩
    · obtain ⟨p0, p1⟩ := (plcB_iff p).1 h1
      rw [h1] at P1
      have HP := Lib.hid P1
      clear P1 h1
      have P2 := fun w => impl_blockOf p w p0 (by omega)
      have P3 := fun w => impl_indexOf p w p0 (by omega)
      by_cases h2 : p % 4 = 0
      · have hb : blkA p = p := by unfold blkA; omega
        rw [hb] at P2
        have HP2 := Lib.hid P2
        clear P2 hb
        by_cases h3 : p / 4 % 4 = k
        · rw [h3] at P3
          have HP3 := Lib.hid P3
          clear P3
          cases h4 : wordsB W 4
          · have H := HR false (by simp [okLn, h4])
            rw [h4] at P4
            have HP4 := Lib.hid P4
            clear HR P4 e4 h2 h3 h4
            rw [H.out]
            clear H
            go_enter Try.func87, Try.ntmps87
            go_wp2_with fail
            generalize (w.alloc (.cells #[.bool true, .int .i64 p, .bool d, .slice ao W.length c] 59)) = u0 at *
            obtain ⟨_, c0, c1, c2, c3, _, _, _, _⟩ := HX.out
            have HQ4 := Lib.hid (fun n => HP4.out (u0.drewN n) (src_drewN HW.out n) (by omega))
            go_quiet ((first | (go_at_call 67; exact quiet_eq (HP.out _)) | (go_at_call 104; exact quiet_eq (HP2.out _)) | (go_at_call 97; exact quiet_eq (HP3.out _)) | (go_at_call 86; exact quiet_eq (HQ4.out _))))
            go_wp2
            go_ret
            exact ⟨rfl, (by repeat first | exact HF.out | refine fr_drewN ?_ _)⟩
          · obtain ⟨hWa, hWl⟩ := wordsB_true h4
            rw [h4] at P4
            have HP4 := Lib.hid P4
            have HW4 := Lib.hid hWl
            have H : Hid (okLn M k ⟨true, p, d, W⟩ = (d || sameB M W p.toNat)) := Lib.hid (by
              have q1 : 0 ≤ p ∧ p ≤ 252 ∧ p % 4 = 0 ∧ p / 4 % 4 = k := ⟨p0, by omega, h2, h3⟩
              simp only [okLn, if_true, h4, decide_eq_true q1, Bool.true_and])
            have hp252 : p ≤ 252 := by omega
            clear HR P4 e4 h2 h3 h4 hWa hWl
            rw [H.out]
            clear H
            cases d
            · have HQ : ∀ u0 : World, Fr w u0 → Hid (Src u0 W.length (ivl W) ao) → True := fun _ _ _ => trivial
              clear HQ
              obtain ⟨N, rfl⟩ := Int.eq_ofNat_of_zero_le p0
              have hN : N ≤ 252 := by omega
              have hdrop : ∀ u0 : World, Src u0 M.length (ivl M) aM → ∃ g o, aM = some ⟨g, o, none⟩ ∧ Src u0 ((M.drop N).take 4).length (ivl ((M.drop N).take 4)) (some ⟨g, o + N, none⟩) := fun u0 h => by
                obtain ⟨g, o, e, hl, hc⟩ := h (by rw [HL.out]; decide)
                refine ⟨g, o, e, fun _ => ⟨g, o + N, rfl, hl, fun i hi => ?_⟩⟩
                have hi4 : i < 4 := by simp at hi; omega
                rw [Nat.add_assoc, hc (N + i) (by rw [HL.out]; omega)]
                simp only [ivl, List.getD_eq_getElem?_getD, List.getElem?_take_of_lt hi4, List.getElem?_drop]
              obtain ⟨g, o, rfl, hS2⟩ := hdrop _ HS.out
              have hd4 : ((M.drop N).take 4).length = 4 := by simp [HL.out]; omega
              have P5 := fun u0 (h1 : Src u0 W.length (ivl W) ao) (h2 : Src u0 ((M.drop N).take 4).length (ivl ((M.drop N).take 4)) (some ⟨g, o + N, none⟩)) n => slices_Equal4 W ((M.drop N).take 4) ao (some ⟨g, o + N, none⟩) c (cM - N) (u0.drewN n) (src_drewN h1 n) (src_drewN h2 n) HW4.out hd4
              rw [eq4_same M W N HL.out hN] at P5
              have HP5 := Lib.hid P5
              have HS2 := Lib.hid hS2
              clear P5 hS2 hdrop hd4 HS
              simp only [Bool.false_or, Int.toNat_natCast]
              have hN0 : (0 : Int) ≤ (N : Int) := Int.natCast_nonneg _
              go_enter Try.func87, Try.ntmps87
              go_wp2_with fail
              generalize hu : (w.alloc (.cells #[.bool true, .int .i64 (N : Int), .bool false, .slice ao W.length c] 59)) = u0 at *
              clear hu
              obtain ⟨_, c0, c1, c2, c3, _, _, _, _⟩ := HX.out
              have HQ4 := Lib.hid (fun n => HP4.out (u0.drewN n) (src_drewN HW.out n) (by omega))
              go_quiet ((first | (go_at_call 67; exact quiet_eq (HP.out _)) | (go_at_call 104; exact quiet_eq (HP2.out _)) | (go_at_call 97; exact quiet_eq (HP3.out _)) | (go_at_call 86; exact quiet_eq (HQ4.out _))))
              have f1 : Fr u0 (u0.drewN nq) := fr_drewN (Below.refl _ _) _
              replace HF := Lib.hid (Fr.trans HF.out f1)
              replace HX := Lib.hid (HX.out.fr f1)
              have HQ5 := Lib.hid (fun n => HP5.out (u0.drewN nq) (HW.out.fr f1) (HS2.out.fr f1) n)
              clear c0 c1 c2 c3 HQ4 f1 HP5 HS2 HW
              generalize u0.drewN nq = u1 at *
              obtain ⟨_, c0, c1, c2, c3, _, _, _, _⟩ := HX.out
              have hw4 : IntKind.i64.wrap ((N : Int) + 4) = (N : Int) + 4 := IntWalk.i64_in _ (by omega)
              have hsl := slice_mid g o M.length cM N (by omega)
              have hsl' := slice_midAt g o M.length cM N (by omega)
              go_wp2_with fail
              go_quiet ((go_at_call 105; exact quiet_drew (HQ5.out _)))
              go_wp2
              go_ret
              exact ⟨rfl, (by repeat first | exact HF.out | refine fr_drewN ?_ _)⟩
            · clear p0 p1 hp252
              go_enter Try.func87, Try.ntmps87
              go_wp2_with fail
              generalize (w.alloc (.cells #[.bool true, .int .i64 p, .bool true, .slice ao W.length c] 59)) = u0 at *
              obtain ⟨_, c0, c1, c2, c3, _, _, _, _⟩ := HX.out
              have HQ4 := Lib.hid (fun n => HP4.out (u0.drewN n) (src_drewN HW.out n) (by omega))
              go_quiet ((first | (go_at_call 67; exact quiet_eq (HP.out _)) | (go_at_call 104; exact quiet_eq (HP2.out _)) | (go_at_call 97; exact quiet_eq (HP3.out _)) | (go_at_call 86; exact quiet_eq (HQ4.out _))))
              go_wp2_with fail
              go_quiet (fail)
              go_wp2
              go_ret
              exact ⟨rfl, (by repeat first | exact HF.out | refine fr_drewN ?_ _)⟩
        · have H := HR false (by simp [okLn, h3])
          have HP3 := Lib.hid P3
          have h3' : (p / 4 % 4 != k) = true := by simpa using h3
          clear HR P4 e4 h2 h3 P3
          rw [H.out]
          clear H
          go_enter Try.func87, Try.ntmps87
          go_wp2_with fail
          generalize (w.alloc (.cells #[.bool true, .int .i64 p, .bool d, .slice ao W.length c] 59)) = u0 at *
          obtain ⟨_, c0, c1, c2, c3, _, _, _, _⟩ := HX.out
          go_quiet ((first | (go_at_call 67; exact quiet_eq (HP.out _)) | (go_at_call 104; exact quiet_eq (HP2.out _)) | (go_at_call 97; exact quiet_eq (HP3.out _))))
          go_wp2
          go_ret
          exact ⟨rfl, (by repeat first | exact HF.out | refine fr_drewN ?_ _)⟩
      · have H := HR false (by simp [okLn, h2])
        have HP2 := Lib.hid P2
        have h2' : (blkA p != p) = true := by simp [blkA]; omega
        clear HR P4 e4 h2 P3 P2
        rw [H.out]
        clear H
        unfold blkA at HP2 h2'
        go_enter Try.func87, Try.ntmps87
        go_wp2_with fail
        generalize (w.alloc (.cells #[.bool true, .int .i64 p, .bool d, .slice ao W.length c] 59)) = u0 at *
        obtain ⟨_, c0, c1, c2, c3, _, _, _, _⟩ := HX.out
        go_quiet ((first | (go_at_call 67; exact quiet_eq (HP.out _)) | (go_at_call 104; exact quiet_eq (HP2.out _))))
        go_wp2
        go_ret
        exact ⟨rfl, (by repeat first | exact HF.out | refine fr_drewN ?_ _)⟩

abbrev caV (aM aL : Option Addr) (M : List Int) (X : List La) (cM cL : Nat) : Value := .agg #[.slice aM M.length cM, .slice aL X.length cL]
theorem okC_eq (M : List Int) (X : List La) : okC ⟨M, lns X⟩ = (wordsB M 256 && (decide (X.length = 4) && okLns M (lns X))) := by simp [okC]
theorem lns_len (X : List La) : (lns X).length = X.length := by simp [lns]
set_option maxRecDepth 100000 in
set_option maxHeartbeats 2000000 in
theorem impl_ChcOk (M : List Int) (X : List La) (aM aL : Option Addr) (cM cL : Nat) (w : World) (h : SrcC w M X aM aL) (hf : FewC M X) (hc : M.length ≤ cM) :
    Calls Try.prog 47 #[caV aM aL M X cM cL] w fun e w' => e = .returned (.bool (okC ⟨M, lns X⟩)) ∧ Fr w w' := by
  have F0 : Fr w (w.alloc (.cells #[.slice aM M.length cM, .slice aL X.length cL] 30)) := Fr.alloc _ _
  have HF := Lib.hid F0
  have HX := Lib.hid (Box2.new w (.slice aM M.length cM) (.slice aL X.length cL) 30 _ rfl)
  have HS := Lib.hid (h.fr F0)
  have hR : ∀ b, okC ⟨M, lns X⟩ = b → Hid (okC ⟨M, lns X⟩ = b) := fun b h => Lib.hid h
  have hE := Lib.hid (okC_eq M X)
  have P1 := impl_areWords M aM cM 256
  have e1 : (M.all okB && decide ((M.length : Int) = 256)) = wordsB M 256 := words_eq M 256
  rw [e1] at P1
  have hfM := hf.M
  have HFew := Lib.hid hf
  clear F0 h e1 hf
  cases h1 : wordsB M 256
  · have H := hR false (by rw [hE.out, h1]; rfl)
    rw [H.out]
    rw [h1] at P1
    have HP := Lib.hid P1
    clear P1 H h1 hE hR
    go_enter Try.func47, Try.ntmps47
    go_wp2_with fail
    generalize (w.alloc (.cells #[.slice aM M.length cM, .slice aL X.length cL] 30)) = u0 at *
    have HQ := Lib.hid (HP.out u0 HS.out.M (by omega))
    obtain ⟨_, c0, c1, _, _⟩ := HX.out
    go_wp2_with (go_at_call 86; refine HQ.out.mono ?_; rintro e w' ⟨rfl, rfl⟩)
    go_ret
    exact ⟨rfl, HF.out⟩
  · obtain ⟨hMa, hMl⟩ := wordsB_true h1
    rw [h1] at P1
    have HP := Lib.hid P1
    have HML := Lib.hid hMl
    clear P1 hMa hMl
    by_cases h2 : X.length = 4
    · have H : Hid (okC ⟨M, lns X⟩ = okLns M (lns X)) := Lib.hid (by rw [hE.out, h1, decide_eq_true h2]; rfl)
      rw [H.out]
      have HXL := Lib.hid h2
      clear H h1 hE hR
      unfold caV
      rw [h2] at HX HF HS ⊢
      have hc' := hc
      rw [HML.out] at hc'
      go_enter Try.func47, Try.ntmps47
      go_wp2_with fail
      generalize (w.alloc (.cells #[.slice aM M.length cM, .slice aL 4 cL] 30)) = u0 at *
      have HQ := Lib.hid (HP.out u0 HS.out.M (by omega))
      obtain ⟨_, c0, c1, _, _⟩ := HX.out
      go_upto_region 4 with (go_at_call 86; refine HQ.out.mono ?_; rintro e w' ⟨rfl, rfl⟩)
      clear HQ HP c0 c1
      go_loopw [18] (fun i wr => ∃ p : Nat, p ≤ 4 ∧ i = .int .i64 p ∧ (∀ j, j < p → okLn M (j : Int) ((lns X).getD j ln0) = true) ∧ Fr u0 wr) (fun i _ => 4 - (intOf i).toNat)
      case atStart => exact ⟨0, by omega, rfl, fun j hj => absurd hj (Nat.not_lt_zero _), Below.refl _ _⟩
      case round =>
        obtain ⟨p, hp, rfl, hok, hfr⟩ := hrel
        have HO := Lib.hid hok
        have HFr := Lib.hid hfr
        by_cases hlt : p < 4
        · have hS := HS.out.fr hfr
          obtain ⟨g, o, rfl, hgl, hrg⟩ := hS.L.at0 (by rw [HXL.out]; decide)
          obtain ⟨d0, d1, d2, d3⟩ := line_at hrg p (by rw [HXL.out]; exact hlt)
          have hwd := hS.L.wd p (by rw [HXL.out]; exact hlt)
          have hwl := HFew.out.W p (by rw [HXL.out]; exact hlt)
          have E := fun v (f : Fr wr v) => impl_fits7 (X.getD p la0) (p : Int) M aM cM v (by omega) (by omega) HML.out (by omega) (hS.M.fr f) (hwd.fr f) hwl
          rw [← lns_get X p] at E
          have HE := Lib.hid E
          obtain ⟨_, c0, c1, _, _⟩ := HX.out.fr hfr
          clear hS hrg hwd hwl E hok hfr
          have hlt' : (p : Int) < 4 := by omega
          cases hb : okLn M (p : Int) ((lns X).getD p ln0)
          · have H := Lib.hid (okLns_not (L := lns X) (p := p) (by rw [lns_len, HXL.out]; exact hlt) hb)
            rw [hb] at HE
            clear hb
            generalize X.getD p la0 = l at *
            have HA : Hid (Fr wr (wr.alloc (.cells #[.bool l.n.u, .int .i64 l.n.p, .bool l.n.d, .slice l.a l.n.W.length l.c] 59))) := Lib.hid (Fr.alloc _ _)
            go_wp2_with (go_at_call 87; refine (HE.out _ HA.out).mono ?_; rintro e w' ⟨rfl, hf2⟩; have HF2 := Lib.hid hf2; clear hf2)
            go_ret
            exact ⟨ret_bool H.out.symm, Fr.trans (Fr.trans (Fr.trans HF.out HFr.out) HA.out) HF2.out⟩
          · rw [hb] at HE
            have HB := Lib.hid hb
            clear hb
            generalize X.getD p la0 = l at *
            have HA : Hid (Fr wr (wr.alloc (.cells #[.bool l.n.u, .int .i64 l.n.p, .bool l.n.d, .slice l.a l.n.W.length l.c] 59))) := Lib.hid (Fr.alloc _ _)
            go_wp2_with (go_at_call 87; refine (HE.out _ HA.out).mono ?_; rintro e w' ⟨rfl, hf2⟩; have HF2 := Lib.hid hf2; clear hf2)
            go_roundw
            case rel => exact ⟨p + 1, by omega, by go_num, fun j hj => by
              rcases Nat.lt_succ_iff_lt_or_eq.1 hj with h | h
              · exact HO.out j h
              · rw [h]; exact HB.out, Fr.trans (Fr.trans HFr.out HA.out) HF2.out⟩
            case measure => simp [intOf]; omega
        · have hge : ¬ (p : Int) < 4 := by omega
          have H := Lib.hid (okLns_of (L := lns X) (p := p) HO.out (by rw [lns_len, HXL.out]; omega))
          clear hok hfr
          go_wp2
          go_ret
          exact ⟨ret_bool H.out.symm, Fr.trans HF.out HFr.out⟩
    · have H := hR false (by rw [hE.out, h1, decide_eq_false h2]; rfl)
      rw [H.out]
      have h3 : ((X.length : Int) != 4) = true := by simp; omega
      clear H h1 hE hR h2
      go_enter Try.func47, Try.ntmps47
      go_wp2_with fail
      generalize (w.alloc (.cells #[.slice aM M.length cM, .slice aL X.length cL] 30)) = u0 at *
      have HQ := Lib.hid (HP.out u0 HS.out.M (by omega))
      obtain ⟨_, c0, c1, _, _⟩ := HX.out
      go_wp2_with (go_at_call 86; refine HQ.out.mono ?_; rintro e w' ⟨rfl, rfl⟩)
      go_ret
      exact ⟨rfl, HF.out⟩

set_option maxRecDepth 100000 in
set_option maxHeartbeats 4000000 in
theorem spec_ChcOk (M : List Int) (X : List La) (aM aL : Option Addr) (cM cL : Nat) (w : World) (h : SrcC w M X aM aL) (hf : FewC M X) :
    Calls Try.prog 48 #[caV aM aL M X cM cL] w fun e w' => e = .returned (.bool (okC ⟨M, lns X⟩)) ∧ Fr w w' := by
  have F0 : Fr w (w.alloc (.cells #[.slice aM M.length cM, .slice aL X.length cL] 30)) := Fr.alloc _ _
  have HF := Lib.hid F0
  have HX := Lib.hid (Box2.new w (.slice aM M.length cM) (.slice aL X.length cL) 30 _ rfl)
  have HS := Lib.hid (h.fr F0)
  have hR : ∀ b, okC ⟨M, lns X⟩ = b → Hid (okC ⟨M, lns X⟩ = b) := fun b h => Lib.hid h
  have hE := Lib.hid (okC_eq M X)
  have P1 := spec_l4Words M aM cM 256
  have e1 : (M.all okB && decide ((M.length : Int) = 256)) = wordsB M 256 := words_eq M 256
  rw [e1] at P1
  have hfM := hf.M
  have HFew := Lib.hid hf
  clear F0 h e1 hf
  cases h1 : wordsB M 256
  · have H := hR false (by rw [hE.out, h1]; rfl)
    rw [H.out]
    rw [h1] at P1
    have HP := Lib.hid P1
    clear P1 H h1 hE hR
    go_enter Try.func48, Try.ntmps48
    go_wp2_with fail
    generalize (w.alloc (.cells #[.slice aM M.length cM, .slice aL X.length cL] 30)) = u0 at *
    have HQ := Lib.hid (HP.out u0 HS.out.M (by omega))
    obtain ⟨_, c0, c1, _, _⟩ := HX.out
    go_wp2_with (go_at_call 88; refine HQ.out.mono ?_; rintro e w' ⟨rfl, rfl⟩)
    go_ret
    exact ⟨rfl, HF.out⟩
  · obtain ⟨hMa, hMl⟩ := wordsB_true h1
    rw [h1] at P1
    have HP := Lib.hid P1
    have HML := Lib.hid hMl
    clear P1 hMa hMl
    by_cases h2 : X.length = 4
    · have H : Hid (okC ⟨M, lns X⟩ = okLns M (lns X)) := Lib.hid (by rw [hE.out, h1, decide_eq_true h2]; rfl)
      rw [H.out]
      have HXL := Lib.hid h2
      clear H h1 hE hR
      unfold caV
      rw [h2] at HX HF HS ⊢
      go_enter Try.func48, Try.ntmps48
      go_wp2_with fail
      generalize (w.alloc (.cells #[.slice aM M.length cM, .slice aL 4 cL] 30)) = u0 at *
      have HQ := Lib.hid (HP.out u0 HS.out.M (by omega))
      obtain ⟨_, c0, c1, _, _⟩ := HX.out
      go_upto_region 4 with (go_at_call 88; refine HQ.out.mono ?_; rintro e w' ⟨rfl, rfl⟩)
      clear HQ HP c0 c1
      go_loopw [3] (fun i wr => ∃ k : Nat, k ≤ 4 ∧ i = .int .i64 k ∧ (∀ j, j < k → okLn M (j : Int) ((lns X).getD j ln0) = true) ∧ Fr u0 wr) (fun i _ => 4 - (intOf i).toNat)
      case atStart => exact ⟨0, by omega, rfl, fun j hj => absurd hj (Nat.not_lt_zero _), Below.refl _ _⟩
      case round =>
        obtain ⟨k, hk, rfl, hok, hfr⟩ := hrel
        have HO := Lib.hid hok
        have HFr := Lib.hid hfr
        by_cases hlt : k < 4
        · have hS := HS.out.fr hfr
          have HSr := Lib.hid hS
          have HXr := Lib.hid (HX.out.fr hfr)
          obtain ⟨g, o, rfl, hgl, hrg⟩ := hS.L.at0 (by rw [HXL.out]; decide)
          obtain ⟨d0, d1, d2, d3⟩ := line_at hrg k (by rw [HXL.out]; exact hlt)
          have hwd := hS.L.wd k (by rw [HXL.out]; exact hlt)
          have hwl := HFew.out.W k (by rw [HXL.out]; exact hlt)
          have HN := Lib.hid (lns_get X k)
          obtain ⟨_, c0, c1, _, _⟩ := HX.out.fr hfr
          clear hS hrg hok hfr
          have hlt' : (k : Int) < 4 := by omega
          have hk0 : (0 : Int) ≤ (k : Int) := Int.natCast_nonneg _
          generalize X.getD k la0 = l at *
          obtain ⟨⟨u, p, d, W⟩, ao, c⟩ := l
          unfold WSrc at hwd
          simp only at d0 d1 d2 d3 hwd hwl HN
          cases u
          · clear hwd
            cases d
            · by_cases h1 : p = 0
              · by_cases h2 : W.length = 0
                · have HB := Lib.hid (show okLn M (k : Int) ⟨false, p, false, W⟩ = true by rw [okLn_free_eq]; simp only [h1, h2]; rfl)
                  have h1' : (p != 0) = false := by simpa using h1
                  have h2' : ((W.length : Int) != 0) = false := by simp [h2]
                  clear h1 h2
                  have HA : Hid (Fr wr (wr.alloc (.cells #[.bool false, .int .i64 p, .bool false, .slice ao W.length c] 59))) := Lib.hid (Fr.alloc _ _)
                  have HY : Hid (Box4 (wr.alloc (.cells #[.bool false, .int .i64 p, .bool false, .slice ao W.length c] 59)) wr.heap.size (.bool false) (.int .i64 p) (.bool false) (.slice ao W.length c)) := Lib.hid (Box4.new _ _ _ _ _ _ _ rfl)
                  go_wp2
                  go_roundw
                  case rel => exact ⟨k + 1, by omega, by go_num, fun j hj => by
                    rcases Nat.lt_succ_iff_lt_or_eq.1 hj with h | h
                    · exact HO.out j h
                    · rw [h, HN.out]; exact HB.out, Fr.trans HFr.out HA.out⟩
                  case measure => simp [intOf]; omega
                · have H := Lib.hid (okLns_not (M := M) (L := lns X) (p := k) (by rw [lns_len, HXL.out]; exact hlt) (by rw [HN.out]; exact (by rw [okLn_free_eq, decide_eq_false h2]; simp)))
                  have h1' : (p != 0) = false := by simpa using h1
                  have h2' : ((W.length : Int) != 0) = true := by simp only [bne_iff_ne, ne_eq]; omega
                  clear h1 h2
                  have HA : Hid (Fr wr (wr.alloc (.cells #[.bool false, .int .i64 p, .bool false, .slice ao W.length c] 59))) := Lib.hid (Fr.alloc _ _)
                  have HY : Hid (Box4 (wr.alloc (.cells #[.bool false, .int .i64 p, .bool false, .slice ao W.length c] 59)) wr.heap.size (.bool false) (.int .i64 p) (.bool false) (.slice ao W.length c)) := Lib.hid (Box4.new _ _ _ _ _ _ _ rfl)
                  go_wp2
                  go_ret
                  exact ⟨ret_bool H.out.symm, Fr.trans (Fr.trans HF.out HFr.out) HA.out⟩
              · have H := Lib.hid (okLns_not (M := M) (L := lns X) (p := k) (by rw [lns_len, HXL.out]; exact hlt) (by rw [HN.out]; exact (by rw [okLn_free_eq, decide_eq_false h1]; rfl)))
                have h1' : (p != 0) = true := by simpa using h1
                clear h1
                have HA : Hid (Fr wr (wr.alloc (.cells #[.bool false, .int .i64 p, .bool false, .slice ao W.length c] 59))) := Lib.hid (Fr.alloc _ _)
                have HY : Hid (Box4 (wr.alloc (.cells #[.bool false, .int .i64 p, .bool false, .slice ao W.length c] 59)) wr.heap.size (.bool false) (.int .i64 p) (.bool false) (.slice ao W.length c)) := Lib.hid (Box4.new _ _ _ _ _ _ _ rfl)
                go_wp2
                go_ret
                exact ⟨ret_bool H.out.symm, Fr.trans (Fr.trans HF.out HFr.out) HA.out⟩
            · by_cases h1 : p = 0
              · have H := Lib.hid (okLns_not (M := M) (L := lns X) (p := k) (by rw [lns_len, HXL.out]; exact hlt) (by rw [HN.out]; exact (by rw [okLn_free_eq]; simp)))
                have h1' : (p != 0) = false := by simpa using h1
                clear h1
                have HA : Hid (Fr wr (wr.alloc (.cells #[.bool false, .int .i64 p, .bool true, .slice ao W.length c] 59))) := Lib.hid (Fr.alloc _ _)
                have HY : Hid (Box4 (wr.alloc (.cells #[.bool false, .int .i64 p, .bool true, .slice ao W.length c] 59)) wr.heap.size (.bool false) (.int .i64 p) (.bool true) (.slice ao W.length c)) := Lib.hid (Box4.new _ _ _ _ _ _ _ rfl)
                go_wp2
                go_ret
                exact ⟨ret_bool H.out.symm, Fr.trans (Fr.trans HF.out HFr.out) HA.out⟩
              · have H := Lib.hid (okLns_not (M := M) (L := lns X) (p := k) (by rw [lns_len, HXL.out]; exact hlt) (by rw [HN.out]; exact (by rw [okLn_free_eq, decide_eq_false h1]; rfl)))
                have h1' : (p != 0) = true := by simpa using h1
                clear h1
                have HA : Hid (Fr wr (wr.alloc (.cells #[.bool false, .int .i64 p, .bool true, .slice ao W.length c] 59))) := Lib.hid (Fr.alloc _ _)
                have HY : Hid (Box4 (wr.alloc (.cells #[.bool false, .int .i64 p, .bool true, .slice ao W.length c] 59)) wr.heap.size (.bool false) (.int .i64 p) (.bool true) (.slice ao W.length c)) := Lib.hid (Box4.new _ _ _ _ _ _ _ rfl)
                go_wp2
                go_ret
                exact ⟨ret_bool H.out.symm, Fr.trans (Fr.trans HF.out HFr.out) HA.out⟩
          · have P1 := fun w => spec_l1In p 0 252 w
            have P4 := fun v (f : Fr wr v) => spec_l4Words W ao c 4 v (hwd.fr f) (by omega)
            have e4 : (W.all okB && decide ((W.length : Int) = 4)) = wordsB W 4 := words_eq W 4
            rw [e4] at P4
            by_cases h1 : 0 ≤ p ∧ p ≤ 252
            · obtain ⟨p0, p1⟩ := h1
              rw [decide_eq_true (show 0 ≤ p ∧ p ≤ 252 from ⟨p0, p1⟩)] at P1
              have HP1 := Lib.hid P1
              have P3 := fun w => spec_l7Slot p w p0 (by omega)
              clear P1
              by_cases h2 : p % 4 = 0
              · by_cases h3 : p / 4 % 4 = (k : Int)
                · cases h4 : wordsB W 4
                  · have H := Lib.hid (okLns_not (M := M) (L := lns X) (p := k) (by rw [lns_len, HXL.out]; exact hlt) (by rw [HN.out]; exact (by simp only [okLn, if_true]; rw [h4]; simp)))
                    have h2' : (p % 4 != 0) = false := by simpa using h2
                    rw [h3] at P3
                    rw [h4] at P4
                    have HP3 := Lib.hid P3
                    have HP4 := Lib.hid P4
                    clear P3 P4 h2 h3 h4 e4
                    have HA : Hid (Fr wr (wr.alloc (.cells #[.bool true, .int .i64 p, .bool d, .slice ao W.length c] 59))) := Lib.hid (Fr.alloc _ _)
                    have HY : Hid (Box4 (wr.alloc (.cells #[.bool true, .int .i64 p, .bool d, .slice ao W.length c] 59)) wr.heap.size (.bool true) (.int .i64 p) (.bool d) (.slice ao W.length c)) := Lib.hid (Box4.new _ _ _ _ _ _ _ rfl)
                    have HQ4 := Lib.hid (HP4.out _ HA.out)
                    go_wp2_with (first | (go_at_call 63; refine (HP1.out _).mono ?_; rintro e w' ⟨rfl, rfl⟩) | (go_at_call 89; refine (HP3.out _).mono ?_; rintro e w' ⟨rfl, rfl⟩) | (go_at_call 88; refine HQ4.out.mono ?_; rintro e w' ⟨rfl, rfl⟩))
                    go_ret
                    exact ⟨ret_bool H.out.symm, Fr.trans (Fr.trans HF.out HFr.out) HA.out⟩
                  · have h2' : (p % 4 != 0) = false := by simpa using h2
                    have hq : 0 ≤ p ∧ p ≤ 252 ∧ p % 4 = 0 ∧ p / 4 % 4 = (k : Int) := ⟨p0, p1, h2, h3⟩
                    have HE : Hid (okLn M (k : Int) ⟨true, p, d, W⟩ = (d || sameB M W p.toNat)) := Lib.hid (by simp only [okLn, if_true, h4, decide_eq_true hq, Bool.true_and])
                    have HWL := Lib.hid (wordsB_true h4).2
                    rw [h3] at P3
                    rw [h4] at P4
                    have HP3 := Lib.hid P3
                    have HP4 := Lib.hid P4
                    have HWD := Lib.hid hwd
                    clear P3 P4 h2 h3 h4 e4 hq hwd
                    obtain ⟨N, rfl⟩ := Int.eq_ofNat_of_zero_le p0
                    have hN : N ≤ 252 := by omega
                    rw [Int.toNat_natCast] at HE
                    have HA : Hid (Fr wr (wr.alloc (.cells #[.bool true, .int .i64 (N : Int), .bool d, .slice ao W.length c] 59))) := Lib.hid (Fr.alloc _ _)
                    have HY : Hid (Box4 (wr.alloc (.cells #[.bool true, .int .i64 (N : Int), .bool d, .slice ao W.length c] 59)) wr.heap.size (.bool true) (.int .i64 (N : Int)) (.bool d) (.slice ao W.length c)) := Lib.hid (Box4.new _ _ _ _ _ _ _ rfl)
                    have HQ4 := Lib.hid (HP4.out _ HA.out)
                    go_upto_region 13 with (first | (go_at_call 63; refine (HP1.out _).mono ?_; rintro e w' ⟨rfl, rfl⟩) | (go_at_call 89; refine (HP3.out _).mono ?_; rintro e w' ⟨rfl, rfl⟩) | (go_at_call 88; refine HQ4.out.mono ?_; rintro e w' ⟨rfl, rfl⟩))
                    generalize (wr.alloc (.cells #[.bool true, .int .i64 (N : Int), .bool d, .slice ao W.length c] 59)) = u2 at *
                    have hX2 := HXr.out.fr HA.out
                    have hS2 := HSr.out.fr HA.out
                    obtain ⟨gM, oM, rfl, hgM, kM⟩ := hS2.M (by rw [HML.out]; decide)
                    have hW2 := HWD.out.fr HA.out
                    obtain ⟨gW, oW, rfl, hgW, kW⟩ := hW2 (by rw [HWL.out]; decide)
                    have KM : Hid (∀ v, Fr u2 v → ∀ i, i < 256 → v.cell? ⟨gM, oM + i, none⟩ = some (.int .i64 (M.getD i 0))) := Lib.hid (fun v f i hi => by rw [f.cell hgM]; exact kM i (by rw [HML.out]; exact hi))
                    have KW : Hid (∀ v, Fr u2 v → ∀ i, i < 4 → v.cell? ⟨gW, oW + i, none⟩ = some (.int .i64 (W.getD i 0))) := Lib.hid (fun v f i hi => by rw [f.cell hgW]; exact kW i (by rw [HWL.out]; exact hi))
                    have HX2 := Lib.hid hX2
                    clear hX2 hS2 hW2 kM kW HQ4 HP3 HP4 HP1 c0 c1 d0 d1 d2 d3 h2'
                    have hl4 : Hid ((W.length : Int) = 4) := Lib.hid (by have := HWL.out; omega)
                    have hM4 : Hid ((M.length : Int) = 256) := Lib.hid (by have := HML.out; omega)
                    obtain ⟨w1, hw1⟩ : ∃ w1, w1 = wr := ⟨_, rfl⟩
                    subst hw1
                    go_loopw [5] (fun i wr => ∃ j : Nat, j ≤ 4 ∧ i = .int .i64 j ∧ (d = true ∨ ∀ i, i < j → W.getD i 0 = M.getD (N + i) 0) ∧ Fr u2 wr) (fun i _ => 4 - (intOf i).toNat)
                    case atStart => exact ⟨0, by omega, rfl, .inr fun i hi => absurd hi (Nat.not_lt_zero _), Below.refl _ _⟩
                    case round =>
                      obtain ⟨j, hj, rfl, hd, hfv⟩ := hrel
                      have HD := Lib.hid hd
                      have HV := Lib.hid hfv
                      obtain ⟨_, x0, x1, _, _⟩ := HX2.out.fr hfv
                      obtain ⟨_, y0, y1, y2, y3, _, _, _, _⟩ := HY.out.fr hfv
                      clear hd hfv
                      by_cases hjl : j < 4
                      · have hj4 : (j : Int) < 4 := by omega
                        cases d
                        · have kw := KW.out wr HV.out j hjl
                          have km := KM.out wr HV.out (N + j) (by omega)
                          have hjw : (j : Int) < (W.length : Int) := by rw [hl4.out]; omega
                          have hjm : ((N : Int) + (j : Int)) < (M.length : Int) := by rw [hM4.out]; omega
                          have hj0 : (0 : Int) ≤ (j : Int) := Int.natCast_nonneg _
                          have hN0 : (0 : Int) ≤ (N : Int) + (j : Int) := by omega
                          have hw1 : IntKind.i64.wrap ((N : Int) + (j : Int)) = (N : Int) + (j : Int) := IntWalk.i64_in _ (by omega)
                          have hw2 : ((N : Int) + (j : Int)).toNat = N + j := by omega
                          by_cases e : W.getD j 0 = M.getD (N + j) 0
                          · rw [← e] at km
                            have HEq := Lib.hid e
                            clear e
                            generalize W.getD j 0 = z at kw km
                            go_wp2_with fail
                            go_quiet (fail)
                            clear hw1 hw2
                            go_wp2
                            go_roundw
                            case rel => exact ⟨j + 1, by omega, by go_num, .inr fun i hi => by
                              rcases Nat.lt_succ_iff_lt_or_eq.1 hi with h | h
                              · rcases HD.out with hd | hd
                                · cases hd
                                · exact hd i h
                              · rw [h]; exact HEq.out, fr_drewN HV.out _⟩
                            case measure => simp [intOf]; omega
                          · have H := Lib.hid (okLns_not (M := M) (L := lns X) (p := k) (by rw [lns_len, HXL.out]; exact hlt) (by rw [HN.out, HE.out]; exact Bool.eq_false_iff.2 fun h => e ((sameB_iff _ _ _).1 h j hjl)))
                            have e' : (W.getD j 0 != M.getD (N + j) 0) = true := by simpa using e
                            clear e
                            generalize W.getD j 0 = z at kw e'
                            generalize M.getD (N + j) 0 = z' at km e'
                            go_wp2_with fail
                            go_quiet (fail)
                            clear hw1 hw2
                            go_wp2
                            go_ret
                            exact ⟨ret_bool H.out.symm, fr_drewN (Fr.trans (Fr.trans (Fr.trans HF.out HFr.out) HA.out) HV.out) _⟩
                        · go_wp2_with fail
                          go_quiet (fail)
                          go_wp2
                          go_roundw
                          case rel => exact ⟨j + 1, by omega, by go_num, .inl (by first | trivial | rfl), fr_drewN HV.out _⟩
                          case measure => simp [intOf]; omega
                      · have hge : ¬ (j : Int) < 4 := by omega
                        have HB : Hid (okLn M (k : Int) ⟨true, (N : Int), d, W⟩ = true) := Lib.hid (by
                          rw [HE.out, Bool.or_eq_true]
                          rcases HD.out with hd | hd
                          · exact .inl hd
                          · exact .inr ((sameB_iff _ _ _).2 fun i hi => hd i (by omega)))
                        go_wp2
                        go_roundw
                        case rel => exact ⟨k + 1, by omega, by go_num, fun j hj => by
                          rcases Nat.lt_succ_iff_lt_or_eq.1 hj with h | h
                          · exact HO.out j h
                          · rw [h, HN.out]; exact HB.out, Fr.trans (Fr.trans HFr.out HA.out) HV.out⟩
                        case measure => simp [intOf]; omega
                · have H := Lib.hid (okLns_not (M := M) (L := lns X) (p := k) (by rw [lns_len, HXL.out]; exact hlt) (by rw [HN.out]; exact (by simp only [okLn, if_true]; rw [decide_eq_false (fun h => h3 h.2.2.2)]; rfl)))
                  have h2' : (p % 4 != 0) = false := by simpa using h2
                  have h3' : (p / 4 % 4 != (k : Int)) = true := by simpa using h3
                  have HP3 := Lib.hid P3
                  clear P3 P4 h2 h3 e4
                  have HA : Hid (Fr wr (wr.alloc (.cells #[.bool true, .int .i64 p, .bool d, .slice ao W.length c] 59))) := Lib.hid (Fr.alloc _ _)
                  have HY : Hid (Box4 (wr.alloc (.cells #[.bool true, .int .i64 p, .bool d, .slice ao W.length c] 59)) wr.heap.size (.bool true) (.int .i64 p) (.bool d) (.slice ao W.length c)) := Lib.hid (Box4.new _ _ _ _ _ _ _ rfl)
                  go_wp2_with (first | (go_at_call 63; refine (HP1.out _).mono ?_; rintro e w' ⟨rfl, rfl⟩) | (go_at_call 89; refine (HP3.out _).mono ?_; rintro e w' ⟨rfl, rfl⟩))
                  go_ret
                  exact ⟨ret_bool H.out.symm, Fr.trans (Fr.trans HF.out HFr.out) HA.out⟩
              · have H := Lib.hid (okLns_not (M := M) (L := lns X) (p := k) (by rw [lns_len, HXL.out]; exact hlt) (by rw [HN.out]; exact (by simp only [okLn, if_true]; rw [decide_eq_false (fun h => h2 h.2.2.1)]; rfl)))
                have h2' : (p % 4 != 0) = true := by simpa using h2
                clear P3 P4 h2 e4
                have HA : Hid (Fr wr (wr.alloc (.cells #[.bool true, .int .i64 p, .bool d, .slice ao W.length c] 59))) := Lib.hid (Fr.alloc _ _)
                have HY : Hid (Box4 (wr.alloc (.cells #[.bool true, .int .i64 p, .bool d, .slice ao W.length c] 59)) wr.heap.size (.bool true) (.int .i64 p) (.bool d) (.slice ao W.length c)) := Lib.hid (Box4.new _ _ _ _ _ _ _ rfl)
                go_wp2_with (first | (go_at_call 63; refine (HP1.out _).mono ?_; rintro e w' ⟨rfl, rfl⟩))
                go_ret
                exact ⟨ret_bool H.out.symm, Fr.trans (Fr.trans HF.out HFr.out) HA.out⟩
            · have H := Lib.hid (okLns_not (M := M) (L := lns X) (p := k) (by rw [lns_len, HXL.out]; exact hlt) (by rw [HN.out]; exact (by simp only [okLn, if_true]; rw [decide_eq_false (fun h => h1 ⟨h.1, h.2.1⟩)]; rfl)))
              rw [decide_eq_false h1] at P1
              have HP1 := Lib.hid P1
              clear P1 P4 h1 e4
              have HA : Hid (Fr wr (wr.alloc (.cells #[.bool true, .int .i64 p, .bool d, .slice ao W.length c] 59))) := Lib.hid (Fr.alloc _ _)
              have HY : Hid (Box4 (wr.alloc (.cells #[.bool true, .int .i64 p, .bool d, .slice ao W.length c] 59)) wr.heap.size (.bool true) (.int .i64 p) (.bool d) (.slice ao W.length c)) := Lib.hid (Box4.new _ _ _ _ _ _ _ rfl)
              go_wp2_with (first | (go_at_call 63; refine (HP1.out _).mono ?_; rintro e w' ⟨rfl, rfl⟩))
              go_ret
              exact ⟨ret_bool H.out.symm, Fr.trans (Fr.trans HF.out HFr.out) HA.out⟩
        · have hge : ¬ (k : Int) < 4 := by omega
          have H := Lib.hid (okLns_of (M := M) (L := lns X) (p := k) HO.out (by rw [lns_len, HXL.out]; omega))
          obtain ⟨_, c0, c1, _, _⟩ := HX.out.fr hfr
          clear hok hfr
          go_wp2
          go_ret
          exact ⟨ret_bool H.out.symm, Fr.trans HF.out HFr.out⟩
    · have H := hR false (by rw [hE.out, h1, decide_eq_false h2]; rfl)
      rw [H.out]
      have h3 : ((X.length : Int) != 4) = true := by simp; omega
      clear H h1 hE hR h2
      go_enter Try.func48, Try.ntmps48
      go_wp2_with fail
      generalize (w.alloc (.cells #[.slice aM M.length cM, .slice aL X.length cL] 30)) = u0 at *
      have HQ := Lib.hid (HP.out u0 HS.out.M (by omega))
      obtain ⟨_, c0, c1, _, _⟩ := HX.out
      go_wp2_with (go_at_call 88; refine HQ.out.mono ?_; rintro e w' ⟨rfl, rfl⟩)
      go_ret
      exact ⟨rfl, HF.out⟩

end Go.Proofs.Ytoacgjjpipdkjaa
