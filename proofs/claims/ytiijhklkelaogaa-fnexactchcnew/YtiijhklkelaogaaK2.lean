/- Of caches: which line, which block; what is ok, of the program and of the model. What is ok, of caches: the program's. -/
import Derived.StillTailTactics
import Derived.IntWalk
import Derived.Test.YtiijhklkelaogaaK1
namespace Go.Proofs.Ytiijhklkelaogaa
open Go.RowKit
set_option linter.unusedVariables false
set_option linter.unusedSimpArgs false
theorem drewN_two (w : World) (m n : Nat) : w.drewN (m + n) = (w.drewN m).drewN n := by simp [World.drewN, Nat.add_assoc]
theorem quiet_eq {P : Program} {f : FuncId} {args : Array Value} {w : World} {n : Nat} {v : Value}
    (h : Calls P f args (w.drewN n) fun e w' => e = .returned v ∧ w.drewN n = w') : Calls P f args (w.drewN n) fun e w'' => e = .returned v ∧ ∃ m, w'' = w.drewN m :=
  h.mono fun _ _ ⟨he, hm⟩ => ⟨he, n, hm.symm⟩
theorem spec_l7Slot (a : Int) (w : World) (h0 : 0 ≤ a) (h1 : a < 1000) : Calls Try.prog 60 #[.int .i64 a] w fun e w' => e = .returned (.int .i64 (a / 4 % 4)) ∧ w = w' := by
  go_enter Try.func60, Try.ntmps60
  go_wp2
  go_ret
  exact ⟨rfl, rfl⟩
theorem impl_indexOf (a : Int) (w : World) (h0 : 0 ≤ a) (h1 : a < 1000) : Calls Try.prog 84 #[.int .i64 a] w fun e w' => e = .returned (.int .i64 (a / 4 % 4)) ∧ w = w' := by
  go_enter Try.func84, Try.ntmps84
  go_wp2
  go_ret
  exact ⟨rfl, rfl⟩
theorem impl_blockOf (a : Int) (w : World) (h0 : 0 ≤ a) (h1 : a < 1000) : Calls Try.prog 83 #[.int .i64 a] w fun e w' => e = .returned (.int .i64 (blkA a)) ∧ w = w' := by
  go_enter Try.func83, Try.ntmps83
  go_wp2
  go_ret
  exact ⟨rfl, rfl⟩
theorem impl_isPlace7 (a : Int) (w : World) : Calls Try.prog 64 #[.int .i64 a] w fun e w' => e = .returned (.bool (plcB a)) ∧ w = w' := by
  by_cases h1 : 0 ≤ a
  · by_cases h2 : a < 256
    · have H := Lib.hid (show plcB a = true by simp [plcB]; omega)
      have h3 : decide (a < 256) = true := by simpa using h2
      go_enter Try.func64, Try.ntmps64
      go_wp2
      go_ret
      exact ⟨ret_bool H.out.symm, rfl⟩
    · have H := Lib.hid (show plcB a = false by simp [plcB]; omega)
      have h3 : decide (a < 256) = false := by simpa using h2
      go_enter Try.func64, Try.ntmps64
      go_wp2
      go_ret
      exact ⟨ret_bool H.out.symm, rfl⟩
  · have H := Lib.hid (show plcB a = false by simp [plcB]; omega)
    have h3 : decide (0 ≤ a) = false := by simpa using h1
    go_enter Try.func64, Try.ntmps64
    go_wp2
    go_ret
    exact ⟨ret_bool H.out.symm, rfl⟩
theorem plc_l1In (a : Int) (w : World) : Calls Try.prog 59 #[.int .i64 a, .int .i64 0, .int .i64 255] w fun e w' => e = .returned (.bool (plcB a)) ∧ w = w' :=
  (spec_l1In a 0 255 w).mono fun e w' ⟨h, h2⟩ => ⟨by rw [h]; exact ret_bool (by unfold plcB; rw [decide_eq_decide]; omega), h2⟩
theorem impl_holds (l : La) (a : Int) (w : World) (h0 : 0 ≤ a) (h1 : a < 1000) : Calls Try.prog 103 #[lav l, .int .i64 a] w fun e w' => e = .returned (.bool (holdsL l.n a)) ∧ Fr w w' := by
  obtain ⟨⟨u, p, d, W⟩, ao, c⟩ := l
  have F0 : Fr w (w.alloc (.cells #[.bool u, .int .i64 p, .bool d, .slice ao W.length c] 50)) := Fr.alloc _ _
  have HF := Lib.hid F0
  have HX := Lib.hid (Box4.new w (.bool u) (.int .i64 p) (.bool d) (.slice ao W.length c) 50 _ rfl)
  clear F0
  cases u
  · have H := Lib.hid (show holdsL ⟨false, p, d, W⟩ a = false by simp [holdsL])
    go_enter Try.func103, Try.ntmps103
    go_wp2_with fail
    generalize (w.alloc (.cells #[.bool false, .int .i64 p, .bool d, .slice ao W.length c] 50)) = u0 at *
    obtain ⟨_, c0, c1, _, _, _, _, _, _⟩ := HX.out
    go_quiet (fail)
    go_wp2
    go_ret
    exact ⟨ret_bool H.out.symm, Below.trans HF.out (Below.drewN (Below.refl _ _) _)⟩
  · have H := Lib.hid (show holdsL ⟨true, p, d, W⟩ a = decide (p = blkA a) by simp [holdsL])
    go_enter Try.func103, Try.ntmps103
    go_wp2_with fail
    generalize (w.alloc (.cells #[.bool true, .int .i64 p, .bool d, .slice ao W.length c] 50)) = u0 at *
    obtain ⟨_, c0, c1, _, _, _, _, _, _⟩ := HX.out
    go_quiet ((go_at_call 83; exact quiet_eq (impl_blockOf _ _ h0 h1)))
    go_wp2
    go_ret
    refine ⟨ret_bool ?_, Below.trans HF.out (Below.drewN (Below.refl _ _) _)⟩
    rw [H.out]
    simp [BEq.beq]
/-- Two rows of four numbers are the same. -/
def eq4 (A B : List Int) : Bool := (List.range 4).all fun j => decide (A.getD j 0 = B.getD j 0)
theorem slices_Equal4 (A B : List Int) (a1 a2 : Option Addr) (c1 c2 : Nat) (w : World) (h1 : Src w A.length (ivl A) a1) (h2 : Src w B.length (ivl B) a2) (hA : A.length = 4) (hB : B.length = 4) :
    Calls Try.prog 85 #[.slice a1 A.length c1, .slice a2 4 c2] w fun e w' => e = .returned (.bool (eq4 A B)) ∧ ∃ m, w.drewN m = w' := by
  obtain ⟨g1, o1, rfl, hg1, k1⟩ := h1 (by omega)
  obtain ⟨g2, o2, rfl, hg2, k2⟩ := h2 (by omega)
  rw [hA] at k1
  rw [hB] at k2
  have K1 := Lib.hid k1
  have K2 := Lib.hid k2
  rw [hA]
  clear k1 k2 h1 h2 hA hB
  go_enter Try.func85, Try.ntmps85
  go_wp2_with fail
  go_loopw [13] (fun i wr => ∃ p m : Nat, p ≤ 4 ∧ i = .int .i64 p ∧ (∀ j, j < p → A.getD j 0 = B.getD j 0) ∧ w.drewN m = wr) (fun i _ => 4 - (intOf i).toNat)
  case atStart => exact ⟨0, 0, by omega, rfl, fun j hj => absurd hj (Nat.not_lt_zero _), rfl⟩
  case round =>
    obtain ⟨p, m, hp, rfl, hs, rfl⟩ := hrel
    have HS := Lib.hid hs
    clear hs
    by_cases hlt : p < 4
    · have x0 := K1.out p hlt
      have y0 := K2.out p hlt
      simp only [ivl] at x0 y0
      have hp0 : (0 : Int) ≤ (p : Int) := Int.natCast_nonneg _
      have hp4 : (p : Int) < 4 := by omega
      by_cases e : A.getD p 0 = B.getD p 0
      · rw [← e] at y0
        have HE := Lib.hid e
        clear e
        generalize A.getD p 0 = z at x0 y0
        go_wp2_with fail
        go_quiet (fail)
        go_wp2
        go_roundw
        case rel => exact ⟨p + 1, _, by omega, by go_num, fun j hj => by
          rcases Nat.lt_succ_iff_lt_or_eq.1 hj with h | h
          · exact HS.out j h
          · rw [h]; exact HE.out, rfl⟩
        case measure => simp [intOf]; omega
      · have HN := Lib.hid (show eq4 A B = false from List.all_eq_false.2 ⟨p, by simpa using hlt, by simpa using e⟩)
        have e' : (A.getD p 0 != B.getD p 0) = true := by simpa using e
        clear e
        generalize A.getD p 0 = z at x0 e'
        generalize B.getD p 0 = z' at y0 e'
        go_wp2_with fail
        go_quiet (fail)
        go_wp2
        go_ret
        exact ⟨ret_bool HN.out.symm, _, drewN_two _ _ _⟩
    · have hge : ¬ (p : Int) < 4 := by omega
      have HA := Lib.hid (show eq4 A B = true from List.all_eq_true.2 fun j hj => by simpa using HS.out j (by simp at hj; omega))
      go_wp2
      go_ret
      exact ⟨ret_bool HA.out.symm, _, rfl⟩

theorem quiet_drew {P : Program} {f : FuncId} {args : Array Value} {w : World} {n : Nat} {v : Value}
    (h : Calls P f args (w.drewN n) fun e w' => e = .returned v ∧ ∃ m, (w.drewN n).drewN m = w') : Calls P f args (w.drewN n) fun e w'' => e = .returned v ∧ ∃ m, w'' = w.drewN m :=
  h.mono fun _ _ ⟨he, m, hm⟩ => ⟨he, n + m, by rw [← hm, drewN_two]⟩
theorem fr_drewN {w u : World} (h : Fr w u) (n : Nat) : Fr w (u.drewN n) := Below.trans h (Below.drewN (Below.refl _ _) _)
theorem slice_mid (g o n c N : Nat) (hN : N + 4 ≤ c) (v : World) :
    (Instr.slice 22 (.slice (some ⟨g, o, none⟩) n c) (some (.int .i64 (N : Int))) (some (.int .i64 ((N : Int) + 4))) none).run Try.prog v = .ok (.slice (some ⟨g, o + N, none⟩) 4 (c - N)) v := by
  have ht : Try.prog.underlying 22 = some (.slice (Try.prog.elem 22)) := by kernel_rfl
  have hs : ∀ v : World, (sizeOf (Try.prog.elem 22)).run Try.prog v = .ok 1 v := fun _ => by kernel_rfl
  rw [run_slice_lh (t := 22) (a := some ⟨g, o, none⟩) (len := n) (cap := c) (ht := ht) (kl := .i64) (kh := .i64) (l := (N : Int)) (h := (N : Int) + 4) (h0 := by omega) (h1 := by omega) (h2 := by omega), hs]
  have e1 : ((N : Int) + 4).toNat = N + 4 := by omega
  have e2 : ¬ c = N := by omega
  rw [e1]
  rcases Nat.eq_zero_or_pos N with h | h
  · subst h
    simp [Result.andThen, sliced, Addr.add]
  · simp [Result.andThen, sliced, e2, Addr.add, show N ≠ 0 by omega]
theorem slice_midAt (g o n c N : Nat) (hN : N + 4 ≤ c) (v : World) :
    (Instr.sliceAt 22 (.slice (some ⟨g, o, none⟩) n c) (some (.int .i64 (N : Int))) (some (.int .i64 ((N : Int) + 4))) none).run Try.prog v = .ok (.slice (some ⟨g, o + N, none⟩) 4 (c - N)) v := by
  have ht : Try.prog.underlying 22 = some (.slice (Try.prog.elem 22)) := by kernel_rfl
  rw [run_sliceAt_slice (h := ht)]
  exact slice_mid g o n c N hN v
theorem src_drewN {u : World} {n : Nat} {c : Nat → Value} {ao : Option Addr} (h : Src u n c ao) (m : Nat) : Src (u.drewN m) n c ao := h
theorem eq4_same (M W : List Int) (p : Nat) (hM : M.length = 256) (hp : p ≤ 252) : eq4 W ((M.drop p).take 4) = sameB M W p := by
  have e : ∀ j, j < 4 → ((M.drop p).take 4).getD j 0 = M.getD (p + j) 0 := fun j hj => by
    simp only [List.getD_eq_getElem?_getD, List.getElem?_take_of_lt hj, List.getElem?_drop]
  rw [Bool.eq_iff_iff]
  simp only [eq4, sameB, List.all_eq_true, List.mem_range, decide_eq_true_eq]
  exact ⟨fun h j hj => by rw [← e j hj]; exact h j hj, fun h j hj => by rw [e j hj]; exact h j hj⟩
theorem okLn_free_eq (M : List Int) (k : Int) (p : Int) (d : Bool) (W : List Int) : okLn M k ⟨false, p, d, W⟩ = (decide (p = 0) && (!d && decide (W.length = 0))) := by simp [okLn]
set_option maxRecDepth 100000 in
set_option maxHeartbeats 2000000 in
theorem impl_fits7 (l : La) (k : Int) (M : List Int) (aM : Option Addr) (cM : Nat) (w : World) (hk : 0 ≤ k) (hk4 : k < 4) (hM : M.length = 256) (hc : 256 ≤ cM) (hs : Src w M.length (ivl M) aM) (hw : WSrc w l) (hn : l.n.W.length ≤ 1048576) :
    Calls Try.prog 62 #[lav l, .int .i64 k, .slice aM M.length cM] w fun e w' => e = .returned (.bool (okLn M k l.n)) ∧ Fr w w' := by
  obtain ⟨⟨u, p, d, W⟩, ao, c⟩ := l
  simp only at hn hw ⊢
  have F0 : Fr w (w.alloc (.cells #[.bool u, .int .i64 p, .bool d, .slice ao W.length c] 50)) := Fr.alloc _ _
  have HF := Lib.hid F0
  have HX := Lib.hid (Box4.new w (.bool u) (.int .i64 p) (.bool d) (.slice ao W.length c) 50 _ rfl)
  have HS := Lib.hid (hs.fr F0)
  have HW := Lib.hid (show Src (w.alloc (.cells #[.bool u, .int .i64 p, .bool d, .slice ao W.length c] 50)) W.length (ivl W) ao from Src.fr hw F0)
  have HL := Lib.hid hM
  clear F0 hs hw hM
  cases u
  · rw [okLn_free_eq]
    have hl : ∀ m : Nat, decide ((m : Int) = 0) = decide (m = 0) := fun m => by rw [decide_eq_decide]; omega
    rw [← hl]
    have HP : ∀ b, (decide (p = 0) && (!d && decide ((W.length : Int) = 0))) = b → Hid ((decide (p = 0) && (!d && decide ((W.length : Int) = 0))) = b) := fun b h => Lib.hid h
    clear hl
    by_cases h1 : p = 0
    · cases d
      · by_cases h2 : W.length = 0
        · have H := HP true (by simp [h1, h2])
          rw [H.out]
          clear HP H
          have h1' : (p == 0) = true := by simpa using h1
          have h2' : ((W.length : Int) == 0) = true := by simp [h2]
          clear h1 h2
          go_enter Try.func62, Try.ntmps62
          go_wp2
          go_ret
          exact ⟨rfl, HF.out⟩
        · have H := HP false (by rw [decide_eq_false (show ¬ ((W.length : Int) = 0) by omega)]; simp)
          rw [H.out]
          clear HP H
          have h1' : (p == 0) = true := by simpa using h1
          have h2' : ((W.length : Int) == 0) = false := by simpa using h2
          clear h1 h2
          go_enter Try.func62, Try.ntmps62
          go_wp2
          go_ret
          exact ⟨rfl, HF.out⟩
      · have H := HP false (by simp)
        rw [H.out]
        clear HP H
        have h1' : (p == 0) = true := by simpa using h1
        clear h1
        go_enter Try.func62, Try.ntmps62
        go_wp2
        go_ret
        exact ⟨rfl, HF.out⟩
    · have H := HP false (by simp [h1])
      rw [H.out]
      clear HP H
      have h1' : (p == 0) = false := by simpa using h1
      clear h1
      go_enter Try.func62, Try.ntmps62
      go_wp2
      go_ret
      exact ⟨rfl, HF.out⟩
  · have HR : ∀ b, okLn M k ⟨true, p, d, W⟩ = b → Hid (okLn M k ⟨true, p, d, W⟩ = b) := fun b h => Lib.hid h
    have P1 := fun w => impl_isPlace7 p w
    have P4 := impl_areWords W ao c 4
    have e4 : (W.all okB && decide ((W.length : Int) = 4)) = wordsB W 4 := words_eq W 4
    rw [e4] at P4
    cases h1 : plcB p
    · have hnp : ¬ (0 ≤ p ∧ p < 256) := fun hh => by rw [(plcB_iff p).2 hh] at h1; cases h1
      have H := HR false (by
        simp only [okLn, if_true]
        rw [decide_eq_false (show ¬ (0 ≤ p ∧ p ≤ 252 ∧ p % 4 = 0 ∧ p / 4 % 4 = k) by omega)]
        rfl)
      clear hnp
      clear HR P4 e4
      rw [H.out]
      rw [h1] at P1
      have HP := Lib.hid P1
      clear P1 H h1
      go_enter Try.func62, Try.ntmps62
      go_wp2_with fail
      generalize (w.alloc (.cells #[.bool true, .int .i64 p, .bool d, .slice ao W.length c] 50)) = u0 at *
      obtain ⟨_, c0, c1, c2, c3, _, _, _, _⟩ := HX.out
      go_quiet ((go_at_call 64; exact quiet_eq (HP.out _)))
      go_wp2
      go_ret
      exact ⟨rfl, (by repeat first | exact HF.out | refine fr_drewN ?_ _)⟩
    · obtain ⟨p0, p1⟩ := (plcB_iff p).1 h1
      rw [h1] at P1
      have HP := Lib.hid P1
      clear P1 h1
      have P2 := fun w => impl_blockOf p w p0 (by omega)
      have P3 := fun w => impl_indexOf p w p0 (by omega)
      by_cases h2 : p % 4 = 0
      · have hb : blkA p = p := by unfold blkA; omega
        rw [hb] at P2
        have HP2 := Lib.hid P2
        clear P2 hb
        by_cases h3 : p / 4 % 4 = k
        · rw [h3] at P3
          have HP3 := Lib.hid P3
          clear P3
          cases h4 : wordsB W 4
          · have H := HR false (by simp [okLn, h4])
            rw [h4] at P4
            have HP4 := Lib.hid P4
            clear HR P4 e4 h2 h3 h4
            rw [H.out]
            clear H
            go_enter Try.func62, Try.ntmps62
            go_wp2_with fail
            generalize (w.alloc (.cells #[.bool true, .int .i64 p, .bool d, .slice ao W.length c] 50)) = u0 at *
            obtain ⟨_, c0, c1, c2, c3, _, _, _, _⟩ := HX.out
            have HQ4 := Lib.hid (fun n => HP4.out (u0.drewN n) (src_drewN HW.out n) (by omega))
            go_quiet ((first | (go_at_call 64; exact quiet_eq (HP.out _)) | (go_at_call 83; exact quiet_eq (HP2.out _)) | (go_at_call 84; exact quiet_eq (HP3.out _)) | (go_at_call 52; exact quiet_eq (HQ4.out _))))
            go_wp2
            go_ret
            exact ⟨rfl, (by repeat first | exact HF.out | refine fr_drewN ?_ _)⟩
          · obtain ⟨hWa, hWl⟩ := wordsB_true h4
            rw [h4] at P4
            have HP4 := Lib.hid P4
            have HW4 := Lib.hid hWl
            have H : Hid (okLn M k ⟨true, p, d, W⟩ = (d || sameB M W p.toNat)) := Lib.hid (by
              have q1 : 0 ≤ p ∧ p ≤ 252 ∧ p % 4 = 0 ∧ p / 4 % 4 = k := ⟨p0, by omega, h2, h3⟩
              simp only [okLn, if_true, h4, decide_eq_true q1, Bool.true_and])
            have hp252 : p ≤ 252 := by omega
            clear HR P4 e4 h2 h3 h4 hWa hWl
            rw [H.out]
            clear H
            cases d
            · have HQ : ∀ u0 : World, Fr w u0 → Hid (Src u0 W.length (ivl W) ao) → True := fun _ _ _ => trivial
              clear HQ
              obtain ⟨N, rfl⟩ := Int.eq_ofNat_of_zero_le p0
              have hN : N ≤ 252 := by omega
              have hdrop : ∀ u0 : World, Src u0 M.length (ivl M) aM → ∃ g o, aM = some ⟨g, o, none⟩ ∧ Src u0 ((M.drop N).take 4).length (ivl ((M.drop N).take 4)) (some ⟨g, o + N, none⟩) := fun u0 h => by
                obtain ⟨g, o, e, hl, hc⟩ := h (by rw [HL.out]; decide)
                refine ⟨g, o, e, fun _ => ⟨g, o + N, rfl, hl, fun i hi => ?_⟩⟩
                have hi4 : i < 4 := by simp at hi; omega
                rw [Nat.add_assoc, hc (N + i) (by rw [HL.out]; omega)]
                simp only [ivl, List.getD_eq_getElem?_getD, List.getElem?_take_of_lt hi4, List.getElem?_drop]
              obtain ⟨g, o, rfl, hS2⟩ := hdrop _ HS.out
              have hd4 : ((M.drop N).take 4).length = 4 := by simp [HL.out]; omega
              have P5 := fun u0 (h1 : Src u0 W.length (ivl W) ao) (h2 : Src u0 ((M.drop N).take 4).length (ivl ((M.drop N).take 4)) (some ⟨g, o + N, none⟩)) n => slices_Equal4 W ((M.drop N).take 4) ao (some ⟨g, o + N, none⟩) c (cM - N) (u0.drewN n) (src_drewN h1 n) (src_drewN h2 n) HW4.out hd4
              rw [eq4_same M W N HL.out hN] at P5
              have HP5 := Lib.hid P5
              have HS2 := Lib.hid hS2
              clear P5 hS2 hdrop hd4 HS
              simp only [Bool.false_or, Int.toNat_natCast]
              have hN0 : (0 : Int) ≤ (N : Int) := Int.natCast_nonneg _
              go_enter Try.func62, Try.ntmps62
              go_wp2_with fail
              generalize hu : (w.alloc (.cells #[.bool true, .int .i64 (N : Int), .bool false, .slice ao W.length c] 50)) = u0 at *
              clear hu
              obtain ⟨_, c0, c1, c2, c3, _, _, _, _⟩ := HX.out
              have HQ4 := Lib.hid (fun n => HP4.out (u0.drewN n) (src_drewN HW.out n) (by omega))
              go_quiet ((first | (go_at_call 64; exact quiet_eq (HP.out _)) | (go_at_call 83; exact quiet_eq (HP2.out _)) | (go_at_call 84; exact quiet_eq (HP3.out _)) | (go_at_call 52; exact quiet_eq (HQ4.out _))))
              have f1 : Fr u0 (u0.drewN nq) := fr_drewN (Below.refl _ _) _
              replace HF := Lib.hid (Fr.trans HF.out f1)
              replace HX := Lib.hid (HX.out.fr f1)
              have HQ5 := Lib.hid (fun n => HP5.out (u0.drewN nq) (HW.out.fr f1) (HS2.out.fr f1) n)
              clear c0 c1 c2 c3 HQ4 f1 HP5 HS2 HW
              generalize u0.drewN nq = u1 at *
              obtain ⟨_, c0, c1, c2, c3, _, _, _, _⟩ := HX.out
              have hw4 : IntKind.i64.wrap ((N : Int) + 4) = (N : Int) + 4 := IntWalk.i64_in _ (by omega)
              have hsl := slice_mid g o M.length cM N (by omega)
              have hsl' := slice_midAt g o M.length cM N (by omega)
              go_wp2_with fail
              go_quiet ((go_at_call 85; exact quiet_drew (HQ5.out _)))
              go_wp2
              go_ret
              exact ⟨rfl, (by repeat first | exact HF.out | refine fr_drewN ?_ _)⟩
            · clear p0 p1 hp252
              go_enter Try.func62, Try.ntmps62
              go_wp2_with fail
              generalize (w.alloc (.cells #[.bool true, .int .i64 p, .bool true, .slice ao W.length c] 50)) = u0 at *
              obtain ⟨_, c0, c1, c2, c3, _, _, _, _⟩ := HX.out
              have HQ4 := Lib.hid (fun n => HP4.out (u0.drewN n) (src_drewN HW.out n) (by omega))
              go_quiet ((first | (go_at_call 64; exact quiet_eq (HP.out _)) | (go_at_call 83; exact quiet_eq (HP2.out _)) | (go_at_call 84; exact quiet_eq (HP3.out _)) | (go_at_call 52; exact quiet_eq (HQ4.out _))))
              go_wp2_with fail
              go_quiet (fail)
              go_wp2
              go_ret
              exact ⟨rfl, (by repeat first | exact HF.out | refine fr_drewN ?_ _)⟩
        · have H := HR false (by simp [okLn, h3])
          have HP3 := Lib.hid P3
          have h3' : (p / 4 % 4 != k) = true := by simpa using h3
          clear HR P4 e4 h2 h3 P3
          rw [H.out]
          clear H
          go_enter Try.func62, Try.ntmps62
          go_wp2_with fail
          generalize (w.alloc (.cells #[.bool true, .int .i64 p, .bool d, .slice ao W.length c] 50)) = u0 at *
          obtain ⟨_, c0, c1, c2, c3, _, _, _, _⟩ := HX.out
          go_quiet ((first | (go_at_call 64; exact quiet_eq (HP.out _)) | (go_at_call 83; exact quiet_eq (HP2.out _)) | (go_at_call 84; exact quiet_eq (HP3.out _))))
          go_wp2
          go_ret
          exact ⟨rfl, (by repeat first | exact HF.out | refine fr_drewN ?_ _)⟩
      · have H := HR false (by simp [okLn, h2])
        have HP2 := Lib.hid P2
        have h2' : (blkA p != p) = true := by simp [blkA]; omega
        clear HR P4 e4 h2 P3 P2
        rw [H.out]
        clear H
        unfold blkA at HP2 h2'
        go_enter Try.func62, Try.ntmps62
        go_wp2_with fail
        generalize (w.alloc (.cells #[.bool true, .int .i64 p, .bool d, .slice ao W.length c] 50)) = u0 at *
        obtain ⟨_, c0, c1, c2, c3, _, _, _, _⟩ := HX.out
        go_quiet ((first | (go_at_call 64; exact quiet_eq (HP.out _)) | (go_at_call 83; exact quiet_eq (HP2.out _))))
        go_wp2
        go_ret
        exact ⟨rfl, (by repeat first | exact HF.out | refine fr_drewN ?_ _)⟩

end Go.Proofs.Ytiijhklkelaogaa
