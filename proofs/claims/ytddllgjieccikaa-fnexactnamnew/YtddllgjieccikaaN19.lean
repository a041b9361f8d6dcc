/- The program's NamNew. -/
import Derived.Test.YtddllgjieccikaaN10
namespace Go.Proofs.Ytddllgjieccikaa
open Go.RowKit
set_option linter.unusedVariables false
set_option linter.unusedSimpArgs false
/-- The arrays behind so many rounds. -/
def nwM (p : Nat) : List Int := (List.range 8).map fun (i : Nat) => if i < p then (i : Int) else 0
def nwP (p : Nat) : List Int := (List.range 12).map fun (i : Nat) => if i + 8 < p then ((i + 8 : Nat) : Int) else 0
def nwH (p : Nat) : List Bool := (List.range 20).map fun (i : Nat) => decide (i < p)
theorem nw_H : ∀ p, p < 20 → (nwH p).set p true = nwH (p + 1) := by decide +kernel
theorem nw_M1 : ∀ p, p < 8 → (nwM p).set p (p : Int) = nwM (p + 1) := by decide +kernel
theorem nw_M2 : ∀ p, p < 20 → 8 ≤ p → nwM p = nwM (p + 1) := by decide +kernel
theorem nw_P1 : ∀ p, p < 8 → nwP p = nwP (p + 1) := by decide +kernel
theorem nw_P2 : ∀ p, p < 20 → 8 ≤ p → (nwP p).set ((0 + (p - 8)) % 12) (p : Int) = nwP (p + 1) := by decide +kernel
theorem nw_end : Nm.mk (nwM 20) (ringL (nwP 20) 0 12) (List.replicate 20 0) (nwH 20) = newN := by
  have h1 : nwM 20 = newN.M := by decide +kernel
  have h2 : ringL (nwP 20) 0 12 = newN.F := by decide +kernel
  have h3 : nwH 20 = newN.H := by decide +kernel
  rw [h1, h2, h3]
  rfl
theorem nw_0 : nwM 0 = List.replicate 8 0 ∧ nwP 0 = ringP [] ∧ nwH 0 = List.replicate 20 false := by decide +kernel
theorem info_nm : (Try.prog.info? 64).map (·.size) = some 62 := by kernel_rfl
theorem nmC_one (M F V : List Int) (H : List Bool) : ∀ v, v ∈ nmC M F V H → v.oneCell' = true := fun v hv => by
  simp only [nmC, List.mem_append] at hv
  rcases hv with ((hv | hv) | hv) | hv
  · exact ints_one _ v hv
  · exact ringC_one _ v hv
  · exact ints_one _ v hv
  · exact bools_one _ v hv
abbrev nm00 : List Value := nmC (List.replicate 8 0) [] (List.replicate 20 0) (List.replicate 20 false)
set_option maxRecDepth 8000 in
set_option maxHeartbeats 4000000 in
theorem impl_NamNew (w : World) : Calls Try.prog 19 #[] w (NmP newN w) := by
  have HF := Lib.hid (Fr.alloc w (.cells #[.slice none 0 0, .slice none 0 0, .slice none 0 0, .slice none 0 0] 25))
  have HZ := Lib.hid (Box4.new w (.slice none 0 0) (.slice none 0 0) (.slice none 0 0) (.slice none 0 0) 25 _ rfl)
  have hb : (w.alloc (.cells #[.slice none 0 0, .slice none 0 0, .slice none 0 0, .slice none 0 0] 25)).heap.size = w.heap.size + 1 := by simp
  have HN0 := nb_new (w.alloc (.cells #[.slice none 0 0, .slice none 0 0, .slice none 0 0, .slice none 0 0] 25)) 64 (List.replicate 8 0) [] (List.replicate 20 0) (List.replicate 20 false) (by simp) (by simp) (by simp) (by simp)
  rw [hb] at HN0
  have HN := Lib.hid HN0
  have HF2 := Lib.hid (show Fr w ((w.alloc (.cells #[.slice none 0 0, .slice none 0 0, .slice none 0 0, .slice none 0 0] 25)).alloc (.cells nm00.toArray 64)) from HF.out.trans (Fr.alloc _ _))
  have HZ2 := Lib.hid (HZ.out.fr (Fr.alloc (w.alloc (.cells #[.slice none 0 0, .slice none 0 0, .slice none 0 0, .slice none 0 0] 25)) (.cells nm00.toArray 64)))
  clear HN0 hb HF HZ
  go_enter Try.func19, Try.ntmps19
  go_wp2_with (refine wpList_store_new rfl 64 _ _ rfl (w.alloc (.cells #[.slice none 0 0, .slice none 0 0, .slice none 0 0, .slice none 0 0] 25)) (w.heap.size + 1) (by simp) _ nm00.toArray rfl rfl info_nm rfl (all_oneCell_toArray (nmC_one _ _ _ _)) ?_)
  obtain ⟨g, hg⟩ : ∃ g, w.heap.size + 1 = g := ⟨_, rfl⟩
  have hgw : w.heap.size < g := by omega
  rw [hg] at HN ⊢
  clear hg
  generalize ((w.alloc (.cells #[.slice none 0 0, .slice none 0 0, .slice none 0 0, .slice none 0 0] 25)).alloc (.cells nm00.toArray 64)) = u0 at *
  go_loopw [4] (fun i wr => ∃ p : Nat, p ≤ 20 ∧ i = .int .i64 p ∧ Nb wr g (nwM p) (nwP p) 0 (p - 8) (List.replicate 20 0) (nwH p) ∧ Box4 wr w.heap.size (.slice none 0 0) (.slice none 0 0) (.slice none 0 0) (.slice none 0 0) ∧ Fr w wr) (fun i _ => 20 - (intOf i).toNat)
  case atStart => exact ⟨0, by omega, rfl, by rw [nw_0.1, nw_0.2.1, nw_0.2.2]; exact HN.out, HZ2.out, HF2.out⟩
  case round =>
    obtain ⟨p, hp, rfl, hN, hZ, hW⟩ := hrel
    have IN := Lib.hid hN
    have IZ := Lib.hid hZ
    have IW := Lib.hid hW
    clear hN hZ hW HN HZ2 HF2
    by_cases hlt : p < 20
    · have hlt' : (p : Int) < 20 := by omega
      have hp0 : (0 : Int) ≤ (p : Int) := by omega
      have d1 := IN.out.cH p hlt
      have d2 := IN.out.fz (42 + p) (by omega)
      go_upto_region 6 with fail
      have hst : But [g] wr (wr.setCell ⟨g, 42 + p, none⟩ (.bool true)) := (But.refl _ _).set _ _ _ (.inl (by simp))
      have JN := Lib.hid (IN.out.setH p true hlt)
      rw [nw_H p hlt] at JN
      have JZ := Lib.hid (IZ.out.but hst (by simp; omega))
      have JW := Lib.hid (show Fr w _ from fr_new IW.out hst (by omega))
      clear hst d1 d2 IN IZ IW
      generalize (wr.setCell ⟨g, 42 + p, none⟩ (.bool true)) = w1 at *
      by_cases h8 : p < 8
      · have R1 := Lib.hid (fun (u : World) => impl_isReg (p : Int) u)
        rw [show (decide (0 ≤ (p : Int)) && decide ((p : Int) < 8)) = true by simp; omega] at R1
        have d1 := JN.out.cM p h8
        have d2 := JN.out.fz p (by omega)
        have h8' : (p : Int) < 8 := by omega
        go_wp2_with (go_at_call 48; refine (R1.out _).mono ?_; rintro e w' ⟨rfl, rfl⟩)
        go_roundw
        case rel =>
          refine ⟨p + 1, by omega, by go_num, ?_, JZ.out.but (show But [g] w1 _ from (But.refl _ _).set _ _ _ (.inl (by simp))) (by simp; omega), fr_new JW.out (show But [g] w1 _ from (But.refl _ _).set _ _ _ (.inl (by simp))) (by omega)⟩
          have := JN.out.setM p p h8
          rw [nw_M1 p h8] at this
          rw [← nw_P1 p h8, show p + 1 - 8 = p - 8 by omega]
          exact this
        case measure => simp [intOf]; omega
      · have R1 := Lib.hid (fun (u : World) => impl_isReg (p : Int) u)
        rw [show (decide (0 ≤ (p : Int)) && decide ((p : Int) < 8)) = false by simp; omega] at R1
        have PT := Lib.hid (impl_ring_put _ _ _ _ _ _ g (p : Int) w1 JN.out (by omega))
        go_wp2_with (go_at_call 48; refine (R1.out _).mono ?_; rintro e w' ⟨rfl, rfl⟩)
        refine PT.out.mono ?_
        rintro e w2 ⟨rfl, nb, b⟩
        have KN := Lib.hid nb
        have KZ := Lib.hid (JZ.out.but b (by simp; omega))
        have KW := Lib.hid (fr_new JW.out b (by omega))
        clear nb b
        go_wp2_with fail
        go_roundw
        case rel =>
          refine ⟨p + 1, by omega, by go_num, ?_, KZ.out, KW.out⟩
          have := KN.out
          rw [nw_P2 p hlt (by omega)] at this
          rw [← nw_M2 p hlt (by omega), show p + 1 - 8 = p - 8 + 1 by omega]
          exact this
        case measure => simp [intOf]; omega
    · have hge : ¬ (p : Int) < 20 := by omega
      have e : p = 20 := by omega
      subst e
      have HC := Lib.hid (impl_state _ _ _ _ _ _ _ _ IN.out)
      rw [show (20 : Nat) - 8 = 12 from rfl, nw_end] at HC
      obtain ⟨NN, hNN⟩ : ∃ NN, newN = NN := ⟨_, rfl⟩
      have HNN := Lib.hid hNN
      rw [hNN] at HC
      clear hNN
      go_wp2_with fail
      refine HC.out.mono ?_
      rintro e v ⟨rM, rF, rV, rH, qM, qF, qV, qH, rfl, rv, f⟩
      have HV := Lib.hid rv
      have hzl := IZ.out.lt
      have HBk := Lib.hid rv.blk
      have HFv := Lib.hid (IW.out.trans f)
      obtain ⟨_, z0, z1, z2, z3, zf0, zf1, zf2, zf3⟩ := IZ.out.fr f
      have hst : ∀ a b c d, But [w.heap.size] v ((((v.setCell ⟨w.heap.size, 0, none⟩ a).setCell ⟨w.heap.size, 1, none⟩ b).setCell ⟨w.heap.size, 2, none⟩ c).setCell ⟨w.heap.size, 3, none⟩ d) := fun a b c d => (But.refl _ _).set4 w.heap.size a b c d (.inl (by simp))
      have HST := Lib.hid hst
      have hwz : w.heap.size ≤ wr.heap.size := IW.out.size
      clear rv f hst
      go_wp2_with fail
      refine bodyPost_ret (v := .agg #[.slice rM NN.M.length qM, .slice rF NN.F.length qF, .slice rV NN.V.length qV, .slice rH NN.H.length qH]) (by simp [results, Try.results19, go_sem, World.cell?_setCell_other, World.cell?_setCell_same, z0, z1, z2, z3]) rfl ?_
      show NmP newN w _ _
      rw [HNN.out]
      exact ⟨rM, rF, rV, rH, qM, qF, qV, qH, rfl, (Rws.mono HV.out hwz).but (HST.out _ _ _ _) (fun k hk hm => by have := HBk.out k hk; have := List.mem_singleton.1 hm; omega), fr_but HFv.out (HST.out _ _ _ _) (fun k hk => by have := List.mem_singleton.1 hk; omega)⟩

end Go.Proofs.Ytddllgjieccikaa
