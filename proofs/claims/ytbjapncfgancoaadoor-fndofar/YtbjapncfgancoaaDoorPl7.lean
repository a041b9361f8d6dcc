/- A word that is laid: of the program and of the model. -/
import Derived.Test.YtbjapncfgancoaaDoorPl6
import Derived.Test.YtbjapncfgancoaaDoorPl5
namespace Go.Proofs.YtbjapncfgancoaaDoor
open Go.RowKit
set_option linter.unusedVariables false
set_option linter.unusedSimpArgs false
def layS (s : St) (a n : Int) : St := ⟨s.pc, s.R, s.C, s.M.set a.toNat n⟩
def layB (s : St) (a n : Int) : Bool := okS s && (decide (0 ≤ a ∧ a < 256) && okB n)
/-- Behind PlnLay. -/
def LayP (s : St) (a n : Int) (w : World) (e : Ending) (w' : World) : Prop := (layB s a n = true ∧ CpS (layS s a n) w e w') ∨ (layB s a n = false ∧ e = .returned noSt ∧ Fr w w')
theorem lay_ok {s : St} {a n : Int} (h : layB s a n = true) : OkS (layS s a n) := by
  simp only [layB, Bool.and_eq_true, decide_eq_true_eq] at h
  obtain ⟨h1, _, h3⟩ := h
  have h := (okS_iff s).1 h1
  exact ⟨h.pc, h.R, h.Rl, h.C, h.Cl, ok_set h.M _ h3, by simp [layS, h.Ml], h.r0, h.c3⟩
theorem impl_isPlace (n : Int) (w : World) : Calls Tryd.prog 61 #[.int .i64 n] w fun e w' => e = .returned (.bool (decide (0 ≤ n ∧ n ≤ 255))) ∧ w = w' := by
  by_cases h0 : 0 ≤ n
  · by_cases h1 : n < 256
    · have hd : decide (0 ≤ n ∧ n ≤ 255) = true := by simp; omega
      rw [hd]
      clear hd
      go_enter Tryd.func61, Tryd.ntmps61
      go_wp2
      go_ret
      exact ⟨rfl, rfl⟩
    · have hd : decide (0 ≤ n ∧ n ≤ 255) = false := by simp; omega
      rw [hd]
      clear hd
      go_enter Tryd.func61, Tryd.ntmps61
      go_wp2
      go_ret
      exact ⟨by first | rfl | simp, rfl⟩
  · have hd : decide (0 ≤ n ∧ n ≤ 255) = false := by simp; omega
    rw [hd]
    clear hd
    go_enter Tryd.func61, Tryd.ntmps61
    go_wp2
    go_ret
    exact ⟨by first | rfl | simp, rfl⟩
set_option maxRecDepth 8000 in
set_option maxHeartbeats 2000000 in
theorem impl_PlnLay (s : St) (aR aC aM : Option Addr) (cR cC cM : Nat) (a n : Int) (w : World) (h : SrcS w s aR aC aM) (hf : Few s) :
    Calls Tryd.prog 39 #[.agg #[.int .i64 (s).pc, .slice aR (s).R.length cR, .slice aC (s).C.length cC, .slice aM (s).M.length cM], .int .i64 a, .int .i64 n] w (LayP s a n w) := by
  have F2 : Fr w ((w.alloc (.cells #[.int .i64 s.pc, .slice aR s.R.length cR, .slice aC s.C.length cC, .slice aM s.M.length cM] 26)).alloc (.cells #[.int .i64 0, .slice none 0 0, .slice none 0 0, .slice none 0 0] 26)) := by
    (repeat' first | (with_reducible exact Below.refl _ _) | (with_reducible assumption) | ((with_reducible refine Below.setCell ?_ ?hb _); (case hb => first | exact Nat.le_refl _ | (simp; done) | (simp; omega) | omega)) | ((with_reducible refine Below.alloc ?_ ?hb _); (case hb => first | exact Nat.le_refl _ | (simp; done) | (simp; omega) | omega)) | (with_reducible refine Below.drew ?_))
  have E := Lib.hid (impl_PlnOk s aR aC aM cR cC cM _ (h.fr F2) hf)
  have HF := Lib.hid F2
  have HB := Lib.hid ((Box4.new w (.int .i64 s.pc) (.slice aR s.R.length cR) (.slice aC s.C.length cC) (.slice aM s.M.length cM) 26 _ rfl).fr (Fr.alloc _ (.cells #[.int .i64 0, .slice none 0 0, .slice none 0 0, .slice none 0 0] 26)))
  have HZ := Lib.hid (Box4.new (w.alloc (.cells #[.int .i64 s.pc, .slice aR s.R.length cR, .slice aC s.C.length cC, .slice aM s.M.length cM] 26)) (.int .i64 0) (.slice none 0 0) (.slice none 0 0) (.slice none 0 0) 26 (w.heap.size + 1) (by simp))
  have HS := Lib.hid h
  clear h F2
  cases hk : okS s
  · have HE := Lib.hid (show layB s a n = false by simp [layB, hk])
    rw [hk] at E
    go_enter Tryd.func39, Tryd.ntmps39
    go_wp2_with fail
    generalize hu : ((w.alloc (.cells #[.int .i64 s.pc, .slice aR s.R.length cR, .slice aC s.C.length cC, .slice aM s.M.length cM] 26)).alloc (.cells #[.int .i64 0, .slice none 0 0, .slice none 0 0, .slice none 0 0] 26)) = u0 at *
    have hu0 : u0.heap.size = w.heap.size + 2 := by rw [← hu]; simp
    clear hu
    refine E.out.mono ?_
    rintro e u1 ⟨rfl, f⟩
    have FF := Lib.hid (HF.out.trans f)
    have hs1 : w.heap.size + 2 ≤ u1.heap.size := by rw [← hu0]; exact f.size
    obtain ⟨bl, b0, b1, b2, b3, _, _, _, _⟩ := HB.out.fr f
    have HZ1 := Lib.hid (HZ.out.fr f)
    obtain ⟨zl, z0, z1, z2, z3, y0, y1, y2, y3⟩ := HZ1.out
    clear f E HF HB HZ
    go_wp2_with (first | (go_at_call 56; refine (impl_WrdOk _ _).mono ?_; rintro e w' ⟨rfl, rfl⟩) | (go_at_call 61; refine (EP.out _).mono ?_; rintro e w' ⟨rfl, rfl⟩))
    refine bodyPost_ret (v := noSt) (by simp [results, Tryd.results39, go_sem, z0, z1, z2, z3]) rfl (.inr ⟨HE.out, rfl, ?_⟩)
    exact fr_but FF.out ((But.refl [w.heap.size + 1] u1).set4 (w.heap.size + 1) _ _ _ _ (.inl (by simp))) (fun k hk => by have := List.mem_singleton.1 hk; omega)
  rw [hk] at E
  have HO := Lib.hid ((okS_iff s).1 hk)
  by_cases h0 : 0 ≤ a
  · by_cases h1 : a < 256
    · cases hn : okB n
      · have HE := Lib.hid (show layB s a n = false by simp [layB, hn])
        have hd0 : decide (a < 0) = false := by simp; omega
        have hd1 : decide (256 ≤ a) = false := by simp; omega
        have hd2 : decide (0 ≤ a ∧ a ≤ 255) = true := by simp; omega
        have EP := Lib.hid (fun v : World => show Calls Tryd.prog 61 #[.int .i64 a] v fun e w' => e = .returned (.bool true) ∧ v = w' by rw [← hd2]; exact impl_isPlace a v)
        clear hd0 hd2 hd1
        go_enter Tryd.func39, Tryd.ntmps39
        go_wp2_with fail
        generalize hu : ((w.alloc (.cells #[.int .i64 s.pc, .slice aR s.R.length cR, .slice aC s.C.length cC, .slice aM s.M.length cM] 26)).alloc (.cells #[.int .i64 0, .slice none 0 0, .slice none 0 0, .slice none 0 0] 26)) = u0 at *
        have hu0 : u0.heap.size = w.heap.size + 2 := by rw [← hu]; simp
        clear hu
        refine E.out.mono ?_
        rintro e u1 ⟨rfl, f⟩
        have FF := Lib.hid (HF.out.trans f)
        have hs1 : w.heap.size + 2 ≤ u1.heap.size := by rw [← hu0]; exact f.size
        obtain ⟨bl, b0, b1, b2, b3, _, _, _, _⟩ := HB.out.fr f
        have HZ1 := Lib.hid (HZ.out.fr f)
        obtain ⟨zl, z0, z1, z2, z3, y0, y1, y2, y3⟩ := HZ1.out
        clear f E HF HB HZ
        go_wp2_with (first | (go_at_call 56; refine (impl_WrdOk _ _).mono ?_; rintro e w' ⟨rfl, rfl⟩) | (go_at_call 61; refine (EP.out _).mono ?_; rintro e w' ⟨rfl, rfl⟩))
        refine bodyPost_ret (v := noSt) (by simp [results, Tryd.results39, go_sem, z0, z1, z2, z3]) rfl (.inr ⟨HE.out, rfl, ?_⟩)
        exact fr_but FF.out ((But.refl [w.heap.size + 1] u1).set4 (w.heap.size + 1) _ _ _ _ (.inl (by simp))) (fun k hk => by have := List.mem_singleton.1 hk; omega)
      · have HE := Lib.hid (show layB s a n = true by simp [layB, hn, hk, h0, h1])
        have hd0 : decide (a < 0) = false := by simp; omega
        have hd1 : decide (256 ≤ a) = false := by simp; omega
        have hd2 : decide (0 ≤ a ∧ a ≤ 255) = true := by simp; omega
        have EP := Lib.hid (fun v : World => show Calls Tryd.prog 61 #[.int .i64 a] v fun e w' => e = .returned (.bool true) ∧ v = w' by rw [← hd2]; exact impl_isPlace a v)
        clear hd0 hd2 hd1
        go_enter Tryd.func39, Tryd.ntmps39
        go_wp2_with fail
        generalize hu : ((w.alloc (.cells #[.int .i64 s.pc, .slice aR s.R.length cR, .slice aC s.C.length cC, .slice aM s.M.length cM] 26)).alloc (.cells #[.int .i64 0, .slice none 0 0, .slice none 0 0, .slice none 0 0] 26)) = u0 at *
        have hu0 : u0.heap.size = w.heap.size + 2 := by rw [← hu]; simp
        clear hu
        refine E.out.mono ?_
        rintro e u1 ⟨rfl, f⟩
        have FF := Lib.hid (HF.out.trans f)
        have hs1 : w.heap.size + 2 ≤ u1.heap.size := by rw [← hu0]; exact f.size
        obtain ⟨bl, b0, b1, b2, b3, _, _, _, _⟩ := HB.out.fr f
        have HZ1 := Lib.hid (HZ.out.fr f)
        obtain ⟨zl, z0, z1, z2, z3, y0, y1, y2, y3⟩ := HZ1.out
        clear f E HF HB HZ
        go_wp2_with (first | (go_at_call 56; refine (impl_WrdOk _ _).mono ?_; rintro e w' ⟨rfl, rfl⟩) | (go_at_call 61; refine (EP.out _).mono ?_; rintro e w' ⟨rfl, rfl⟩))
        refine (impl_clone s aR aC aM cR cC cM u1 (HS.out.fr FF.out) HO.out.Rl HO.out.Cl HO.out.Ml).mono ?_
        rintro e u2 ⟨gr, gc, gm, cr, cc, cm, rfl, ho, l1, l2, l3, f2⟩
        have FF2 := Lib.hid (FF.out.trans f2)
        have HO2 := Lib.hid ho
        have HZ2 := Lib.hid (HZ1.out.fr f2)
        have hs2 := f2.size
        have m0 := ho.M.cel a.toNat (by rw [HO.out.Ml]; omega)
        have m1 := ho.M.fro a.toNat (by rw [HO.out.Ml]; omega)
        have m2 := ho.M.lt
        generalize s.M.getD a.toNat 0 = ov at m0
        clear f2 ho b0 b1 b2 b3 bl z0 z1 z2 z3 y0 y1 y2 y3 zl HZ1
        obtain ⟨zl, z0, z1, z2, z3, y0, y1, y2, y3⟩ := HZ2.out
        have hgz : ¬ gm = w.heap.size + 1 := by omega
        have hgz' : ¬ w.heap.size + 1 = gm := by omega
        have hg2 : ¬ gm = u2.heap.size := by omega
        have hg2' : ¬ u2.heap.size = gm := by omega
        have hz2 : ¬ w.heap.size + 1 = u2.heap.size := by omega
        have hz2' : ¬ u2.heap.size = w.heap.size + 1 := by omega
        go_wp2
        refine bodyPost_ret (v := .agg #[.int .i64 s.pc, .slice (some ⟨gr, 0, none⟩) 8 cr, .slice (some ⟨gc, 0, none⟩) 5 cc, .slice (some ⟨gm, 0, none⟩) 256 cm]) (by simp [results, Tryd.results39, go_sem, z0, z1, z2, z3, hgz, hgz', hg2, hg2', hz2, hz2', zl]) rfl (.inl ⟨HE.out, gr, gc, gm, cr, cc, cm, rfl, ?_, by omega, by omega, by omega, ?_⟩)
        · have ho := HO2.out
          have hR := ho.R.lt
          have hC := ho.C.lt
          (repeat (first | (with_reducible refine Own.alloc ?_ _) | (with_reducible refine Own.drew ?_) | (with_reducible refine Own.drewN ?_ _) | (with_reducible refine Own.other ?_ _ _ _ (by omega) (by omega) (by omega))))
          exact ho.setM a.toNat n (by rw [HO.out.Ml]; omega) s.pc
        · refine fr_but (L := [gm, w.heap.size + 1]) FF2.out ?_ (fun k hk => by simp at hk; omega)
          (repeat (first | (with_reducible exact But.refl _ _) | (with_reducible assumption) | (with_reducible refine But.alloc ?_ _) | (with_reducible refine But.drew ?_) | (with_reducible refine But.drewN ?_ _) | (with_reducible refine But.set ?_ _ _ _ (by first | (left; simp; done) | (right; simp; done) | (right; omega) | (right; simp; omega)))))
    · have HE := Lib.hid (show layB s a n = false by simp [layB, h1])
      have hd0 : decide (a < 0) = false := by simp; omega
      have hd1 : 256 ≤ a := by omega
      have hd2 : decide (0 ≤ a ∧ a ≤ 255) = false := by simp; omega
      have EP := Lib.hid (fun v : World => show Calls Tryd.prog 61 #[.int .i64 a] v fun e w' => e = .returned (.bool false) ∧ v = w' by rw [← hd2]; exact impl_isPlace a v)
      clear hd0 hd2 hd1
      clear h1
      go_enter Tryd.func39, Tryd.ntmps39
      go_wp2_with fail
      generalize hu : ((w.alloc (.cells #[.int .i64 s.pc, .slice aR s.R.length cR, .slice aC s.C.length cC, .slice aM s.M.length cM] 26)).alloc (.cells #[.int .i64 0, .slice none 0 0, .slice none 0 0, .slice none 0 0] 26)) = u0 at *
      have hu0 : u0.heap.size = w.heap.size + 2 := by rw [← hu]; simp
      clear hu
      refine E.out.mono ?_
      rintro e u1 ⟨rfl, f⟩
      have FF := Lib.hid (HF.out.trans f)
      have hs1 : w.heap.size + 2 ≤ u1.heap.size := by rw [← hu0]; exact f.size
      obtain ⟨bl, b0, b1, b2, b3, _, _, _, _⟩ := HB.out.fr f
      have HZ1 := Lib.hid (HZ.out.fr f)
      obtain ⟨zl, z0, z1, z2, z3, y0, y1, y2, y3⟩ := HZ1.out
      clear f E HF HB HZ
      go_wp2_with (first | (go_at_call 56; refine (impl_WrdOk _ _).mono ?_; rintro e w' ⟨rfl, rfl⟩) | (go_at_call 61; refine (EP.out _).mono ?_; rintro e w' ⟨rfl, rfl⟩))
      refine bodyPost_ret (v := noSt) (by simp [results, Tryd.results39, go_sem, z0, z1, z2, z3]) rfl (.inr ⟨HE.out, rfl, ?_⟩)
      exact fr_but FF.out ((But.refl [w.heap.size + 1] u1).set4 (w.heap.size + 1) _ _ _ _ (.inl (by simp))) (fun k hk => by have := List.mem_singleton.1 hk; omega)
  · have HE := Lib.hid (show layB s a n = false by simp [layB, h0])
    have hd0 : a < 0 := by omega
    have hd1 : True := trivial
    have hd2 : decide (0 ≤ a ∧ a ≤ 255) = false := by simp; omega
    have EP := Lib.hid (fun v : World => show Calls Tryd.prog 61 #[.int .i64 a] v fun e w' => e = .returned (.bool false) ∧ v = w' by rw [← hd2]; exact impl_isPlace a v)
    clear hd0 hd2 hd1
    clear h0
    go_enter Tryd.func39, Tryd.ntmps39
    go_wp2_with fail
    generalize hu : ((w.alloc (.cells #[.int .i64 s.pc, .slice aR s.R.length cR, .slice aC s.C.length cC, .slice aM s.M.length cM] 26)).alloc (.cells #[.int .i64 0, .slice none 0 0, .slice none 0 0, .slice none 0 0] 26)) = u0 at *
    have hu0 : u0.heap.size = w.heap.size + 2 := by rw [← hu]; simp
    clear hu
    refine E.out.mono ?_
    rintro e u1 ⟨rfl, f⟩
    have FF := Lib.hid (HF.out.trans f)
    have hs1 : w.heap.size + 2 ≤ u1.heap.size := by rw [← hu0]; exact f.size
    obtain ⟨bl, b0, b1, b2, b3, _, _, _, _⟩ := HB.out.fr f
    have HZ1 := Lib.hid (HZ.out.fr f)
    obtain ⟨zl, z0, z1, z2, z3, y0, y1, y2, y3⟩ := HZ1.out
    clear f E HF HB HZ
    go_wp2_with (first | (go_at_call 56; refine (impl_WrdOk _ _).mono ?_; rintro e w' ⟨rfl, rfl⟩) | (go_at_call 61; refine (EP.out _).mono ?_; rintro e w' ⟨rfl, rfl⟩))
    refine bodyPost_ret (v := noSt) (by simp [results, Tryd.results39, go_sem, z0, z1, z2, z3]) rfl (.inr ⟨HE.out, rfl, ?_⟩)
    exact fr_but FF.out ((But.refl [w.heap.size + 1] u1).set4 (w.heap.size + 1) _ _ _ _ (.inl (by simp))) (fun k hk => by have := List.mem_singleton.1 hk; omega)
end Go.Proofs.YtbjapncfgancoaaDoor
