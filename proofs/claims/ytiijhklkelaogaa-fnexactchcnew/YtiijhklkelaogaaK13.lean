/- The model's ChcRead, ChcWrite, ChcLay. -/
import Derived.Test.YtiijhklkelaogaaK10
namespace Go.Proofs.Ytiijhklkelaogaa
open Go.RowKit
set_option linter.unusedVariables false
set_option linter.unusedSimpArgs false
theorem set_far2 {w : World} {g b j o o' : Nat} {v0 v1 : Value} (h : b ≠ g) : ((w.setCell ⟨g, o, none⟩ v0).setCell ⟨g, o', none⟩ v1).cell? ⟨b, j, none⟩ = w.cell? ⟨b, j, none⟩ := by
  rw [World.cell?_setCell_other _ _ _ _ (by simp [h]), World.cell?_setCell_other _ _ _ _ (by simp [h])]
/-- A cache that was handed over: its rows may be written, and lie apart. -/
structure VcH7 (B : Nat) (u : World) (M : List Int) (X : List La) (aM aL : Option Addr) : Prop where
  rM : Vc B u M.length (ivl M) aM
  rL : 0 < X.length → ∃ g, aL = some ⟨g, 0, none⟩ ∧ B ≤ g ∧ RoL u g X
  w : WdO B u X
  pL : ∀ k, k ∈ bkS X.length aL → ∀ i, i < X.length → k ∉ wbk (X.getD i la0)
  pM : ∀ k, k ∈ bkS M.length aM → k ∉ bkS X.length aL ∧ ∀ i, i < X.length → k ∉ wbk (X.getD i la0)
theorem VcH7.nil (B : Nat) (u : World) : VcH7 B u [] [] none none :=
  ⟨Vc.nil _ _ _ _, fun h => absurd h (by simp), ⟨fun i hi => absurd hi (Nat.not_lt_zero _), fun i j hi => absurd hi (Nat.not_lt_zero _)⟩, fun k _ i hi => absurd hi (Nat.not_lt_zero _), fun k hk => by simp [bkS] at hk⟩
theorem bkS_one {n g k : Nat} (h : k ∈ bkS n (some ⟨g, 0, none⟩)) : k = g := by
  obtain ⟨_, b, e, rfl⟩ := mem_bkS h
  cases e
  rfl
theorem OwK.vcH7 {B : Nat} {u : World} {M : List Int} {X : List La} {gM gL : Nat} (h : OwK B u M X gM gL) : VcH7 B u M X (some ⟨gM, 0, none⟩) (some ⟨gL, 0, none⟩) :=
  ⟨⟨fun _ => ⟨gM, rfl, h.b, h.M.lt, h.M.cel, h.M.fro⟩⟩, fun _ => ⟨gL, rfl, h.L.b, h.L.r⟩, h.L.w, fun k hk i hi => by rw [bkS_one hk]; exact h.L.ap i hi, fun k hk => by
    rw [bkS_one hk]
    exact ⟨fun hm => h.ap (bkS_one hm), fun i hi => h.aw i hi⟩⟩
theorem VcH7.mono {B B' : Nat} {u : World} {M : List Int} {X : List La} {aM aL : Option Addr} (h : VcH7 B u M X aM aL) (hB : B' ≤ B) : VcH7 B' u M X aM aL :=
  ⟨h.rM.mono hB, fun h0 => by obtain ⟨g, e, hb, r⟩ := h.rL h0; exact ⟨g, e, by omega, r⟩, h.w.mono hB, h.pL, h.pM⟩
theorem VcH7.src {B : Nat} {u : World} {M : List Int} {X : List La} {aM aL : Option Addr} (h : VcH7 B u M X aM aL) : SrcC u M X aM aL :=
  ⟨h.rM.src, ⟨fun h0 => by obtain ⟨g, e, hb, r⟩ := h.rL h0; exact ⟨g, 0, e, r.lt, r.rng⟩, fun i hi => (h.w.wd i hi).src⟩⟩
/-- Behind a call that answers a cache. -/
def ChQ7 (c : Ch) (w : World) (e : Ending) (w' : World) : Prop := ∃ M X aM aL cM cL, e = .returned (caV aM aL M X cM cL) ∧ c = ⟨M, lns X⟩ ∧ VcH7 w.heap.size w' M X aM aL ∧ M.length ≤ cM ∧ Fr w w'
/-- Behind a call that answers a cache and a number. -/
def ChP7 (c : Ch) (n : Int) (w : World) (e : Ending) (w' : World) : Prop := ∃ M X aM aL cM cL, e = .returned (.tuple #[caV aM aL M X cM cL, .int .i64 n]) ∧ c = ⟨M, lns X⟩ ∧ VcH7 w.heap.size w' M X aM aL ∧ M.length ≤ cM ∧ Fr w w'
set_option maxRecDepth 100000 in
set_option maxHeartbeats 4000000 in
theorem spec_ChcWrite (M : List Int) (X : List La) (aM aL : Option Addr) (cM cL : Nat) (a n : Int) (w : World) (h : SrcC w M X aM aL) (hf : FewC M X) :
    Calls Try.prog 33 #[caV aM aL M X cM cL, .int .i64 a, .int .i64 n] w ((ChQ7 (writeA ⟨M, lns X⟩ a n)) w) := by
  have F0 : Fr w ((w.alloc (.cells #[.slice aM M.length cM, .slice aL X.length cL] 25)).alloc (.cells #[.slice none 0 0, .slice none 0 0] 25)) := by (repeat' first | (with_reducible exact Below.refl _ _) | (with_reducible assumption) | ((with_reducible refine Below.setCell ?_ ?hb _); (case hb => first | exact Nat.le_refl _ | (simp; done) | (simp; omega) | omega)) | ((with_reducible refine Below.alloc ?_ ?hb _); (case hb => first | exact Nat.le_refl _ | (simp; done) | (simp; omega) | omega)) | (with_reducible refine Below.drew ?_))
  have HF := Lib.hid F0
  have HX1 := Lib.hid ((Box2.new w (.slice aM M.length cM) (.slice aL X.length cL) 25 _ rfl).fr (Fr.alloc _ (.cells #[.slice none 0 0, .slice none 0 0] 25)))
  have HX2 := Lib.hid (Box2.new (w.alloc (.cells #[.slice aM M.length cM, .slice aL X.length cL] 25)) (.slice none 0 0) (.slice none 0 0) 25 (w.heap.size + 1) (by simp))
  have hs0 : w.heap.size + 2 ≤ ((w.alloc (.cells #[.slice aM M.length cM, .slice aL X.length cL] 25)).alloc (.cells #[.slice none 0 0, .slice none 0 0] 25)).heap.size := by simp
  have HS := Lib.hid (h.fr F0)
  have E := spec_ChcOk M X aM aL cM cL _ (h.fr F0) hf
  have P := fun w => plc_l1In a w
  have Q := fun w => spec_WrdOk n w
  cases ho : okC ⟨M, lns X⟩
  · rw [ho] at E
    have HE := Lib.hid E
    have HA := Lib.hid (show writeA ⟨M, lns X⟩ a n = ch0 by simp only [writeA, ho, Bool.false_and]; rfl)
    clear E F0 h ho P Q
    go_enter Try.func33, Try.ntmps33
    go_upto_region 1 with fail
    generalize ((w.alloc (.cells #[.slice aM M.length cM, .slice aL X.length cL] 25)).alloc (.cells #[.slice none 0 0, .slice none 0 0] 25)) = u0 at *
    obtain ⟨_, c0, c1, _, _⟩ := HX1.out
    go_upto_region 2 with (first | (go_at_call 26; refine HE.out.mono ?_; rintro e u1 ⟨rfl, hf2⟩; have HF2 := Lib.hid hf2; obtain ⟨_, e0, e1, _, _⟩ := HX1.out.fr hf2; clear hf2))
    have HZ2 := Lib.hid (HX2.out.fr HF2.out)
    obtain ⟨_, z0, z1, q0, q1⟩ := HZ2.out
    have hsz := HF2.out.size
    go_wp2
    have hst : But [w.heap.size + 1] u1 ((u1.setCell ⟨w.heap.size + 1, 0, none⟩ (.slice none 0 0)).setCell ⟨w.heap.size + 1, 1, none⟩ (.slice none 0 0)) := (But.refl _ _).set2 _ _ _ (.inl (by simp))
    have HX2n := HZ2.out.set (.slice none 0 0) (.slice none 0 0)
    refine bodyPost_ret (v := .agg #[.slice none 0 0, .slice none 0 0]) (by simp [results, Try.results33, go_sem, HX2n.c0, HX2n.c1]) rfl ?_
    refine ⟨[], [], none, none, 0, 0, rfl, HA.out, VcH7.nil _ _, Nat.zero_le _, fr_but (Fr.trans HF.out HF2.out) hst (fun m hm => by simp at hm; omega)⟩
  · rw [ho] at E
    have HE := Lib.hid E
    cases hp : plcB a
    · rw [hp] at P
      have HP := Lib.hid P
      have HA := Lib.hid (show writeA ⟨M, lns X⟩ a n = ch0 by simp only [writeA, ho, hp, Bool.true_and, Bool.false_and]; rfl)
      clear E F0 h ho P hp Q
      go_enter Try.func33, Try.ntmps33
      go_upto_region 1 with fail
      generalize ((w.alloc (.cells #[.slice aM M.length cM, .slice aL X.length cL] 25)).alloc (.cells #[.slice none 0 0, .slice none 0 0] 25)) = u0 at *
      obtain ⟨_, c0, c1, _, _⟩ := HX1.out
      go_upto_region 2 with (first | (go_at_call 26; refine HE.out.mono ?_; rintro e u1 ⟨rfl, hf2⟩; have HF2 := Lib.hid hf2; obtain ⟨_, e0, e1, _, _⟩ := HX1.out.fr hf2; clear hf2) | (go_at_call 59; refine (HP.out _).mono ?_; rintro e w' ⟨rfl, rfl⟩))
      have HZ2 := Lib.hid (HX2.out.fr HF2.out)
      obtain ⟨_, z0, z1, q0, q1⟩ := HZ2.out
      have hsz := HF2.out.size
      go_wp2
      have hst : But [w.heap.size + 1] u1 ((u1.setCell ⟨w.heap.size + 1, 0, none⟩ (.slice none 0 0)).setCell ⟨w.heap.size + 1, 1, none⟩ (.slice none 0 0)) := (But.refl _ _).set2 _ _ _ (.inl (by simp))
      have HX2n := HZ2.out.set (.slice none 0 0) (.slice none 0 0)
      refine bodyPost_ret (v := .agg #[.slice none 0 0, .slice none 0 0]) (by simp [results, Try.results33, go_sem, HX2n.c0, HX2n.c1]) rfl ?_
      refine ⟨[], [], none, none, 0, 0, rfl, HA.out, VcH7.nil _ _, Nat.zero_le _, fr_but (Fr.trans HF.out HF2.out) hst (fun m hm => by simp at hm; omega)⟩
    · rw [hp] at P
      have HP := Lib.hid P
      cases hw : okB n
      · rw [hw] at Q
        have HQ := Lib.hid Q
        have HA := Lib.hid (show writeA ⟨M, lns X⟩ a n = ch0 by simp only [writeA, ho, hp, hw, Bool.true_and, Bool.and_false]; rfl)
        clear E F0 h ho P hp hw Q
        go_enter Try.func33, Try.ntmps33
        go_upto_region 1 with fail
        generalize ((w.alloc (.cells #[.slice aM M.length cM, .slice aL X.length cL] 25)).alloc (.cells #[.slice none 0 0, .slice none 0 0] 25)) = u0 at *
        obtain ⟨_, c0, c1, _, _⟩ := HX1.out
        go_upto_region 2 with (first | (go_at_call 26; refine HE.out.mono ?_; rintro e u1 ⟨rfl, hf2⟩; have HF2 := Lib.hid hf2; obtain ⟨_, e0, e1, _, _⟩ := HX1.out.fr hf2; clear hf2) | (go_at_call 59; refine (HP.out _).mono ?_; rintro e w' ⟨rfl, rfl⟩) | (go_at_call 47; refine (HQ.out _).mono ?_; rintro e w' ⟨rfl, rfl⟩))
        have HZ2 := Lib.hid (HX2.out.fr HF2.out)
        obtain ⟨_, z0, z1, q0, q1⟩ := HZ2.out
        have hsz := HF2.out.size
        go_wp2
        have hst : But [w.heap.size + 1] u1 ((u1.setCell ⟨w.heap.size + 1, 0, none⟩ (.slice none 0 0)).setCell ⟨w.heap.size + 1, 1, none⟩ (.slice none 0 0)) := (But.refl _ _).set2 _ _ _ (.inl (by simp))
        have HX2n := HZ2.out.set (.slice none 0 0) (.slice none 0 0)
        refine bodyPost_ret (v := .agg #[.slice none 0 0, .slice none 0 0]) (by simp [results, Try.results33, go_sem, HX2n.c0, HX2n.c1]) rfl ?_
        refine ⟨[], [], none, none, 0, 0, rfl, HA.out, VcH7.nil _ _, Nat.zero_le _, fr_but (Fr.trans HF.out HF2.out) hst (fun m hm => by simp at hm; omega)⟩
      · rw [hw] at Q
        have HQ := Lib.hid Q
        have HA := Lib.hid (show writeA ⟨M, lns X⟩ a n = writeC ⟨M, lns X⟩ a n by simp only [writeA, ho, hp, hw, Bool.and_true, if_true])
        have HOk := Lib.hid ((okC_iff _).1 ho)
        have HPl := Lib.hid hp
        have HWk := Lib.hid hw
        clear E F0 h ho P hp hw Q
        go_enter Try.func33, Try.ntmps33
        go_upto_region 1 with fail
        generalize ((w.alloc (.cells #[.slice aM M.length cM, .slice aL X.length cL] 25)).alloc (.cells #[.slice none 0 0, .slice none 0 0] 25)) = u0 at *
        obtain ⟨_, c0, c1, _, _⟩ := HX1.out
        go_upto_region 3 with (first | (go_at_call 26; refine HE.out.mono ?_; rintro e u1 ⟨rfl, hf2⟩; have HF2 := Lib.hid hf2; obtain ⟨_, e0, e1, _, _⟩ := HX1.out.fr hf2; clear hf2) | (go_at_call 59; refine (HP.out _).mono ?_; rintro e w' ⟨rfl, rfl⟩) | (go_at_call 47; refine (HQ.out _).mono ?_; rintro e w' ⟨rfl, rfl⟩))
        clear c0 c1
        have HM := Lib.hid (show M.length = 256 from HOk.out.Ml)
        have HXL := Lib.hid (show X.length = 4 by have := HOk.out.Ll; simpa using this)
        have FW1 := Lib.hid (Fr.trans HF.out HF2.out)
        have HZ2 := Lib.hid (HX2.out.fr HF2.out)
        have hsz1 := HF2.out.size
        have W4 : Hid (∀ (Y : List La) (c : Ch), lns Y = c.L → OkC c → ∀ i, i < 4 → (Y.getD i la0).n.W.length ≤ 1000) := Lib.hid (fun Y c hY hc i hi => by
          have := okLns_at hc.L i (by rw [hc.Ll]; exact hi)
          rw [← hY, lns_get] at this
          have := okLn_W this
          omega)
        have C1 := Lib.hid (spec_l7Copy M X aM aL cM cL u1 (HS.out.fr HF2.out) HM.out HXL.out (W4.out X _ rfl HOk.out))
        clear HX2 HX1
        go_wp2_with fail
        refine C1.out.mono ?_
        rintro e u2 ⟨Y, gM, gL, dM, dL, rfl, hY, hO2, hcap, hf2⟩
        have HY := Lib.hid hY
        have HO2 := Lib.hid hO2
        have HCp := Lib.hid hcap
        have FW2 := Lib.hid (Fr.trans FW1.out hf2)
        have HZ3 := Lib.hid (HZ2.out.fr hf2)
        have hsz2 := hf2.size
        clear hY hO2 hcap hf2 C1 HZ2 e0 e1
        have C2 := Lib.hid (spec_l7Write u1.heap.size M Y gM gL dM dL a n u2 HO2.out (by rw [HY.out]; exact HOk.out) HPl.out hsz2 HCp.out)
        go_wp2_with fail
        refine C2.out.mono ?_
        rw [HY.out]
        obtain ⟨cc, hcc⟩ : ∃ cc, cc = writeC ⟨M, lns X⟩ a n := ⟨_, rfl⟩
        rw [← hcc]
        have HOc := Lib.hid (show OkC cc by rw [hcc]; exact writeC_ok HOk.out HPl.out HWk.out)
        rw [← hcc] at HA
        clear hcc
        rintro e u3 ⟨Y1, rfl, hY1, hO3, hb3, hk3⟩
        have HY1 := Lib.hid hY1
        have HO3 := Lib.hid hO3
        have hlow := HO2.out.lt
        have hbl : ∀ m, m ∈ [gM, gL] → u1.heap.size ≤ m := fun m hm => by
          simp at hm
          rcases hm with rfl | rfl
          · exact (hlow _ (.inl rfl)).1
          · exact (hlow _ (.inr (.inl rfl))).1
        have HZ4 := Lib.hid (HZ3.out.but hb3 (fun hm => by have := hbl _ hm; omega))
        have FW3 := Lib.hid (show Fr w u3 from fr_but FW2.out hb3 (fun m hm => by have := hbl _ hm; omega))
        have hsz3 := hb3.size
        have HM1 := Lib.hid (show cc.M.length = 256 from HOc.out.Ml)
        have HX1l := Lib.hid (show Y1.length = 4 by have e1 := congrArg List.length hY1; rw [lns_len] at e1; have := HOc.out.Ll; omega)
        have HW1 := Lib.hid (W4.out Y1 cc hY1 HOc.out)
        clear hY1 hO3 hb3 hk3 hlow hbl HZ3 C2 HO2 W4
        have C3 := Lib.hid (spec_l7Copy cc.M Y1 _ _ dM dL u3 HO3.out.src HM1.out HX1l.out HW1.out)
        obtain ⟨_, z0, z1, q0, q1⟩ := HZ4.out
        go_wp2_with fail
        refine C3.out.mono ?_
        rintro e u4 ⟨Z, hM, hL, eM, eL, rfl, hZ, hO5, hcp5, hf5⟩
        have HZ := Lib.hid hZ
        have HO5 := Lib.hid hO5
        have HC5 := Lib.hid hcp5
        have FW4 := Lib.hid (Fr.trans FW3.out hf5)
        have HZ5 := Lib.hid (HZ4.out.fr hf5)
        have hsz5 := hf5.size
        clear hZ hO5 hcp5 hf5 C3 z0 z1 q0 q1
        obtain ⟨_, z0, z1, q0, q1⟩ := HZ5.out
        go_wp2
        have hst : But [w.heap.size + 1] u4 ((u4.setCell ⟨w.heap.size + 1, 0, none⟩ (.slice (some ⟨hM, 0, none⟩) cc.M.length eM)).setCell ⟨w.heap.size + 1, 1, none⟩ (.slice (some ⟨hL, 0, none⟩) Z.length eL)) := (But.refl _ _).set2 _ _ _ (.inl (by simp))
        have HX2n := HZ5.out.set (.slice (some ⟨hM, 0, none⟩) cc.M.length eM) (.slice (some ⟨hL, 0, none⟩) Z.length eL)
        refine bodyPost_ret (v := .agg #[.slice (some ⟨hM, 0, none⟩) cc.M.length eM, .slice (some ⟨hL, 0, none⟩) Z.length eL]) (by simp [results, Try.results33, go_sem, HX2n.c0, HX2n.c1]) rfl ?_
        refine ⟨cc.M, Z, some ⟨hM, 0, none⟩, some ⟨hL, 0, none⟩, eM, eL, rfl, ?_, (HO5.out.but' hst (fun m hm hx => ?_)).vcH7.mono (by omega), HC5.out, fr_but FW4.out hst (fun m hm => by simp at hm; omega)⟩
        · rw [HA.out, HZ.out, HY1.out]
        · have := (HO5.out.lt m hm).1
          simp at hx
          omega
set_option maxRecDepth 100000 in
set_option maxHeartbeats 4000000 in
theorem spec_ChcLay (M : List Int) (X : List La) (aM aL : Option Addr) (cM cL : Nat) (a n : Int) (w : World) (h : SrcC w M X aM aL) (hf : FewC M X) :
    Calls Try.prog 35 #[caV aM aL M X cM cL, .int .i64 a, .int .i64 n] w ((ChQ7 (layA ⟨M, lns X⟩ a n)) w) := by
  have F0 : Fr w ((w.alloc (.cells #[.slice aM M.length cM, .slice aL X.length cL] 25)).alloc (.cells #[.slice none 0 0, .slice none 0 0] 25)) := by (repeat' first | (with_reducible exact Below.refl _ _) | (with_reducible assumption) | ((with_reducible refine Below.setCell ?_ ?hb _); (case hb => first | exact Nat.le_refl _ | (simp; done) | (simp; omega) | omega)) | ((with_reducible refine Below.alloc ?_ ?hb _); (case hb => first | exact Nat.le_refl _ | (simp; done) | (simp; omega) | omega)) | (with_reducible refine Below.drew ?_))
  have HF := Lib.hid F0
  have HX1 := Lib.hid ((Box2.new w (.slice aM M.length cM) (.slice aL X.length cL) 25 _ rfl).fr (Fr.alloc _ (.cells #[.slice none 0 0, .slice none 0 0] 25)))
  have HX2 := Lib.hid (Box2.new (w.alloc (.cells #[.slice aM M.length cM, .slice aL X.length cL] 25)) (.slice none 0 0) (.slice none 0 0) 25 (w.heap.size + 1) (by simp))
  have hs0 : w.heap.size + 2 ≤ ((w.alloc (.cells #[.slice aM M.length cM, .slice aL X.length cL] 25)).alloc (.cells #[.slice none 0 0, .slice none 0 0] 25)).heap.size := by simp
  have HS := Lib.hid (h.fr F0)
  have E := spec_ChcOk M X aM aL cM cL _ (h.fr F0) hf
  have P := fun w => plc_l1In a w
  have Q := fun w => spec_WrdOk n w
  cases ho : okC ⟨M, lns X⟩
  · rw [ho] at E
    have HE := Lib.hid E
    have HA := Lib.hid (show layA ⟨M, lns X⟩ a n = ch0 by simp only [layA, ho, Bool.false_and]; rfl)
    clear E F0 h ho P Q
    go_enter Try.func35, Try.ntmps35
    go_upto_region 1 with fail
    generalize ((w.alloc (.cells #[.slice aM M.length cM, .slice aL X.length cL] 25)).alloc (.cells #[.slice none 0 0, .slice none 0 0] 25)) = u0 at *
    obtain ⟨_, c0, c1, _, _⟩ := HX1.out
    go_upto_region 2 with (first | (go_at_call 26; refine HE.out.mono ?_; rintro e u1 ⟨rfl, hf2⟩; have HF2 := Lib.hid hf2; obtain ⟨_, e0, e1, _, _⟩ := HX1.out.fr hf2; clear hf2))
    have HZ2 := Lib.hid (HX2.out.fr HF2.out)
    obtain ⟨_, z0, z1, q0, q1⟩ := HZ2.out
    have hsz := HF2.out.size
    go_wp2
    have hst : But [w.heap.size + 1] u1 ((u1.setCell ⟨w.heap.size + 1, 0, none⟩ (.slice none 0 0)).setCell ⟨w.heap.size + 1, 1, none⟩ (.slice none 0 0)) := (But.refl _ _).set2 _ _ _ (.inl (by simp))
    have HX2n := HZ2.out.set (.slice none 0 0) (.slice none 0 0)
    refine bodyPost_ret (v := .agg #[.slice none 0 0, .slice none 0 0]) (by simp [results, Try.results35, go_sem, HX2n.c0, HX2n.c1]) rfl ?_
    refine ⟨[], [], none, none, 0, 0, rfl, HA.out, VcH7.nil _ _, Nat.zero_le _, fr_but (Fr.trans HF.out HF2.out) hst (fun m hm => by simp at hm; omega)⟩
  · rw [ho] at E
    have HE := Lib.hid E
    cases hp : plcB a
    · rw [hp] at P
      have HP := Lib.hid P
      have HA := Lib.hid (show layA ⟨M, lns X⟩ a n = ch0 by simp only [layA, ho, hp, Bool.true_and, Bool.false_and]; rfl)
      clear E F0 h ho P hp Q
      go_enter Try.func35, Try.ntmps35
      go_upto_region 1 with fail
      generalize ((w.alloc (.cells #[.slice aM M.length cM, .slice aL X.length cL] 25)).alloc (.cells #[.slice none 0 0, .slice none 0 0] 25)) = u0 at *
      obtain ⟨_, c0, c1, _, _⟩ := HX1.out
      go_upto_region 2 with (first | (go_at_call 26; refine HE.out.mono ?_; rintro e u1 ⟨rfl, hf2⟩; have HF2 := Lib.hid hf2; obtain ⟨_, e0, e1, _, _⟩ := HX1.out.fr hf2; clear hf2) | (go_at_call 59; refine (HP.out _).mono ?_; rintro e w' ⟨rfl, rfl⟩))
      have HZ2 := Lib.hid (HX2.out.fr HF2.out)
      obtain ⟨_, z0, z1, q0, q1⟩ := HZ2.out
      have hsz := HF2.out.size
      go_wp2
      have hst : But [w.heap.size + 1] u1 ((u1.setCell ⟨w.heap.size + 1, 0, none⟩ (.slice none 0 0)).setCell ⟨w.heap.size + 1, 1, none⟩ (.slice none 0 0)) := (But.refl _ _).set2 _ _ _ (.inl (by simp))
      have HX2n := HZ2.out.set (.slice none 0 0) (.slice none 0 0)
      refine bodyPost_ret (v := .agg #[.slice none 0 0, .slice none 0 0]) (by simp [results, Try.results35, go_sem, HX2n.c0, HX2n.c1]) rfl ?_
      refine ⟨[], [], none, none, 0, 0, rfl, HA.out, VcH7.nil _ _, Nat.zero_le _, fr_but (Fr.trans HF.out HF2.out) hst (fun m hm => by simp at hm; omega)⟩
    · rw [hp] at P
      have HP := Lib.hid P
      cases hw : okB n
      · rw [hw] at Q
        have HQ := Lib.hid Q
        have HA := Lib.hid (show layA ⟨M, lns X⟩ a n = ch0 by simp only [layA, ho, hp, hw, Bool.true_and, Bool.and_false]; rfl)
        clear E F0 h ho P hp hw Q
        go_enter Try.func35, Try.ntmps35
        go_upto_region 1 with fail
        generalize ((w.alloc (.cells #[.slice aM M.length cM, .slice aL X.length cL] 25)).alloc (.cells #[.slice none 0 0, .slice none 0 0] 25)) = u0 at *
        obtain ⟨_, c0, c1, _, _⟩ := HX1.out
        go_upto_region 2 with (first | (go_at_call 26; refine HE.out.mono ?_; rintro e u1 ⟨rfl, hf2⟩; have HF2 := Lib.hid hf2; obtain ⟨_, e0, e1, _, _⟩ := HX1.out.fr hf2; clear hf2) | (go_at_call 59; refine (HP.out _).mono ?_; rintro e w' ⟨rfl, rfl⟩) | (go_at_call 47; refine (HQ.out _).mono ?_; rintro e w' ⟨rfl, rfl⟩))
        have HZ2 := Lib.hid (HX2.out.fr HF2.out)
        obtain ⟨_, z0, z1, q0, q1⟩ := HZ2.out
        have hsz := HF2.out.size
        go_wp2
        have hst : But [w.heap.size + 1] u1 ((u1.setCell ⟨w.heap.size + 1, 0, none⟩ (.slice none 0 0)).setCell ⟨w.heap.size + 1, 1, none⟩ (.slice none 0 0)) := (But.refl _ _).set2 _ _ _ (.inl (by simp))
        have HX2n := HZ2.out.set (.slice none 0 0) (.slice none 0 0)
        refine bodyPost_ret (v := .agg #[.slice none 0 0, .slice none 0 0]) (by simp [results, Try.results35, go_sem, HX2n.c0, HX2n.c1]) rfl ?_
        refine ⟨[], [], none, none, 0, 0, rfl, HA.out, VcH7.nil _ _, Nat.zero_le _, fr_but (Fr.trans HF.out HF2.out) hst (fun m hm => by simp at hm; omega)⟩
      · rw [hw] at Q
        have HQ := Lib.hid Q
        have HA := Lib.hid (show layA ⟨M, lns X⟩ a n = layC ⟨M, lns X⟩ a n by simp only [layA, ho, hp, hw, Bool.and_true, if_true])
        have HOk := Lib.hid ((okC_iff _).1 ho)
        have HPl := Lib.hid hp
        have HWk := Lib.hid hw
        clear E F0 h ho P hp hw Q
        go_enter Try.func35, Try.ntmps35
        go_upto_region 1 with fail
        generalize ((w.alloc (.cells #[.slice aM M.length cM, .slice aL X.length cL] 25)).alloc (.cells #[.slice none 0 0, .slice none 0 0] 25)) = u0 at *
        obtain ⟨_, c0, c1, _, _⟩ := HX1.out
        go_upto_region 3 with (first | (go_at_call 26; refine HE.out.mono ?_; rintro e u1 ⟨rfl, hf2⟩; have HF2 := Lib.hid hf2; obtain ⟨_, e0, e1, _, _⟩ := HX1.out.fr hf2; clear hf2) | (go_at_call 59; refine (HP.out _).mono ?_; rintro e w' ⟨rfl, rfl⟩) | (go_at_call 47; refine (HQ.out _).mono ?_; rintro e w' ⟨rfl, rfl⟩))
        clear c0 c1
        have HM := Lib.hid (show M.length = 256 from HOk.out.Ml)
        have HXL := Lib.hid (show X.length = 4 by have := HOk.out.Ll; simpa using this)
        have FW1 := Lib.hid (Fr.trans HF.out HF2.out)
        have HZ2 := Lib.hid (HX2.out.fr HF2.out)
        have hsz1 := HF2.out.size
        have W4 : Hid (∀ (Y : List La) (c : Ch), lns Y = c.L → OkC c → ∀ i, i < 4 → (Y.getD i la0).n.W.length ≤ 1000) := Lib.hid (fun Y c hY hc i hi => by
          have := okLns_at hc.L i (by rw [hc.Ll]; exact hi)
          rw [← hY, lns_get] at this
          have := okLn_W this
          omega)
        have C1 := Lib.hid (spec_l7Copy M X aM aL cM cL u1 (HS.out.fr HF2.out) HM.out HXL.out (W4.out X _ rfl HOk.out))
        clear HX2 HX1
        go_wp2_with fail
        refine C1.out.mono ?_
        rintro e u2 ⟨Y, gM, gL, dM, dL, rfl, hY, hO2, hcap, hf2⟩
        have HY := Lib.hid hY
        have HO2 := Lib.hid hO2
        have HCp := Lib.hid hcap
        have FW2 := Lib.hid (Fr.trans FW1.out hf2)
        have HZ3 := Lib.hid (HZ2.out.fr hf2)
        have hsz2 := hf2.size
        clear hY hO2 hcap hf2 C1 HZ2 e0 e1
        have C2 := Lib.hid (spec_l7Lay u1.heap.size M Y gM gL dM dL a n u2 HO2.out (by rw [HY.out]; exact HOk.out) HPl.out hsz2)
        go_wp2_with fail
        refine C2.out.mono ?_
        rw [HY.out]
        obtain ⟨cc, hcc⟩ : ∃ cc, cc = layC ⟨M, lns X⟩ a n := ⟨_, rfl⟩
        rw [← hcc]
        have HOc := Lib.hid (show OkC cc by rw [hcc]; exact layC_ok HOk.out HPl.out HWk.out)
        rw [← hcc] at HA
        clear hcc
        rintro e u3 ⟨Y1, rfl, hY1, hO3, hb3, hk3⟩
        have HY1 := Lib.hid hY1
        have HO3 := Lib.hid hO3
        have hlow := HO2.out.lt
        have hbl : ∀ m, m ∈ [gM, gL] → u1.heap.size ≤ m := fun m hm => by
          simp at hm
          rcases hm with rfl | rfl
          · exact (hlow _ (.inl rfl)).1
          · exact (hlow _ (.inr (.inl rfl))).1
        have HZ4 := Lib.hid (HZ3.out.but hb3 (fun hm => by have := hbl _ hm; omega))
        have FW3 := Lib.hid (show Fr w u3 from fr_but FW2.out hb3 (fun m hm => by have := hbl _ hm; omega))
        have hsz3 := hb3.size
        have HM1 := Lib.hid (show cc.M.length = 256 from HOc.out.Ml)
        have HX1l := Lib.hid (show Y1.length = 4 by have e1 := congrArg List.length hY1; rw [lns_len] at e1; have := HOc.out.Ll; omega)
        have HW1 := Lib.hid (W4.out Y1 cc hY1 HOc.out)
        clear hY1 hO3 hb3 hk3 hlow hbl HZ3 C2 HO2 W4
        have C3 := Lib.hid (spec_l7Copy cc.M Y1 _ _ dM dL u3 HO3.out.src HM1.out HX1l.out HW1.out)
        obtain ⟨_, z0, z1, q0, q1⟩ := HZ4.out
        go_wp2_with fail
        refine C3.out.mono ?_
        rintro e u4 ⟨Z, hM, hL, eM, eL, rfl, hZ, hO5, hcp5, hf5⟩
        have HZ := Lib.hid hZ
        have HO5 := Lib.hid hO5
        have HC5 := Lib.hid hcp5
        have FW4 := Lib.hid (Fr.trans FW3.out hf5)
        have HZ5 := Lib.hid (HZ4.out.fr hf5)
        have hsz5 := hf5.size
        clear hZ hO5 hcp5 hf5 C3 z0 z1 q0 q1
        obtain ⟨_, z0, z1, q0, q1⟩ := HZ5.out
        go_wp2
        have hst : But [w.heap.size + 1] u4 ((u4.setCell ⟨w.heap.size + 1, 0, none⟩ (.slice (some ⟨hM, 0, none⟩) cc.M.length eM)).setCell ⟨w.heap.size + 1, 1, none⟩ (.slice (some ⟨hL, 0, none⟩) Z.length eL)) := (But.refl _ _).set2 _ _ _ (.inl (by simp))
        have HX2n := HZ5.out.set (.slice (some ⟨hM, 0, none⟩) cc.M.length eM) (.slice (some ⟨hL, 0, none⟩) Z.length eL)
        refine bodyPost_ret (v := .agg #[.slice (some ⟨hM, 0, none⟩) cc.M.length eM, .slice (some ⟨hL, 0, none⟩) Z.length eL]) (by simp [results, Try.results35, go_sem, HX2n.c0, HX2n.c1]) rfl ?_
        refine ⟨cc.M, Z, some ⟨hM, 0, none⟩, some ⟨hL, 0, none⟩, eM, eL, rfl, ?_, (HO5.out.but' hst (fun m hm hx => ?_)).vcH7.mono (by omega), HC5.out, fr_but FW4.out hst (fun m hm => by simp at hm; omega)⟩
        · rw [HA.out, HZ.out, HY1.out]
        · have := (HO5.out.lt m hm).1
          simp at hx
          omega
set_option maxRecDepth 100000 in
set_option maxHeartbeats 4000000 in
theorem spec_ChcRead (M : List Int) (X : List La) (aM aL : Option Addr) (cM cL : Nat) (a : Int) (w : World) (h : SrcC w M X aM aL) (hf : FewC M X) :
    Calls Try.prog 31 #[caV aM aL M X cM cL, .int .i64 a] w ((ChP7 (readA ⟨M, lns X⟩ a) (readN ⟨M, lns X⟩ a)) w) := by
  have F0 : Fr w ((w.alloc (.cells #[.slice aM M.length cM, .slice aL X.length cL] 25)).alloc (.cells #[.slice none 0 0, .slice none 0 0] 25)) := by (repeat' first | (with_reducible exact Below.refl _ _) | (with_reducible assumption) | ((with_reducible refine Below.setCell ?_ ?hb _); (case hb => first | exact Nat.le_refl _ | (simp; done) | (simp; omega) | omega)) | ((with_reducible refine Below.alloc ?_ ?hb _); (case hb => first | exact Nat.le_refl _ | (simp; done) | (simp; omega) | omega)) | (with_reducible refine Below.drew ?_))
  have HF := Lib.hid F0
  have HX1 := Lib.hid ((Box2.new w (.slice aM M.length cM) (.slice aL X.length cL) 25 _ rfl).fr (Fr.alloc _ (.cells #[.slice none 0 0, .slice none 0 0] 25)))
  have HX2 := Lib.hid (Box2.new (w.alloc (.cells #[.slice aM M.length cM, .slice aL X.length cL] 25)) (.slice none 0 0) (.slice none 0 0) 25 (w.heap.size + 1) (by simp))
  have hs0 : w.heap.size + 2 ≤ ((w.alloc (.cells #[.slice aM M.length cM, .slice aL X.length cL] 25)).alloc (.cells #[.slice none 0 0, .slice none 0 0] 25)).heap.size := by simp
  have HS := Lib.hid (h.fr F0)
  have E := spec_ChcOk M X aM aL cM cL _ (h.fr F0) hf
  have P := fun w => plc_l1In a w
  cases ho : okC ⟨M, lns X⟩
  · rw [ho] at E
    have HE := Lib.hid E
    have HA := Lib.hid (show readA ⟨M, lns X⟩ a = ch0 by simp only [readA, ho, Bool.false_and]; rfl)
    have HN := Lib.hid (show readN ⟨M, lns X⟩ a = -1 by simp only [readN, ho, Bool.false_and]; rfl)
    clear E F0 h ho P
    go_enter Try.func31, Try.ntmps31
    go_upto_region 1 with fail
    generalize ((w.alloc (.cells #[.slice aM M.length cM, .slice aL X.length cL] 25)).alloc (.cells #[.slice none 0 0, .slice none 0 0] 25)) = u0 at *
    obtain ⟨_, c0, c1, _, _⟩ := HX1.out
    go_upto_region 2 with (first | (go_at_call 26; refine HE.out.mono ?_; rintro e u1 ⟨rfl, hf2⟩; have HF2 := Lib.hid hf2; obtain ⟨_, e0, e1, _, _⟩ := HX1.out.fr hf2; clear hf2))
    have HZ2 := Lib.hid (HX2.out.fr HF2.out)
    obtain ⟨_, z0, z1, q0, q1⟩ := HZ2.out
    have hsz := HF2.out.size
    go_wp2
    have hst : But [w.heap.size + 1] u1 ((u1.setCell ⟨w.heap.size + 1, 0, none⟩ (.slice none 0 0)).setCell ⟨w.heap.size + 1, 1, none⟩ (.slice none 0 0)) := (But.refl _ _).set2 _ _ _ (.inl (by simp))
    have HX2n := HZ2.out.set (.slice none 0 0) (.slice none 0 0)
    refine bodyPost_ret (v := .tuple #[.agg #[.slice none 0 0, .slice none 0 0], .int .i64 (-1)]) (by simp [results, Try.results31, go_sem, HX2n.c0, HX2n.c1]) rfl ?_
    refine ⟨[], [], none, none, 0, 0, by rw [HN.out]; rfl, HA.out, VcH7.nil _ _, Nat.zero_le _, fr_but (Fr.trans HF.out HF2.out) hst (fun m hm => by simp at hm; omega)⟩
  · rw [ho] at E
    have HE := Lib.hid E
    cases hp : plcB a
    · rw [hp] at P
      have HP := Lib.hid P
      have HA := Lib.hid (show readA ⟨M, lns X⟩ a = ch0 by simp only [readA, ho, hp, Bool.true_and, Bool.false_and]; rfl)
      have HN := Lib.hid (show readN ⟨M, lns X⟩ a = -1 by simp only [readN, ho, hp, Bool.true_and, Bool.false_and]; rfl)
      clear E F0 h ho P hp
      go_enter Try.func31, Try.ntmps31
      go_upto_region 1 with fail
      generalize ((w.alloc (.cells #[.slice aM M.length cM, .slice aL X.length cL] 25)).alloc (.cells #[.slice none 0 0, .slice none 0 0] 25)) = u0 at *
      obtain ⟨_, c0, c1, _, _⟩ := HX1.out
      go_upto_region 2 with (first | (go_at_call 26; refine HE.out.mono ?_; rintro e u1 ⟨rfl, hf2⟩; have HF2 := Lib.hid hf2; obtain ⟨_, e0, e1, _, _⟩ := HX1.out.fr hf2; clear hf2) | (go_at_call 59; refine (HP.out _).mono ?_; rintro e w' ⟨rfl, rfl⟩))
      have HZ2 := Lib.hid (HX2.out.fr HF2.out)
      obtain ⟨_, z0, z1, q0, q1⟩ := HZ2.out
      have hsz := HF2.out.size
      go_wp2
      have hst : But [w.heap.size + 1] u1 ((u1.setCell ⟨w.heap.size + 1, 0, none⟩ (.slice none 0 0)).setCell ⟨w.heap.size + 1, 1, none⟩ (.slice none 0 0)) := (But.refl _ _).set2 _ _ _ (.inl (by simp))
      have HX2n := HZ2.out.set (.slice none 0 0) (.slice none 0 0)
      refine bodyPost_ret (v := .tuple #[.agg #[.slice none 0 0, .slice none 0 0], .int .i64 (-1)]) (by simp [results, Try.results31, go_sem, HX2n.c0, HX2n.c1]) rfl ?_
      refine ⟨[], [], none, none, 0, 0, by rw [HN.out]; rfl, HA.out, VcH7.nil _ _, Nat.zero_le _, fr_but (Fr.trans HF.out HF2.out) hst (fun m hm => by simp at hm; omega)⟩
    · rw [hp] at P
      have HP := Lib.hid P
      have HA := Lib.hid (show readA ⟨M, lns X⟩ a = bringC ⟨M, lns X⟩ a by simp only [readA, ho, hp, Bool.and_true, if_true])
      have HN := Lib.hid (show readN ⟨M, lns X⟩ a = lookC (bringC ⟨M, lns X⟩ a) a by simp only [readN, ho, hp, Bool.and_true, if_true])
      have HOk := Lib.hid ((okC_iff _).1 ho)
      have HPl := Lib.hid hp
      clear E F0 h ho P hp
      go_enter Try.func31, Try.ntmps31
      go_upto_region 1 with fail
      generalize ((w.alloc (.cells #[.slice aM M.length cM, .slice aL X.length cL] 25)).alloc (.cells #[.slice none 0 0, .slice none 0 0] 25)) = u0 at *
      obtain ⟨_, c0, c1, _, _⟩ := HX1.out
      go_upto_region 3 with (first | (go_at_call 26; refine HE.out.mono ?_; rintro e u1 ⟨rfl, hf2⟩; have HF2 := Lib.hid hf2; obtain ⟨_, e0, e1, _, _⟩ := HX1.out.fr hf2; clear hf2) | (go_at_call 59; refine (HP.out _).mono ?_; rintro e w' ⟨rfl, rfl⟩))
      clear c0 c1
      have HM := Lib.hid (show M.length = 256 from HOk.out.Ml)
      have HXL := Lib.hid (show X.length = 4 by have := HOk.out.Ll; simpa using this)
      have FW1 := Lib.hid (Fr.trans HF.out HF2.out)
      have HZ2 := Lib.hid (HX2.out.fr HF2.out)
      have hsz1 := HF2.out.size
      have W4 : Hid (∀ (Y : List La) (c : Ch), lns Y = c.L → OkC c → ∀ i, i < 4 → (Y.getD i la0).n.W.length ≤ 1000) := Lib.hid (fun Y c hY hc i hi => by
        have := okLns_at hc.L i (by rw [hc.Ll]; exact hi)
        rw [← hY, lns_get] at this
        have := okLn_W this
        omega)
      have C1 := Lib.hid (spec_l7Copy M X aM aL cM cL u1 (HS.out.fr HF2.out) HM.out HXL.out (W4.out X _ rfl HOk.out))
      clear HX2 HX1
      go_wp2_with fail
      refine C1.out.mono ?_
      rintro e u2 ⟨Y, gM, gL, dM, dL, rfl, hY, hO2, hcap, hf2⟩
      have HY := Lib.hid hY
      have HO2 := Lib.hid hO2
      have HCp := Lib.hid hcap
      have FW2 := Lib.hid (Fr.trans FW1.out hf2)
      have HZ3 := Lib.hid (HZ2.out.fr hf2)
      have hsz2 := hf2.size
      clear hY hO2 hcap hf2 C1 HZ2 e0 e1
      have C2 := Lib.hid (spec_l7Bring u1.heap.size M Y gM gL dM dL a u2 HO2.out (by rw [HY.out]; exact HOk.out) HPl.out hsz2 HCp.out)
      go_wp2_with fail
      refine C2.out.mono ?_
      rw [HY.out]
      obtain ⟨cc, hcc⟩ : ∃ cc, cc = bringC ⟨M, lns X⟩ a := ⟨_, rfl⟩
      rw [← hcc]
      have HOc := Lib.hid (show OkC cc by rw [hcc]; exact bringC_ok HOk.out HPl.out)
      rw [← hcc] at HA HN
      clear hcc
      rintro e u3 ⟨Y1, rfl, hY1, hO3, hb3, hk3⟩
      have HY1 := Lib.hid hY1
      have HO3 := Lib.hid hO3
      have hlow := HO2.out.lt
      have hbl : ∀ m, m ∈ [gM, gL] → u1.heap.size ≤ m := fun m hm => by
        simp at hm
        rcases hm with rfl | rfl
        · exact (hlow _ (.inl rfl)).1
        · exact (hlow _ (.inr (.inl rfl))).1
      have HZ4 := Lib.hid (HZ3.out.but hb3 (fun hm => by have := hbl _ hm; omega))
      have FW3 := Lib.hid (show Fr w u3 from fr_but FW2.out hb3 (fun m hm => by have := hbl _ hm; omega))
      have hsz3 := hb3.size
      have HM1 := Lib.hid (show cc.M.length = 256 from HOc.out.Ml)
      have HX1l := Lib.hid (show Y1.length = 4 by have e1 := congrArg List.length hY1; rw [lns_len] at e1; have := HOc.out.Ll; omega)
      have HW1 := Lib.hid (W4.out Y1 cc hY1 HOc.out)
      clear hY1 hO3 hb3 hk3 hlow hbl HZ3 C2 HO2 W4
      obtain ⟨cM1, hcM1⟩ : ∃ m, m = cc.M := ⟨_, rfl⟩
      rw [← hcM1] at HO3 HM1 ⊢
      have HcM := Lib.hid hcM1
      clear hcM1
      go_upto_region 4 with fail
      have FA : Fr u3 (u3.alloc (.cells #[.slice (some ⟨gM, 0, none⟩) cM1.length dM, .slice (some ⟨gL, 0, none⟩) Y1.length dL] 25)) := Fr.alloc _ _
      have HB6 := Lib.hid (Box2.new u3 (.slice (some ⟨gM, 0, none⟩) cM1.length dM) (.slice (some ⟨gL, 0, none⟩) Y1.length dL) 25 _ rfl)
      have HO4 := Lib.hid (HO3.out.fr FA)
      have HZ5 := Lib.hid (HZ4.out.fr FA)
      have FW4 := Lib.hid (Fr.trans FW3.out FA)
      have hsz4 : u3.heap.size < (u3.alloc (.cells #[.slice (some ⟨gM, 0, none⟩) cM1.length dM, .slice (some ⟨gL, 0, none⟩) Y1.length dL] 25)).heap.size := by simp
      clear FA HO3 HZ4 FW3
      generalize (u3.alloc (.cells #[.slice (some ⟨gM, 0, none⟩) cM1.length dM, .slice (some ⟨gL, 0, none⟩) Y1.length dL] 25)) = u4 at *
      generalize u3.heap.size = g6 at *
      have KC := Lib.hid (fun v (f : Fr u4 v) => spec_l7Copy cM1 Y1 _ _ dM dL v (HO4.out.src.fr f) HM1.out HX1l.out HW1.out)
      have KL := Lib.hid (fun v (f : Fr u4 v) => spec_l7Look cM1 Y1 _ _ dM dL a v (HO4.out.src.fr f) (by rw [HcM.out, HY1.out]; exact HOc.out) HPl.out)
      obtain ⟨_, x0, x1, _, _⟩ := HB6.out
      obtain ⟨_, z0, z1, q0, q1⟩ := HZ5.out
      have hne : w.heap.size + 1 ≠ g6 := by omega
      go_region_held3 (fun v => v.cell? ⟨g6, 0, none⟩ = some (.slice (some ⟨gM, 0, none⟩) cM1.length dM) ∧ v.cell? ⟨g6, 1, none⟩ = some (.slice (some ⟨gL, 0, none⟩) Y1.length dL))
        (first | (go_keep; done) | (refine ⟨?_, ?_⟩ <;> exact (set_far2 (by omega)).trans (by assumption)))
        (first
          | (go_at_call 68; refine (KC.out _ (Below.drew (Below.refl _ _))).mono ?_; rintro e u5 ⟨Z, hM, hL, eM, eL, rfl, hZ, hO5, hcp5, hf5⟩; have HZq := Lib.hid hZ; have HO5 := Lib.hid hO5; have HC5 := Lib.hid hcp5; have FW5 := Lib.hid (show Fr u4 u5 from Fr.trans (Below.drew (Below.refl _ _)) hf5); have HB7 := Lib.hid (HB6.out.fr FW5.out); have HZ6 := Lib.hid (HZ5.out.fr FW5.out); obtain ⟨_, x2, x3, _, _⟩ := HB7.out; clear hZ hO5 hcp5 hf5)
          | (go_at_call 63; refine (KL.out _ FW5.out).mono ?_; rintro e u6 ⟨rfl, hf6⟩; have FW6 := Lib.hid hf6; have HB8 := Lib.hid (HB7.out.fr hf6); have HZ7 := Lib.hid (HZ6.out.fr hf6); obtain ⟨_, x4, x5, _, _⟩ := HB8.out; obtain ⟨_, z2, z3, q2, q3⟩ := HZ7.out; clear hf6))
      have hst : But [w.heap.size + 1] u6 ((u6.setCell ⟨w.heap.size + 1, 0, none⟩ (.slice (some ⟨hM, 0, none⟩) cM1.length eM)).setCell ⟨w.heap.size + 1, 1, none⟩ (.slice (some ⟨hL, 0, none⟩) Z.length eL)) := (But.refl _ _).set2 _ _ _ (.inl (by simp))
      have HX2n := HZ7.out.set (.slice (some ⟨hM, 0, none⟩) cM1.length eM) (.slice (some ⟨hL, 0, none⟩) Z.length eL)
      have hb5 := FW5.out.size
      go_wp2
      refine bodyPost_ret (v := .tuple #[.agg #[.slice (some ⟨hM, 0, none⟩) cM1.length eM, .slice (some ⟨hL, 0, none⟩) Z.length eL], .int .i64 (lookC ⟨cM1, lns Y1⟩ a)]) (by simp [results, Try.results31, go_sem, HX2n.c0, HX2n.c1]) rfl ?_
      have hO7 := (HO5.out.fr FW6.out)
      refine ⟨cM1, Z, some ⟨hM, 0, none⟩, some ⟨hL, 0, none⟩, eM, eL, ?_, ?_, (hO7.but' hst (fun m hm hx => ?_)).vcH7.mono (by have h1 := FW4.out.size; have hdr : u4.drew.heap.size = u4.heap.size := rfl; omega), HC5.out, fr_but (Fr.trans (Fr.trans FW4.out FW5.out) FW6.out) hst (fun m hm => by simp at hm; omega)⟩
      · rw [HN.out, HcM.out, HY1.out]
      · rw [HA.out, HZq.out, HY1.out, HcM.out]
      · have := (HO5.out.lt m hm).1
        have hdr : u4.drew.heap.size = u4.heap.size := rfl
        simp at hx
        omega

end Go.Proofs.Ytiijhklkelaogaa
