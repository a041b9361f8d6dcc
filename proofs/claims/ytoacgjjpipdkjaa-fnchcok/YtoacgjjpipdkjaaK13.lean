/- The model's ChcRead, ChcWrite, ChcLay. All that is seen, of the model; a new cache, of the model and of the program. A new cache, of the model and of the program. -/
import Derived.Test.YtoacgjjpipdkjaaK10
namespace Go.Proofs.Ytoacgjjpipdkjaa
open Go.RowKit
set_option linter.unusedVariables false
set_option linter.unusedSimpArgs false
theorem set_far2 {w : World} {g b j o o' : Nat} {v0 v1 : Value} (h : b ≠ g) : ((w.setCell ⟨g, o, none⟩ v0).setCell ⟨g, o', none⟩ v1).cell? ⟨b, j, none⟩ = w.cell? ⟨b, j, none⟩ := by
  rw [World.cell?_setCell_other _ _ _ _ (by simp [h]), World.cell?_setCell_other _ _ _ _ (by simp [h])]
/-- A cache that was handed over: its rows may be written, and lie apart. -/
structure VcH7 (B : Nat) (u : World) (M : List Int) (X : List La) (aM aL : Option Addr) : Prop where
  rM : Vc B u M.length (ivl M) aM
  rL : 0 < X.length → ∃ g, aL = some ⟨g, 0, none⟩ ∧ B ≤ g ∧ RoL u g X
  w : WdO B u X
  pL : ∀ k, k ∈ bkS X.length aL → ∀ i, i < X.length → k ∉ wbk (X.getD i la0)
  pM : ∀ k, k ∈ bkS M.length aM → k ∉ bkS X.length aL ∧ ∀ i, i < X.length → k ∉ wbk (X.getD i la0)
theorem VcH7.nil (B : Nat) (u : World) : VcH7 B u [] [] none none :=
  ⟨Vc.nil _ _ _ _, fun h => absurd h (by simp), ⟨fun i hi => absurd hi (Nat.not_lt_zero _), fun i j hi => absurd hi (Nat.not_lt_zero _)⟩, fun k _ i hi => absurd hi (Nat.not_lt_zero _), fun k hk => by simp [bkS] at hk⟩
theorem bkS_one {n g k : Nat} (h : k ∈ bkS n (some ⟨g, 0, none⟩)) : k = g := by
  obtain ⟨_, b, e, rfl⟩ := mem_bkS h
  cases e
  rfl
theorem OwK.vcH7 {B : Nat} {u : World} {M : List Int} {X : List La} {gM gL : Nat} (h : OwK B u M X gM gL) : VcH7 B u M X (some ⟨gM, 0, none⟩) (some ⟨gL, 0, none⟩) :=
  ⟨⟨fun _ => ⟨gM, rfl, h.b, h.M.lt, h.M.cel, h.M.fro⟩⟩, fun _ => ⟨gL, rfl, h.L.b, h.L.r⟩, h.L.w, fun k hk i hi => by rw [bkS_one hk]; exact h.L.ap i hi, fun k hk => by
    rw [bkS_one hk]
    exact ⟨fun hm => h.ap (bkS_one hm), fun i hi => h.aw i hi⟩⟩
theorem VcH7.mono {B B' : Nat} {u : World} {M : List Int} {X : List La} {aM aL : Option Addr} (h : VcH7 B u M X aM aL) (hB : B' ≤ B) : VcH7 B' u M X aM aL :=
  ⟨h.rM.mono hB, fun h0 => by obtain ⟨g, e, hb, r⟩ := h.rL h0; exact ⟨g, e, by omega, r⟩, h.w.mono hB, h.pL, h.pM⟩
theorem VcH7.src {B : Nat} {u : World} {M : List Int} {X : List La} {aM aL : Option Addr} (h : VcH7 B u M X aM aL) : SrcC u M X aM aL :=
  ⟨h.rM.src, ⟨fun h0 => by obtain ⟨g, e, hb, r⟩ := h.rL h0; exact ⟨g, 0, e, r.lt, r.rng⟩, fun i hi => (h.w.wd i hi).src⟩⟩
/-- Behind a call that answers a cache. -/
def ChQ7 (c : Ch) (w : World) (e : Ending) (w' : World) : Prop := ∃ M X aM aL cM cL, e = .returned (caV aM aL M X cM cL) ∧ c = ⟨M, lns X⟩ ∧ VcH7 w.heap.size w' M X aM aL ∧ RmC w' M X aM cM cL ∧ Fr w w'
/-- Behind a call that answers a cache and a number. -/
def ChP7 (c : Ch) (n : Int) (w : World) (e : Ending) (w' : World) : Prop := ∃ M X aM aL cM cL, e = .returned (.tuple #[caV aM aL M X cM cL, .int .i64 n]) ∧ c = ⟨M, lns X⟩ ∧ VcH7 w.heap.size w' M X aM aL ∧ RmC w' M X aM cM cL ∧ Fr w w'
set_option maxRecDepth 100000 in
set_option maxHeartbeats 4000000 in
theorem spec_ChcWrite (M : List Int) (X : List La) (aM aL : Option Addr) (cM cL : Nat) (a n : Int) (w : World) (h : SrcC w M X aM aL) (hf : FewC M X) :
    Calls Try.prog 27 #[caV aM aL M X cM cL, .int .i64 a, .int .i64 n] w ((ChQ7 (writeA ⟨M, lns X⟩ a n)) w) := by
  have F0 : Fr w ((w.alloc (.cells #[.slice aM M.length cM, .slice aL X.length cL] 30)).alloc (.cells #[.slice none 0 0, .slice none 0 0] 30)) := by (repeat' first | (with_reducible exact Below.refl _ _) | (with_reducible assumption) | ((with_reducible refine Below.setCell ?_ ?hb _); (case hb => first | exact Nat.le_refl _ | (simp; done) | (simp; omega) | omega)) | ((with_reducible refine Below.alloc ?_ ?hb _); (case hb => first | exact Nat.le_refl _ | (simp; done) | (simp; omega) | omega)) | (with_reducible refine Below.drew ?_))
  have HF := Lib.hid F0
  have HX1 := Lib.hid ((Box2.new w (.slice aM M.length cM) (.slice aL X.length cL) 30 _ rfl).fr (Fr.alloc _ (.cells #[.slice none 0 0, .slice none 0 0] 30)))
  have HX2 := Lib.hid (Box2.new (w.alloc (.cells #[.slice aM M.length cM, .slice aL X.length cL] 30)) (.slice none 0 0) (.slice none 0 0) 30 (w.heap.size + 1) (by simp))
  have hs0 : w.heap.size + 2 ≤ ((w.alloc (.cells #[.slice aM M.length cM, .slice aL X.length cL] 30)).alloc (.cells #[.slice none 0 0, .slice none 0 0] 30)).heap.size := by simp
  have HS := Lib.hid (h.fr F0)
  have E := spec_ChcOk M X aM aL cM cL _ (h.fr F0) hf
  have P := fun w => plc_l1In a w
  have Q := fun w => spec_WrdOk n w
  cases ho : okC ⟨M, lns X⟩
  · rw [ho] at E
    have HE := Lib.hid E
    have HA := Lib.hid (show writeA ⟨M, lns X⟩ a n = ch0 by simp only [writeA, ho, Bool.false_and]; rfl)
    clear E F0 h ho P Q
    go_enter Try.func27, Try.ntmps27
    go_upto_region 1 with fail
    generalize ((w.alloc (.cells #[.slice aM M.length cM, .slice aL X.length cL] 30)).alloc (.cells #[.slice none 0 0, .slice none 0 0] 30)) = u0 at *
    obtain ⟨_, c0, c1, _, _⟩ := HX1.out
    go_upto_region 2 with (first | (go_at_call 48; refine HE.out.mono ?_; rintro e u1 ⟨rfl, hf2⟩; have HF2 := Lib.hid hf2; obtain ⟨_, e0, e1, _, _⟩ := HX1.out.fr hf2; clear hf2))
    have HZ2 := Lib.hid (HX2.out.fr HF2.out)
    obtain ⟨_, z0, z1, q0, q1⟩ := HZ2.out
    have hsz := HF2.out.size
    go_wp2
    have hst : But [w.heap.size + 1] u1 ((u1.setCell ⟨w.heap.size + 1, 0, none⟩ (.slice none 0 0)).setCell ⟨w.heap.size + 1, 1, none⟩ (.slice none 0 0)) := (But.refl _ _).set2 _ _ _ (.inl (by simp))
    have HX2n := HZ2.out.set (.slice none 0 0) (.slice none 0 0)
    refine bodyPost_ret (v := .agg #[.slice none 0 0, .slice none 0 0]) (by simp [results, Try.results27, go_sem, HX2n.c0, HX2n.c1]) rfl ?_
    refine ⟨[], [], none, none, 0, 0, rfl, HA.out, VcH7.nil _ _, RmC.nil _, fr_but (Fr.trans HF.out HF2.out) hst (fun m hm => by simp at hm; omega)⟩
  · rw [ho] at E
    have HE := Lib.hid E
    cases hp : plcB a
    · rw [hp] at P
      have HP := Lib.hid P
      have HA := Lib.hid (show writeA ⟨M, lns X⟩ a n = ch0 by simp only [writeA, ho, hp, Bool.true_and, Bool.false_and]; rfl)
      clear E F0 h ho P hp Q
      go_enter Try.func27, Try.ntmps27
      go_upto_region 1 with fail
      generalize ((w.alloc (.cells #[.slice aM M.length cM, .slice aL X.length cL] 30)).alloc (.cells #[.slice none 0 0, .slice none 0 0] 30)) = u0 at *
      obtain ⟨_, c0, c1, _, _⟩ := HX1.out
      go_upto_region 2 with (first | (go_at_call 48; refine HE.out.mono ?_; rintro e u1 ⟨rfl, hf2⟩; have HF2 := Lib.hid hf2; obtain ⟨_, e0, e1, _, _⟩ := HX1.out.fr hf2; clear hf2) | (go_at_call 63; refine (HP.out _).mono ?_; rintro e w' ⟨rfl, rfl⟩))
      have HZ2 := Lib.hid (HX2.out.fr HF2.out)
      obtain ⟨_, z0, z1, q0, q1⟩ := HZ2.out
      have hsz := HF2.out.size
      go_wp2
      have hst : But [w.heap.size + 1] u1 ((u1.setCell ⟨w.heap.size + 1, 0, none⟩ (.slice none 0 0)).setCell ⟨w.heap.size + 1, 1, none⟩ (.slice none 0 0)) := (But.refl _ _).set2 _ _ _ (.inl (by simp))
      have HX2n := HZ2.out.set (.slice none 0 0) (.slice none 0 0)
      refine bodyPost_ret (v := .agg #[.slice none 0 0, .slice none 0 0]) (by simp [results, Try.results27, go_sem, HX2n.c0, HX2n.c1]) rfl ?_
      refine ⟨[], [], none, none, 0, 0, rfl, HA.out, VcH7.nil _ _, RmC.nil _, fr_but (Fr.trans HF.out HF2.out) hst (fun m hm => by simp at hm; omega)⟩
    · rw [hp] at P
      have HP := Lib.hid P
      cases hw : okB n
      · rw [hw] at Q
        have HQ := Lib.hid Q
        have HA := Lib.hid (show writeA ⟨M, lns X⟩ a n = ch0 by simp only [writeA, ho, hp, hw, Bool.true_and, Bool.and_false]; rfl)
        clear E F0 h ho P hp hw Q
        go_enter Try.func27, Try.ntmps27
        go_upto_region 1 with fail
        generalize ((w.alloc (.cells #[.slice aM M.length cM, .slice aL X.length cL] 30)).alloc (.cells #[.slice none 0 0, .slice none 0 0] 30)) = u0 at *
        obtain ⟨_, c0, c1, _, _⟩ := HX1.out
        go_upto_region 2 with (first | (go_at_call 48; refine HE.out.mono ?_; rintro e u1 ⟨rfl, hf2⟩; have HF2 := Lib.hid hf2; obtain ⟨_, e0, e1, _, _⟩ := HX1.out.fr hf2; clear hf2) | (go_at_call 63; refine (HP.out _).mono ?_; rintro e w' ⟨rfl, rfl⟩) | (go_at_call 57; refine (HQ.out _).mono ?_; rintro e w' ⟨rfl, rfl⟩))
        have HZ2 := Lib.hid (HX2.out.fr HF2.out)
        obtain ⟨_, z0, z1, q0, q1⟩ := HZ2.out
        have hsz := HF2.out.size
        go_wp2
        have hst : But [w.heap.size + 1] u1 ((u1.setCell ⟨w.heap.size + 1, 0, none⟩ (.slice none 0 0)).setCell ⟨w.heap.size + 1, 1, none⟩ (.slice none 0 0)) := (But.refl _ _).set2 _ _ _ (.inl (by simp))
        have HX2n := HZ2.out.set (.slice none 0 0) (.slice none 0 0)
        refine bodyPost_ret (v := .agg #[.slice none 0 0, .slice none 0 0]) (by simp [results, Try.results27, go_sem, HX2n.c0, HX2n.c1]) rfl ?_
        refine ⟨[], [], none, none, 0, 0, rfl, HA.out, VcH7.nil _ _, RmC.nil _, fr_but (Fr.trans HF.out HF2.out) hst (fun m hm => by simp at hm; omega)⟩
      · rw [hw] at Q
        have HQ := Lib.hid Q
        have HA := Lib.hid (show writeA ⟨M, lns X⟩ a n = writeC ⟨M, lns X⟩ a n by simp only [writeA, ho, hp, hw, Bool.and_true, if_true])
        have HOk := Lib.hid ((okC_iff _).1 ho)
        have HPl := Lib.hid hp
        have HWk := Lib.hid hw
        clear E F0 h ho P hp hw Q
        go_enter Try.func27, Try.ntmps27
        go_upto_region 1 with fail
        generalize ((w.alloc (.cells #[.slice aM M.length cM, .slice aL X.length cL] 30)).alloc (.cells #[.slice none 0 0, .slice none 0 0] 30)) = u0 at *
        obtain ⟨_, c0, c1, _, _⟩ := HX1.out
        go_upto_region 3 with (first | (go_at_call 48; refine HE.out.mono ?_; rintro e u1 ⟨rfl, hf2⟩; have HF2 := Lib.hid hf2; obtain ⟨_, e0, e1, _, _⟩ := HX1.out.fr hf2; clear hf2) | (go_at_call 63; refine (HP.out _).mono ?_; rintro e w' ⟨rfl, rfl⟩) | (go_at_call 57; refine (HQ.out _).mono ?_; rintro e w' ⟨rfl, rfl⟩))
        clear c0 c1
        have HM := Lib.hid (show M.length = 256 from HOk.out.Ml)
        have HXL := Lib.hid (show X.length = 4 by have := HOk.out.Ll; simpa using this)
        have FW1 := Lib.hid (Fr.trans HF.out HF2.out)
        have HZ2 := Lib.hid (HX2.out.fr HF2.out)
        have hsz1 := HF2.out.size
        have W4 : Hid (∀ (Y : List La) (c : Ch), lns Y = c.L → OkC c → ∀ i, i < 4 → (Y.getD i la0).n.W.length ≤ 1000) := Lib.hid (fun Y c hY hc i hi => by
          have := okLns_at hc.L i (by rw [hc.Ll]; exact hi)
          rw [← hY, lns_get] at this
          have := okLn_W this
          omega)
        have C1 := Lib.hid (spec_l7Copy M X aM aL cM cL u1 (HS.out.fr HF2.out) HM.out HXL.out (W4.out X _ rfl HOk.out))
        clear HX2 HX1
        go_wp2_with fail
        refine C1.out.mono ?_
        rintro e u2 ⟨Y, gM, gL, dM, dL, rfl, hY, hO2, hcap, hf2⟩
        have HY := Lib.hid hY
        have HO2 := Lib.hid hO2
        have HCp := Lib.hid hcap
        have FW2 := Lib.hid (Fr.trans FW1.out hf2)
        have HZ3 := Lib.hid (HZ2.out.fr hf2)
        have hsz2 := hf2.size
        clear hY hO2 hcap hf2 C1 HZ2 e0 e1
        have C2 := Lib.hid (spec_l7Write u1.heap.size M Y gM gL dM dL a n u2 HO2.out (by rw [HY.out]; exact HOk.out) HPl.out hsz2 HCp.out.le)
        go_wp2_with fail
        refine C2.out.mono ?_
        rw [HY.out]
        obtain ⟨cc, hcc⟩ : ∃ cc, cc = writeC ⟨M, lns X⟩ a n := ⟨_, rfl⟩
        rw [← hcc]
        have HOc := Lib.hid (show OkC cc by rw [hcc]; exact writeC_ok HOk.out HPl.out HWk.out)
        rw [← hcc] at HA
        clear hcc
        rintro e u3 ⟨Y1, rfl, hY1, hO3, hb3, hk3⟩
        have HY1 := Lib.hid hY1
        have HO3 := Lib.hid hO3
        have hlow := HO2.out.lt
        have hbl : ∀ m, m ∈ [gM, gL] → u1.heap.size ≤ m := fun m hm => by
          simp at hm
          rcases hm with rfl | rfl
          · exact (hlow _ (.inl rfl)).1
          · exact (hlow _ (.inr (.inl rfl))).1
        have HZ4 := Lib.hid (HZ3.out.but hb3 (fun hm => by have := hbl _ hm; omega))
        have FW3 := Lib.hid (show Fr w u3 from fr_but FW2.out hb3 (fun m hm => by have := hbl _ hm; omega))
        have hsz3 := hb3.size
        have HM1 := Lib.hid (show cc.M.length = 256 from HOc.out.Ml)
        have HX1l := Lib.hid (show Y1.length = 4 by have e1 := congrArg List.length hY1; rw [lns_len] at e1; have := HOc.out.Ll; omega)
        have HW1 := Lib.hid (W4.out Y1 cc hY1 HOc.out)
        clear hY1 hO3 hb3 hk3 hlow hbl HZ3 C2 HO2 W4
        have C3 := Lib.hid (spec_l7Copy cc.M Y1 _ _ dM dL u3 HO3.out.src HM1.out HX1l.out HW1.out)
        obtain ⟨_, z0, z1, q0, q1⟩ := HZ4.out
        go_wp2_with fail
        refine C3.out.mono ?_
        rintro e u4 ⟨Z, hM, hL, eM, eL, rfl, hZ, hO5, hcp5, hf5⟩
        have HZ := Lib.hid hZ
        have HO5 := Lib.hid hO5
        have HC5 := Lib.hid hcp5
        have FW4 := Lib.hid (Fr.trans FW3.out hf5)
        have HZ5 := Lib.hid (HZ4.out.fr hf5)
        have hsz5 := hf5.size
        clear hZ hO5 hcp5 hf5 C3 z0 z1 q0 q1
        obtain ⟨_, z0, z1, q0, q1⟩ := HZ5.out
        go_wp2
        have hst : But [w.heap.size + 1] u4 ((u4.setCell ⟨w.heap.size + 1, 0, none⟩ (.slice (some ⟨hM, 0, none⟩) cc.M.length eM)).setCell ⟨w.heap.size + 1, 1, none⟩ (.slice (some ⟨hL, 0, none⟩) Z.length eL)) := (But.refl _ _).set2 _ _ _ (.inl (by simp))
        have HX2n := HZ5.out.set (.slice (some ⟨hM, 0, none⟩) cc.M.length eM) (.slice (some ⟨hL, 0, none⟩) Z.length eL)
        refine bodyPost_ret (v := .agg #[.slice (some ⟨hM, 0, none⟩) cc.M.length eM, .slice (some ⟨hL, 0, none⟩) Z.length eL]) (by simp [results, Try.results27, go_sem, HX2n.c0, HX2n.c1]) rfl ?_
        refine ⟨cc.M, Z, some ⟨hM, 0, none⟩, some ⟨hL, 0, none⟩, eM, eL, rfl, ?_, (HO5.out.but' hst (fun m hm hx => ?_)).vcH7.mono (by omega), (HC5.out.but hst (fun m hm hx => by have := (HO5.out.lt m (.inl (bkS_one hm))).1; simp at hx; omega) (fun i hi m hm hx => by have := (HO5.out.lt m (.inr (.inr ⟨i, hi, hm⟩))).1; simp at hx; omega)), fr_but FW4.out hst (fun m hm => by simp at hm; omega)⟩
        · rw [HA.out, HZ.out, HY1.out]
        · have := (HO5.out.lt m hm).1
          simp at hx
          omega
set_option maxRecDepth 100000 in
set_option maxHeartbeats 4000000 in
theorem spec_ChcLay (M : List Int) (X : List La) (aM aL : Option Addr) (cM cL : Nat) (a n : Int) (w : World) (h : SrcC w M X aM aL) (hf : FewC M X) :
    Calls Try.prog 29 #[caV aM aL M X cM cL, .int .i64 a, .int .i64 n] w ((ChQ7 (layA ⟨M, lns X⟩ a n)) w) := by
  have F0 : Fr w ((w.alloc (.cells #[.slice aM M.length cM, .slice aL X.length cL] 30)).alloc (.cells #[.slice none 0 0, .slice none 0 0] 30)) := by (repeat' first | (with_reducible exact Below.refl _ _) | (with_reducible assumption) | ((with_reducible refine Below.setCell ?_ ?hb _); (case hb => first | exact Nat.le_refl _ | (simp; done) | (simp; omega) | omega)) | ((with_reducible refine Below.alloc ?_ ?hb _); (case hb => first | exact Nat.le_refl _ | (simp; done) | (simp; omega) | omega)) | (with_reducible refine Below.drew ?_))
  have HF := Lib.hid F0
  have HX1 := Lib.hid ((Box2.new w (.slice aM M.length cM) (.slice aL X.length cL) 30 _ rfl).fr (Fr.alloc _ (.cells #[.slice none 0 0, .slice none 0 0] 30)))
  have HX2 := Lib.hid (Box2.new (w.alloc (.cells #[.slice aM M.length cM, .slice aL X.length cL] 30)) (.slice none 0 0) (.slice none 0 0) 30 (w.heap.size + 1) (by simp))
  have hs0 : w.heap.size + 2 ≤ ((w.alloc (.cells #[.slice aM M.length cM, .slice aL X.length cL] 30)).alloc (.cells #[.slice none 0 0, .slice none 0 0] 30)).heap.size := by simp
  have HS := Lib.hid (h.fr F0)
  have E := spec_ChcOk M X aM aL cM cL _ (h.fr F0) hf
  have P := fun w => plc_l1In a w
  have Q := fun w => spec_WrdOk n w
  cases ho : okC ⟨M, lns X⟩
  · rw [ho] at E
    have HE := Lib.hid E
    have HA := Lib.hid (show layA ⟨M, lns X⟩ a n = ch0 by simp only [layA, ho, Bool.false_and]; rfl)
    clear E F0 h ho P Q
    go_enter Try.func29, Try.ntmps29
    go_upto_region 1 with fail
    generalize ((w.alloc (.cells #[.slice aM M.length cM, .slice aL X.length cL] 30)).alloc (.cells #[.slice none 0 0, .slice none 0 0] 30)) = u0 at *
    obtain ⟨_, c0, c1, _, _⟩ := HX1.out
    go_upto_region 2 with (first | (go_at_call 48; refine HE.out.mono ?_; rintro e u1 ⟨rfl, hf2⟩; have HF2 := Lib.hid hf2; obtain ⟨_, e0, e1, _, _⟩ := HX1.out.fr hf2; clear hf2))
    have HZ2 := Lib.hid (HX2.out.fr HF2.out)
    obtain ⟨_, z0, z1, q0, q1⟩ := HZ2.out
    have hsz := HF2.out.size
    go_wp2
    have hst : But [w.heap.size + 1] u1 ((u1.setCell ⟨w.heap.size + 1, 0, none⟩ (.slice none 0 0)).setCell ⟨w.heap.size + 1, 1, none⟩ (.slice none 0 0)) := (But.refl _ _).set2 _ _ _ (.inl (by simp))
    have HX2n := HZ2.out.set (.slice none 0 0) (.slice none 0 0)
    refine bodyPost_ret (v := .agg #[.slice none 0 0, .slice none 0 0]) (by simp [results, Try.results29, go_sem, HX2n.c0, HX2n.c1]) rfl ?_
    refine ⟨[], [], none, none, 0, 0, rfl, HA.out, VcH7.nil _ _, RmC.nil _, fr_but (Fr.trans HF.out HF2.out) hst (fun m hm => by simp at hm; omega)⟩
  · rw [ho] at E
    have HE := Lib.hid E
    cases hp : plcB a
    · rw [hp] at P
      have HP := Lib.hid P
      have HA := Lib.hid (show layA ⟨M, lns X⟩ a n = ch0 by simp only [layA, ho, hp, Bool.true_and, Bool.false_and]; rfl)
      clear E F0 h ho P hp Q
      go_enter Try.func29, Try.ntmps29
      go_upto_region 1 with fail
      generalize ((w.alloc (.cells #[.slice aM M.length cM, .slice aL X.length cL] 30)).alloc (.cells #[.slice none 0 0, .slice none 0 0] 30)) = u0 at *
      obtain ⟨_, c0, c1, _, _⟩ := HX1.out
      go_upto_region 2 with (first | (go_at_call 48; refine HE.out.mono ?_; rintro e u1 ⟨rfl, hf2⟩; have HF2 := Lib.hid hf2; obtain ⟨_, e0, e1, _, _⟩ := HX1.out.fr hf2; clear hf2) | (go_at_call 63; refine (HP.out _).mono ?_; rintro e w' ⟨rfl, rfl⟩))
      have HZ2 := Lib.hid (HX2.out.fr HF2.out)
      obtain ⟨_, z0, z1, q0, q1⟩ := HZ2.out
      have hsz := HF2.out.size
      go_wp2
      have hst : But [w.heap.size + 1] u1 ((u1.setCell ⟨w.heap.size + 1, 0, none⟩ (.slice none 0 0)).setCell ⟨w.heap.size + 1, 1, none⟩ (.slice none 0 0)) := (But.refl _ _).set2 _ _ _ (.inl (by simp))
      have HX2n := HZ2.out.set (.slice none 0 0) (.slice none 0 0)
      refine bodyPost_ret (v := .agg #[.slice none 0 0, .slice none 0 0]) (by simp [results, Try.results29, go_sem, HX2n.c0, HX2n.c1]) rfl ?_
      refine ⟨[], [], none, none, 0, 0, rfl, HA.out, VcH7.nil _ _, RmC.nil _, fr_but (Fr.trans HF.out HF2.out) hst (fun m hm => by simp at hm; omega)⟩
    · rw [hp] at P
      have HP := Lib.hid P
      cases hw : okB n
      · rw [hw] at Q
        have HQ := Lib.hid Q
        have HA := Lib.hid (show layA ⟨M, lns X⟩ a n = ch0 by simp only [layA, ho, hp, hw, Bool.true_and, Bool.and_false]; rfl)
        clear E F0 h ho P hp hw Q
        go_enter Try.func29, Try.ntmps29
        go_upto_region 1 with fail
        generalize ((w.alloc (.cells #[.slice aM M.length cM, .slice aL X.length cL] 30)).alloc (.cells #[.slice none 0 0, .slice none 0 0] 30)) = u0 at *
        obtain ⟨_, c0, c1, _, _⟩ := HX1.out
        go_upto_region 2 with (first | (go_at_call 48; refine HE.out.mono ?_; rintro e u1 ⟨rfl, hf2⟩; have HF2 := Lib.hid hf2; obtain ⟨_, e0, e1, _, _⟩ := HX1.out.fr hf2; clear hf2) | (go_at_call 63; refine (HP.out _).mono ?_; rintro e w' ⟨rfl, rfl⟩) | (go_at_call 57; refine (HQ.out _).mono ?_; rintro e w' ⟨rfl, rfl⟩))
        have HZ2 := Lib.hid (HX2.out.fr HF2.out)
        obtain ⟨_, z0, z1, q0, q1⟩ := HZ2.out
        have hsz := HF2.out.size
        go_wp2
        have hst : But [w.heap.size + 1] u1 ((u1.setCell ⟨w.heap.size + 1, 0, none⟩ (.slice none 0 0)).setCell ⟨w.heap.size + 1, 1, none⟩ (.slice none 0 0)) := (But.refl _ _).set2 _ _ _ (.inl (by simp))
        have HX2n := HZ2.out.set (.slice none 0 0) (.slice none 0 0)
        refine bodyPost_ret (v := .agg #[.slice none 0 0, .slice none 0 0]) (by simp [results, Try.results29, go_sem, HX2n.c0, HX2n.c1]) rfl ?_
        refine ⟨[], [], none, none, 0, 0, rfl, HA.out, VcH7.nil _ _, RmC.nil _, fr_but (Fr.trans HF.out HF2.out) hst (fun m hm => by simp at hm; omega)⟩
      · rw [hw] at Q
        have HQ := Lib.hid Q
        have HA := Lib.hid (show layA ⟨M, lns X⟩ a n = layC ⟨M, lns X⟩ a n by simp only [layA, ho, hp, hw, Bool.and_true, if_true])
        have HOk := Lib.hid ((okC_iff _).1 ho)
        have HPl := Lib.hid hp
        have HWk := Lib.hid hw
        clear E F0 h ho P hp hw Q
        go_enter Try.func29, Try.ntmps29
        go_upto_region 1 with fail
        generalize ((w.alloc (.cells #[.slice aM M.length cM, .slice aL X.length cL] 30)).alloc (.cells #[.slice none 0 0, .slice none 0 0] 30)) = u0 at *
        obtain ⟨_, c0, c1, _, _⟩ := HX1.out
        go_upto_region 3 with (first | (go_at_call 48; refine HE.out.mono ?_; rintro e u1 ⟨rfl, hf2⟩; have HF2 := Lib.hid hf2; obtain ⟨_, e0, e1, _, _⟩ := HX1.out.fr hf2; clear hf2) | (go_at_call 63; refine (HP.out _).mono ?_; rintro e w' ⟨rfl, rfl⟩) | (go_at_call 57; refine (HQ.out _).mono ?_; rintro e w' ⟨rfl, rfl⟩))
        clear c0 c1
        have HM := Lib.hid (show M.length = 256 from HOk.out.Ml)
        have HXL := Lib.hid (show X.length = 4 by have := HOk.out.Ll; simpa using this)
        have FW1 := Lib.hid (Fr.trans HF.out HF2.out)
        have HZ2 := Lib.hid (HX2.out.fr HF2.out)
        have hsz1 := HF2.out.size
        have W4 : Hid (∀ (Y : List La) (c : Ch), lns Y = c.L → OkC c → ∀ i, i < 4 → (Y.getD i la0).n.W.length ≤ 1000) := Lib.hid (fun Y c hY hc i hi => by
          have := okLns_at hc.L i (by rw [hc.Ll]; exact hi)
          rw [← hY, lns_get] at this
          have := okLn_W this
          omega)
        have C1 := Lib.hid (spec_l7Copy M X aM aL cM cL u1 (HS.out.fr HF2.out) HM.out HXL.out (W4.out X _ rfl HOk.out))
        clear HX2 HX1
        go_wp2_with fail
        refine C1.out.mono ?_
        rintro e u2 ⟨Y, gM, gL, dM, dL, rfl, hY, hO2, hcap, hf2⟩
        have HY := Lib.hid hY
        have HO2 := Lib.hid hO2
        have HCp := Lib.hid hcap
        have FW2 := Lib.hid (Fr.trans FW1.out hf2)
        have HZ3 := Lib.hid (HZ2.out.fr hf2)
        have hsz2 := hf2.size
        clear hY hO2 hcap hf2 C1 HZ2 e0 e1
        have C2 := Lib.hid (spec_l7Lay u1.heap.size M Y gM gL dM dL a n u2 HO2.out (by rw [HY.out]; exact HOk.out) HPl.out hsz2)
        go_wp2_with fail
        refine C2.out.mono ?_
        rw [HY.out]
        obtain ⟨cc, hcc⟩ : ∃ cc, cc = layC ⟨M, lns X⟩ a n := ⟨_, rfl⟩
        rw [← hcc]
        have HOc := Lib.hid (show OkC cc by rw [hcc]; exact layC_ok HOk.out HPl.out HWk.out)
        rw [← hcc] at HA
        clear hcc
        rintro e u3 ⟨Y1, rfl, hY1, hO3, hb3, hk3⟩
        have HY1 := Lib.hid hY1
        have HO3 := Lib.hid hO3
        have hlow := HO2.out.lt
        have hbl : ∀ m, m ∈ [gM, gL] → u1.heap.size ≤ m := fun m hm => by
          simp at hm
          rcases hm with rfl | rfl
          · exact (hlow _ (.inl rfl)).1
          · exact (hlow _ (.inr (.inl rfl))).1
        have HZ4 := Lib.hid (HZ3.out.but hb3 (fun hm => by have := hbl _ hm; omega))
        have FW3 := Lib.hid (show Fr w u3 from fr_but FW2.out hb3 (fun m hm => by have := hbl _ hm; omega))
        have hsz3 := hb3.size
        have HM1 := Lib.hid (show cc.M.length = 256 from HOc.out.Ml)
        have HX1l := Lib.hid (show Y1.length = 4 by have e1 := congrArg List.length hY1; rw [lns_len] at e1; have := HOc.out.Ll; omega)
        have HW1 := Lib.hid (W4.out Y1 cc hY1 HOc.out)
        clear hY1 hO3 hb3 hk3 hlow hbl HZ3 C2 HO2 W4
        have C3 := Lib.hid (spec_l7Copy cc.M Y1 _ _ dM dL u3 HO3.out.src HM1.out HX1l.out HW1.out)
        obtain ⟨_, z0, z1, q0, q1⟩ := HZ4.out
        go_wp2_with fail
        refine C3.out.mono ?_
        rintro e u4 ⟨Z, hM, hL, eM, eL, rfl, hZ, hO5, hcp5, hf5⟩
        have HZ := Lib.hid hZ
        have HO5 := Lib.hid hO5
        have HC5 := Lib.hid hcp5
        have FW4 := Lib.hid (Fr.trans FW3.out hf5)
        have HZ5 := Lib.hid (HZ4.out.fr hf5)
        have hsz5 := hf5.size
        clear hZ hO5 hcp5 hf5 C3 z0 z1 q0 q1
        obtain ⟨_, z0, z1, q0, q1⟩ := HZ5.out
        go_wp2
        have hst : But [w.heap.size + 1] u4 ((u4.setCell ⟨w.heap.size + 1, 0, none⟩ (.slice (some ⟨hM, 0, none⟩) cc.M.length eM)).setCell ⟨w.heap.size + 1, 1, none⟩ (.slice (some ⟨hL, 0, none⟩) Z.length eL)) := (But.refl _ _).set2 _ _ _ (.inl (by simp))
        have HX2n := HZ5.out.set (.slice (some ⟨hM, 0, none⟩) cc.M.length eM) (.slice (some ⟨hL, 0, none⟩) Z.length eL)
        refine bodyPost_ret (v := .agg #[.slice (some ⟨hM, 0, none⟩) cc.M.length eM, .slice (some ⟨hL, 0, none⟩) Z.length eL]) (by simp [results, Try.results29, go_sem, HX2n.c0, HX2n.c1]) rfl ?_
        refine ⟨cc.M, Z, some ⟨hM, 0, none⟩, some ⟨hL, 0, none⟩, eM, eL, rfl, ?_, (HO5.out.but' hst (fun m hm hx => ?_)).vcH7.mono (by omega), (HC5.out.but hst (fun m hm hx => by have := (HO5.out.lt m (.inl (bkS_one hm))).1; simp at hx; omega) (fun i hi m hm hx => by have := (HO5.out.lt m (.inr (.inr ⟨i, hi, hm⟩))).1; simp at hx; omega)), fr_but FW4.out hst (fun m hm => by simp at hm; omega)⟩
        · rw [HA.out, HZ.out, HY1.out]
        · have := (HO5.out.lt m hm).1
          simp at hx
          omega
set_option maxRecDepth 100000 in
set_option maxHeartbeats 4000000 in
theorem spec_ChcRead (M : List Int) (X : List La) (aM aL : Option Addr) (cM cL : Nat) (a : Int) (w : World) (h : SrcC w M X aM aL) (hf : FewC M X) :
    Calls Try.prog 23 #[caV aM aL M X cM cL, .int .i64 a] w ((ChP7 (readA ⟨M, lns X⟩ a) (readN ⟨M, lns X⟩ a)) w) := by
  have F0 : Fr w ((w.alloc (.cells #[.slice aM M.length cM, .slice aL X.length cL] 30)).alloc (.cells #[.slice none 0 0, .slice none 0 0] 30)) := by (repeat' first | (with_reducible exact Below.refl _ _) | (with_reducible assumption) | ((with_reducible refine Below.setCell ?_ ?hb _); (case hb => first | exact Nat.le_refl _ | (simp; done) | (simp; omega) | omega)) | ((with_reducible refine Below.alloc ?_ ?hb _); (case hb => first | exact Nat.le_refl _ | (simp; done) | (simp; omega) | omega)) | (with_reducible refine Below.drew ?_))
  have HF := Lib.hid F0
  have HX1 := Lib.hid ((Box2.new w (.slice aM M.length cM) (.slice aL X.length cL) 30 _ rfl).fr (Fr.alloc _ (.cells #[.slice none 0 0, .slice none 0 0] 30)))
  have HX2 := Lib.hid (Box2.new (w.alloc (.cells #[.slice aM M.length cM, .slice aL X.length cL] 30)) (.slice none 0 0) (.slice none 0 0) 30 (w.heap.size + 1) (by simp))
  have hs0 : w.heap.size + 2 ≤ ((w.alloc (.cells #[.slice aM M.length cM, .slice aL X.length cL] 30)).alloc (.cells #[.slice none 0 0, .slice none 0 0] 30)).heap.size := by simp
  have HS := Lib.hid (h.fr F0)
  have E := spec_ChcOk M X aM aL cM cL _ (h.fr F0) hf
  have P := fun w => plc_l1In a w
  cases ho : okC ⟨M, lns X⟩
  · rw [ho] at E
    have HE := Lib.hid E
    have HA := Lib.hid (show readA ⟨M, lns X⟩ a = ch0 by simp only [readA, ho, Bool.false_and]; rfl)
    have HN := Lib.hid (show readN ⟨M, lns X⟩ a = -1 by simp only [readN, ho, Bool.false_and]; rfl)
    clear E F0 h ho P
    go_enter Try.func23, Try.ntmps23
    go_upto_region 1 with fail
    generalize ((w.alloc (.cells #[.slice aM M.length cM, .slice aL X.length cL] 30)).alloc (.cells #[.slice none 0 0, .slice none 0 0] 30)) = u0 at *
    obtain ⟨_, c0, c1, _, _⟩ := HX1.out
    go_upto_region 2 with (first | (go_at_call 48; refine HE.out.mono ?_; rintro e u1 ⟨rfl, hf2⟩; have HF2 := Lib.hid hf2; obtain ⟨_, e0, e1, _, _⟩ := HX1.out.fr hf2; clear hf2))
    have HZ2 := Lib.hid (HX2.out.fr HF2.out)
    obtain ⟨_, z0, z1, q0, q1⟩ := HZ2.out
    have hsz := HF2.out.size
    go_wp2
    have hst : But [w.heap.size + 1] u1 ((u1.setCell ⟨w.heap.size + 1, 0, none⟩ (.slice none 0 0)).setCell ⟨w.heap.size + 1, 1, none⟩ (.slice none 0 0)) := (But.refl _ _).set2 _ _ _ (.inl (by simp))
    have HX2n := HZ2.out.set (.slice none 0 0) (.slice none 0 0)
    refine bodyPost_ret (v := .tuple #[.agg #[.slice none 0 0, .slice none 0 0], .int .i64 (-1)]) (by simp [results, Try.results23, go_sem, HX2n.c0, HX2n.c1]) rfl ?_
    refine ⟨[], [], none, none, 0, 0, by rw [HN.out]; rfl, HA.out, VcH7.nil _ _, RmC.nil _, fr_but (Fr.trans HF.out HF2.out) hst (fun m hm => by simp at hm; omega)⟩
  · rw [ho] at E
    have HE := Lib.hid E
    cases hp : plcB a
    · rw [hp] at P
      have HP := Lib.hid P
      have HA := Lib.hid (show readA ⟨M, lns X⟩ a = ch0 by simp only [readA, ho, hp, Bool.true_and, Bool.false_and]; rfl)
      have HN := Lib.hid (show readN ⟨M, lns X⟩ a = -1 by simp only [readN, ho, hp, Bool.true_and, Bool.false_and]; rfl)
      clear E F0 h ho P hp
      go_enter Try.func23, Try.ntmps23
      go_upto_region 1 with fail
      generalize ((w.alloc (.cells #[.slice aM M.length cM, .slice aL X.length cL] 30)).alloc (.cells #[.slice none 0 0, .slice none 0 0] 30)) = u0 at *
      obtain ⟨_, c0, c1, _, _⟩ := HX1.out
      go_upto_region 2 with (first | (go_at_call 48; refine HE.out.mono ?_; rintro e u1 ⟨rfl, hf2⟩; have HF2 := Lib.hid hf2; obtain ⟨_, e0, e1, _, _⟩ := HX1.out.fr hf2; clear hf2) | (go_at_call 63; refine (HP.out _).mono ?_; rintro e w' ⟨rfl, rfl⟩))
      have HZ2 := Lib.hid (HX2.out.fr HF2.out)
      obtain ⟨_, z0, z1, q0, q1⟩ := HZ2.out
      have hsz := HF2.out.size
      go_wp2
      have hst : But [w.heap.size + 1] u1 ((u1.setCell ⟨w.heap.size + 1, 0, none⟩ (.slice none 0 0)).setCell ⟨w.heap.size + 1, 1, none⟩ (.slice none 0 0)) := (But.refl _ _).set2 _ _ _ (.inl (by simp))
      have HX2n := HZ2.out.set (.slice none 0 0) (.slice none 0 0)
      refine bodyPost_ret (v := .tuple #[.agg #[.slice none 0 0, .slice none 0 0], .int .i64 (-1)]) (by simp [results, Try.results23, go_sem, HX2n.c0, HX2n.c1]) rfl ?_
      refine ⟨[], [], none, none, 0, 0, by rw [HN.out]; rfl, HA.out, VcH7.nil _ _, RmC.nil _, fr_but (Fr.trans HF.out HF2.out) hst (fun m hm => by simp at hm; omega)⟩
    · rw [hp] at P
      have HP := Lib.hid P
      have HA := Lib.hid (show readA ⟨M, lns X⟩ a = bringC ⟨M, lns X⟩ a by simp only [readA, ho, hp, Bool.and_true, if_true])
      have HN := Lib.hid (show readN ⟨M, lns X⟩ a = lookC (bringC ⟨M, lns X⟩ a) a by simp only [readN, ho, hp, Bool.and_true, if_true])
      have HOk := Lib.hid ((okC_iff _).1 ho)
      have HPl := Lib.hid hp
      clear E F0 h ho P hp
      go_enter Try.func23, Try.ntmps23
      go_upto_region 1 with fail
      generalize ((w.alloc (.cells #[.slice aM M.length cM, .slice aL X.length cL] 30)).alloc (.cells #[.slice none 0 0, .slice none 0 0] 30)) = u0 at *
      obtain ⟨_, c0, c1, _, _⟩ := HX1.out
      go_upto_region 3 with (first | (go_at_call 48; refine HE.out.mono ?_; rintro e u1 ⟨rfl, hf2⟩; have HF2 := Lib.hid hf2; obtain ⟨_, e0, e1, _, _⟩ := HX1.out.fr hf2; clear hf2) | (go_at_call 63; refine (HP.out _).mono ?_; rintro e w' ⟨rfl, rfl⟩))
      clear c0 c1
      have HM := Lib.hid (show M.length = 256 from HOk.out.Ml)
      have HXL := Lib.hid (show X.length = 4 by have := HOk.out.Ll; simpa using this)
      have FW1 := Lib.hid (Fr.trans HF.out HF2.out)
      have HZ2 := Lib.hid (HX2.out.fr HF2.out)
      have hsz1 := HF2.out.size
      have W4 : Hid (∀ (Y : List La) (c : Ch), lns Y = c.L → OkC c → ∀ i, i < 4 → (Y.getD i la0).n.W.length ≤ 1000) := Lib.hid (fun Y c hY hc i hi => by
        have := okLns_at hc.L i (by rw [hc.Ll]; exact hi)
        rw [← hY, lns_get] at this
        have := okLn_W this
        omega)
      have C1 := Lib.hid (spec_l7Copy M X aM aL cM cL u1 (HS.out.fr HF2.out) HM.out HXL.out (W4.out X _ rfl HOk.out))
      clear HX2 HX1
      go_wp2_with fail
      refine C1.out.mono ?_
      rintro e u2 ⟨Y, gM, gL, dM, dL, rfl, hY, hO2, hcap, hf2⟩
      have HY := Lib.hid hY
      have HO2 := Lib.hid hO2
      have HCp := Lib.hid hcap
      have FW2 := Lib.hid (Fr.trans FW1.out hf2)
      have HZ3 := Lib.hid (HZ2.out.fr hf2)
      have hsz2 := hf2.size
      clear hY hO2 hcap hf2 C1 HZ2 e0 e1
      have C2 := Lib.hid (spec_l7Bring u1.heap.size M Y gM gL dM dL a u2 HO2.out (by rw [HY.out]; exact HOk.out) HPl.out hsz2 HCp.out.le)
      go_wp2_with fail
      refine C2.out.mono ?_
      rw [HY.out]
      obtain ⟨cc, hcc⟩ : ∃ cc, cc = bringC ⟨M, lns X⟩ a := ⟨_, rfl⟩
      rw [← hcc]
      have HOc := Lib.hid (show OkC cc by rw [hcc]; exact bringC_ok HOk.out HPl.out)
      rw [← hcc] at HA HN
      clear hcc
      rintro e u3 ⟨Y1, rfl, hY1, hO3, hb3, hk3⟩
      have HY1 := Lib.hid hY1
      have HO3 := Lib.hid hO3
      have hlow := HO2.out.lt
      have hbl : ∀ m, m ∈ [gM, gL] → u1.heap.size ≤ m := fun m hm => by
        simp at hm
        rcases hm with rfl | rfl
        · exact (hlow _ (.inl rfl)).1
        · exact (hlow _ (.inr (.inl rfl))).1
      have HZ4 := Lib.hid (HZ3.out.but hb3 (fun hm => by have := hbl _ hm; omega))
      have FW3 := Lib.hid (show Fr w u3 from fr_but FW2.out hb3 (fun m hm => by have := hbl _ hm; omega))
      have hsz3 := hb3.size
      have HM1 := Lib.hid (show cc.M.length = 256 from HOc.out.Ml)
      have HX1l := Lib.hid (show Y1.length = 4 by have e1 := congrArg List.length hY1; rw [lns_len] at e1; have := HOc.out.Ll; omega)
      have HW1 := Lib.hid (W4.out Y1 cc hY1 HOc.out)
      clear hY1 hO3 hb3 hk3 hlow hbl HZ3 C2 HO2 W4
      obtain ⟨cM1, hcM1⟩ : ∃ m, m = cc.M := ⟨_, rfl⟩
      rw [← hcM1] at HO3 HM1 ⊢
      have HcM := Lib.hid hcM1
      clear hcM1
      go_upto_region 4 with fail
      have FA : Fr u3 (u3.alloc (.cells #[.slice (some ⟨gM, 0, none⟩) cM1.length dM, .slice (some ⟨gL, 0, none⟩) Y1.length dL] 30)) := Fr.alloc _ _
      have HB6 := Lib.hid (Box2.new u3 (.slice (some ⟨gM, 0, none⟩) cM1.length dM) (.slice (some ⟨gL, 0, none⟩) Y1.length dL) 30 _ rfl)
      have HO4 := Lib.hid (HO3.out.fr FA)
      have HZ5 := Lib.hid (HZ4.out.fr FA)
      have FW4 := Lib.hid (Fr.trans FW3.out FA)
      have hsz4 : u3.heap.size < (u3.alloc (.cells #[.slice (some ⟨gM, 0, none⟩) cM1.length dM, .slice (some ⟨gL, 0, none⟩) Y1.length dL] 30)).heap.size := by simp
      clear FA HO3 HZ4 FW3
      generalize (u3.alloc (.cells #[.slice (some ⟨gM, 0, none⟩) cM1.length dM, .slice (some ⟨gL, 0, none⟩) Y1.length dL] 30)) = u4 at *
      generalize u3.heap.size = g6 at *
      have KC := Lib.hid (fun v (f : Fr u4 v) => spec_l7Copy cM1 Y1 _ _ dM dL v (HO4.out.src.fr f) HM1.out HX1l.out HW1.out)
      have KL := Lib.hid (fun v (f : Fr u4 v) => spec_l7Look cM1 Y1 _ _ dM dL a v (HO4.out.src.fr f) (by rw [HcM.out, HY1.out]; exact HOc.out) HPl.out)
      obtain ⟨_, x0, x1, _, _⟩ := HB6.out
      obtain ⟨_, z0, z1, q0, q1⟩ := HZ5.out
      have hne : w.heap.size + 1 ≠ g6 := by omega
      go_region_held3 (fun v => v.cell? ⟨g6, 0, none⟩ = some (.slice (some ⟨gM, 0, none⟩) cM1.length dM) ∧ v.cell? ⟨g6, 1, none⟩ = some (.slice (some ⟨gL, 0, none⟩) Y1.length dL))
        (first | (go_keep; done) | (refine ⟨?_, ?_⟩ <;> exact (set_far2 (by omega)).trans (by assumption)))
        (first
          | (go_at_call 72; refine (KC.out _ (Below.drew (Below.refl _ _))).mono ?_; rintro e u5 ⟨Z, hM, hL, eM, eL, rfl, hZ, hO5, hcp5, hf5⟩; have HZq := Lib.hid hZ; have HO5 := Lib.hid hO5; have HC5 := Lib.hid hcp5; have FW5 := Lib.hid (show Fr u4 u5 from Fr.trans (Below.drew (Below.refl _ _)) hf5); have HB7 := Lib.hid (HB6.out.fr FW5.out); have HZ6 := Lib.hid (HZ5.out.fr FW5.out); obtain ⟨_, x2, x3, _, _⟩ := HB7.out; clear hZ hO5 hcp5 hf5)
          | (go_at_call 64; refine (KL.out _ FW5.out).mono ?_; rintro e u6 ⟨rfl, hf6⟩; have FW6 := Lib.hid hf6; have HB8 := Lib.hid (HB7.out.fr hf6); have HZ7 := Lib.hid (HZ6.out.fr hf6); obtain ⟨_, x4, x5, _, _⟩ := HB8.out; obtain ⟨_, z2, z3, q2, q3⟩ := HZ7.out; clear hf6))
      have hst : But [w.heap.size + 1] u6 ((u6.setCell ⟨w.heap.size + 1, 0, none⟩ (.slice (some ⟨hM, 0, none⟩) cM1.length eM)).setCell ⟨w.heap.size + 1, 1, none⟩ (.slice (some ⟨hL, 0, none⟩) Z.length eL)) := (But.refl _ _).set2 _ _ _ (.inl (by simp))
      have HX2n := HZ7.out.set (.slice (some ⟨hM, 0, none⟩) cM1.length eM) (.slice (some ⟨hL, 0, none⟩) Z.length eL)
      have hb5 := FW5.out.size
      go_wp2
      refine bodyPost_ret (v := .tuple #[.agg #[.slice (some ⟨hM, 0, none⟩) cM1.length eM, .slice (some ⟨hL, 0, none⟩) Z.length eL], .int .i64 (lookC ⟨cM1, lns Y1⟩ a)]) (by simp [results, Try.results23, go_sem, HX2n.c0, HX2n.c1]) rfl ?_
      have hO7 := (HO5.out.fr FW6.out)
      refine ⟨cM1, Z, some ⟨hM, 0, none⟩, some ⟨hL, 0, none⟩, eM, eL, ?_, ?_, (hO7.but' hst (fun m hm hx => ?_)).vcH7.mono (by have h1 := FW4.out.size; have hdr : u4.drew.heap.size = u4.heap.size := rfl; omega), ((HC5.out.fr FW6.out).but hst (fun m hm hx => by have := (HO5.out.lt m (.inl (bkS_one hm))).1; have hdr : u4.drew.heap.size = u4.heap.size := rfl; simp at hx; omega) (fun i hi m hm hx => by have := (HO5.out.lt m (.inr (.inr ⟨i, hi, hm⟩))).1; have hdr : u4.drew.heap.size = u4.heap.size := rfl; simp at hx; omega)), fr_but (Fr.trans (Fr.trans FW4.out FW5.out) FW6.out) hst (fun m hm => by simp at hm; omega)⟩
      · rw [HN.out, HcM.out, HY1.out]
      · rw [HA.out, HZq.out, HY1.out, HcM.out]
      · have := (HO5.out.lt m hm).1
        have hdr : u4.drew.heap.size = u4.heap.size := rfl
        simp at hx
        omega

def lookN (c : Ch) (n : Nat) : List Int := (List.range n).map fun i : Nat => lookC c (i : Int)
theorem lookN_len (c : Ch) (n : Nat) : (lookN c n).length = n := by simp [lookN]
theorem lookN_succ (c : Ch) (n : Nat) : lookN c (n + 1) = lookN c n ++ [lookC c (n : Int)] := by simp [lookN, List.range_succ]
theorem allC_eq (c : Ch) : allC c = lookN c 256 := rfl
set_option maxRecDepth 100000 in
set_option maxHeartbeats 4000000 in
theorem spec_l7All (M : List Int) (X : List La) (aM aL : Option Addr) (cM cL : Nat) (w : World) (h : SrcC w M X aM aL) (ho : OkC ⟨M, lns X⟩) :
    Calls Try.prog 79 #[caV aM aL M X cM cL] w (CpC (allC ⟨M, lns X⟩) w) := by
  have F0 : Fr w (w.alloc (.cells #[.slice aM M.length cM, .slice aL X.length cL] 30)) := Fr.alloc _ _
  have HF := Lib.hid F0
  have HX := Lib.hid (Box2.new w (.slice aM M.length cM) (.slice aL X.length cL) 30 _ rfl)
  have HS := Lib.hid h
  have HOK := Lib.hid ho
  rw [allC_eq]
  clear F0 h ho
  unfold caV
  go_enter Try.func79, Try.ntmps79
  go_upto_region 1 with fail
  have hs0 : w.heap.size < (w.alloc (.cells #[.slice aM M.length cM, .slice aL X.length cL] 30)).heap.size := by simp
  generalize (w.alloc (.cells #[.slice aM M.length cM, .slice aL X.length cL] 30)) = u0 at *
  go_upto_region 2 with fail
  have F1 : Fr u0 (u0.alloc (.cells #[] 3)) := Fr.alloc _ _
  have HF1 := Lib.hid (Fr.trans HF.out F1)
  have HX1 := Lib.hid (HX.out.fr F1)
  have hs1 : u0.heap.size < (u0.alloc (.cells #[] 3)).heap.size := by simp
  have hs1' : (u0.alloc (.cells #[] 3)).heap.size = u0.heap.size + 1 := by simp
  clear F1
  generalize (u0.alloc (.cells #[] 3)) = u1 at *
  have HB : Hid (w.heap.size < u1.heap.size) := Lib.hid (by omega)
  obtain ⟨B, hB⟩ : ∃ B, B = u1.heap.size := ⟨_, rfl⟩
  have R0 : Hid (Rc B u1 (lookN ⟨M, lns X⟩ 0) (some ⟨u0.heap.size, 0, none⟩) 0) := Lib.hid (.inl ⟨rfl, rfl⟩)
  have HBw : Hid (w.heap.size < B) := Lib.hid (by rw [hB]; exact HB.out)
  have HBz : Hid (B ≤ u1.heap.size) := Lib.hid (by omega)
  generalize u0.heap.size = g0 at *
  clear hB hs1'
  go_wp2_with fail
  go_loopw [3, 4] (fun s i wr => ∃ (k : Nat) (ao : Option Addr) (c : Nat), k ≤ 256 ∧ i = .int .i64 k ∧ s = .slice ao k c ∧ Rc B wr (lookN ⟨M, lns X⟩ k) ao c ∧ Fr w wr ∧ Box2 wr w.heap.size (.slice aM M.length cM) (.slice aL X.length cL) ∧ B ≤ wr.heap.size) (fun _ i _ => 256 - (intOf i).toNat)
  case atStart => exact ⟨0, _, 0, by omega, rfl, rfl, R0.out, HF1.out, HX1.out, HBz.out⟩
  case round =>
    obtain ⟨k, ao, c, hk, rfl, rfl, hr, hf, hx, hb⟩ := hrel
    have HR := Lib.hid hr
    have HFr := Lib.hid hf
    have HXr := Lib.hid hx
    by_cases hlt : k < 256
    · have hlt' : (k : Int) < 256 := by omega
      have HL := Lib.hid (spec_l7Look M X aM aL cM cL (k : Int) wr (HS.out.fr hf) HOK.out ((plcB_iff _).2 ⟨by omega, by omega⟩))
      obtain ⟨_, c0, c1, _, _⟩ := hx
      clear hr hf
      go_wp2_with fail
      refine HL.out.mono ?_
      rintro e u2 ⟨rfl, f2⟩
      have HF2 := Lib.hid f2
      have hs2 := f2.size
      have HR2 := Lib.hid ((HR.out.fr f2).fr (Fr.alloc u2 (.cells #[.int .i64 (lookC ⟨M, lns X⟩ (k : Int))] 3)))
      have HX2 := Lib.hid (HXr.out.fr f2)
      have hcell : Hid ((u2.alloc (.cells #[.int .i64 (lookC ⟨M, lns X⟩ (k : Int))] 3)).cell? ⟨u2.heap.size, 0, none⟩ = some (.int .i64 (lookC ⟨M, lns X⟩ (k : Int)))) := Lib.hid (alloc_at u2 _ _ _ rfl 0).1
      have hln := lookN_len ⟨M, lns X⟩ k
      have HLn := Lib.hid hln
      have hBu : Hid (B ≤ (u2.alloc (.cells #[.int .i64 (lookC ⟨M, lns X⟩ (k : Int))] 3)).heap.size) := Lib.hid (by simp; omega)
      clear f2 c0 c1 hln HL
      go_wp2_with (at_builtin; refine wpList_plain rfl fun K hK => wp_append_rc _ _ rfl B (lookN ⟨M, lns X⟩ k) ao c (by rw [HLn.out]; rfl) HR2.out (lookC ⟨M, lns X⟩ (k : Int)) u2.heap.size rfl hcell.out (by rw [HLn.out]; omega) hBu.out ?_; intro g c' u3 hro hca hgB hgo hbt; rw [← lookN_succ] at hro hca; rw [← lookN_succ, lookN_len]; have H3 := Lib.hid hro; have H4 := Lib.hid hca; have H5 := Lib.hid hbt; have H6 := Lib.hid hgo; clear hro hca hbt hgo; refine hK _ _ ?_)
      go_roundw
      case rel =>
        have FA : Fr u2 (u2.alloc (.cells #[.int .i64 (lookC ⟨M, lns X⟩ (k : Int))] 3)) := Fr.alloc _ _
        have hlow : ∀ m, m ∈ bkS (lookN ⟨M, lns X⟩ k).length ao → B ≤ m := fun m hm => by
          obtain ⟨h0, b, e, rfl⟩ := mem_bkS hm
          rcases HR2.out with ⟨z, _⟩ | ⟨g', e', hB', _⟩
          · omega
          · rw [e'] at e; cases e; exact hB'
        refine ⟨k + 1, some ⟨g, 0, none⟩, c', by omega, by go_num, rfl, .inr ⟨g, rfl, hgB, H3.out, H4.out, by rw [lookN_len]; omega⟩, ?_, ?_, ?_⟩
        · exact fr_but (Fr.trans (Fr.trans HFr.out HF2.out) FA) H5.out (fun m hm => by have := hlow m hm; have := HBw.out; omega)
        · exact (HX2.out.fr FA).but H5.out (fun hm => by have := hlow _ hm; have := HBw.out; omega)
        · have := H5.out.size; have := hBu.out; omega
      case measure => simp [intOf]; omega
    · have hge : ¬ (k : Int) < 256 := by omega
      obtain rfl : k = 256 := by omega
      clear hr hf hx
      go_wp2
      go_ret
      exact ⟨ao, c, by rw [lookN_len]; rfl, HR.out.mono (by have := HBw.out; omega), HFr.out⟩
set_option maxRecDepth 100000 in
set_option maxHeartbeats 4000000 in
theorem spec_ChcAll (M : List Int) (X : List La) (aM aL : Option Addr) (cM cL : Nat) (w : World) (h : SrcC w M X aM aL) (hf : FewC M X) :
    Calls Try.prog 31 #[caV aM aL M X cM cL] w (CpC (allA ⟨M, lns X⟩) w) := by
  have F0 : Fr w (w.alloc (.cells #[.slice aM M.length cM, .slice aL X.length cL] 30)) := Fr.alloc _ _
  have HF := Lib.hid F0
  have HX := Lib.hid (Box2.new w (.slice aM M.length cM) (.slice aL X.length cL) 30 _ rfl)
  have HS := Lib.hid (h.fr F0)
  have E := spec_ChcOk M X aM aL cM cL _ (h.fr F0) hf
  cases ho : okC ⟨M, lns X⟩
  · rw [ho] at E
    have HE := Lib.hid E
    have HA := Lib.hid (show allA ⟨M, lns X⟩ = [] by simp only [allA, ho]; rfl)
    clear E F0 h ho
    go_enter Try.func31, Try.ntmps31
    go_wp2_with fail
    generalize (w.alloc (.cells #[.slice aM M.length cM, .slice aL X.length cL] 30)) = u0 at *
    obtain ⟨_, c0, c1, _, _⟩ := HX.out
    go_wp2_with (go_at_call 48; refine HE.out.mono ?_; rintro e u1 ⟨rfl, hf2⟩; have HF2 := Lib.hid hf2; clear hf2)
    go_ret
    rw [HA.out]
    exact ⟨_, 0, rfl, .inl ⟨rfl, rfl⟩, Fr.trans (Fr.trans HF.out HF2.out) (Fr.alloc _ _)⟩
  · rw [ho] at E
    have HE := Lib.hid E
    have HA := Lib.hid (show allA ⟨M, lns X⟩ = allC ⟨M, lns X⟩ by simp only [allA, ho]; rfl)
    have HOk := Lib.hid ((okC_iff _).1 ho)
    clear E F0 h ho
    go_enter Try.func31, Try.ntmps31
    go_wp2_with fail
    generalize (w.alloc (.cells #[.slice aM M.length cM, .slice aL X.length cL] 30)) = u0 at *
    obtain ⟨_, c0, c1, _, _⟩ := HX.out
    go_wp2_with fail
    refine HE.out.mono ?_
    rintro e u1 ⟨rfl, hf2⟩
    have HF2 := Lib.hid hf2
    have HL := Lib.hid (spec_l7All M X aM aL cM cL u1 (HS.out.fr hf2) HOk.out)
    obtain ⟨_, x0, x1, _, _⟩ := HX.out.fr hf2
    have hs := HF.out.size
    have hs2 := hf2.size
    clear hf2 c0 c1
    go_wp2_with (go_at_call 79; refine HL.out.mono ?_; rintro e u2 ⟨ao, c, rfl, hr, hf3⟩; have HR := Lib.hid hr; have HF3 := Lib.hid hf3; clear hr hf3)
    go_ret
    rw [HA.out]
    exact ⟨ao, c, rfl, HR.out.mono (by omega), Fr.trans (Fr.trans HF.out HF2.out) HF3.out⟩

def newL : List La := [la0, la0, la0, la0]
def newC7 (M : List Int) : Ch := if wordsB M 256 then ⟨M, lns newL⟩ else ch0
theorem make_lines (w : World) : (Instr.makeSlice 28 (.int .i64 4) (.int .i64 4)).run Try.prog w = .ok (.slice (some ⟨w.heap.size, 0, none⟩) 4 4) (w.alloc (.cells (clL newL).toArray 59)) := by
  kernel_rfl
theorem rol_lines (w : World) : RoL (w.alloc (.cells (clL newL).toArray 59)) w.heap.size newL := rol_block (cur := (clL newL).toArray) (heap_alloc_new w _) (fun j v hv => by simpa using hv)
theorem rol_at (w : World) (g : Nat) (h : w.heap.size = g) : RoL (w.alloc (.cells (clL newL).toArray 59)) g newL := h ▸ rol_lines w
theorem newL_wbk (i : Nat) (hi : i < newL.length) : wbk (newL.getD i la0) = [] := by
  have : i < 4 := hi
  rcases i with _ | _ | _ | _ | i
  · rfl
  · rfl
  · rfl
  · rfl
  · omega
theorem newL_n (i : Nat) (hi : i < newL.length) : (newL.getD i la0).n.W.length = 0 := by
  have : i < 4 := hi
  rcases i with _ | _ | _ | _ | i
  · rfl
  · rfl
  · rfl
  · rfl
  · omega
theorem newL_c (i : Nat) (hi : i < newL.length) : (newL.getD i la0).c = 0 := by
  have : i < 4 := hi
  rcases i with _ | _ | _ | _ | i
  · rfl
  · rfl
  · rfl
  · rfl
  · omega
theorem RmC.ofRc {B : Nat} {u : World} {xs : List Int} {ao : Option Addr} {c : Nat} (h : Rc B u xs ao c) (hc : xs.length ≤ c) : RmC u xs newL ao c 4 := by
  refine ⟨hc, ?_, fun i hi => .inl ⟨newL_n i hi, newL_c i hi⟩, Nat.le_refl 4⟩
  rcases h with h | ⟨g, e, _, _, k, h0⟩
  · exact .inl h
  · exact .inr ⟨g, e, k, h0⟩
theorem newK {B : Nat} {u : World} {M : List Int} {ao : Option Addr} {gL : Nat} (hM : Vc B u M.length (ivl M) ao) (hL : RoL u gL newL) (hb : B ≤ gL) (hap : ∀ k, k ∈ bkS M.length ao → k ≠ gL) : VcH7 B u M newL ao (some ⟨gL, 0, none⟩) :=
  ⟨hM, fun _ => ⟨gL, rfl, hb, hL⟩, ⟨fun i hi => by rw [newL_n i hi]; exact Vc.nil _ _ _ _, fun i j hi hj _ k hk => by rw [newL_wbk i hi] at hk; cases hk⟩, fun k hk i hi => by rw [newL_wbk i hi]; simp, fun k hk => ⟨fun hm => hap k hk (bkS_one hm), fun i hi => by rw [newL_wbk i hi]; simp⟩⟩
theorem rc_cap {B : Nat} {u : World} {xs : List Int} {ao : Option Addr} {c : Nat} (h : Rc B u xs ao c) : xs.length ≤ c := by
  rcases h with h | ⟨g, e, hB, r, ⟨cur, h1, h2, h3, h4⟩, h0⟩
  · omega
  · exact h3
set_option maxRecDepth 100000 in
set_option maxHeartbeats 4000000 in
theorem spec_ChcNew (M : List Int) (aM : Option Addr) (cM : Nat) (w : World) (h : Src w M.length (ivl M) aM) (hf : M.length ≤ 1048576) :
    Calls Try.prog 53 #[.slice aM M.length cM] w (ChQ7 (newC7 M) w) := by
  have F0 : Fr w (w.alloc (.cells #[.slice none 0 0, .slice none 0 0] 30)) := Fr.alloc _ _
  have HF := Lib.hid F0
  have HX := Lib.hid (Box2.new w (.slice none 0 0) (.slice none 0 0) 30 _ rfl)
  have P1 := spec_l4Words M aM cM 256 _ (h.fr F0) (by omega)
  have e1 : (M.all okB && decide ((M.length : Int) = 256)) = wordsB M 256 := words_eq M 256
  rw [e1] at P1
  have HS := Lib.hid (fun (v : World) (f : Fr (w.alloc (.cells #[.slice none 0 0, .slice none 0 0] 30)) v) => (h.fr F0).fr f)
  have hmk := make_lines
  clear F0 h e1
  cases h1 : wordsB M 256
  · rw [h1] at P1
    have HP := Lib.hid P1
    have HA := Lib.hid (show newC7 M = ch0 by simp only [newC7, h1]; rfl)
    clear P1 h1 hmk
    go_enter Try.func53, Try.ntmps53
    go_wp2_with fail
    generalize (w.alloc (.cells #[.slice none 0 0, .slice none 0 0] 30)) = u0 at *
    refine HP.out.mono ?_
    rintro e w' ⟨rfl, rfl⟩
    obtain ⟨_, z0, z1, q0, q1⟩ := HX.out
    go_wp2
    have hst : But [w.heap.size] u0 ((u0.setCell ⟨w.heap.size, 0, none⟩ (.slice none 0 0)).setCell ⟨w.heap.size, 1, none⟩ (.slice none 0 0)) := (But.refl _ _).set2 _ _ _ (.inl (by simp))
    have HX2n := HX.out.set (.slice none 0 0) (.slice none 0 0)
    refine bodyPost_ret (v := .agg #[.slice none 0 0, .slice none 0 0]) (by simp [results, Try.results53, go_sem, HX2n.c0, HX2n.c1]) rfl ?_
    exact ⟨[], [], none, none, 0, 0, rfl, HA.out, VcH7.nil _ _, RmC.nil _, fr_but HF.out hst (fun m hm => by simp at hm; omega)⟩
  · rw [h1] at P1
    have HP := Lib.hid P1
    have HA := Lib.hid (show newC7 M = ⟨M, lns newL⟩ by simp only [newC7, h1]; rfl)
    have HM := Lib.hid (wordsB_true h1).2
    have hs0 : w.heap.size < (w.alloc (.cells #[.slice none 0 0, .slice none 0 0] 30)).heap.size := by simp
    clear P1 h1
    go_enter Try.func53, Try.ntmps53
    go_upto_region 1 with fail
    generalize (w.alloc (.cells #[.slice none 0 0, .slice none 0 0] 30)) = u0 at *
    go_upto_region 3 with (go_at_call 88; refine HP.out.mono ?_; rintro e w' ⟨rfl, rfl⟩)
    go_region_held3 (fun v => w.heap.size < v.heap.size)
      (first | assumption | (show w.heap.size < _; simp; omega) | (show w.heap.size < _; simp) | (have := F3.out.size; omega))
      (first | (refine wp_append_cp _ _ rfl _ rfl M aM cM rfl (HS.out _ (by (repeat' first | (with_reducible exact Below.refl _ _) | (with_reducible assumption) | ((with_reducible refine Below.setCell ?_ ?hb _); (case hb => first | exact Nat.le_refl _ | (simp; done) | (simp; omega) | omega)) | ((with_reducible refine Below.alloc ?_ ?hb _); (case hb => first | exact Nat.le_refl _ | (simp; done) | (simp; omega) | omega)) | (with_reducible refine Below.drew ?_)))) (by omega) ?_; intro ao c u3 hr hcp f3; have HR := Lib.hid hr; have HCp := Lib.hid hcp; have F3 := Lib.hid (show Fr u0 u3 from Fr.trans (by (repeat' first | (with_reducible exact Below.refl _ _) | (with_reducible assumption) | ((with_reducible refine Below.setCell ?_ ?hb _); (case hb => first | exact Nat.le_refl _ | (simp; done) | (simp; omega) | omega)) | ((with_reducible refine Below.alloc ?_ ?hb _); (case hb => first | exact Nat.le_refl _ | (simp; done) | (simp; omega) | omega)) | (with_reducible refine Below.drew ?_))) f3); have HX3 := Lib.hid (HX.out.fr F3.out); obtain ⟨lt3, z2, z3, q2, q3⟩ := HX3.out; have hz3 := F3.out.size; have F4 := Lib.hid f3; clear hr hcp f3))
    · have hst : But [w.heap.size] u3 ((u3.setCell ⟨w.heap.size, 0, none⟩ (.slice ao M.length c)).setCell ⟨w.heap.size, 1, none⟩ (.slice (some ⟨u3.heap.size, 0, none⟩) 4 4)) := (But.refl _ _).set2 _ _ _ (.inl (by simp))
      have HX2n := HX3.out.set (.slice ao M.length c) (.slice (some ⟨u3.heap.size, 0, none⟩) 4 4)
      have hlow : w.heap.size < u0.heap.size := hs0
      have hWs : u0.heap.size ≤ ((u0.alloc (.cells #[] 3)).drew).heap.size := (show Fr u0 ((u0.alloc (.cells #[] 3)).drew) by (repeat' first | (with_reducible exact Below.refl _ _) | (with_reducible assumption) | ((with_reducible refine Below.setCell ?_ ?hb _); (case hb => first | exact Nat.le_refl _ | (simp; done) | (simp; omega) | omega)) | ((with_reducible refine Below.alloc ?_ ?hb _); (case hb => first | exact Nat.le_refl _ | (simp; done) | (simp; omega) | omega)) | (with_reducible refine Below.drew ?_))).size
      have HXn := HX2n.fr (Fr.alloc _ (.cells (clL newL).toArray 59))
      have hsz : ((u3.setCell ⟨w.heap.size, 0, none⟩ (.slice ao M.length c)).setCell ⟨w.heap.size, 1, none⟩ (.slice (some ⟨u3.heap.size, 0, none⟩) 4 4)).heap.size = u3.heap.size := by simp
      have hL := rol_lines ((u3.setCell ⟨w.heap.size, 0, none⟩ (.slice ao M.length c)).setCell ⟨w.heap.size, 1, none⟩ (.slice (some ⟨u3.heap.size, 0, none⟩) 4 4))
      rw [hsz] at hL
      have hV := ((HR.out.vc.mono (show w.heap.size ≤ _ from Nat.le_trans (Nat.le_of_lt hlow) hWs)).but' hst (fun m hm hx => by have h1 := (HR.out.vc.bk m hm).1; simp at hx; omega)).fr (Fr.alloc _ (.cells (clL newL).toArray 59))
      have hap : ∀ k, k ∈ bkS M.length ao → k ≠ u3.heap.size := fun k hk => by have := (HR.out.vc.bk k hk).2; omega
      have hF := Fr.trans (fr_but (Fr.trans HF.out F3.out) hst (fun m hm => by simp at hm; omega)) (Fr.alloc _ (.cells (clL newL).toArray 59))
      have hRm := ((RmC.ofRc HR.out HCp.out).but hst (fun m hm hx => by have h1 := (HR.out.vc.bk m hm).1; simp at hx; omega) (fun i hi m hm hx => by rw [newL_wbk i hi] at hm; cases hm)).fr (Fr.alloc _ (.cells (clL newL).toArray 59))
      go_wp2
      refine bodyPost_ret (v := .agg #[.slice ao M.length c, .slice (some ⟨u3.heap.size, 0, none⟩) 4 4]) (by simp [results, Try.results53, go_sem, HXn.c0, HXn.c1]) rfl ?_
      exact ⟨M, newL, ao, some ⟨u3.heap.size, 0, none⟩, c, 4, rfl, HA.out, newK hV hL (by omega) hap, hRm, hF⟩
    · have hst : But [w.heap.size] u3 ((u3.setCell ⟨w.heap.size, 0, none⟩ (.slice ao M.length c)).setCell ⟨w.heap.size, 1, none⟩ (.slice (some ⟨(u0.heap.size + 1), 0, none⟩) 4 4)) := (But.refl _ _).set2 _ _ _ (.inl (by simp))
      have HX2n := HX3.out.set (.slice ao M.length c) (.slice (some ⟨(u0.heap.size + 1), 0, none⟩) 4 4)
      have hlow : w.heap.size < u0.heap.size := hs0
      have hWs : u0.heap.size ≤ (((u0.alloc (.cells #[] 3)).alloc (.cells (clL newL).toArray 59)).drew).heap.size := (show Fr u0 (((u0.alloc (.cells #[] 3)).alloc (.cells (clL newL).toArray 59)).drew) by (repeat' first | (with_reducible exact Below.refl _ _) | (with_reducible assumption) | ((with_reducible refine Below.setCell ?_ ?hb _); (case hb => first | exact Nat.le_refl _ | (simp; done) | (simp; omega) | omega)) | ((with_reducible refine Below.alloc ?_ ?hb _); (case hb => first | exact Nat.le_refl _ | (simp; done) | (simp; omega) | omega)) | (with_reducible refine Below.drew ?_))).size
      have HXn := HX2n
      have hLW : RoL (((u0.alloc (.cells #[] 3)).alloc (.cells (clL newL).toArray 59)).drew) (u0.heap.size + 1) newL := (rol_at (u0.alloc (.cells #[] 3)) (u0.heap.size + 1) (by simp)).fr (Below.drew (Below.refl _ _))
      have hL : RoL ((u3.setCell ⟨w.heap.size, 0, none⟩ (.slice ao M.length c)).setCell ⟨w.heap.size, 1, none⟩ (.slice (some ⟨(u0.heap.size + 1), 0, none⟩) 4 4)) (u0.heap.size + 1) newL := (hLW.fr F4.out).but hst (by simp; omega)
      have hV := (HR.out.vc.mono (show w.heap.size ≤ _ from Nat.le_trans (Nat.le_of_lt hlow) hWs)).but' hst (fun m hm hx => by have h1 := (HR.out.vc.bk m hm).1; simp at hx; omega)
      have hap : ∀ k, k ∈ bkS M.length ao → k ≠ (u0.heap.size + 1) := fun k hk => by have h1 := (HR.out.vc.bk k hk).1; have h2 := hLW.lt; omega
      have hF := fr_but (Fr.trans HF.out F3.out) hst (fun m hm => by simp at hm; omega)
      have hRm := ((RmC.ofRc HR.out HCp.out).but hst (fun m hm hx => by have h1 := (HR.out.vc.bk m hm).1; simp at hx; omega) (fun i hi m hm hx => by rw [newL_wbk i hi] at hm; cases hm))
      go_wp2
      refine bodyPost_ret (v := .agg #[.slice ao M.length c, .slice (some ⟨(u0.heap.size + 1), 0, none⟩) 4 4]) (by simp [results, Try.results53, go_sem, HXn.c0, HXn.c1]) rfl ?_
      exact ⟨M, newL, ao, some ⟨(u0.heap.size + 1), 0, none⟩, c, 4, rfl, HA.out, newK hV hL (by omega) hap, hRm, hF⟩
    · have hst : But [w.heap.size] u3 ((u3.setCell ⟨w.heap.size, 0, none⟩ (.slice ao M.length c)).setCell ⟨w.heap.size, 1, none⟩ (.slice (some ⟨u0.heap.size, 0, none⟩) 4 4)) := (But.refl _ _).set2 _ _ _ (.inl (by simp))
      have HX2n := HX3.out.set (.slice ao M.length c) (.slice (some ⟨u0.heap.size, 0, none⟩) 4 4)
      have hlow : w.heap.size < u0.heap.size := hs0
      have hWs : u0.heap.size ≤ (((u0.alloc (.cells (clL newL).toArray 59)).alloc (.cells #[] 3)).drew).heap.size := (show Fr u0 (((u0.alloc (.cells (clL newL).toArray 59)).alloc (.cells #[] 3)).drew) by (repeat' first | (with_reducible exact Below.refl _ _) | (with_reducible assumption) | ((with_reducible refine Below.setCell ?_ ?hb _); (case hb => first | exact Nat.le_refl _ | (simp; done) | (simp; omega) | omega)) | ((with_reducible refine Below.alloc ?_ ?hb _); (case hb => first | exact Nat.le_refl _ | (simp; done) | (simp; omega) | omega)) | (with_reducible refine Below.drew ?_))).size
      have HXn := HX2n
      have hLW : RoL (((u0.alloc (.cells (clL newL).toArray 59)).alloc (.cells #[] 3)).drew) u0.heap.size newL := ((rol_at u0 u0.heap.size rfl).fr (Fr.alloc _ (.cells #[] 3))).fr (Below.drew (Below.refl _ _))
      have hL : RoL ((u3.setCell ⟨w.heap.size, 0, none⟩ (.slice ao M.length c)).setCell ⟨w.heap.size, 1, none⟩ (.slice (some ⟨u0.heap.size, 0, none⟩) 4 4)) u0.heap.size newL := (hLW.fr F4.out).but hst (by simp; omega)
      have hV := (HR.out.vc.mono (show w.heap.size ≤ _ from Nat.le_trans (Nat.le_of_lt hlow) hWs)).but' hst (fun m hm hx => by have h1 := (HR.out.vc.bk m hm).1; simp at hx; omega)
      have hap : ∀ k, k ∈ bkS M.length ao → k ≠ u0.heap.size := fun k hk => by have h1 := (HR.out.vc.bk k hk).1; have h2 := hLW.lt; omega
      have hF := fr_but (Fr.trans HF.out F3.out) hst (fun m hm => by simp at hm; omega)
      have hRm := ((RmC.ofRc HR.out HCp.out).but hst (fun m hm hx => by have h1 := (HR.out.vc.bk m hm).1; simp at hx; omega) (fun i hi m hm hx => by rw [newL_wbk i hi] at hm; cases hm))
      go_wp2
      refine bodyPost_ret (v := .agg #[.slice ao M.length c, .slice (some ⟨u0.heap.size, 0, none⟩) 4 4]) (by simp [results, Try.results53, go_sem, HXn.c0, HXn.c1]) rfl ?_
      exact ⟨M, newL, ao, some ⟨u0.heap.size, 0, none⟩, c, 4, rfl, HA.out, newK hV hL (by omega) hap, hRm, hF⟩
set_option maxRecDepth 100000 in
set_option maxHeartbeats 4000000 in
theorem impl_ChcNew (M : List Int) (aM : Option Addr) (cM : Nat) (w : World) (h : Src w M.length (ivl M) aM) (hf : M.length ≤ 1048576) :
    Calls Try.prog 51 #[.slice aM M.length cM] w (ChQ7 (newC7 M) w) := by
  have F0 : Fr w (w.alloc (.cells #[.slice none 0 0, .slice none 0 0] 30)) := Fr.alloc _ _
  have HF := Lib.hid F0
  have HX := Lib.hid (Box2.new w (.slice none 0 0) (.slice none 0 0) 30 _ rfl)
  have P1 := impl_areWords M aM cM 256 _ (h.fr F0) (by omega)
  have e1 : (M.all okB && decide ((M.length : Int) = 256)) = wordsB M 256 := words_eq M 256
  rw [e1] at P1
  have HS := Lib.hid (fun (v : World) (f : Fr (w.alloc (.cells #[.slice none 0 0, .slice none 0 0] 30)) v) => (h.fr F0).fr f)
  have hmk := make_lines
  clear F0 h e1
  cases h1 : wordsB M 256
  · rw [h1] at P1
    have HP := Lib.hid P1
    have HA := Lib.hid (show newC7 M = ch0 by simp only [newC7, h1]; rfl)
    clear P1 h1 hmk
    go_enter Try.func51, Try.ntmps51
    go_wp2_with fail
    generalize (w.alloc (.cells #[.slice none 0 0, .slice none 0 0] 30)) = u0 at *
    refine HP.out.mono ?_
    rintro e w' ⟨rfl, rfl⟩
    obtain ⟨_, z0, z1, q0, q1⟩ := HX.out
    go_wp2
    have hst : But [w.heap.size] u0 ((u0.setCell ⟨w.heap.size, 0, none⟩ (.slice none 0 0)).setCell ⟨w.heap.size, 1, none⟩ (.slice none 0 0)) := (But.refl _ _).set2 _ _ _ (.inl (by simp))
    have HX2n := HX.out.set (.slice none 0 0) (.slice none 0 0)
    refine bodyPost_ret (v := .agg #[.slice none 0 0, .slice none 0 0]) (by simp [results, Try.results51, go_sem, HX2n.c0, HX2n.c1]) rfl ?_
    exact ⟨[], [], none, none, 0, 0, rfl, HA.out, VcH7.nil _ _, RmC.nil _, fr_but HF.out hst (fun m hm => by simp at hm; omega)⟩
  · rw [h1] at P1
    have HP := Lib.hid P1
    have HA := Lib.hid (show newC7 M = ⟨M, lns newL⟩ by simp only [newC7, h1]; rfl)
    have HM := Lib.hid (wordsB_true h1).2
    have hs0 : w.heap.size < (w.alloc (.cells #[.slice none 0 0, .slice none 0 0] 30)).heap.size := by simp
    clear P1 h1
    go_enter Try.func51, Try.ntmps51
    go_upto_region 1 with fail
    generalize (w.alloc (.cells #[.slice none 0 0, .slice none 0 0] 30)) = u0 at *
    go_upto_region 3 with (go_at_call 86; refine HP.out.mono ?_; rintro e w' ⟨rfl, rfl⟩)
    go_region_held3 (fun v => w.heap.size < v.heap.size)
      (first | assumption | (show w.heap.size < _; simp; omega) | (show w.heap.size < _; simp) | (have := F3.out.size; omega))
      (first | (go_at_call 91; refine (slices_CloneC M aM cM _ (HS.out _ (by (repeat' first | (with_reducible exact Below.refl _ _) | (with_reducible assumption) | ((with_reducible refine Below.setCell ?_ ?hb _); (case hb => first | exact Nat.le_refl _ | (simp; done) | (simp; omega) | omega)) | ((with_reducible refine Below.alloc ?_ ?hb _); (case hb => first | exact Nat.le_refl _ | (simp; done) | (simp; omega) | omega)) | (with_reducible refine Below.drew ?_)))) (by omega)).mono ?_; rintro e u3 ⟨ao, c, rfl, hr, f3⟩; have HR := Lib.hid hr; have HCp := Lib.hid (rc_cap hr); have F3 := Lib.hid (show Fr u0 u3 from Fr.trans (by (repeat' first | (with_reducible exact Below.refl _ _) | (with_reducible assumption) | ((with_reducible refine Below.setCell ?_ ?hb _); (case hb => first | exact Nat.le_refl _ | (simp; done) | (simp; omega) | omega)) | ((with_reducible refine Below.alloc ?_ ?hb _); (case hb => first | exact Nat.le_refl _ | (simp; done) | (simp; omega) | omega)) | (with_reducible refine Below.drew ?_))) f3); have HX3 := Lib.hid (HX.out.fr F3.out); obtain ⟨lt3, z2, z3, q2, q3⟩ := HX3.out; have hz3 := F3.out.size; have F4 := Lib.hid f3; clear hr f3))
    · have hst : But [w.heap.size] u3 ((u3.setCell ⟨w.heap.size, 0, none⟩ (.slice ao M.length c)).setCell ⟨w.heap.size, 1, none⟩ (.slice (some ⟨u3.heap.size, 0, none⟩) 4 4)) := (But.refl _ _).set2 _ _ _ (.inl (by simp))
      have HX2n := HX3.out.set (.slice ao M.length c) (.slice (some ⟨u3.heap.size, 0, none⟩) 4 4)
      have hlow : w.heap.size < u0.heap.size := hs0
      have hWs : u0.heap.size ≤ (u0.drew).heap.size := (show Fr u0 (u0.drew) by (repeat' first | (with_reducible exact Below.refl _ _) | (with_reducible assumption) | ((with_reducible refine Below.setCell ?_ ?hb _); (case hb => first | exact Nat.le_refl _ | (simp; done) | (simp; omega) | omega)) | ((with_reducible refine Below.alloc ?_ ?hb _); (case hb => first | exact Nat.le_refl _ | (simp; done) | (simp; omega) | omega)) | (with_reducible refine Below.drew ?_))).size
      have HXn := HX2n.fr (Fr.alloc _ (.cells (clL newL).toArray 59))
      have hsz : ((u3.setCell ⟨w.heap.size, 0, none⟩ (.slice ao M.length c)).setCell ⟨w.heap.size, 1, none⟩ (.slice (some ⟨u3.heap.size, 0, none⟩) 4 4)).heap.size = u3.heap.size := by simp
      have hL := rol_lines ((u3.setCell ⟨w.heap.size, 0, none⟩ (.slice ao M.length c)).setCell ⟨w.heap.size, 1, none⟩ (.slice (some ⟨u3.heap.size, 0, none⟩) 4 4))
      rw [hsz] at hL
      have hV := ((HR.out.vc.mono (show w.heap.size ≤ _ from Nat.le_trans (Nat.le_of_lt hlow) hWs)).but' hst (fun m hm hx => by have h1 := (HR.out.vc.bk m hm).1; simp at hx; omega)).fr (Fr.alloc _ (.cells (clL newL).toArray 59))
      have hap : ∀ k, k ∈ bkS M.length ao → k ≠ u3.heap.size := fun k hk => by have := (HR.out.vc.bk k hk).2; omega
      have hF := Fr.trans (fr_but (Fr.trans HF.out F3.out) hst (fun m hm => by simp at hm; omega)) (Fr.alloc _ (.cells (clL newL).toArray 59))
      have hRm := ((RmC.ofRc HR.out HCp.out).but hst (fun m hm hx => by have h1 := (HR.out.vc.bk m hm).1; simp at hx; omega) (fun i hi m hm hx => by rw [newL_wbk i hi] at hm; cases hm)).fr (Fr.alloc _ (.cells (clL newL).toArray 59))
      go_wp2
      refine bodyPost_ret (v := .agg #[.slice ao M.length c, .slice (some ⟨u3.heap.size, 0, none⟩) 4 4]) (by simp [results, Try.results51, go_sem, HXn.c0, HXn.c1]) rfl ?_
      exact ⟨M, newL, ao, some ⟨u3.heap.size, 0, none⟩, c, 4, rfl, HA.out, newK hV hL (by omega) hap, hRm, hF⟩
    · have hst : But [w.heap.size] u3 ((u3.setCell ⟨w.heap.size, 0, none⟩ (.slice ao M.length c)).setCell ⟨w.heap.size, 1, none⟩ (.slice (some ⟨u0.heap.size, 0, none⟩) 4 4)) := (But.refl _ _).set2 _ _ _ (.inl (by simp))
      have HX2n := HX3.out.set (.slice ao M.length c) (.slice (some ⟨u0.heap.size, 0, none⟩) 4 4)
      have hlow : w.heap.size < u0.heap.size := hs0
      have hWs : u0.heap.size ≤ ((u0.alloc (.cells (clL newL).toArray 59)).drew).heap.size := (show Fr u0 ((u0.alloc (.cells (clL newL).toArray 59)).drew) by (repeat' first | (with_reducible exact Below.refl _ _) | (with_reducible assumption) | ((with_reducible refine Below.setCell ?_ ?hb _); (case hb => first | exact Nat.le_refl _ | (simp; done) | (simp; omega) | omega)) | ((with_reducible refine Below.alloc ?_ ?hb _); (case hb => first | exact Nat.le_refl _ | (simp; done) | (simp; omega) | omega)) | (with_reducible refine Below.drew ?_))).size
      have HXn := HX2n
      have hLW : RoL ((u0.alloc (.cells (clL newL).toArray 59)).drew) u0.heap.size newL := (rol_at u0 u0.heap.size rfl).fr (Below.drew (Below.refl _ _))
      have hL : RoL ((u3.setCell ⟨w.heap.size, 0, none⟩ (.slice ao M.length c)).setCell ⟨w.heap.size, 1, none⟩ (.slice (some ⟨u0.heap.size, 0, none⟩) 4 4)) u0.heap.size newL := (hLW.fr F4.out).but hst (by simp; omega)
      have hV := (HR.out.vc.mono (show w.heap.size ≤ _ from Nat.le_trans (Nat.le_of_lt hlow) hWs)).but' hst (fun m hm hx => by have h1 := (HR.out.vc.bk m hm).1; simp at hx; omega)
      have hap : ∀ k, k ∈ bkS M.length ao → k ≠ u0.heap.size := fun k hk => by have h1 := (HR.out.vc.bk k hk).1; have h2 := hLW.lt; omega
      have hF := fr_but (Fr.trans HF.out F3.out) hst (fun m hm => by simp at hm; omega)
      have hRm := ((RmC.ofRc HR.out HCp.out).but hst (fun m hm hx => by have h1 := (HR.out.vc.bk m hm).1; simp at hx; omega) (fun i hi m hm hx => by rw [newL_wbk i hi] at hm; cases hm))
      go_wp2
      refine bodyPost_ret (v := .agg #[.slice ao M.length c, .slice (some ⟨u0.heap.size, 0, none⟩) 4 4]) (by simp [results, Try.results51, go_sem, HXn.c0, HXn.c1]) rfl ?_
      exact ⟨M, newL, ao, some ⟨u0.heap.size, 0, none⟩, c, 4, rfl, HA.out, newK hV hL (by omega) hap, hRm, hF⟩

end Go.Proofs.Ytoacgjjpipdkjaa
