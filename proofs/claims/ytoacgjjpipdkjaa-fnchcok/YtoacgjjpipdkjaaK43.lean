/- l20Chc: some cache; the reader has read on; nothing else has turned. -/
import Derived.Test.YtoacgjjpipdkjaaK41
namespace Go.Proofs.Ytoacgjjpipdkjaa
open Go.RowKit
set_option linter.unusedVariables false
set_option linter.unusedSimpArgs false
set_option maxRecDepth 100000 in
set_option maxHeartbeats 4000000 in
theorem l20Chc (B N b : Nat) (n : Int) (w : World) (h : Rd B N w b) (hM : N ≤ 700000000) (n0 : 0 ≤ n) (n1 : n ≤ 1000) :
    Calls Try.prog 85 #[.pointer (some ⟨b, 0, none⟩), .int .i64 n] w (DrewC B (N + 2000) b n w) := by
  have hmk := make_256
  have HL0 := Lib.hid (L1.new h)
  clear h
  go_enter Try.func85, Try.ntmps85
  go_upto_region 2 with fail
  clear hmk
  generalize ((w.alloc (.cells #[.slice none 0 0, .slice none 0 0] 30)).alloc (.cells z256 3)) = u0 at *
  obtain ⟨G, hG⟩ : ∃ G, G = w.heap.size + 1 := ⟨_, rfl⟩
  rw [← hG] at HL0
  try rw [← hG]
  clear hG
  go_wp2_with fail
  go_loopw [6] (fun i wr => ∃ (k : Nat) (xs : List Int), k ≤ 256 ∧ i = .int .i64 k ∧ L1 B b (N + k) G w wr xs) (fun i _ => 256 - (intOf i).toNat)
  case atStart => exact ⟨0, _, by omega, rfl, HL0.out⟩
  case round =>
    obtain ⟨k, xs, hk, rfl, hL⟩ := hrel
    have HL := Lib.hid hL
    clear hL HL0
    by_cases hlt : k < 256
    · have hk4 : (k : Int) < 256 := by omega
      have hk0 : (0 : Int) ≤ (k : Int) := Int.natCast_nonneg _
      go_wp2_with fail
      refine (pick B _ b _ _ HL.out.rd (by omega)).mono ?_
      rintro e u1 ⟨x, x0, x1, rfl, r1, g1⟩
      replace x1 := x1 (by omega)
      have HL1 := Lib.hid (HL.out.step r1 g1)
      have cx := HL1.out.ro.cel k (by rw [HL1.out.l]; exact hlt)
      have fx := HL1.out.ro.fro k (by rw [HL1.out.l]; exact hlt)
      clear HL r1 g1
      have hx : x = 0 ∨ x = 1 := by omega
      clear x0 x1
      rcases hx with rfl | rfl
      all_goals
        go_wp2
        go_roundw
        case rel => exact ⟨k + 1, _, by omega, by go_num, HL1.out.set k _ hlt (okB7 (by omega) (by omega))⟩
        case measure => simp [intOf]; omega
    · have hk4 : ¬ (k : Int) < 256 := by omega
      obtain rfl : k = 256 := by omega
      have C := fun u (f : Fr wr u) => spec_ChcNew xs (some ⟨G, 0, none⟩) 256 u (HL.out.ro.src.fr f) (by have := HL.out.l; omega)
      rw [HL.out.l] at C
      go_wp2_with fail
      refine (C _ (Below.refl _ _)).mono ?_
      rintro e u1 ⟨M, X, aM, aL, cM, cL, rfl, hc, V, rm, f1⟩
      have hok : OkC ⟨M, lns X⟩ := hc ▸ newC7_ok HL.out.ok HL.out.l
      have HL1 := Lib.hid (HL.out.lc f1 V rm hok 30)
      clear hc V rm hok C f1 HL hk4 hk hlt
      dsimp only [caV]
      go_wp2_with fail
      generalize (u1.alloc (.cells #[.slice aM M.length cM, .slice aL X.length cL] 30)) = u2 at *
      generalize u1.heap.size = Z at *
      refine (pick B _ b _ _ HL1.out.rd (by omega)).mono ?_
      rintro e u3 ⟨x3, x30, x31, rfl, r3, g3⟩
      replace x31 := x31 (by omega)
      have HL3 := Lib.hid (HL1.out.step r3 g3)
      clear HL1 r3 g3
      go_wp2_with fail
      go_loopw [8] (fun i wr => ∃ (k : Nat) (M : List Int) (X : List La) (aM aL : Option Addr) (cM cL : Nat), k ≤ 13 ∧ i = .int .i64 k ∧ LC B b (N + 300 + 20 * (13 - k)) Z w wr M X aM aL cM cL) (fun i _ => (intOf i).toNat)
      case atStart => exact ⟨x3.toNat, M, X, aM, aL, cM, cL, by omega, by simp; omega, HL3.out.mono (by omega)⟩
      case round =>
        clear HL3 x30 x31
        obtain ⟨k, M, X, aM, aL, cM, cL, hk, rfl, hL⟩ := hrel
        have HL := Lib.hid hL
        clear hL
        by_cases hk0 : 0 < k
        · have hk4 : 0 < (k : Int) := by omega
          go_wp2_with fail
          refine (pick B _ b _ _ HL.out.rd (by omega)).mono ?_
          rintro e u4 ⟨x4, x40, x41, rfl, r4, g4⟩
          replace x41 := x41 (by omega)
          have HL4 := Lib.hid (HL.out.step r4 g4)
          clear HL r4 g4
          go_wp2_with fail
          refine (pick B _ b _ _ HL4.out.rd (by omega)).mono ?_
          rintro e u5 ⟨x5, x50, x51, rfl, r5, g5⟩
          replace x51 := x51 (by omega)
          have HL5 := Lib.hid (HL4.out.step r5 g5)
          clear HL4 r5 g5
          go_wp2_with fail
          have HL5a := Lib.hid (HL5.out.fr (Fr.alloc u5 (.cells #[.int .i64 x4, .int .i64 x5] 3)))
          refine (pick B _ b _ _ HL5a.out.rd (by omega)).mono ?_
          rintro e u6 ⟨x6, x60, x61, rfl, r6, g6⟩
          replace x61 := x61 (by omega)
          have HL6 := Lib.hid (HL5a.out.step r6 g6)
          obtain ⟨at6, ⟨a60, a61⟩, c6⟩ := row2_bd HL5.out.rd.lt g6 x6 x60 x61 ⟨x40, by omega⟩ ⟨x50, x51⟩
          clear HL5 HL5a r6 g6
          go_wp2_with fail
          refine (pick B _ b _ _ HL6.out.rd (by omega)).mono ?_
          rintro e u7 ⟨x7, x70, x71, rfl, r7, g7⟩
          replace x71 := x71 (by omega)
          have HL7 := Lib.hid (HL6.out.step r7 g7)
          clear HL6 r7 g7 c6 x40 x41 x50 x51 x60 x61
          have hx7 : x7 = 0 ∨ x7 = 1 ∨ x7 = 2 ∨ x7 = 3 := by omega
          clear x70 x71
          obtain ⟨_, c0, c1, q0, q1⟩ := HL7.out.bx
          rcases hx7 with rfl | rfl | rfl | rfl
          · go_wp2_with fail
            refine (spec_ChcRead M X aM aL cM cL at6 _ HL7.out.V.src (okC_few HL7.out.ok)).mono ?_
            rintro e u8 ⟨M8, X8, a8, b8, c8, d8, rfl, hc, V, rm, f8⟩
            have hok : OkC ⟨M8, lns X8⟩ := hc ▸ readA_ok HL7.out.ok (plcB7 a60 a61)
            have HB8 := Lib.hid (HL7.out.bx.fr f8)
            have HP := Lib.hid (HL7.out.put f8 V rm hok)
            clear hc V rm hok HL7 c0 c1 q0 q1
            obtain ⟨_, c0, c1, q0, q1⟩ := HB8.out
            dsimp only [caV]
            go_wp2
            go_roundw
            case rel => exact ⟨k - 1, _, _, _, _, _, _, by omega, by first | go_num | (congr 1; omega) | (simp; omega), HP.out.mono (by omega)⟩
            case measure => simp [intOf]; omega
          · have HL7d := Lib.hid (HL7.out.fr (Below.drew (Below.refl _ _)))
            go_wp2_with fail
            go_region_law (first
                | (go_simp; go_at_call 93; refine (l20Word0 B _ b _ HL7d.out.rd (by omega)).mono ?_; rintro e u8 ⟨x8, x80, x81, rfl, r8, g8⟩; have HL8 := Lib.hid (HL7d.out.step r8 g8); have HO8 := Lib.hid (okB7 x80 (by omega)); obtain ⟨_, d0, d1, z0, z1⟩ := HL8.out.bx; clear r8 g8)
                | (go_simp; go_at_call 27; refine (spec_ChcWrite M X aM aL cM cL at6 x8 _ HL8.out.V.src (okC_few HL8.out.ok)).mono ?_; rintro e u9 ⟨M8, X8, a8, b8, c8, d8, rfl, hc, V, rm, f8⟩; have HC9 := Lib.hid hc; have HB9 := Lib.hid (HL8.out.bx.fr f8); have HV9 := Lib.hid V; have HR9 := Lib.hid rm; have HF9 := Lib.hid f8; dsimp only [caV]; obtain ⟨_, e0, e1, y0, y1⟩ := HB9.out; clear hc V rm f8))
            all_goals
              have hok : OkC ⟨M8, lns X8⟩ := HC9.out ▸ writeA_ok HL8.out.ok (plcB7 a60 a61) HO8.out
              have HP := Lib.hid (HL8.out.put HF9.out HV9.out HR9.out hok)
              clear HC9 HV9 HR9 hok HL7 HL8 c0 c1 q0 q1 d0 d1 z0 z1 HF9 HL7d
              go_wp2
              go_roundw
              case rel => exact ⟨k - 1, _, _, _, _, _, _, by omega, by first | go_num | (congr 1; omega) | (simp; omega), HP.out.mono (by omega)⟩
              case measure => simp [intOf]; omega
          · have HL7d := Lib.hid (HL7.out.fr (Below.drew (Below.refl _ _)))
            go_wp2_with fail
            go_region_law (first
                | (go_simp; go_at_call 93; refine (l20Word0 B _ b _ HL7d.out.rd (by omega)).mono ?_; rintro e u8 ⟨x8, x80, x81, rfl, r8, g8⟩; have HL8 := Lib.hid (HL7d.out.step r8 g8); have HO8 := Lib.hid (okB7 x80 (by omega)); obtain ⟨_, d0, d1, z0, z1⟩ := HL8.out.bx; clear r8 g8)
                | (go_simp; go_at_call 27; refine (spec_ChcWrite M X aM aL cM cL at6 x8 _ HL8.out.V.src (okC_few HL8.out.ok)).mono ?_; rintro e u9 ⟨M8, X8, a8, b8, c8, d8, rfl, hc, V, rm, f8⟩; have HC9 := Lib.hid hc; have HB9 := Lib.hid (HL8.out.bx.fr f8); have HV9 := Lib.hid V; have HR9 := Lib.hid rm; have HF9 := Lib.hid f8; dsimp only [caV]; obtain ⟨_, e0, e1, y0, y1⟩ := HB9.out; clear hc V rm f8))
            all_goals
              have hok : OkC ⟨M8, lns X8⟩ := HC9.out ▸ writeA_ok HL8.out.ok (plcB7 a60 a61) HO8.out
              have HP := Lib.hid (HL8.out.put HF9.out HV9.out HR9.out hok)
              clear HC9 HV9 HR9 hok HL7 HL8 c0 c1 q0 q1 d0 d1 z0 z1 HF9 HL7d
              go_wp2
              go_roundw
              case rel => exact ⟨k - 1, _, _, _, _, _, _, by omega, by first | go_num | (congr 1; omega) | (simp; omega), HP.out.mono (by omega)⟩
              case measure => simp [intOf]; omega
          · have HL7d := Lib.hid (HL7.out.fr (Below.drew (Below.refl _ _)))
            go_wp2_with fail
            go_region_law (first
                | (go_simp; go_at_call 93; refine (l20Word0 B _ b _ HL7d.out.rd (by omega)).mono ?_; rintro e u8 ⟨x8, x80, x81, rfl, r8, g8⟩; have HL8 := Lib.hid (HL7d.out.step r8 g8); have HO8 := Lib.hid (okB7 x80 (by omega)); obtain ⟨_, d0, d1, z0, z1⟩ := HL8.out.bx; clear r8 g8)
                | (go_simp; go_at_call 29; refine (spec_ChcLay M X aM aL cM cL at6 x8 _ HL8.out.V.src (okC_few HL8.out.ok)).mono ?_; rintro e u9 ⟨M8, X8, a8, b8, c8, d8, rfl, hc, V, rm, f8⟩; have HC9 := Lib.hid hc; have HB9 := Lib.hid (HL8.out.bx.fr f8); have HV9 := Lib.hid V; have HR9 := Lib.hid rm; have HF9 := Lib.hid f8; dsimp only [caV]; obtain ⟨_, e0, e1, y0, y1⟩ := HB9.out; clear hc V rm f8))
            all_goals
              have hok : OkC ⟨M8, lns X8⟩ := HC9.out ▸ layA_ok HL8.out.ok (plcB7 a60 a61) HO8.out
              have HP := Lib.hid (HL8.out.put HF9.out HV9.out HR9.out hok)
              clear HC9 HV9 HR9 hok HL7 HL8 c0 c1 q0 q1 d0 d1 z0 z1 HF9 HL7d
              go_wp2
              go_roundw
              case rel => exact ⟨k - 1, _, _, _, _, _, _, by omega, by first | go_num | (congr 1; omega) | (simp; omega), HP.out.mono (by omega)⟩
              case measure => simp [intOf]; omega
        · have hk4 : ¬ 0 < (k : Int) := by omega
          obtain rfl : k = 0 := by omega
          clear hk0 hk
          go_wp2_with fail
          refine (odd7 B _ b n _ HL.out.rd (by omega) n0 (by omega)).mono ?_
          rintro e u4 ⟨v4, hv4, rfl, r4, g4⟩
          have HP := Lib.hid (HL.out.step r4 g4)
          have HV := Lib.hid hv4
          clear HL r4 g4 hv4
          cases v4
          · have HQ := HP
            obtain ⟨_, y0, y1, _, _⟩ := HQ.out.bx
            obtain ⟨_, z0, z1, o0, o1⟩ := HQ.out.z0
            have nzs : ¬ Z = w.heap.size := by have := HQ.out.zb; omega
            have nzs2 : ¬ w.heap.size = Z := by have := HQ.out.zb; omega
            go_wp2_with fail
            refine bodyPost_ret (v := caV aM aL M X cM cL) (by simp [results, Try.results85, go_sem, z0, z1]) rfl (HQ.out.done0 (by omega))
          · have hn : n ≠ 0 := fun e => by cases HV.out e
            clear HV
            go_wp2_with fail
            refine (pick B _ b _ _ HP.out.rd (by omega)).mono ?_
            rintro e u5 ⟨x5, x50, x51, rfl, r5, g5⟩
            replace x51 := x51 (by omega)
            have HP5 := Lib.hid (HP.out.step r5 g5)
            clear HP r5 g5
            obtain ⟨j, rfl⟩ : ∃ j : Nat, x5 = (j : Int) := ⟨x5.toNat, by omega⟩
            have hj : j < 4 := by omega
            go_wp2_with fail
            refine (pick B _ b _ _ HP5.out.rd (by omega)).mono ?_
            rintro e u6 ⟨x6, x60, x61, rfl, r6, g6⟩
            replace x61 := x61 (by omega)
            have HP6 := Lib.hid (HP5.out.step r6 g6)
            clear HP5 r6 g6
            obtain ⟨gM, hgM⟩ : ∃ g, aM = some ⟨g, 0, none⟩ := by
              obtain ⟨g, e, _⟩ := HP6.out.V.rM.at0 (by have := HP6.out.ok.Ml; simp only at this; omega)
              exact ⟨g, e⟩
            obtain ⟨gL, hgL⟩ : ∃ g, aL = some ⟨g, 0, none⟩ := by
              obtain ⟨g, e, _⟩ := HP6.out.V.rL (by have := HP6.out.ok.Ll; simp at this; omega)
              exact ⟨g, e⟩
            subst hgM
            subst hgL
            have hMl : M.length = 256 := HP6.out.ok.Ml
            have hXl : X.length = 4 := by have := HP6.out.ok.Ll; simpa using this
            have hcM := HP6.out.rm.le
            have hcL := HP6.out.rm.lL
            rw [hMl] at hcM
            rw [hXl] at hcL
            have nM : ¬ cM = 1 := by omega
            have nL : ¬ cL = 1 := by omega
            have hx6 : x6 = 0 ∨ x6 = 1 ∨ x6 = 2 ∨ x6 = 3 ∨ x6 = 4 ∨ x6 = 5 := by omega
            clear x60 x61
            obtain ⟨_, c0, c1, q0, q1⟩ := HP6.out.bx
            rw [hMl] at c0
            rw [hXl] at c1
            obtain ⟨l, hlk⟩ : ∃ l, X.getD j la0 = l := ⟨_, rfl⟩
            have HLk := Lib.hid hlk
            have hRL : RoL u6 gL X := by
              obtain ⟨g, e, _, r⟩ := HP6.out.V.rL (by omega)
              cases e
              exact r
            obtain ⟨s0, s1, s2, s3⟩ := hRL.slot j (by omega)
            rw [hlk] at s0 s1 s2 s3
            have t0 := (hRL.there4 j (by omega) 0 (by omega)).2
            have t2 := (hRL.there4 j (by omega) 2 (by omega)).2
            have t3 := (hRL.there4 j (by omega) 3 (by omega)).2
            rw [Nat.add_zero] at t0
            have HRL := Lib.hid hRL
            clear hlk hRL
            rcases hx6 with rfl | rfl | rfl | rfl | rfl | rfl
            · have HQ := Lib.hid HP6.out.cutM
              go_upto_region 32 with fail
              clear c0 c1 q0 q1 HP6 nM nL
              generalize (u6.setCell ⟨Z, 0, none⟩ (.slice (some ⟨gM, 1, none⟩) 255 (cM - 1))) = u7 at *
              obtain ⟨_, y0, y1, _, _⟩ := HQ.out.bx
              obtain ⟨_, z0, z1, o0, o1⟩ := HQ.out.z0
              have nzs : ¬ Z = w.heap.size := by have := HQ.out.zb; omega
              have nzs2 : ¬ w.heap.size = Z := by have := HQ.out.zb; omega
              go_wp2_with fail
              refine bodyPost_ret (v := .agg #[.slice (some ⟨gM, 1, none⟩) 255 (cM - 1), .slice (some ⟨gL, 0, none⟩) 4 cL]) (by simp [results, Try.results85, go_sem, z0, z1, hMl, hXl]) rfl (HQ.out.doneL (N' := N + 2000) (by omega) hn (by simp [hMl]) (by simp [hXl]))
            · have HQ := Lib.hid HP6.out.cutL
              go_upto_region 32 with fail
              clear c0 c1 q0 q1 HP6 nM nL
              generalize (u6.setCell ⟨Z, 1, none⟩ (.slice (some ⟨gL, 4, none⟩) 3 (cL - 1))) = u7 at *
              obtain ⟨_, y0, y1, _, _⟩ := HQ.out.bx
              obtain ⟨_, z0, z1, o0, o1⟩ := HQ.out.z0
              have nzs : ¬ Z = w.heap.size := by have := HQ.out.zb; omega
              have nzs2 : ¬ w.heap.size = Z := by have := HQ.out.zb; omega
              go_wp2_with fail
              refine bodyPost_ret (v := .agg #[.slice (some ⟨gM, 0, none⟩) 256 cM, .slice (some ⟨gL, 4, none⟩) 3 (cL - 1)]) (by simp [results, Try.results85, go_sem, z0, z1, hMl, hXl]) rfl (HQ.out.doneL (N' := N + 2000) (by omega) hn (by simp [hMl]) (by simp [hXl]))
            · clear nM nL q0 q1 c0 c1
              go_upto_region 27 with fail
              have hj4 : (j : Int) < 4 := by omega
              have hj0 : (0 : Int) ≤ (j : Int) := Int.natCast_nonneg _
              have hbw := HP6.out.bw
              have hzb := HP6.out.zb
              have hzl := HP6.out.bx.lt
              have hgl := HRL.out.lt
              obtain ⟨hgw, hgz⟩ : w.heap.size + 1 ≤ gL ∧ gL ≠ Z := by
                have hm : gL ∈ kbl M X (some ⟨gM, 0, none⟩) (some ⟨gL, 0, none⟩) := List.mem_append_right _ (List.mem_append_left _ (bkS_mem (b := ⟨gL, 0, none⟩) (by omega)))
                exact ⟨(HP6.out.V.bl gL hm).1, HP6.out.nz gL hm⟩
              clear s0 s1 s2 s3 t0 t2 t3
              refine wp_region_lots 145 (fun i => if i = 11 then [b] else if i = 17 then [gL] else []) (RdF7 B b (N + 900)) (lnSF u6.heap.size b Z gL cL j (LnP gL j X l)) ?mono (by kernel_rfl) (by kernel_rfl) rfl (by kernel_rfl) (rdF7_start (f := 18) HP6.out.rd (by omega)) ?step ?fin
              case mono =>
                intro i j' v u u' hij hsz h hB
                have hB2 : But (if i = 11 then [b] else if i = 17 then [gL] else []) u u' := hB
                have hLk : ∀ k, k ∈ (if i = 11 then [b] else if i = 17 then [gL] else []) → k < u6.heap.size := by
                  intro k hk
                  by_cases y11 : i = 11
                  · rw [if_pos y11] at hk; simp at hk; omega
                  rw [if_neg y11] at hk
                  by_cases y17 : i = 17
                  · rw [if_pos y17] at hk; simp at hk; omega
                  rw [if_neg y17] at hk
                  cases hk
                rcases j' with _ | _ | _ | _ | _ | _ | _ | _ | _ | _ | _ | _ | _ | _ | _ | _ | _ | _ | j'
                · exact h
                · exact h
                · exact h
                · exact h
                · exact h
                · exact h
                · exact h
                · exact h
                · exact h
                · exact RowP7.but h hB2 hLk
                · exact h
                · exact h
                · exact CelP7.but h hB2 hLk
                · exact h
                · exact h
                · exact h
                · exact h
                · have hne : gL ∉ (if i = 11 then [b] else if i = 17 then [gL] else []) := by
                    intro hm
                    by_cases y11 : i = 11
                    · rw [if_pos y11] at hm; simp at hm; omega
                    rw [if_neg y11] at hm
                    rw [if_neg hij] at hm
                    cases hm
                  exact LnP.but h hB2 hne
                · trivial
              case step =>
                intro i o ho
                rcases i with _ | _ | _ | _ | _ | _ | _ | _ | _ | _ | _ | _ | _ | _ | _ | _ | _ | _ | i
                · cases ho
                  intro fu act u hW hB hsz hL hdep
                  replace hB := hB [b, gL] (fun j hj hd k hk => by
                    by_cases y11 : j = 11
                    · rw [if_pos y11] at hk; simp at hk; simp [hk]
                    rw [if_neg y11] at hk
                    by_cases y17 : j = 17
                    · rw [if_pos y17] at hk; simp at hk; simp [hk]
                    rw [if_neg y17] at hk
                    cases hk)
                  obtain ⟨ysl, ha, hy⟩ := hL.puts [98, 99, 100, 101, 102, 103, 104, 105, 106, 107, 108, 109, 110, 111, 112, 113, 114] (by kernel_rfl)
                  clear hdep hL hy
                  simp only [List.foldl, List.setIfInBounds_toArray, List.set_cons_succ, List.set_cons_zero] at ha
                  subst ha
                  refine wpOp_step rfl (fun K hK => ?_)
                  go_simp
                  exact hK _ _ ⟨_, rfl, (fun h => by cases h), rfl, But.refl _ _, wd_pure7 hW⟩
                · cases ho
                  intro fu act u hW hB hsz hL hdep
                  replace hB := hB [b, gL] (fun j hj hd k hk => by
                    by_cases y11 : j = 11
                    · rw [if_pos y11] at hk; simp at hk; simp [hk]
                    rw [if_neg y11] at hk
                    by_cases y17 : j = 17
                    · rw [if_pos y17] at hk; simp at hk; simp [hk]
                    rw [if_neg y17] at hk
                    cases hk)
                  have d0 := hdep { on := 0, ground := .data } (by simp) rfl _ rfl
                  obtain ⟨ysl, ha, hy⟩ := hL.puts [98, 99, 100, 101, 102, 103, 104, 105, 106, 107, 108, 109, 110, 111, 112, 113, 114] (by kernel_rfl)
                  have e0 : ysl 98 = _ := (hy 98).symm.trans d0
                  clear hdep hL hy d0
                  simp only [List.foldl, List.setIfInBounds_toArray, List.set_cons_succ, List.set_cons_zero, e0] at ha
                  subst ha
                  clear e0
                  have Bx := HP6.out.bx.but hB (by simp; omega)
                  rw [hXl] at Bx
                  obtain ⟨_, c0, c1, _, _⟩ := Bx
                  refine wpOp_step rfl (fun K hK => ?_)
                  go_simp
                  exact hK _ _ ⟨_, rfl, (fun h => by cases h), rfl, But.refl _ _, wd_pure7 hW⟩
                · cases ho
                  intro fu act u hW hB hsz hL hdep
                  replace hB := hB [b, gL] (fun j hj hd k hk => by
                    by_cases y11 : j = 11
                    · rw [if_pos y11] at hk; simp at hk; simp [hk]
                    rw [if_neg y11] at hk
                    by_cases y17 : j = 17
                    · rw [if_pos y17] at hk; simp at hk; simp [hk]
                    rw [if_neg y17] at hk
                    cases hk)
                  obtain ⟨ysl, ha, hy⟩ := hL.puts [98, 99, 100, 101, 102, 103, 104, 105, 106, 107, 108, 109, 110, 111, 112, 113, 114] (by kernel_rfl)
                  clear hdep hL hy
                  simp only [List.foldl, List.setIfInBounds_toArray, List.set_cons_succ, List.set_cons_zero] at ha
                  subst ha
                  refine wpOp_step rfl (fun K hK => ?_)
                  go_simp
                  exact hK _ _ ⟨_, rfl, (fun h => by cases h), rfl, But.refl _ _, wd_pure7 hW⟩
                · cases ho
                  intro fu act u hW hB hsz hL hdep
                  replace hB := hB [b, gL] (fun j hj hd k hk => by
                    by_cases y11 : j = 11
                    · rw [if_pos y11] at hk; simp at hk; simp [hk]
                    rw [if_neg y11] at hk
                    by_cases y17 : j = 17
                    · rw [if_pos y17] at hk; simp at hk; simp [hk]
                    rw [if_neg y17] at hk
                    cases hk)
                  obtain ⟨ysl, ha, hy⟩ := hL.puts [98, 99, 100, 101, 102, 103, 104, 105, 106, 107, 108, 109, 110, 111, 112, 113, 114] (by kernel_rfl)
                  clear hdep hL hy
                  simp only [List.foldl, List.setIfInBounds_toArray, List.set_cons_succ, List.set_cons_zero] at ha
                  subst ha
                  refine wpOp_step rfl (fun K hK => ?_)
                  go_simp
                  exact hK _ _ ⟨_, rfl, (fun h => by cases h), rfl, But.refl _ _, wd_pure7 hW⟩
                · cases ho
                  intro fu act u hW hB hsz hL hdep
                  replace hB := hB [b, gL] (fun j hj hd k hk => by
                    by_cases y11 : j = 11
                    · rw [if_pos y11] at hk; simp at hk; simp [hk]
                    rw [if_neg y11] at hk
                    by_cases y17 : j = 17
                    · rw [if_pos y17] at hk; simp at hk; simp [hk]
                    rw [if_neg y17] at hk
                    cases hk)
                  have d3 := hdep { on := 3, ground := .data } (by simp) rfl _ rfl
                  obtain ⟨ysl, ha, hy⟩ := hL.puts [98, 99, 100, 101, 102, 103, 104, 105, 106, 107, 108, 109, 110, 111, 112, 113, 114] (by kernel_rfl)
                  have e3 : ysl 101 = _ := (hy 101).symm.trans d3
                  clear hdep hL hy d3
                  simp only [List.foldl, List.setIfInBounds_toArray, List.set_cons_succ, List.set_cons_zero, e3] at ha
                  subst ha
                  clear e3
                  have Bx := HP6.out.bx.but hB (by simp; omega)
                  rw [hXl] at Bx
                  obtain ⟨_, c0, c1, _, _⟩ := Bx
                  refine wpOp_step rfl (fun K hK => ?_)
                  go_simp
                  exact hK _ _ ⟨_, rfl, (fun h => by cases h), rfl, But.refl _ _, wd_pure7 hW⟩
                · cases ho
                  intro fu act u hW hB hsz hL hdep
                  replace hB := hB [b, gL] (fun j hj hd k hk => by
                    by_cases y11 : j = 11
                    · rw [if_pos y11] at hk; simp at hk; simp [hk]
                    rw [if_neg y11] at hk
                    by_cases y17 : j = 17
                    · rw [if_pos y17] at hk; simp at hk; simp [hk]
                    rw [if_neg y17] at hk
                    cases hk)
                  obtain ⟨ysl, ha, hy⟩ := hL.puts [98, 99, 100, 101, 102, 103, 104, 105, 106, 107, 108, 109, 110, 111, 112, 113, 114] (by kernel_rfl)
                  clear hdep hL hy
                  simp only [List.foldl, List.setIfInBounds_toArray, List.set_cons_succ, List.set_cons_zero] at ha
                  subst ha
                  refine wpOp_step rfl (fun K hK => ?_)
                  go_simp
                  exact hK _ _ ⟨_, rfl, (fun h => by cases h), rfl, But.refl _ _, wd_pure7 hW⟩
                · cases ho
                  intro fu act u hW hB hsz hL hdep
                  replace hB := hB [b, gL] (fun j hj hd k hk => by
                    by_cases y11 : j = 11
                    · rw [if_pos y11] at hk; simp at hk; simp [hk]
                    rw [if_neg y11] at hk
                    by_cases y17 : j = 17
                    · rw [if_pos y17] at hk; simp at hk; simp [hk]
                    rw [if_neg y17] at hk
                    cases hk)
                  have d4 := hdep { on := 4, ground := .data } (by simp) rfl _ rfl
                  have d5 := hdep { on := 5, ground := .data } (by simp) rfl _ rfl
                  obtain ⟨ysl, ha, hy⟩ := hL.puts [98, 99, 100, 101, 102, 103, 104, 105, 106, 107, 108, 109, 110, 111, 112, 113, 114] (by kernel_rfl)
                  have e4 : ysl 102 = _ := (hy 102).symm.trans d4
                  have e5 : ysl 103 = _ := (hy 103).symm.trans d5
                  clear hdep hL hy d4 d5
                  simp only [List.foldl, List.setIfInBounds_toArray, List.set_cons_succ, List.set_cons_zero, e4, e5] at ha
                  subst ha
                  clear e4 e5
                  refine wpOp_step rfl (fun K hK => ?_)
                  go_simp
                  exact hK _ _ ⟨_, rfl, (fun h => by cases h), rfl, But.refl _ _, wd_pure7 hW⟩
                · cases ho
                  intro fu act u hW hB hsz hL hdep
                  replace hB := hB [b, gL] (fun j hj hd k hk => by
                    by_cases y11 : j = 11
                    · rw [if_pos y11] at hk; simp at hk; simp [hk]
                    rw [if_neg y11] at hk
                    by_cases y17 : j = 17
                    · rw [if_pos y17] at hk; simp at hk; simp [hk]
                    rw [if_neg y17] at hk
                    cases hk)
                  have d6 := hdep { on := 6, ground := .data } (by simp) rfl _ rfl
                  obtain ⟨ysl, ha, hy⟩ := hL.puts [98, 99, 100, 101, 102, 103, 104, 105, 106, 107, 108, 109, 110, 111, 112, 113, 114] (by kernel_rfl)
                  have e6 : ysl 104 = _ := (hy 104).symm.trans d6
                  clear hdep hL hy d6
                  simp only [List.foldl, List.setIfInBounds_toArray, List.set_cons_succ, List.set_cons_zero, e6] at ha
                  subst ha
                  clear e6
                  refine wpOp_step rfl (fun K hK => ?_)
                  go_simp
                  exact hK _ _ ⟨_, rfl, (fun h => by cases h), rfl, But.refl _ _, wd_pure7 hW⟩
                · cases ho
                  intro fu act u hW hB hsz hL hdep
                  replace hB := hB [b] (fun j hj hd k hk => by
                    by_cases x17 : j = 17
                    · subst x17; exact (dep_no hd (by kernel_rfl)).elim
                    by_cases y11 : j = 11
                    · rw [if_pos y11] at hk; simp at hk; simp [hk]
                    rw [if_neg y11] at hk
                    rw [if_neg x17] at hk
                    cases hk)
                  have d7 := hdep { on := 7, ground := .data } (by simp) rfl _ rfl
                  obtain ⟨ysl, ha, hy⟩ := hL.puts [98, 99, 100, 101, 102, 103, 104, 105, 106, 107, 108, 109, 110, 111, 112, 113, 114] (by kernel_rfl)
                  have e7 : ysl 105 = _ := (hy 105).symm.trans d7
                  clear hdep hL hy d7
                  simp only [List.foldl, List.setIfInBounds_toArray, List.set_cons_succ, List.set_cons_zero, e7] at ha
                  subst ha
                  clear e7
                  have rl := HRL.out.but hB (by simp; omega)
                  have k1 := (rl.slot j (by omega)).2.1
                  refine wpOp_step rfl (fun K hK => ?_)
                  go_simp
                  exact hK _ _ ⟨_, rfl, (fun h => by cases h), ⟨_, rfl⟩, But.refl _ _, wd_pure7 hW⟩
                · cases ho
                  intro fu act u hW hB hsz hL hdep
                  replace hB := hB [b, gL] (fun j hj hd k hk => by
                    by_cases y11 : j = 11
                    · rw [if_pos y11] at hk; simp at hk; simp [hk]
                    rw [if_neg y11] at hk
                    by_cases y17 : j = 17
                    · rw [if_pos y17] at hk; simp at hk; simp [hk]
                    rw [if_neg y17] at hk
                    cases hk)
                  obtain ⟨ysl, ha, hy⟩ := hL.puts [98, 99, 100, 101, 102, 103, 104, 105, 106, 107, 108, 109, 110, 111, 112, 113, 114] (by kernel_rfl)
                  clear hdep hL hy
                  simp only [List.foldl, List.setIfInBounds_toArray, List.set_cons_succ, List.set_cons_zero] at ha
                  subst ha
                  obtain ⟨N1, hN1, hR⟩ := hW
                  refine wpOp_step rfl (fun K hK => ?_)
                  go_simp
                  refine hK _ _ ⟨_, rfl, (fun h => by cases h), ⟨u.heap.size, hsz, by simp, rfl, fun i hi => ?_⟩, But.of (Fr.alloc _ _), ⟨N1, by omega, hR.alloc _⟩⟩
                  have hi2 : i = 0 ∨ i = 1 ∨ i = 2 := by omega
                  rcases hi2 with rfl | rfl | rfl
                  · exact ⟨_, by simp; rfl⟩
                  · exact ⟨_, by simp; rfl⟩
                  · exact ⟨_, by simp; rfl⟩
                · cases ho
                  intro fu act u hW hB hsz hL hdep
                  replace hB := hB [b, gL] (fun j hj hd k hk => by
                    by_cases y11 : j = 11
                    · rw [if_pos y11] at hk; simp at hk; simp [hk]
                    rw [if_neg y11] at hk
                    by_cases y17 : j = 17
                    · rw [if_pos y17] at hk; simp at hk; simp [hk]
                    rw [if_neg y17] at hk
                    cases hk)
                  obtain ⟨ysl, ha, hy⟩ := hL.puts [98, 99, 100, 101, 102, 103, 104, 105, 106, 107, 108, 109, 110, 111, 112, 113, 114] (by kernel_rfl)
                  clear hdep hL hy
                  simp only [List.foldl, List.setIfInBounds_toArray, List.set_cons_succ, List.set_cons_zero] at ha
                  subst ha
                  refine wpOp_step rfl (fun K hK => ?_)
                  go_simp
                  exact hK _ _ ⟨_, rfl, (fun h => by cases h), rfl, But.refl _ _, wd_pure7 hW⟩
                · cases ho
                  intro fu act u hW hB hsz hL hdep
                  replace hB := hB [b, gL] (fun j hj hd k hk => by
                    by_cases y11 : j = 11
                    · rw [if_pos y11] at hk; simp at hk; simp [hk]
                    rw [if_neg y11] at hk
                    by_cases y17 : j = 17
                    · rw [if_pos y17] at hk; simp at hk; simp [hk]
                    rw [if_neg y17] at hk
                    cases hk)
                  have d10 := hdep { on := 10, ground := .data } (by simp) rfl _ rfl
                  obtain ⟨ysl, ha, hy⟩ := hL.puts [98, 99, 100, 101, 102, 103, 104, 105, 106, 107, 108, 109, 110, 111, 112, 113, 114] (by kernel_rfl)
                  have e10 : ysl 108 = _ := (hy 108).symm.trans d10
                  clear hdep hL hy d10
                  simp only [List.foldl, List.setIfInBounds_toArray, List.set_cons_succ, List.set_cons_zero, e10] at ha
                  subst ha
                  clear e10
                  obtain ⟨N1, hN1, hR⟩ := hW
                  refine wpOp_step rfl (fun K hK => ?_)
                  go_simp
                  refine (pick B N1 b _ u hR (by omega)).mono ?_
                  rintro e u' ⟨x, x0, x1, rfl, r, g⟩
                  go_simp
                  exact hK _ _ ⟨_, rfl, (fun h => by cases h), ⟨x, x0, x1 (by omega), rfl⟩, but_row g, ⟨N1 + 1, by omega, r⟩⟩
                · cases ho
                  intro fu act u hW hB hsz hL hdep
                  replace hB := hB [b, gL] (fun j hj hd k hk => by
                    by_cases y11 : j = 11
                    · rw [if_pos y11] at hk; simp at hk; simp [hk]
                    rw [if_neg y11] at hk
                    by_cases y17 : j = 17
                    · rw [if_pos y17] at hk; simp at hk; simp [hk]
                    rw [if_neg y17] at hk
                    cases hk)
                  have d9 := hdep { on := 9, ground := .data } (by simp) rfl _ rfl
                  have d11 := hdep { on := 11, ground := .data } (by simp) rfl _ rfl
                  obtain ⟨ysl, ha, hy⟩ := hL.puts [98, 99, 100, 101, 102, 103, 104, 105, 106, 107, 108, 109, 110, 111, 112, 113, 114] (by kernel_rfl)
                  obtain ⟨g9, gw9, gl9, h9, hc9⟩ := d9
                  have e9 : ysl 107 = .slice (some ⟨g9, 0, none⟩) 3 3 := (hy 107).symm.trans h9
                  obtain ⟨x11, x110, x111, h11⟩ := d11
                  have e11 : ysl 109 = .int .i64 x11 := (hy 109).symm.trans h11
                  clear hdep hL hy h9 h11
                  simp only [List.foldl, List.setIfInBounds_toArray, List.set_cons_succ, List.set_cons_zero, e9, e11] at ha
                  subst ha
                  clear e9 e11
                  obtain ⟨n12, hc12⟩ := hc9 x11.toNat (by omega)
                  refine wpOp_step rfl (fun K hK => ?_)
                  go_simp
                  exact hK _ _ ⟨_, rfl, (fun h => by cases h), ⟨g9, x11.toNat, gw9, gl9, rfl, n12, hc12⟩, But.refl _ _, wd_pure7 hW⟩
                · cases ho
                  intro fu act u hW hB hsz hL hdep
                  replace hB := hB [b, gL] (fun j hj hd k hk => by
                    by_cases y11 : j = 11
                    · rw [if_pos y11] at hk; simp at hk; simp [hk]
                    rw [if_neg y11] at hk
                    by_cases y17 : j = 17
                    · rw [if_pos y17] at hk; simp at hk; simp [hk]
                    rw [if_neg y17] at hk
                    cases hk)
                  have d12 := hdep { on := 12, ground := .data } (by simp) rfl _ rfl
                  obtain ⟨ysl, ha, hy⟩ := hL.puts [98, 99, 100, 101, 102, 103, 104, 105, 106, 107, 108, 109, 110, 111, 112, 113, 114] (by kernel_rfl)
                  obtain ⟨g12, o12, gw12, gl12, h12, n12, hc12⟩ := d12
                  have e12 : ysl 110 = .pointer (some ⟨g12, o12, none⟩) := (hy 110).symm.trans h12
                  clear hdep hL hy h12
                  simp only [List.foldl, List.setIfInBounds_toArray, List.set_cons_succ, List.set_cons_zero, e12] at ha
                  subst ha
                  clear e12
                  refine wpOp_step rfl (fun K hK => ?_)
                  go_simp
                  exact hK _ _ ⟨_, rfl, (fun h => by cases h), ⟨n12, rfl⟩, But.refl _ _, wd_pure7 hW⟩
                · cases ho
                  intro fu act u hW hB hsz hL hdep
                  replace hB := hB [b, gL] (fun j hj hd k hk => by
                    by_cases y11 : j = 11
                    · rw [if_pos y11] at hk; simp at hk; simp [hk]
                    rw [if_neg y11] at hk
                    by_cases y17 : j = 17
                    · rw [if_pos y17] at hk; simp at hk; simp [hk]
                    rw [if_neg y17] at hk
                    cases hk)
                  have d8 := hdep { on := 8, ground := .data } (by simp) rfl _ rfl
                  have d13 := hdep { on := 13, ground := .data } (by simp) rfl _ rfl
                  obtain ⟨ysl, ha, hy⟩ := hL.puts [98, 99, 100, 101, 102, 103, 104, 105, 106, 107, 108, 109, 110, 111, 112, 113, 114] (by kernel_rfl)
                  obtain ⟨x8, h8⟩ := d8
                  have e8 : ysl 106 = .int .i64 x8 := (hy 106).symm.trans h8
                  obtain ⟨x13, h13⟩ := d13
                  have e13 : ysl 111 = .int .i64 x13 := (hy 111).symm.trans h13
                  clear hdep hL hy h8 h13
                  simp only [List.foldl, List.setIfInBounds_toArray, List.set_cons_succ, List.set_cons_zero, e8, e13] at ha
                  subst ha
                  clear e8 e13
                  refine wpOp_step rfl (fun K hK => ?_)
                  go_simp
                  exact hK _ _ ⟨_, rfl, (fun h => by cases h), ⟨_, rfl⟩, But.refl _ _, wd_pure7 hW⟩
                · cases ho
                  intro fu act u hW hB hsz hL hdep
                  replace hB := hB [b, gL] (fun j hj hd k hk => by
                    by_cases y11 : j = 11
                    · rw [if_pos y11] at hk; simp at hk; simp [hk]
                    rw [if_neg y11] at hk
                    by_cases y17 : j = 17
                    · rw [if_pos y17] at hk; simp at hk; simp [hk]
                    rw [if_neg y17] at hk
                    cases hk)
                  have d1 := hdep { on := 1, ground := .data } (by simp) rfl _ rfl
                  have d2 := hdep { on := 2, ground := .data } (by simp) rfl _ rfl
                  obtain ⟨ysl, ha, hy⟩ := hL.puts [98, 99, 100, 101, 102, 103, 104, 105, 106, 107, 108, 109, 110, 111, 112, 113, 114] (by kernel_rfl)
                  have e1 : ysl 99 = _ := (hy 99).symm.trans d1
                  have e2 : ysl 100 = _ := (hy 100).symm.trans d2
                  clear hdep hL hy d1 d2
                  simp only [List.foldl, List.setIfInBounds_toArray, List.set_cons_succ, List.set_cons_zero, e1, e2] at ha
                  subst ha
                  clear e1 e2
                  refine wpOp_step rfl (fun K hK => ?_)
                  go_simp
                  exact hK _ _ ⟨_, rfl, (fun h => by cases h), rfl, But.refl _ _, wd_pure7 hW⟩
                · cases ho
                  intro fu act u hW hB hsz hL hdep
                  replace hB := hB [b, gL] (fun j hj hd k hk => by
                    by_cases y11 : j = 11
                    · rw [if_pos y11] at hk; simp at hk; simp [hk]
                    rw [if_neg y11] at hk
                    by_cases y17 : j = 17
                    · rw [if_pos y17] at hk; simp at hk; simp [hk]
                    rw [if_neg y17] at hk
                    cases hk)
                  have d15 := hdep { on := 15, ground := .data } (by simp) rfl _ rfl
                  obtain ⟨ysl, ha, hy⟩ := hL.puts [98, 99, 100, 101, 102, 103, 104, 105, 106, 107, 108, 109, 110, 111, 112, 113, 114] (by kernel_rfl)
                  have e15 : ysl 113 = _ := (hy 113).symm.trans d15
                  clear hdep hL hy d15
                  simp only [List.foldl, List.setIfInBounds_toArray, List.set_cons_succ, List.set_cons_zero, e15] at ha
                  subst ha
                  clear e15
                  refine wpOp_step rfl (fun K hK => ?_)
                  go_simp
                  exact hK _ _ ⟨_, rfl, (fun h => by cases h), rfl, But.refl _ _, wd_pure7 hW⟩
                · cases ho
                  intro fu act u hW hB hsz hL hdep
                  replace hB := hB [b] (fun j hj hd k hk => by
                    by_cases x17 : j = 17
                    · exact absurd x17 hj
                    by_cases y11 : j = 11
                    · rw [if_pos y11] at hk; simp at hk; simp [hk]
                    rw [if_neg y11] at hk
                    rw [if_neg x17] at hk
                    cases hk)
                  have d14 := hdep { on := 14, ground := .data } (by simp) rfl _ rfl
                  have d16 := hdep { on := 16, ground := .data } (by simp) rfl _ rfl
                  obtain ⟨ysl, ha, hy⟩ := hL.puts [98, 99, 100, 101, 102, 103, 104, 105, 106, 107, 108, 109, 110, 111, 112, 113, 114] (by kernel_rfl)
                  obtain ⟨x14, h14⟩ := d14
                  have e14 : ysl 112 = .int .i64 x14 := (hy 112).symm.trans h14
                  have e16 : ysl 114 = _ := (hy 114).symm.trans d16
                  clear hdep hL hy d16 h14
                  simp only [List.foldl, List.setIfInBounds_toArray, List.set_cons_succ, List.set_cons_zero, e14, e16] at ha
                  subst ha
                  clear e14 e16
                  obtain ⟨N1, hN1, hR⟩ := hW
                  have rl := HRL.out.but hB (by simp; omega)
                  have k1 := (rl.slot j (by omega)).2.1
                  have f1 := (rl.there4 j (by omega) 1 (by omega)).2
                  have r17 := rl.set1 j 1 ⟨⟨l.n.u, x14, l.n.d, l.n.W⟩, l.a, l.c⟩ (.int .i64 x14) (by omega) (by omega) (by rw [HLk.out]; rfl)
                  refine wpOp_step rfl (fun K hK => ?_)
                  go_simp
                  exact hK _ _ ⟨undef, rfl, (fun _ => rfl), ⟨x14, r17⟩, (But.refl [gL] u).set gL (j * 4 + 1) (.int .i64 x14) (.inl (by simp)), ⟨N1, by omega, hR.setOther _ _ _ (by omega)⟩⟩
                · exact absurd ho (by simp)
              case fin =>
                intro act u hW hsz hB hL hsf
                replace hB := hB [b, gL] (fun j k hk => by
                  by_cases y11 : j = 11
                  · rw [if_pos y11] at hk; simp at hk; simp [hk]
                  rw [if_neg y11] at hk
                  by_cases y17 : j = 17
                  · rw [if_pos y17] at hk; simp at hk; simp [hk]
                  rw [if_neg y17] at hk
                  cases hk)
                have d17 := hsf 17 _ rfl
                obtain ⟨ysl, ha, hy⟩ := hL.puts [98, 99, 100, 101, 102, 103, 104, 105, 106, 107, 108, 109, 110, 111, 112, 113, 114] (by kernel_rfl)
                clear hL hsf hy
                simp only [List.foldl, List.setIfInBounds_toArray, List.set_cons_succ, List.set_cons_zero] at ha
                subst ha
                obtain ⟨N1, hN1, hR⟩ := hW
                obtain ⟨x17, r17⟩ := d17
                have HQ := Lib.hid (HP6.out.row hR hB j HLk.out x17 r17)
                clear hB hR r17 HP6 HRL
                obtain ⟨_, y0, y1, _, _⟩ := HQ.out.bx
                obtain ⟨_, z0, z1, o0, o1⟩ := HQ.out.z0
                have nzs : ¬ Z = w.heap.size := by have := HQ.out.zb; omega
                have nzs2 : ¬ w.heap.size = Z := by have := HQ.out.zb; omega
                go_wp2_with fail
                refine bodyPost_ret (v := .agg #[.slice (some ⟨gM, 0, none⟩) 256 cM, .slice (some ⟨gL, 0, none⟩) 4 cL]) (by simp [results, Try.results85, go_sem, z0, z1, hMl, hXl]) rfl (HQ.out.doneL (N' := N + 2000) (by omega) hn (by simp [hMl]) (by simp [hXl]))
            · have HQ := Lib.hid (HP6.out.setU j hj HLk.out (!l.n.u)).drewQ
              clear nM nL q0 q1 c0
              have hj4 : (j : Int) < 4 := by omega
              have hj0 : (0 : Int) ≤ (j : Int) := Int.natCast_nonneg _
              go_upto_region 29 with fail
              go_still_tail 12, (by kernel_rfl)
              change wpList _ _ _ _ _ u6.drew
              go_upto_region 32 with fail
              clear HP6 s0 s1 s2 s3 t0 t2 t3 c1 HRL
              generalize (u6.setCell ⟨gL, j * 4, none⟩ (.bool (!l.n.u))).drew = u9 at *
              obtain ⟨_, y0, y1, _, _⟩ := HQ.out.bx
              obtain ⟨_, z0, z1, o0, o1⟩ := HQ.out.z0
              have nzs : ¬ Z = w.heap.size := by have := HQ.out.zb; omega
              have nzs2 : ¬ w.heap.size = Z := by have := HQ.out.zb; omega
              go_wp2_with fail
              refine bodyPost_ret (v := .agg #[.slice (some ⟨gM, 0, none⟩) 256 cM, .slice (some ⟨gL, 0, none⟩) 4 cL]) (by simp [results, Try.results85, go_sem, z0, z1, hMl, hXl]) rfl (HQ.out.doneL (N' := N + 2000) (by omega) hn (by simp [hMl]) (by simp [hXl]))
            · clear nM nL q0 q1 c0
              have HRc := Lib.hid (HP6.out.rc j hj)
              have HW4 := Lib.hid (HP6.out.w4 j hj)
              rw [HLk.out] at HRc HW4
              have hnL : gL ∉ bkS l.n.W.length l.a := fun m => HP6.out.V.pL gL (bkS_mem (b := ⟨gL, 0, none⟩) (by omega)) j (by omega) (by rw [HLk.out]; exact m)
              have hnZ : Z ∉ bkS l.n.W.length l.a := fun m => HP6.out.nz Z (List.mem_append_right _ (List.mem_append_right _ (wbks_mem (i := j) (by omega) (by rw [HLk.out]; exact m)))) rfl
              have NL := Lib.hid hnL
              have NZ := Lib.hid hnZ
              have hgl := HRL.out.lt
              have hzl := HP6.out.bx.lt
              have hws : w.heap.size + 1 ≤ u6.heap.size := by have := HP6.out.zb; omega
              have hj4 : (j : Int) < 4 := by omega
              have hj0 : (0 : Int) ≤ (j : Int) := Int.natCast_nonneg _
              clear hnL hnZ
              go_upto_region 31 with fail
              go_region_law (first
                  | (rw [if_pos (by simp [Region.wanted])]; refine wp_append_rc _ _ rfl (w.heap.size + 1) l.n.W l.a l.c rfl (HRc.out.fr (by (repeat' first | (with_reducible exact Below.refl _ _) | (with_reducible assumption) | ((with_reducible refine Below.setCell ?_ ?hb _); (case hb => first | exact Nat.le_refl _ | (simp; done) | (simp; omega) | omega)) | ((with_reducible refine Below.alloc ?_ ?hb _); (case hb => first | exact Nat.le_refl _ | (simp; done) | (simp; omega) | omega)) | (with_reducible refine Below.drew ?_)))) 1 _ rfl (by simp) HW4.out (by simp; omega) ?_; intro g2 c2 v3 r3 ca3 hB3 hgo3 b3; have e1 := (thr (show Fr u6 _ by (repeat' first | (with_reducible exact Below.refl _ _) | (with_reducible assumption) | ((with_reducible refine Below.setCell ?_ ?hb _); (case hb => first | exact Nat.le_refl _ | (simp; done) | (simp; omega) | omega)) | ((with_reducible refine Below.alloc ?_ ?hb _); (case hb => first | exact Nat.le_refl _ | (simp; done) | (simp; omega) | omega)) | (with_reducible refine Below.drew ?_))) b3 hzl NZ.out).trans c1; have e3 := (thr (show Fr u6 _ by (repeat' first | (with_reducible exact Below.refl _ _) | (with_reducible assumption) | ((with_reducible refine Below.setCell ?_ ?hb _); (case hb => first | exact Nat.le_refl _ | (simp; done) | (simp; omega) | omega)) | ((with_reducible refine Below.alloc ?_ ?hb _); (case hb => first | exact Nat.le_refl _ | (simp; done) | (simp; omega) | omega)) | (with_reducible refine Below.drew ?_))) b3 hgl NL.out).trans s3; have f3 := (thrF (show Fr u6 _ by (repeat' first | (with_reducible exact Below.refl _ _) | (with_reducible assumption) | ((with_reducible refine Below.setCell ?_ ?hb _); (case hb => first | exact Nat.le_refl _ | (simp; done) | (simp; omega) | omega)) | ((with_reducible refine Below.alloc ?_ ?hb _); (case hb => first | exact Nat.le_refl _ | (simp; done) | (simp; omega) | omega)) | (with_reducible refine Below.drew ?_))) b3 hgl NL.out).trans t3; have R3 := Lib.hid r3; have GO3 := Lib.hid (hgo3.imp_right (fun h => Nat.le_trans (show Fr u6 _ by (repeat' first | (with_reducible exact Below.refl _ _) | (with_reducible assumption) | ((with_reducible refine Below.setCell ?_ ?hb _); (case hb => first | exact Nat.le_refl _ | (simp; done) | (simp; omega) | omega)) | ((with_reducible refine Below.alloc ?_ ?hb _); (case hb => first | exact Nat.le_refl _ | (simp; done) | (simp; omega) | omega)) | (with_reducible refine Below.drew ?_))).size h)); have FS := Lib.hid (But.trans (But.of (show Fr u6 _ by (repeat' first | (with_reducible exact Below.refl _ _) | (with_reducible assumption) | ((with_reducible refine Below.setCell ?_ ?hb _); (case hb => first | exact Nat.le_refl _ | (simp; done) | (simp; omega) | omega)) | ((with_reducible refine Below.alloc ?_ ?hb _); (case hb => first | exact Nat.le_refl _ | (simp; done) | (simp; omega) | omega)) | (with_reducible refine Below.drew ?_)))) b3); clear r3 hgo3 b3 hB3 ca3))
              all_goals
                have HQ := Lib.hid (HP6.out.appL (c2 := c2) j hj HLk.out FS.out R3.out GO3.out)
                clear e1 e3 f3 s0 s1 s2 s3 t0 t2 t3 c1 FS R3 GO3 HRc HW4 HRL HP6
                obtain ⟨_, y0, y1, _, _⟩ := HQ.out.bx
                obtain ⟨_, z0, z1, o0, o1⟩ := HQ.out.z0
                have nzs : ¬ Z = w.heap.size := by have := HQ.out.zb; omega
                have nzs2 : ¬ w.heap.size = Z := by have := HQ.out.zb; omega
                go_wp2_with fail
                refine bodyPost_ret (v := .agg #[.slice (some ⟨gM, 0, none⟩) 256 cM, .slice (some ⟨gL, 0, none⟩) 4 cL]) (by simp [results, Try.results85, go_sem, z0, z1, hMl, hXl]) rfl (HQ.out.doneL (N' := N + 2000) (by omega) hn (by simp [hMl]) (by simp [hXl]))
            · have HQ := Lib.hid (HP6.out.setD j hj HLk.out (!l.n.d)).drewQ
              clear nM nL q0 q1 c0
              have hj4 : (j : Int) < 4 := by omega
              have hj0 : (0 : Int) ≤ (j : Int) := Int.natCast_nonneg _
              go_upto_region 21 with fail
              go_still_tail 12, (by kernel_rfl)
              change wpList _ _ _ _ _ u6.drew
              go_upto_region 32 with fail
              clear HP6 s0 s1 s2 s3 t0 t2 t3 c1 HRL
              generalize (u6.setCell ⟨gL, j * 4 + 2, none⟩ (.bool (!l.n.d))).drew = u9 at *
              obtain ⟨_, y0, y1, _, _⟩ := HQ.out.bx
              obtain ⟨_, z0, z1, o0, o1⟩ := HQ.out.z0
              have nzs : ¬ Z = w.heap.size := by have := HQ.out.zb; omega
              have nzs2 : ¬ w.heap.size = Z := by have := HQ.out.zb; omega
              go_wp2_with fail
              refine bodyPost_ret (v := .agg #[.slice (some ⟨gM, 0, none⟩) 256 cM, .slice (some ⟨gL, 0, none⟩) 4 cL]) (by simp [results, Try.results85, go_sem, z0, z1, hMl, hXl]) rfl (HQ.out.doneL (N' := N + 2000) (by omega) hn (by simp [hMl]) (by simp [hXl]))

end Go.Proofs.Ytoacgjjpipdkjaa
