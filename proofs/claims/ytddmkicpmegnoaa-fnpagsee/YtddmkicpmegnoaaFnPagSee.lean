/- For every code (any bytes), law FnPagSee returns true and its argument reads as before (no condition). -/
import Derived.Test.YtddmkicpmegnoaaRows
import Derived.Test.YtddmkicpmegnoaaPl6
import Derived.Test.YtddmkicpmegnoaaDrawPd
import Derived.Test.YtddmkicpmegnoaaPfacts
import Derived.WalkKit
import Derived.ProofKit
import Derived.OpenShut
import Derived.ShutString
import Derived.ChangeOld
import Derived.Below
namespace Go.Proofs.Ytddmkicpmegnoaa.fnPagSee
open Go.ChangeShapes Go.WideShapes Go.ChangeAt Go.RowKit
set_option linter.unusedVariables false
set_option linter.unusedSimpArgs false

theorem own : ownKnob Try.prog.godebug = none := by kernel_rfl
theorem laidOut : laidOutB Try.prog = true := by kernel_rfl

def IsRow (k : IntKind) (w : World) (a : Option Addr) (len cap : Nat) (zs : List Int) : Prop :=
  (a = none ∧ len = 0 ∧ cap = 0 ∧ zs = []) ∨
  ∃ x, a = some x ∧ len ≤ cap ∧ cap ≤ maxLen ∧ zs.length = cap ∧ (∀ i, i < zs.length → w.cell? (x.add i) = some (.int k (zs.getD i 0))) ∧ ∀ n ∈ zs, (Lit.int k n).wf = true

set_option maxRecDepth 8000 in
set_option maxHeartbeats 8000000 in
theorem walk (a0 : Option Addr) (len0 cap0 : Nat) (z0 : List Int) (w : World) (w0 : IsRow .u8 w a0 len0 cap0 z0) :
    Calls Try.prog 9 #[.slice a0 len0 cap0] w fun e w' => e = .returned (.bool true) ∧ Below w.heap.size w w' := by
  have hc : Code1 w.heap.size w a0 len0 cap0 := by
    rcases w0 with ⟨rfl, rfl, rfl, rfl⟩ | ⟨x, rfl, hl, hm, hz, hcell, hwz⟩
    · exact ⟨Nat.le_refl _, Nat.le_refl _, Nat.zero_le _, .inl rfl, fun _ => rfl⟩
    · exact ⟨Nat.le_refl _, hl, hm, bytes_of_row hl hz hcell hwz, fun h => by cases h⟩
  clear w0 z0
  go_enter Try.func9, Try.ntmps9
  by_cases hl : len0 ≤ 1048576
  · have hl' : ¬ (1048576 : Int) < (len0 : Int) := by omega
    go_wp2_with fail
    refine (DrawPagSee a0 len0 cap0 w hc).mono ?_
    rintro e u1 ⟨s, aR, aC, aM, cR, cC, cM, r, ⟨x, q, rfl⟩, hf, he, hS, f1⟩
    have he2 : e = .returned (.tuple #[.agg #[.int .i64 s.pc, .slice aR s.R.length cR, .slice aC s.C.length cC, .slice aM s.M.length cM], .int .i64 x, .bool q]) := he
    subst he2
    clear he hc
    have HS := Lib.hid (hS.fr (Fr.alloc u1 (.cells #[.int .i64 s.pc, .slice aR s.R.length cR, .slice aC s.C.length cC, .slice aM s.M.length cM] 27)))
    have HF := Lib.hid (Fr.trans f1 (Fr.alloc u1 (.cells #[.int .i64 s.pc, .slice aR s.R.length cR, .slice aC s.C.length cC, .slice aM s.M.length cM] 27)))
    have HX := Lib.hid (Box4.new u1 (.int .i64 s.pc) (.slice aR s.R.length cR) (.slice aC s.C.length cC) (.slice aM s.M.length cM) 27 _ rfl)
    clear hS f1
    go_wp2_with fail
    generalize (u1.alloc (.cells #[.int .i64 s.pc, .slice aR s.R.length cR, .slice aC s.C.length cC, .slice aM s.M.length cM] 27)) = u2 at *
    generalize u1.heap.size = X at *
    have HS2 := Lib.hid HS.out
    have HF2 := Lib.hid HF.out
    have HX2 := Lib.hid HX.out
    clear HS HF HX
    refine (impl_PagSee s aR aC aM cR cC cM x q u2 HS2.out hf.few).mono ?_
    rintro e u3 ⟨rfl, f3⟩
    have HS3 := Lib.hid (HS2.out.fr f3)
    have HF3 := Lib.hid (Fr.trans HF2.out f3)
    have HX3 := Lib.hid (HX2.out.fr f3)
    clear f3 HS2 HF2 HX2
    obtain ⟨_, x0, x1, x2, x3, _, _, _, _⟩ := HX3.out
    go_wp2_with fail
    refine (spec_PagSee s aR aC aM cR cC cM x q u3 HS3.out hf.few).mono ?_
    rintro e u4 ⟨rfl, f4⟩
    clear x0 x1 x2 x3
    have HS4 := Lib.hid (HS3.out.fr f4)
    have HF4 := Lib.hid (Fr.trans HF3.out f4)
    have HX4 := Lib.hid (HX3.out.fr f4)
    clear f4 HS3 HF3 HX3
    obtain ⟨_, x0, x1, x2, x3, _, _, _, _⟩ := HX4.out
    have hq : (seeD s x q != seeD s x q) = false := by simp
    have HA := Lib.hid (show seeD s x q = if okS s = true ∧ okB x = true then see s.C s.M x q else -1 from rfl)
    have HL := Lib.hid (show seeD s x false = if okS s = true ∧ okB x = true then see s.C s.M x false else -1 from rfl)
    generalize hAg : seeD s x q = A at *
    clear hAg
    go_wp2_with fail
    refine (spec_PlnOk s aR aC aM cR cC cM u4 HS4.out hf.few).mono ?_
    rintro e u5 ⟨rfl, f5⟩
    clear x0 x1 x2 x3
    have HS5 := Lib.hid (HS4.out.fr f5)
    have HF5 := Lib.hid (Fr.trans HF4.out f5)
    have HX5 := Lib.hid (HX4.out.fr f5)
    clear f5 HS4 HF4 HX4
    cases hk : okS s
    · have ha : A = -1 := by rw [HA.out, if_neg (by simp [hk])]
      subst ha
      go_wp2_with (first | (go_at_call 29; refine (laws_haOk _).mono ?_; rintro e w' ⟨rfl, rfl⟩))
      go_ret
      exact ⟨rfl, HF5.out⟩
    · cases hw : okB x
      · have ha : A = -1 := by rw [HA.out, if_neg (by simp [hw])]
        subst ha
        go_wp2_with (first | (go_at_call 32; refine (spec_WrdOk _ _).mono ?_; rintro e w' ⟨rfl, rfl⟩; rw [hw]) | (go_at_call 29; refine (laws_haOk _).mono ?_; rintro e w' ⟨rfl, rfl⟩))
        go_ret
        exact ⟨rfl, HF5.out⟩
      · have ha : A = see s.C s.M x q := by rw [HA.out, if_pos ⟨hk, hw⟩]
        have HK := Lib.hid ((okS_iff s).1 hk)
        have hx := okB_true hw
        have hL : seeD s x false = see s.C s.M x false := by rw [HL.out, if_pos ⟨hk, hw⟩]
        have hbd := see_bd s.C s.M x q hx.1
        rw [← ha] at hbd
        have hsv : q = true → 0 ≤ A → see s.C s.M x false = A := fun hq2 h0 => by rw [ha] at h0 ⊢; subst hq2; exact see_save h0
        have hLC := HK.out.Cl
        obtain ⟨gc, oc, rfl, hgc, _, _, d3⟩ := ctl_at HS5.out.C hLC
        rw [hLC] at HX5
        have hc30 := (ok_get HK.out.C 3).1
        have h2 : s.C.getD 3 0 % 2 = 0 ∨ s.C.getD 3 0 % 2 = 1 := by omega
        have HSEE := Lib.hid ha
        have HHL := Lib.hid hL
        have HBD := Lib.hid hbd
        have HSV := Lib.hid hsv
        clear ha hL hbd hsv hLC HA HL
        obtain ⟨_, x0, x1, x2, x3, _, _, _, _⟩ := HX5.out
        have hst : ∀ v : Bool, Calls Try.prog 32 #[.int .i64 x] u5 fun e w' => e = .returned (.bool true) ∧ u5 = w' := fun _ => by rw [← hw]; exact spec_WrdOk _ _
        go_wp2_with (go_at_call 32; refine (hst true).mono ?_; rintro e w' ⟨rfl, rfl⟩)
        have hlen : s.C.length = 5 := HK.out.Cl
        have E := impl_PagSee s aR (some ⟨gc, oc, none⟩) aM cR cC cM x false u5 HS5.out hf.few
        rw [hlen] at E
        refine E.mono ?_
        rintro e u6 ⟨rfl, f6⟩
        clear x0 x1 x2 x3 E hlen hst
        have d36 : u6.cell? ⟨gc, oc + 3, none⟩ = some (.int .i64 (s.C.getD 3 0)) := by rw [f6.cell hgc]; exact d3
        have HX6 := Lib.hid (HX5.out.fr f6)
        have HF6 := Lib.hid (Fr.trans HF5.out f6)
        clear f6 HX5 HF5 HS5 d3 hgc
        obtain ⟨_, x0, x1, x2, x3, _, _, _, _⟩ := HX6.out
        rw [HHL.out]
        have hb1 := HBD.out.1
        have hb2 := HBD.out.2
        have na : ¬ 256 ≤ A := by omega
        have fin : ∀ L : Int, L = see s.C s.M x false → (q = true ∧ 0 ≤ A → L = A) := fun L hL h => by rw [hL]; exact HSV.out h.1 h.2
        generalize hLg : see s.C s.M x false = L at *
        have hLA : q = true ∧ 0 ≤ A → L = A := fin L rfl
        clear fin hLg HHL HSV
        generalize hc3 : s.C.getD 3 0 = c3 at *
        have key0 : c3 % 2 = 0 → (x < 256 → A = x) ∧ (256 ≤ x → A = -1) := fun h => by
          have := HSEE.out
          unfold see at this
          rw [hc3, if_pos h] at this
          constructor <;> intro hx2 <;> rw [this]
          · rw [if_pos hx2]
          · rw [if_neg (by omega)]
        have key1 : c3 % 2 = 1 → A = -1 ∨ (A % 16 = x % 16 ∧ x < 256) := fun h => by
          have := HSEE.out
          unfold see at this
          rw [hc3, if_neg (by omega)] at this
          split at this
          · exact .inl this
          · rename_i hn
            unfold frame at this
            split at this
            · exact .inl this
            · right; omega
        have hxx := hx
        rcases h2 with h2 | h2
        · have ht : c3.tmod 2 = 0 := by rw [Int.tmod_eq_emod_of_nonneg hc30]; exact h2
          obtain ⟨kA, kB⟩ := key0 h2
          clear key0 key1
          by_cases hx256 : x < 256
          · have hAx := kA hx256
            subst hAx
            have n1 : (A == -1) = false := by simp; omega
            have n2 : ¬ 256 ≤ A := by omega
            have n3 : (true == decide (A < 256)) = true := by simp; omega
            have n4 : (false == decide (256 ≤ A)) = true := by simp; omega
            have n5 : (A == A) = true := by simp
            have n6 : decide (A < 256) = true := by simp; omega
            have n7 : decide (256 ≤ A) = false := by simp; omega
            cases q
            · go_wp2
              go_ret
              exact ⟨ret_bool (by first | rfl | (simp; done) | (simp; omega) | (simp [*]; done)), HF6.out⟩
            · have hLL := hLA ⟨rfl, by omega⟩
              subst hLL
              have h0 : 0 ≤ L := by omega
              go_wp2
              go_ret
              exact ⟨ret_bool (by first | rfl | (simp; done) | (simp; omega) | (simp [*]; done)), HF6.out⟩
          · have hAx := kB (by omega)
            subst hAx
            have n1 : ((-1 : Int) == x) = false := by simp; omega
            have n2 : 256 ≤ x := by omega
            have n3 : (false == decide (x < 256)) = true := by simp; omega
            have n6 : decide (x < 256) = false := by simp; omega
            have n7 : decide (256 ≤ x) = true := by simp; omega
            cases q
            · go_wp2
              go_ret
              exact ⟨ret_bool (by first | rfl | (simp; done) | (simp; omega) | (simp [*]; done)), HF6.out⟩
            · go_wp2
              go_ret
              exact ⟨ret_bool (by first | rfl | (simp; done) | (simp; omega) | (simp [*]; done)), HF6.out⟩
        · have ht : c3.tmod 2 = 1 := by rw [Int.tmod_eq_emod_of_nonneg hc30]; exact h2
          rcases key1 h2 with hA1 | ⟨hA1, hA2⟩
          · subst hA1
            clear key0 key1
            cases q
            · go_wp2
              go_ret
              exact ⟨ret_bool (by first | rfl | (simp; done) | (simp; omega) | (simp [*]; done)), HF6.out⟩
            · go_wp2
              go_ret
              exact ⟨ret_bool (by first | rfl | (simp; done) | (simp; omega) | (simp [*]; done)), HF6.out⟩
          · clear key0 key1
            by_cases hAm : A = -1
            · subst hAm
              cases q
              · go_wp2
                go_ret
                exact ⟨rfl, HF6.out⟩
              · go_wp2
                go_ret
                exact ⟨rfl, HF6.out⟩
            · have h0 : 0 ≤ A := by omega
              have ht2 : A.tmod 16 = x.tmod 16 := by rw [Int.tmod_eq_emod_of_nonneg h0, Int.tmod_eq_emod_of_nonneg hxx.1]; exact hA1
              cases q
              · go_wp2
                go_ret
                exact ⟨rfl, HF6.out⟩
              · have hLL := hLA ⟨rfl, h0⟩
                subst hLL
                go_wp2
                go_ret
                exact ⟨rfl, HF6.out⟩
  · go_wp2
    go_ret
    exact ⟨rfl, Below.refl _ _⟩

set_option maxRecDepth 100000 in
theorem lifted (os : Os) (started : os.Started) (H : Type) (enc : TypeId × Value → H) :
    ReturnsInHanded {} Try.checked os 9 .any (Rows.fnPagSeeSpec.pre6 enc Try.prog Try.f9 Rows.fnPagSeeRow.domain false) (Rows.fnPagSeeSpec.post enc Try.prog Try.f9 false true false false) := by
  refine returnsInHanded_of_change (C := Try.checked) own started (by kernel_rfl) Try.func9
    (ChangeSpec.witness6 (enc := enc) (C := Try.checked) false ⟨#[], #[.slice none 0 0], []⟩ 8 (by kernel_rfl) (by kernel_rfl) (by kernel_rfl) (by kernel_rfl)) ?_
  intro W base args ds gs before hval0 hW hcnd _
  have hval : ∀ (j : Nat) t v, Try.f9.params[j]? = some t → args[j]? = some v → Value.okWide Try.prog W .any base t v := hval0
  have hW' := hW
  obtain ⟨p, q, hA0, hV, rfl, hfz, hnd⟩ := hW
  have hA : DataW.TrodAll enc Try.prog W 0 (fun _ => true) true Try.f9.params.toList args.toList ds p := hA0
  rw [Try.params9] at hA hval
  obtain ⟨v0, vs0, d0, ds0, p0, q0, hargs, rfl, rfl, h0, r0⟩ := trodAll_cons hA
  obtain ⟨rfl, rfl, rfl⟩ := trodAll_nil r0
  obtain rfl : args = #[v0] := by cases args; simp_all
  obtain ⟨rfl, rfl⟩ := trodVars_none hV
  obtain ⟨a0, len0, cap0, rfl⟩ := okWide_slice Try.underlying41 (hval 0 41 v0 rfl rfl)
  have k0 := h0
  have lt0 : ∀ x ∈ p0, x.block < W.heap.size := by obtain ⟨m, hm⟩ := k0; exact DataW.trod_lt m _ _ _ hm
  obtain ⟨z0, w0⟩ : ∃ zs, IsRow .u8 W a0 len0 cap0 zs := by
    obtain ⟨fuel, hf⟩ := h0
    rcases open_ints Try.underlying41 Try.underlying5 (by kernel_rfl) hf with ⟨hcs, _⟩ | ⟨x, l, c, zs, hcs, _, hl, hm, hz, _, hcell, hwz⟩
    · simp [Value.cells] at hcs
      obtain ⟨rfl, rfl, rfl⟩ := hcs
      exact ⟨[], .inl ⟨rfl, rfl, rfl, rfl⟩⟩
    · simp [Value.cells] at hcs
      obtain ⟨rfl, rfl, rfl⟩ := hcs
      exact ⟨zs, .inr ⟨_, rfl, hl, hm, by simpa using hz, hcell, hwz⟩⟩
  clear hA0 hval0
  refine (walk a0 len0 cap0 z0 W w0).mono fun e W' ⟨he, bel⟩ => ?_
  subst he
  exact ⟨_, rfl, _, _, _, [], _, [], hW', trodAll_mk1 (shut_bool Try.underlying4 _), (trodAll_cons_mk (Below.trod laidOut (by kernel_rfl) (of_decide_eq_true (by kernel_rfl)) k0 bel lt0) trodAll_mk0), rfl, bel.frame _, fun h => by cases h⟩

theorem over : Rows.fnPagSeeRow.holds Try.pinned (OpenSpec.ofChange Rows.fnPagSeeSpec) :=
  OpenClaim.holds_of_wide 9 Try.f9 rfl rfl rfl rfl rfl rfl rfl ⟨rfl, rfl, rfl, rfl, rfl⟩ rfl rfl rfl rfl rfl (by kernel_rfl) Try.func9 (by kernel_rfl)
    (of_decide_eq_true (by kernel_rfl)) (by unfold Func.isWrapper; first | (rw [if_pos (by decide +kernel)]; kernel_rfl) | (rw [if_neg (by decide +kernel)]; exact ⟨rfl, rfl⟩))
    (fun os started H enc _ => lifted os started H enc)

/-- THE STATEMENT. -/
theorem proved : Rows.FnPagSeeSaid := over
#print axioms proved
end Go.Proofs.Ytddmkicpmegnoaa.fnPagSee
