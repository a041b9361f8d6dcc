/- What comes from outside: what is ok, of the model and of the program; InAll of both. -/
import Derived.Test.YtoacgjjpipdkjaaPl0
import Derived.Test.YtoacgjjpipdkjaaWords
namespace Go.Proofs.Ytoacgjjpipdkjaa
open Go.RowKit
set_option linter.unusedVariables false
set_option linter.unusedSimpArgs false
/-- Five cells of a block that may be written. -/
structure Box5 (u : World) (g : Nat) (a b c d e : Value) : Prop where
  lt : g < u.heap.size
  c0 : u.cell? ⟨g, 0, none⟩ = some a
  c1 : u.cell? ⟨g, 1, none⟩ = some b
  c2 : u.cell? ⟨g, 2, none⟩ = some c
  c3 : u.cell? ⟨g, 3, none⟩ = some d
  c4 : u.cell? ⟨g, 4, none⟩ = some e
  f0 : u.frozen? ⟨g, 0, none⟩ = false
  f1 : u.frozen? ⟨g, 1, none⟩ = false
  f2 : u.frozen? ⟨g, 2, none⟩ = false
  f3 : u.frozen? ⟨g, 3, none⟩ = false
  f4 : u.frozen? ⟨g, 4, none⟩ = false
theorem Box5.but {L : List Nat} {u u' : World} {g : Nat} {a b c d e : Value} (h : Box5 u g a b c d e) (f : But L u u') (hn : g ∉ L) : Box5 u' g a b c d e :=
  ⟨Nat.lt_of_lt_of_le h.lt f.size, by rw [f.cell h.lt hn]; exact h.c0, by rw [f.cell h.lt hn]; exact h.c1, by rw [f.cell h.lt hn]; exact h.c2, by rw [f.cell h.lt hn]; exact h.c3, by rw [f.cell h.lt hn]; exact h.c4, by rw [f.frozen h.lt hn]; exact h.f0, by rw [f.frozen h.lt hn]; exact h.f1, by rw [f.frozen h.lt hn]; exact h.f2, by rw [f.frozen h.lt hn]; exact h.f3, by rw [f.frozen h.lt hn]; exact h.f4⟩
theorem Box5.fr {u u' : World} {g : Nat} {a b c d e : Value} (h : Box5 u g a b c d e) (f : Fr u u') : Box5 u' g a b c d e := h.but (L := []) (But.of f) (by simp)
theorem Box5.new (w : World) (a b c d e : Value) (t : TypeId) (n : Nat) (hn : w.heap.size = n) : Box5 (w.alloc (.cells #[a, b, c, d, e] t)) n a b c d e := by
  subst hn
  exact ⟨by simp, (alloc_at w _ t _ rfl 0).1, (alloc_at w _ t _ rfl 1).1, (alloc_at w _ t _ rfl 2).1, (alloc_at w _ t _ rfl 3).1, (alloc_at w _ t _ rfl 4).1, (alloc_at w _ t _ rfl 0).2, (alloc_at w _ t _ rfl 1).2, (alloc_at w _ t _ rfl 2).2, (alloc_at w _ t _ rfl 3).2, (alloc_at w _ t _ rfl 4).2⟩
/-- Five stores into a block. -/
theorem Box5.set {u : World} {g : Nat} {a b c d e : Value} (h : Box5 u g a b c d e) (a' b' c' d' e' : Value) : Box5 (((((u.setCell ⟨g, 0, none⟩ a').setCell ⟨g, 1, none⟩ b').setCell ⟨g, 2, none⟩ c').setCell ⟨g, 3, none⟩ d').setCell ⟨g, 4, none⟩ e') g a' b' c' d' e' := by
  have c0 := h.c0
  have c1 := h.c1
  have c2 := h.c2
  have c3 := h.c3
  have c4 := h.c4
  have f0 := h.f0
  have f1 := h.f1
  have f2 := h.f2
  have f3 := h.f3
  have f4 := h.f4
  have hl := h.lt
  refine ⟨by simpa [World.setCell] using hl, ?_, ?_, ?_, ?_, ?_, ?_, ?_, ?_, ?_, ?_⟩
  all_goals simp [World.frozen?_setCell, World.cell?_setCell_other, World.cell?_setCell_same, c0, c1, c2, c3, c4, f0, f1, f2, f3, f4]
theorem But.set5 {L : List Nat} {w w' : World} (h : But L w w') (g : Nat) (a b c d e : Value) (hg : g ∈ L ∨ w.heap.size ≤ g) : But L w (((((w'.setCell ⟨g, 0, none⟩ a).setCell ⟨g, 1, none⟩ b).setCell ⟨g, 2, none⟩ c).setCell ⟨g, 3, none⟩ d).setCell ⟨g, 4, none⟩ e) :=
  ((((h.set g 0 a hg).set g 1 b hg).set g 2 c hg).set g 3 d hg).set g 4 e hg
/-- What comes from outside: rings, lays, where, what, which. -/
abbrev inv9 (r l : Bool) (a n : Int) (aP : Option Addr) (m cP : Nat) : Value := .agg #[.bool r, .bool l, .int .i64 a, .int .i64 n, .slice aP m cP]
def plB (a : Int) : Bool := decide (0 ≤ a ∧ a ≤ 255)
def posB (P : List Int) : Bool := P.all fun x => decide (0 ≤ x)
def inB (l : Bool) (a n : Int) (P : List Int) : Bool := decide (P.length ≤ 2) && posB P && (if l then plB a && okB n else decide (a = 0) && decide (n = 0))
theorem posB_of {P : List Int} {p : Nat} (h : ∀ i, i < p → 0 ≤ P.getD i 0) (hp : P.length ≤ p) : posB P = true := by
  rw [posB, List.all_eq_true]
  intro x hx
  obtain ⟨i, hi, rfl⟩ := List.mem_iff_getElem.1 hx
  have := h i (by omega)
  rw [List.getD_eq_getElem?_getD, List.getElem?_eq_getElem hi, Option.getD_some] at this
  simpa using this
theorem posB_not {P : List Int} {p : Nat} (hp : p < P.length) (h : ¬ 0 ≤ P.getD p 0) : posB P = false := by
  rw [posB, List.all_eq_false]
  refine ⟨P[p], List.getElem_mem hp, ?_⟩
  rw [List.getD_eq_getElem?_getD, List.getElem?_eq_getElem hp, Option.getD_some] at h
  simpa using h
set_option maxRecDepth 8000 in
set_option maxHeartbeats 2000000 in
theorem spec_InOk (r l : Bool) (a n : Int) (P : List Int) (aP : Option Addr) (cP : Nat) (w : World) (h : Src w P.length (ivl P) aP) (hm : P.length ≤ 1048576) :
    Calls Try.prog 37 #[inv9 r l a n aP P.length cP] w fun e w' => e = .returned (.bool (inB l a n P)) ∧ Fr w w' := by
  have F0 : Fr w (w.alloc (.cells #[.bool r, .bool l, .int .i64 a, .int .i64 n, .slice aP P.length cP] 46)) := Fr.alloc _ _
  have HF := Lib.hid F0
  have HX := Lib.hid (Box5.new w (.bool r) (.bool l) (.int .i64 a) (.int .i64 n) (.slice aP P.length cP) 46 _ rfl)
  have HS := Lib.hid (h.fr F0)
  have HR : ∀ b, inB l a n P = b → Hid (inB l a n P = b) := fun b h => Lib.hid h
  clear F0 h
  by_cases h2 : P.length ≤ 2
  · have h2' : ¬ (2 : Int) < (P.length : Int) := by omega
    have W1 := fun w => spec_l1In a 0 255 w
    have W2 := fun w => spec_WrdOk n w
    rw [show decide (0 ≤ a ∧ a ≤ 255) = plB a from rfl] at W1
    go_enter Try.func37, Try.ntmps37
    go_wp2_with fail
    generalize (w.alloc (.cells #[.bool r, .bool l, .int .i64 a, .int .i64 n, .slice aP P.length cP] 46)) = u0 at *
    obtain ⟨_, c0, c1, c2, c3, c4, _, _, _, _, _⟩ := HX.out
    have HW := Lib.hid W1
    have HV := Lib.hid W2
    clear W1 W2
    go_loopw [3] (fun i wr => ∃ p : Nat, p ≤ P.length ∧ i = .int .i64 p ∧ (∀ i, i < p → 0 ≤ P.getD i 0) ∧ u0 = wr) (fun i _ => P.length - (intOf i).toNat)
    case atStart => exact ⟨0, Nat.zero_le _, rfl, fun i hi => absurd hi (Nat.not_lt_zero _), rfl⟩
    case round =>
      obtain ⟨p, hp, rfl, hok, rfl⟩ := hrel
      have HO := Lib.hid hok
      clear hok
      by_cases hlt : p < P.length
      · have hlt' : (p : Int) < (P.length : Int) := by omega
        obtain ⟨g, o, rfl, hgl, hc⟩ := HS.out (by omega)
        have d0 := hc p hlt
        simp only [ivl] at d0
        clear hc
        by_cases hk : 0 ≤ P.getD p 0
        · have hk' : ¬ P.getD p 0 < 0 := by omega
          have HO2 := Lib.hid (show ∀ i, i < p + 1 → 0 ≤ P.getD i 0 from fun i hi => by
            rcases Nat.lt_succ_iff_lt_or_eq.1 hi with h | h
            · exact HO.out i h
            · rw [h]; exact hk)
          generalize P.getD p 0 = z at d0 hk hk'
          go_wp2
          go_roundw
          case rel => exact ⟨p + 1, by omega, by go_num, HO2.out, by trivial⟩
          case measure => simp [intOf]; omega
        · have H := HR false (by simp [inB, posB_not hlt hk])
          have hk' : P.getD p 0 < 0 := by omega
          generalize P.getD p 0 = z at d0 hk hk'
          go_wp2
          go_ret
          exact ⟨ret_bool H.out.symm, HF.out⟩
      · have hge : ¬ (p : Int) < (P.length : Int) := by omega
        have hp1 := posB_of HO.out (by omega : P.length ≤ p)
        cases l
        · have H : Hid (inB false a n P = (decide (a = 0) && decide (n = 0))) := Lib.hid (by simp [inB, h2, hp1])
          clear HR hp1
          by_cases ha : a = 0
          · by_cases hn : n = 0
            · have e1 : (a == 0) = true := by simp [ha]
              have e2 : (n == 0) = true := by simp [hn]
              have HA := Lib.hid ha
              have HN := Lib.hid hn
              clear ha hn
              go_wp2
              go_ret
              exact ⟨ret_bool (by rw [H.out]; simp [HA.out, HN.out]), HF.out⟩
            · have e1 : (a == 0) = true := by simp [ha]
              have e2 : (n == 0) = false := by simp [hn]
              have HA := Lib.hid ha
              have HN := Lib.hid hn
              clear ha hn
              go_wp2
              go_ret
              exact ⟨ret_bool (by rw [H.out]; simp [HA.out, HN.out]), HF.out⟩
          · have e1 : (a == 0) = false := by simp [ha]
            have HA := Lib.hid ha
            clear ha
            go_wp2
            go_ret
            exact ⟨ret_bool (by rw [H.out]; simp [HA.out]), HF.out⟩
        · have H : Hid (inB true a n P = (plB a && okB n)) := Lib.hid (by simp [inB, h2, hp1])
          clear HR hp1
          generalize plB a = q1 at *
          generalize okB n = q2 at *
          cases q1
          · go_wp2_with (first | (go_at_call 63; refine (HW.out _).mono ?_; rintro e w' ⟨rfl, rfl⟩) | (go_at_call 57; refine (HV.out _).mono ?_; rintro e w' ⟨rfl, rfl⟩))
            go_ret
            exact ⟨ret_bool (by rw [H.out]; rfl), HF.out⟩
          · cases q2
            · go_wp2_with (first | (go_at_call 63; refine (HW.out _).mono ?_; rintro e w' ⟨rfl, rfl⟩) | (go_at_call 57; refine (HV.out _).mono ?_; rintro e w' ⟨rfl, rfl⟩))
              go_ret
              exact ⟨ret_bool (by rw [H.out]; rfl), HF.out⟩
            · go_wp2_with (first | (go_at_call 63; refine (HW.out _).mono ?_; rintro e w' ⟨rfl, rfl⟩) | (go_at_call 57; refine (HV.out _).mono ?_; rintro e w' ⟨rfl, rfl⟩))
              go_ret
              exact ⟨ret_bool (by rw [H.out]; rfl), HF.out⟩
  · have H := HR false (by simp [inB, h2])
    have h2' : (2 : Int) < (P.length : Int) := by omega
    go_enter Try.func37, Try.ntmps37
    go_wp2
    go_ret
    exact ⟨ret_bool H.out.symm, HF.out⟩
theorem impl_isPlaceJ (a : Int) (w : World) : Calls Try.prog 67 #[.int .i64 a] w fun e w' => e = .returned (.bool (plB a)) ∧ w = w' := by
  by_cases h1 : 0 ≤ a
  · by_cases h2 : a < 256
    · have H := Lib.hid (show plB a = true by simp [plB]; omega)
      have h3 : decide (a < 256) = true := by simpa using h2
      go_enter Try.func67, Try.ntmps67
      go_wp2
      go_ret
      exact ⟨ret_bool H.out.symm, rfl⟩
    · have H := Lib.hid (show plB a = false by simp [plB]; omega)
      have h3 : decide (a < 256) = false := by simpa using h2
      go_enter Try.func67, Try.ntmps67
      go_wp2
      go_ret
      exact ⟨ret_bool H.out.symm, rfl⟩
  · have H := Lib.hid (show plB a = false by simp [plB]; omega)
    have h3 : decide (0 ≤ a) = false := by simpa using h1
    go_enter Try.func67, Try.ntmps67
    go_wp2
    go_ret
    exact ⟨ret_bool H.out.symm, rfl⟩
/-- The function value that asks whether a number is below 0. -/
abbrev posF : Value := .func (.func 82) #[] #[]
theorem impl_pos (x : Int) (w : World) : Calls Try.prog 82 #[.int .i64 x] w fun e w' => e = .returned (.bool (decide (0 ≤ x))) ∧ w = w' := by
  go_enter Try.func82, Try.ntmps82
  go_wp2
  go_ret
  exact ⟨rfl, rfl⟩
theorem impl_neg (x : Int) (g : Nat) (w : World) (h : w.cell? ⟨g, 0, none⟩ = some posF) : Calls Try.prog 101 #[.int .i64 x, .pointer (some ⟨g, 0, none⟩)] w fun e w' => e = .returned (.bool (!decide (0 ≤ x))) ∧ w = w' := by
  go_enter Try.func101, Try.ntmps101
  go_wp2_with (go_at_call 82; refine (impl_pos _ _).mono ?_; rintro e w' ⟨rfl, rfl⟩)
  go_ret
  exact ⟨rfl, rfl⟩
set_option maxRecDepth 8000 in
set_option maxHeartbeats 2000000 in
theorem slices_IndexPos (P : List Int) (aP : Option Addr) (cP g : Nat) (w : World) (h : Src w P.length (ivl P) aP) (hm : P.length ≤ 1048576) (hf : w.cell? ⟨g, 0, none⟩ = some posF) :
    Calls Try.prog 106 #[.slice aP P.length cP, .func (.func 101) #[] #[.pointer (some ⟨g, 0, none⟩)]] w fun e w' => (∃ r : Int, e = .returned (.int .i64 r) ∧ (decide (r ≥ 0)) = !posB P) ∧ w = w' := by
  have HS := Lib.hid h
  have HG := Lib.hid (fun x => impl_neg x g w hf)
  clear h hf
  go_enter Try.func106, Try.ntmps106
  go_wp2_with fail
  go_loopw [8] (fun i wr => ∃ p : Nat, p ≤ P.length ∧ i = .int .i64 p ∧ (∀ i, i < p → 0 ≤ P.getD i 0) ∧ w = wr) (fun i _ => P.length - (intOf i).toNat)
  case atStart => exact ⟨0, Nat.zero_le _, rfl, fun i hi => absurd hi (Nat.not_lt_zero _), rfl⟩
  case round =>
    obtain ⟨p, hp, rfl, hok, rfl⟩ := hrel
    have HO := Lib.hid hok
    clear hok
    by_cases hlt : p < P.length
    · have hlt' : (p : Int) < (P.length : Int) := by omega
      obtain ⟨gp, o, rfl, hgl, hc⟩ := HS.out (by omega)
      have d0 := hc p hlt
      simp only [ivl] at d0
      clear hc
      by_cases hk : 0 ≤ P.getD p 0
      · have HO2 := Lib.hid (show ∀ i, i < p + 1 → 0 ≤ P.getD i 0 from fun i hi => by
          rcases Nat.lt_succ_iff_lt_or_eq.1 hi with h | h
          · exact HO.out i h
          · rw [h]; exact hk)
        have HE := Lib.hid (show decide (0 ≤ P.getD p 0) = true by simpa using hk)
        generalize P.getD p 0 = z at d0 hk HE
        clear hk
        go_wp2_with (go_at_call 101; refine (HG.out _).mono ?_; rintro e w' ⟨rfl, rfl⟩; rw [HE.out])
        go_roundw
        case rel => exact ⟨p + 1, by omega, by go_num, HO2.out, by trivial⟩
        case measure => simp [intOf]; omega
      · have H := Lib.hid (posB_not hlt hk)
        have HE := Lib.hid (show decide (0 ≤ P.getD p 0) = false by simpa using hk)
        generalize P.getD p 0 = z at d0 hk HE
        clear hk
        go_wp2_with (go_at_call 101; refine (HG.out _).mono ?_; rintro e w' ⟨rfl, rfl⟩; rw [HE.out])
        go_ret
        exact ⟨⟨_, rfl, by rw [H.out]; simp⟩, rfl⟩
    · have hge : ¬ (p : Int) < (P.length : Int) := by omega
      have H := Lib.hid (posB_of HO.out (by omega : P.length ≤ p))
      go_wp2
      go_ret
      exact ⟨⟨_, rfl, by rw [H.out]; decide⟩, rfl⟩
theorem slices_ContainsPos (P : List Int) (aP : Option Addr) (cP g : Nat) (w : World) (h : Src w P.length (ivl P) aP) (hm : P.length ≤ 1048576) (hf : w.cell? ⟨g, 0, none⟩ = some posF) :
    Calls Try.prog 100 #[.slice aP P.length cP, .func (.func 101) #[] #[.pointer (some ⟨g, 0, none⟩)]] w fun e w' => e = .returned (.bool (!posB P)) ∧ w = w' := by
  have HI := Lib.hid (slices_IndexPos P aP cP g w h hm hf)
  clear h hf
  go_enter Try.func100, Try.ntmps100
  go_wp2_with fail
  refine HI.out.mono ?_
  rintro e w' ⟨⟨r, rfl, hr⟩, rfl⟩
  go_wp2
  go_ret
  exact ⟨ret_bool (by first | rfl | exact hr), rfl⟩
theorem impl_areAllPos (P : List Int) (aP : Option Addr) (cP : Nat) (w : World) (h : Src w P.length (ivl P) aP) (hm : P.length ≤ 1048576) :
    Calls Try.prog 81 #[.slice aP P.length cP, posF] w fun e w' => e = .returned (.bool (posB P)) ∧ Fr w w' := by
  have F0 : Fr w (w.alloc (.cells #[posF] 65)) := Fr.alloc _ _
  have HF := Lib.hid F0
  have HC := Lib.hid (show (w.alloc (.cells #[posF] 65)).cell? ⟨w.heap.size, 0, none⟩ = some posF by simp)
  have HI := Lib.hid (slices_ContainsPos P aP cP w.heap.size _ (h.fr F0) hm HC.out)
  clear F0 h
  go_enter Try.func81, Try.ntmps81
  go_wp2_with fail
  refine HI.out.mono ?_
  rintro e w' ⟨rfl, rfl⟩
  go_wp2
  go_ret
  exact ⟨ret_bool (by simp), HF.out⟩
set_option maxRecDepth 8000 in
set_option maxHeartbeats 2000000 in
theorem impl_InOk (r l : Bool) (a n : Int) (P : List Int) (aP : Option Addr) (cP : Nat) (w : World) (h : Src w P.length (ivl P) aP) (hm : P.length ≤ 1048576) :
    Calls Try.prog 39 #[inv9 r l a n aP P.length cP] w fun e w' => e = .returned (.bool (inB l a n P)) ∧ Fr w w' := by
  have F0 : Fr w (w.alloc (.cells #[.bool r, .bool l, .int .i64 a, .int .i64 n, .slice aP P.length cP] 46)) := Fr.alloc _ _
  have HF := Lib.hid F0
  have HX := Lib.hid (Box5.new w (.bool r) (.bool l) (.int .i64 a) (.int .i64 n) (.slice aP P.length cP) 46 _ rfl)
  have HP := Lib.hid (impl_areAllPos P aP cP _ (h.fr F0) hm)
  have HR : ∀ b, inB l a n P = b → Hid (inB l a n P = b) := fun b h => Lib.hid h
  clear F0 h
  by_cases h2 : P.length ≤ 2
  · have h2' : ¬ (2 : Int) < (P.length : Int) := by omega
    have HW := Lib.hid (fun w => impl_isPlaceJ a w)
    have HV := Lib.hid (fun w => impl_WrdOk n w)
    go_enter Try.func39, Try.ntmps39
    go_wp2_with fail
    generalize (w.alloc (.cells #[.bool r, .bool l, .int .i64 a, .int .i64 n, .slice aP P.length cP] 46)) = u0 at *
    obtain ⟨_, c0, c1, c2, c3, c4, _, _, _, _, _⟩ := HX.out
    refine HP.out.mono ?_
    rintro e u1 ⟨rfl, f1⟩
    obtain ⟨_, d0, d1, d2, d3, d4, _, _, _, _, _⟩ := HX.out.fr f1
    replace HF := Lib.hid (Fr.trans HF.out f1)
    clear c0 c1 c2 c3 c4 f1 HP HX
    cases hp1 : posB P
    · have H := HR false (by simp [inB, hp1])
      go_wp2
      go_ret
      exact ⟨ret_bool H.out.symm, HF.out⟩
    · cases l
      · have H : Hid (inB false a n P = (decide (a = 0) && decide (n = 0))) := Lib.hid (by simp [inB, h2, hp1])
        clear HR hp1
        by_cases ha : a = 0
        · by_cases hn : n = 0
          · have e1 : (a == 0) = true := by simp [ha]
            have e2 : (n == 0) = true := by simp [hn]
            have HA := Lib.hid ha
            have HN := Lib.hid hn
            clear ha hn
            go_wp2
            go_ret
            exact ⟨ret_bool (by rw [H.out]; simp [HA.out, HN.out]), HF.out⟩
          · have e1 : (a == 0) = true := by simp [ha]
            have e2 : (n == 0) = false := by simp [hn]
            have HA := Lib.hid ha
            have HN := Lib.hid hn
            clear ha hn
            go_wp2
            go_ret
            exact ⟨ret_bool (by rw [H.out]; simp [HA.out, HN.out]), HF.out⟩
        · have e1 : (a == 0) = false := by simp [ha]
          have HA := Lib.hid ha
          clear ha
          go_wp2
          go_ret
          exact ⟨ret_bool (by rw [H.out]; simp [HA.out]), HF.out⟩
      · have H : Hid (inB true a n P = (plB a && okB n)) := Lib.hid (by simp [inB, h2, hp1])
        clear HR hp1
        generalize plB a = q1 at *
        generalize okB n = q2 at *
        cases q1
        · go_wp2_with (first | (go_at_call 67; refine (HW.out _).mono ?_; rintro e w' ⟨rfl, rfl⟩) | (go_at_call 77; refine (HV.out _).mono ?_; rintro e w' ⟨rfl, rfl⟩))
          go_ret
          exact ⟨ret_bool (by rw [H.out]; rfl), HF.out⟩
        · cases q2
          · go_wp2_with (first | (go_at_call 67; refine (HW.out _).mono ?_; rintro e w' ⟨rfl, rfl⟩) | (go_at_call 77; refine (HV.out _).mono ?_; rintro e w' ⟨rfl, rfl⟩))
            go_ret
            exact ⟨ret_bool (by rw [H.out]; rfl), HF.out⟩
          · go_wp2_with (first | (go_at_call 67; refine (HW.out _).mono ?_; rintro e w' ⟨rfl, rfl⟩) | (go_at_call 77; refine (HV.out _).mono ?_; rintro e w' ⟨rfl, rfl⟩))
            go_ret
            exact ⟨ret_bool (by rw [H.out]; rfl), HF.out⟩
  · have H := HR false (by simp [inB, h2])
    have h2' : (2 : Int) < (P.length : Int) := by omega
    go_enter Try.func39, Try.ntmps39
    go_wp2
    go_ret
    exact ⟨ret_bool H.out.symm, HF.out⟩
/-- Behind InAll: nothing comes, and two are done. -/
def AllP (w : World) (e : Ending) (w' : World) : Prop := ∃ g, e = .returned (inv9 false false 0 0 (some ⟨g, 0, none⟩) 2 2) ∧ w.heap.size ≤ g ∧ Vc w.heap.size w' 2 (ivl [0, 0]) (some ⟨g, 0, none⟩) ∧ Fr w w'
set_option maxRecDepth 8000 in
theorem impl_InAll (w : World) : Calls Try.prog 42 #[] w (AllP w) := by
  go_enter Try.func42, Try.ntmps42
  go_upto_region 1 with fail
  have HF := Lib.hid (Fr.alloc w (.cells #[.bool false, .bool false, .int .i64 0, .int .i64 0, .slice none 0 0] 46))
  have HX := Lib.hid (Box5.new w (.bool false) (.bool false) (.int .i64 0) (.int .i64 0) (.slice none 0 0) 46 _ rfl)
  have hs : w.heap.size < (w.alloc (.cells #[.bool false, .bool false, .int .i64 0, .int .i64 0, .slice none 0 0] 46)).heap.size := by simp
  generalize (w.alloc (.cells #[.bool false, .bool false, .int .i64 0, .int .i64 0, .slice none 0 0] 46)) = u0 at *
  obtain ⟨_, c0, c1, c2, c3, c4, f0, f1, f2, f3, f4⟩ := HX.out
  go_wp2
  have hst : But [w.heap.size] u0 (((((u0.setCell ⟨w.heap.size, 0, none⟩ (.bool false)).setCell ⟨w.heap.size, 1, none⟩ (.bool false)).setCell ⟨w.heap.size, 2, none⟩ (.int .i64 0)).setCell ⟨w.heap.size, 3, none⟩ (.int .i64 0)).setCell ⟨w.heap.size, 4, none⟩ (.slice (some ⟨u0.heap.size, 0, none⟩) 2 2)) := (But.refl _ _).set5 _ _ _ _ _ _ (.inl (by simp))
  have HY := (HX.out.set (.bool false) (.bool false) (.int .i64 0) (.int .i64 0) (.slice (some ⟨u0.heap.size, 0, none⟩) 2 2)).fr (Fr.alloc _ (.cells #[.int .i64 0, .int .i64 0] 3))
  have hsz : (((((u0.setCell ⟨w.heap.size, 0, none⟩ (.bool false)).setCell ⟨w.heap.size, 1, none⟩ (.bool false)).setCell ⟨w.heap.size, 2, none⟩ (.int .i64 0)).setCell ⟨w.heap.size, 3, none⟩ (.int .i64 0)).setCell ⟨w.heap.size, 4, none⟩ (.slice (some ⟨u0.heap.size, 0, none⟩) 2 2)).heap.size = u0.heap.size := by simp
  have hL : Ro ((((((u0.setCell ⟨w.heap.size, 0, none⟩ (.bool false)).setCell ⟨w.heap.size, 1, none⟩ (.bool false)).setCell ⟨w.heap.size, 2, none⟩ (.int .i64 0)).setCell ⟨w.heap.size, 3, none⟩ (.int .i64 0)).setCell ⟨w.heap.size, 4, none⟩ (.slice (some ⟨u0.heap.size, 0, none⟩) 2 2)).alloc (.cells #[.int .i64 0, .int .i64 0] 3)) (((((u0.setCell ⟨w.heap.size, 0, none⟩ (.bool false)).setCell ⟨w.heap.size, 1, none⟩ (.bool false)).setCell ⟨w.heap.size, 2, none⟩ (.int .i64 0)).setCell ⟨w.heap.size, 3, none⟩ (.int .i64 0)).setCell ⟨w.heap.size, 4, none⟩ (.slice (some ⟨u0.heap.size, 0, none⟩) 2 2)).heap.size [0, 0] := ro_new (((((u0.setCell ⟨w.heap.size, 0, none⟩ (.bool false)).setCell ⟨w.heap.size, 1, none⟩ (.bool false)).setCell ⟨w.heap.size, 2, none⟩ (.int .i64 0)).setCell ⟨w.heap.size, 3, none⟩ (.int .i64 0)).setCell ⟨w.heap.size, 4, none⟩ (.slice (some ⟨u0.heap.size, 0, none⟩) 2 2)) [0, 0] #[] 3
  rw [hsz] at hL
  have hF := Fr.trans (fr_but HF.out hst (fun m hm => by simp at hm; omega)) (Fr.alloc _ (.cells #[.int .i64 0, .int .i64 0] 3))
  refine bodyPost_ret (v := inv9 false false 0 0 (some ⟨u0.heap.size, 0, none⟩) 2 2) (by simp [results, Try.results42, go_sem, HY.c0, HY.c1, HY.c2, HY.c3, HY.c4]) rfl ?_
  exact ⟨u0.heap.size, rfl, by omega, ⟨fun _ => ⟨u0.heap.size, rfl, by omega, hL.lt, hL.cel, hL.fro⟩⟩, hF⟩

end Go.Proofs.Ytoacgjjpipdkjaa
