/- Chapter 3: CodParse of the model. -/
import Derived.Test.YtecdmafhjfnloaaGreatDoorSp5
import Derived.Test.YtecdmafhjfnloaaGreatDoorSc3
namespace Go.Proofs.YtecdmafhjfnloaaGreatDoor
open Go.RowKit
set_option linter.unusedVariables false

/-- Words give back the line. -/
def joinS : List (List UInt8) → List UInt8
  | [] => []
  | [x] => x
  | x :: y :: t => x ++ 32 :: joinS (y :: t)
theorem join_sp : ∀ l : List UInt8, joinS (sp l) = l
  | [] => rfl
  | c :: t => by
    have ih := join_sp t
    by_cases hc : c = 32
    · subst hc
      rw [sp_blank]
      cases e : sp t with
      | nil => exact absurd e (sp_ne t)
      | cons a r => rw [e] at ih; simp only [joinS, ih, List.nil_append]
    · rw [sp_char hc]
      cases e : sp t with
      | nil => exact absurd e (sp_ne t)
      | cons a r =>
        rw [e] at ih
        cases r with
        | nil => simp only [ahead, joinS] at ih ⊢; rw [ih]; rfl
        | cons b r' => simp only [ahead, joinS] at ih ⊢; rw [← ih]; rfl
theorem sp_inj {l l' : List UInt8} (h : sp l = sp l') : l = l' := by rw [← join_sp l, h, join_sp]
theorem rdTo_args {k f at' : Int} {ws : List (List UInt8)} {p : Nat} {fs fs' : List Int} {r r' : List (List UInt8)} (hl : fs.length = 5) (hp : p < 5) (h : rdTo k f at' (fun _ => none) ws p = some (fs, r)) (h' : rdTo k f at' (fun _ => none) ws (p + 1) = some (fs', r')) :
    r = args (layN k p) (fs'.getD p 0) ++ r' ∧ (∀ j, j ≠ p → fs'.getD j 0 = fs.getD j 0) := by
  simp only [rdTo, h] at h'
  split at h'
  · rename_i hh
    cases h'
    exact ⟨by simp [args, hh], fun _ _ => rfl⟩
  · rename_i hh
    split at h'
    · cases h'
    · rename_i x t
      split at h'
      · cases h'
      · rename_i v hv
        cases h'
        have e1 : (fs.set p v).getD p 0 = v := by
          have : p < fs.length := by omega
          simp [List.getD_eq_getElem?_getD, this]
        refine ⟨?_, fun j hj => by rw [List.getD_eq_getElem?_getD, List.getElem?_set_ne (Ne.symm hj), ← List.getD_eq_getElem?_getD]⟩
        rw [e1]
        have hx : x = if layN k p = 1 then 114 :: Lib.itoa v else Lib.itoa v := by
          unfold rdV at hv
          split at hv
          · unfold regI at hv
            split at hv
            · rename_i h1 h114
              obtain ⟨hi, _⟩ := canon_some hv
              rw [if_pos h1]
              cases x with
              | nil => simp at h114
              | cons c r => simp at h114 hi; rw [h114, hi]
            · cases hv
          · rename_i h1
            rw [if_neg h1]
            have hc : canon x = some v := by
              split at hv
              · exact hv
              · unfold dist at hv
                split at hv
                · simpa [labD] using hv
                · exact hv
            exact (canon_some hc).1.symm
        unfold args
        rw [if_neg hh, hx]
        split <;> rfl
theorem rdTo_skip {k f at' : Int} {L : List UInt8 → Option Int} {ws ws' : List (List UInt8)} {q : Nat} {fs : List Int} (h : rdTo k f at' L ws q = some (fs, ws')) (hl : layN k q = 0 ∨ layN k q = 2) : rdTo k f at' L ws (q + 1) = some (fs, ws') := by simp only [rdTo, h, hl, if_true]
/-- What is read without labels has that text. -/
theorem rd_text {l : List UInt8} {k : Int} {fs : List Int} (h : rd 0 (fun _ => none) (sp l) = some (k, fs)) : ∃ d a b f n, fs = [d, a, b, f, n] ∧ iok k d a b f n = true ∧ txt k d a b f n = l := by
  cases hs : sp l with
  | nil => exact absurd hs (sp_ne l)
  | cons x0 r =>
    rw [hs] at h
    simp only [rd] at h
    cases hk : kindOf x0 with
    | none => rw [hk] at h; cases h
    | some i =>
      rw [hk] at h
      simp only at h
      cases hI : rdI i 0 (fun _ => none) r with
      | none => rw [hI] at h; cases h
      | some fs' =>
        rw [hI] at h
        simp only [Option.some.injEq, Prod.mk.injEq] at h
        obtain ⟨rfl, rfl⟩ := h
        unfold rdI at hI
        have step : ∀ p, (∃ o, rdTo (mk i) (mf i) 0 (fun _ => none) r (p + 1) = some o) → ∃ o, rdTo (mk i) (mf i) 0 (fun _ => none) r p = some o := by
          intro p ⟨o, ho⟩
          cases e : rdTo (mk i) (mf i) 0 (fun _ => none) r p with
          | none => simp [rdTo, e] at ho
          | some o' => exact ⟨o', rfl⟩
        cases h5 : rdTo (mk i) (mf i) 0 (fun _ => none) r 5 with
        | none => rw [h5] at hI; cases hI
        | some o =>
          obtain ⟨fs5, r5⟩ := o
          rw [h5] at hI
          simp only [finI] at hI
          split at hI
          · rename_i hc
            cases hI
            obtain ⟨hr, hok⟩ := hc
            subst hr
            obtain ⟨⟨fs4, r4⟩, h4⟩ := step 4 ⟨_, h5⟩
            obtain ⟨⟨fs3, r3⟩, h3⟩ := step 3 ⟨_, h4⟩
            obtain ⟨⟨fs2, r2⟩, h2⟩ := step 2 ⟨_, h3⟩
            obtain ⟨⟨fs1, r1⟩, h1⟩ := step 1 ⟨_, h2⟩
            have h0 : rdTo (mk i) (mf i) 0 (fun _ => none) r 0 = some ([0, 0, 0, mf i, 0], r) := rfl
            obtain ⟨a0, b0⟩ := rdTo_args rfl (by decide) h0 h1
            obtain ⟨a1, b1⟩ := rdTo_args (rdTo_len h1) (by decide) h1 h2
            obtain ⟨a2, b2⟩ := rdTo_args (rdTo_len h2) (by decide) h2 h3
            obtain ⟨a3, b3⟩ := rdTo_args (rdTo_len h3) (by decide) h3 h4
            obtain ⟨a4, b4⟩ := rdTo_args (rdTo_len h4) (by decide) h4 h5
            have hl5 := rdTo_len h5
            match fs', hl5 with
            | [d, a, b, f, n], _ =>
              have ed : fs1.getD 0 0 = d := by rw [← b1 0 (by decide), ← b2 0 (by decide), ← b3 0 (by decide), ← b4 0 (by decide)]; rfl
              have ea : fs2.getD 1 0 = a := by rw [← b2 1 (by decide), ← b3 1 (by decide), ← b4 1 (by decide)]; rfl
              have eb : fs3.getD 2 0 = b := by rw [← b3 2 (by decide), ← b4 2 (by decide)]; rfl
              have ef : fs4.getD 3 0 = f := by rw [← b4 3 (by decide)]; rfl
              have hiok : iok (mk i) d a b f n = true := hok
              refine ⟨d, a, b, f, n, rfl, hiok, ?_⟩
              apply sp_inj
              rw [sp_txt hiok, hs]
              have hnm : nm (mk i) f = x0 := by
                obtain ⟨j1, j2, _⟩ := kindOf_lt hk
                have hm : nmI (mk i) f = i := by
                  unfold nmI
                  by_cases h8 : i < 8
                  · have hk0 : mk i = 0 := by simp [mk, h8]
                    rw [if_pos hk0]
                    have hf : f = mf i := by
                      rw [← ef]
                      have q3 : layN (mk i) 3 = 2 := by rw [hk0]; rfl
                      have e34 : fs4.getD 3 0 = fs3.getD 3 0 := by
                        rw [rdTo_skip h3 (.inr q3)] at h4
                        cases h4; rfl
                      rw [e34, b2 3 (by decide), b1 3 (by decide), b0 3 (by decide)]
                      rfl
                    rw [hf]
                    simp [mf, h8]
                  · have hk0 : ¬ mk i = 0 := by simp [mk, h8]; omega
                    rw [if_neg hk0]
                    simp [mk, h8]; omega
                unfold nm
                rw [hm]; exact j2
              rw [hnm]
              congr 1
              unfold allArgs
              rw [a0, a1, a2, a3, a4, ed, ea, eb, ef]
              rfl
          · cases hI
theorem parse_txt {l : List UInt8} {k : Int} {fs : List Int} (h : parse l = some (k, fs)) : ∃ d a b f n, fs = [d, a, b, f, n] ∧ iok k d a b f n = true ∧ txt k d a b f n = l := by
  unfold parse at h
  split at h
  · cases h
  · exact rd_text h
theorem look_nil : look [] = fun _ => none := by funext x; rfl
end Go.Proofs.YtecdmafhjfnloaaGreatDoor
