/- Chapter 3, plainly: what an instruction's text says is the instruction; two instructions have two texts. -/
import Derived.Test.YtecdmafhjfnloaaGreatDoorTxtPure
namespace Go.Proofs.YtecdmafhjfnloaaGreatDoor
open Go.RowKit
set_option linter.unusedVariables false

theorem kindOf_nm : ∀ i, i < 23 → kindOf (nmL.getD i []) = some i := by decide
theorem nm_chars : ∀ i, i < 23 → ∀ c ∈ nmL.getD i [], 97 ≤ c.toNat ∧ c.toNat ≤ 122 := by decide
theorem nm_lens : ∀ i, i < 23 → (nmL.getD i []).length ≤ 4 := by decide
theorem lay_two : ∀ k : Nat, k < 16 → ∀ p, p < 5 → layN (k : Int) p = 2 → k = 0 ∧ p = 3 := by decide
theorem enc_bd : ∀ m, m < 7 → -256 ≤ eL m ∧ eG m ≤ 511 := by decide
theorem iok_parts {k d a b f n : Int} (h : iok k d a b f n = true) : (0 ≤ k ∧ k < 16) ∧ okAt k 0 d = true ∧ okAt k 1 a = true ∧ okAt k 2 b = true ∧ okAt k 3 f = true ∧ okAt k 4 n = true := by
  simp only [iok, Bool.and_eq_true, decide_eq_true_eq] at h
  exact ⟨h.1, h.2.1, h.2.2.1, h.2.2.2.1, h.2.2.2.2.1, h.2.2.2.2.2⟩
theorem okAt_bd {k v : Int} {p : Nat} (hk : 0 ≤ k ∧ k < 16) (hp : p < 5) (h : okAt k p v = true) : -256 ≤ v ∧ v ≤ 511 := by
  simp only [okAt, decide_eq_true_eq] at h
  have := enc_bd _ (layN_lt k p hk hp)
  omega
theorem okAt_none {k v : Int} {p : Nat} (h : okAt k p v = true) (h0 : layN k p = 0) : v = 0 := by
  simp only [okAt, decide_eq_true_eq, h0] at h
  have e1 : eL 0 = 0 := rfl
  have e2 : eG 0 = 0 := rfl
  omega
theorem lay_two' {k : Int} {p : Nat} (hk : 0 ≤ k ∧ k < 16) (hp : p < 5) (h : layN k p = 2) : k = 0 ∧ p = 3 := by
  have := lay_two k.toNat (by omega) p hp (by rw [Int.toNat_of_nonneg hk.1]; exact h)
  omega
theorem nmI_lt {k d a b f n : Int} (h : iok k d a b f n = true) : nmI k f < 23 := by
  obtain ⟨hk, _, _, _, hf, _⟩ := iok_parts h
  unfold nmI
  split
  · rename_i e
    subst e
    simp only [okAt, decide_eq_true_eq] at hf
    have e1 : eG (layN 0 3) = 7 := rfl
    omega
  · omega
theorem mk_nmI {k d a b f n : Int} (h : iok k d a b f n = true) : mk (nmI k f) = k ∧ mf (nmI k f) = if k = 0 then f else 0 := by
  obtain ⟨hk, _, _, _, hf, _⟩ := iok_parts h
  unfold nmI
  split
  · rename_i e
    subst e
    simp only [okAt, decide_eq_true_eq] at hf
    have e1 : eG (layN 0 3) = 7 := rfl
    have e2 : eL (layN 0 3) = 0 := rfl
    have h8 : f.toNat < 8 := by omega
    simp [mk, mf, h8]
    omega
  · rename_i e
    have h8 : ¬ k.toNat + 7 < 8 := by omega
    simp only [mk, mf, h8, if_false]
    constructor
    · omega
    · trivial
/-- The words of a field. -/
def args (h : Nat) (v : Int) : List (List UInt8) := if h = 0 ∨ h = 2 then [] else if h = 1 then [114 :: Lib.itoa v] else [Lib.itoa v]
theorem itoa_no32 (v : Int) : ∀ c ∈ Lib.itoa v, c ≠ 32 := fun c hc e => itoa_no v 32 ⟨by decide, by decide⟩ (e ▸ hc)
theorem sp_piece (x : List UInt8) (h : Nat) (v : Int) : sp (x ++ piece h v) = sp x ++ args h v := by
  unfold piece args
  split
  · simp
  · split
    · rw [sp_two, sp_one (114 :: Lib.itoa v) (fun c hc => by
        rcases List.mem_cons.1 hc with e | e
        · rw [e]; decide
        · exact itoa_no32 v c e)]
    · rw [sp_two, sp_one _ (itoa_no32 v)]
def allArgs (k d a b f n : Int) : List (List UInt8) := args (layN k 0) d ++ (args (layN k 1) a ++ (args (layN k 2) b ++ (args (layN k 3) f ++ (args (layN k 4) n ++ []))))
theorem sp_txt {k d a b f n : Int} (h : iok k d a b f n = true) : sp (txt k d a b f n) = nm k f :: allArgs k d a b f n := by
  have hn : sp (nm k f) = [nm k f] := sp_one _ (fun c hc e => by
    have := nm_chars _ (nmI_lt h) c hc
    rw [e] at this; simp at this)
  unfold txt
  simp only [txtTo, sp_piece, hn, fldL, allArgs]
  simp
def upd (h p : Nat) (v : Int) (fs : List Int) : List Int := if h = 0 ∨ h = 2 then fs else fs.set p v
theorem regI_itoa (v : Int) (h0 : -256 ≤ v) (h1 : v ≤ 511) : regI (114 :: Lib.itoa v) = some v := by
  simp only [regI, List.head?_cons, if_true, List.tail_cons]
  exact canon_itoa v (by omega) (by omega)
theorem rdV_args {h : Nat} {k at' v : Int} {L : List UInt8 → Option Int} (HL : ∀ x t, L x = some t → canon x = none) (h0 : -256 ≤ v) (h1 : v ≤ 511) :
    rdV h k at' L (if h = 1 then 114 :: Lib.itoa v else Lib.itoa v) = some v := by
  have hc := canon_itoa v (by omega) (by omega)
  have hL : L (Lib.itoa v) = none := by
    cases e : L (Lib.itoa v) with
    | none => rfl
    | some t => rw [HL _ _ e] at hc; cases hc
  unfold rdV
  split
  · exact regI_itoa v h0 h1
  · split
    · exact hc
    · unfold dist
      split
      · simp [labD, hL, hc]
      · exact hc
theorem rdTo_step {k f at' v : Int} {L : List UInt8 → Option Int} {ws rest : List (List UInt8)} {fs : List Int} {p : Nat} (HL : ∀ x t, L x = some t → canon x = none)
    (h : rdTo k f at' L ws p = some (fs, args (layN k p) v ++ rest)) (h0 : -256 ≤ v) (h1 : v ≤ 511) : rdTo k f at' L ws (p + 1) = some (upd (layN k p) p v fs, rest) := by
  simp only [rdTo, h]
  by_cases hh : layN k p = 0 ∨ layN k p = 2
  · simp only [hh, if_true, args, upd, List.nil_append]
  · have := rdV_args (h := layN k p) (k := k) (at' := at') (v := v) HL h0 h1
    simp only [hh, if_false, args, upd]
    by_cases h1 : layN k p = 1
    · simp only [h1, if_true] at this ⊢
      simp only [List.cons_append, List.nil_append, this]
    · simp only [h1, if_false] at this ⊢
      simp only [List.cons_append, List.nil_append, this]
theorem rd_txt {k d a b f n : Int} (h : iok k d a b f n = true) (at' : Int) (L : List UInt8 → Option Int) (HL : ∀ x t, L x = some t → canon x = none) :
    rd at' L (sp (txt k d a b f n)) = some (k, [d, a, b, f, n]) := by
  obtain ⟨hk, hd, ha, hb, hf, hn⟩ := iok_parts h
  obtain ⟨m1, m2⟩ := mk_nmI h
  have bd := okAt_bd hk (by decide) hd
  have ba := okAt_bd hk (by decide) ha
  have bb := okAt_bd hk (by decide) hb
  have bf := okAt_bd hk (by decide) hf
  have bn := okAt_bd hk (by decide) hn
  rw [sp_txt h]
  simp only [rd, nm, kindOf_nm _ (nmI_lt h), rdI, m1, m2]
  have s0 : rdTo k (if k = 0 then f else 0) at' L (allArgs k d a b f n) 0 = some ([0, 0, 0, if k = 0 then f else 0, 0], allArgs k d a b f n) := rfl
  have s1 := rdTo_step HL s0 bd.1 bd.2
  have s2 := rdTo_step HL s1 ba.1 ba.2
  have s3 := rdTo_step HL s2 bb.1 bb.2
  have s4 := rdTo_step HL s3 bf.1 bf.2
  have s5 := rdTo_step HL s4 bn.1 bn.2
  rw [s5]
  simp only [finI]
  have e : upd (layN k 4) 4 n (upd (layN k 3) 3 f (upd (layN k 2) 2 b (upd (layN k 1) 1 a (upd (layN k 0) 0 d [0, 0, 0, if k = 0 then f else 0, 0])))) = [d, a, b, f, n] := by
    have g : ∀ {p : Nat} {v : Int}, p < 5 → p ≠ 3 → okAt k p v = true → (layN k p = 0 ∨ layN k p = 2) → v = 0 := by
      intro p v hp h3 ho hh
      rcases hh with hh | hh
      · exact okAt_none ho hh
      · exact absurd (lay_two' hk hp hh).2 h3
    have g3 : (layN k 3 = 0 ∨ layN k 3 = 2) → (if k = 0 then f else 0) = f := by
      intro hh
      split
      · rfl
      · rename_i hk0
        rcases hh with hh | hh
        · exact (okAt_none hf hh).symm
        · exact absurd (lay_two' hk (by decide) hh).1 hk0
    have e0 : upd (layN k 0) 0 d [0, 0, 0, if k = 0 then f else 0, 0] = [d, 0, 0, if k = 0 then f else 0, 0] := by
      unfold upd; split
      · rename_i hh; rw [g (by decide) (by decide) hd hh]
      · rfl
    have e1 : upd (layN k 1) 1 a [d, 0, 0, if k = 0 then f else 0, 0] = [d, a, 0, if k = 0 then f else 0, 0] := by
      unfold upd; split
      · rename_i hh; rw [g (by decide) (by decide) ha hh]
      · rfl
    have e2 : upd (layN k 2) 2 b [d, a, 0, if k = 0 then f else 0, 0] = [d, a, b, if k = 0 then f else 0, 0] := by
      unfold upd; split
      · rename_i hh; rw [g (by decide) (by decide) hb hh]
      · rfl
    have e3 : upd (layN k 3) 3 f [d, a, b, if k = 0 then f else 0, 0] = [d, a, b, f, 0] := by
      unfold upd; split
      · rename_i hh; rw [g3 hh]
      · rfl
    have e4 : upd (layN k 4) 4 n [d, a, b, f, 0] = [d, a, b, f, n] := by
      unfold upd; split
      · rename_i hh; rw [g (by decide) (by decide) hn hh]
      · rfl
    rw [e0, e1, e2, e3, e4]
  rw [e]
  have hi : iokL k [d, a, b, f, n] = true := h
  simp only [hi, and_self, if_true]
/-- Two instructions have two texts. -/
theorem txt_inj {k d a b f n k' d' a' b' f' n' : Int} (h : iok k d a b f n = true) (h' : iok k' d' a' b' f' n' = true) (e : txt k d a b f n = txt k' d' a' b' f' n') : k = k' ∧ d = d' ∧ a = a' ∧ b = b' ∧ f = f' ∧ n = n' := by
  have r := rd_txt h 0 (fun _ => none) (fun _ _ => nofun)
  have r' := rd_txt h' 0 (fun _ => none) (fun _ _ => nofun)
  rw [e, r'] at r
  simp only [Option.some.injEq, Prod.mk.injEq, List.cons.injEq, and_true] at r
  exact ⟨r.1.symm, r.2.1.symm, r.2.2.1.symm, r.2.2.2.1.symm, r.2.2.2.2.1.symm, r.2.2.2.2.2.symm⟩
theorem itoa_len4 {v : Int} (h0 : -256 ≤ v) (h1 : v ≤ 511) : (Lib.itoa v).length ≤ 4 := by
  by_cases hv : v < 0
  · rw [itoa_neg hv]
    have := dec_len 2 v.natAbs (by omega)
    simp; omega
  · rw [itoa_pos (by omega)]
    have := dec_len 2 v.toNat (by omega)
    omega
theorem piece_len6 {h : Nat} {v : Int} (h0 : -256 ≤ v) (h1 : v ≤ 511) : (piece h v).length ≤ 6 := by
  have := itoa_len4 h0 h1
  unfold piece
  split
  · simp
  · split <;> simp <;> omega
theorem piece_len {h : Nat} {v : Int} (h0 : -256 ≤ v) (h1 : v ≤ 511) (hr : h = 1 → 0 ≤ v ∧ v ≤ 7) : (piece h v).length ≤ 5 := by
  have g := itoa_len4 h0 h1
  unfold piece
  split
  · simp
  · split
    · rename_i e
      have hb := hr e
      rw [itoa_pos hb.1]
      have := dec_len 0 v.toNat (by omega)
      simp; omega
    · simp; omega
theorem okAt_reg {k v : Int} {p : Nat} (h : okAt k p v = true) (h1 : layN k p = 1) : 0 ≤ v ∧ v ≤ 7 := by
  simp only [okAt, decide_eq_true_eq, h1] at h
  have e1 : eL 1 = 0 := rfl
  have e2 : eG 1 = 7 := rfl
  omega
theorem txt_len {k d a b f n : Int} (h : iok k d a b f n = true) : (txt k d a b f n).length ≤ 30 := by
  obtain ⟨hk, hd, ha, hb, hf, hn⟩ := iok_parts h
  have g : ∀ {p : Nat} {v : Int}, p < 5 → okAt k p v = true → (piece (layN k p) v).length ≤ 5 := fun hp ho => piece_len (okAt_bd hk hp ho).1 (okAt_bd hk hp ho).2 (okAt_reg ho)
  have g0 := g (by decide) hd
  have g1 := g (by decide) ha
  have g2 := g (by decide) hb
  have g3 := g (by decide) hf
  have g4 := g (by decide) hn
  have gn := nm_lens _ (nmI_lt h)
  have gn' : (nm k f).length ≤ 4 := gn
  simp only [txt, txtTo, fldL, List.length_append, List.getD_eq_getElem?_getD] at *
  simp at g0 g1 g2 g3 g4 ⊢
  omega
theorem fld_bd {k d a b f n : Int} (h : iok k d a b f n = true) : ∀ p, p < 5 → -256 ≤ (fldL d a b f n).getD p 0 ∧ (fldL d a b f n).getD p 0 ≤ 511 := by
  obtain ⟨hk, hd, ha, hb, hf, hn⟩ := iok_parts h
  intro p hp
  have hp' : p = 0 ∨ p = 1 ∨ p = 2 ∨ p = 3 ∨ p = 4 := by omega
  rcases hp' with rfl | rfl | rfl | rfl | rfl
  · exact okAt_bd hk (by omega) hd
  · exact okAt_bd hk (by omega) ha
  · exact okAt_bd hk (by omega) hb
  · exact okAt_bd hk (by omega) hf
  · exact okAt_bd hk (by omega) hn
theorem txtTo_len {k d a b f n : Int} (h : iok k d a b f n = true) : ∀ p, p ≤ 5 → (txtTo k d a b f n p).length ≤ 4 + 6 * p
  | 0, _ => nm_lens _ (nmI_lt h)
  | p + 1, hp => by
    have ih := txtTo_len h p (by omega)
    have hb := fld_bd h p (by omega)
    have := piece_len6 (h := layN k p) hb.1 hb.2
    simp only [txtTo, List.length_append]
    omega
end Go.Proofs.YtecdmafhjfnloaaGreatDoor
