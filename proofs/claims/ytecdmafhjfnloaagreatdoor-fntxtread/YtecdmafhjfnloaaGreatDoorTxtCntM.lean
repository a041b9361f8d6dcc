/- Chapter 3: what the words of lines are, and what is said of a wrong line (plain facts). -/
import Derived.Test.YtecdmafhjfnloaaGreatDoorRl3
import Derived.Test.YtecdmafhjfnloaaGreatDoorCodFacts
namespace Go.Proofs.YtecdmafhjfnloaaGreatDoor
open Go.RowKit
set_option linter.unusedVariables false

theorem nm_notword : ∀ i, i < 23 → nmL.getD i [] ≠ wordN := by decide
theorem nm_no58 : ∀ i, i < 23 → ∀ c ∈ nmL.getD i [], c ≠ 58 := by decide
theorem kind_no58 {l : List UInt8} (h : (58 : UInt8) ∈ l) : kindOf l = none := by
  unfold kindOf
  rw [List.findIdx?_eq_none_iff]
  intro x hx
  obtain ⟨i, hi, rfl⟩ := List.mem_iff_getElem.1 hx
  have hi' : i < 23 := hi
  have h2 := nm_no58 i hi' 58
  rw [List.getD_eq_getElem?_getD, List.getElem?_eq_getElem hi] at h2
  simp only [Option.getD_some] at h2
  simp only [beq_eq_false_iff_ne]
  intro e
  rw [e] at h2
  exact h2 h rfl
theorem mark_parts {l n : List UInt8} (h : mark l = some n) : l = n ++ [58] ∧ n.all low = true := by
  unfold mark at h
  split at h
  · rename_i e
    cases h
    obtain ⟨e1, e2, e3, e4⟩ := e
    have hne : l ≠ [] := fun e => by rw [e] at e1; simp at e1
    have := List.dropLast_concat_getLast hne
    rw [List.getLast?_eq_some_getLast hne] at e1
    rw [Option.some.inj e1] at this
    exact ⟨this.symm, e4⟩
  · cases h
/-- A label is no line of another sort. -/
theorem mark_line {l n : List UInt8} (h : mark l = some n) (at' : Int) (L : List UInt8 → Option Int) : lineV at' L l = none := by
  obtain ⟨rfl, hn⟩ := mark_parts h
  have h58 : (58 : UInt8) ∈ n ++ [58] := by simp
  have hsp : sp (n ++ [58]) = [n ++ [58]] := sp_one _ (fun c hc => by
    rcases List.mem_append.1 hc with hc | hc
    · have := List.all_eq_true.1 hn c hc
      unfold low at this
      intro e
      subst e
      simp at this
    · rw [List.mem_singleton.1 hc]; decide)
  rw [lineV_eq, hsp]
  split
  · rfl
  · have hw : n ++ [58] ≠ wordN := fun e => by
      rw [e] at h58
      revert h58
      decide
    simp only [lineT, if_neg hw, rd, kind_no58 h58]
theorem nm_get {k d a b f n : Int} (h : iok k d a b f n = true) : nm k f ≠ wordN := nm_notword _ (nmI_lt h)
/-- A word's line stands for the word. -/
theorem line_back {x : Int} (hx : okB x = true) (at' : Int) (L : List UInt8 → Option Int) (HL : ∀ y t, L y = some t → canon y = none) : (lineW x).length ≤ 30 ∧ lineV at' L (lineW x) = some x := by
  obtain ⟨x0, x1⟩ := okB_true hx
  unfold lineW
  cases hg : gd x with
  | true =>
    rw [if_pos rfl]
    obtain ⟨h1, h2⟩ := read_ok hg
    unfold txtD
    rw [if_pos h1]
    have hl := txt_len h1
    refine ⟨hl, ?_⟩
    rw [lineV_eq, if_neg (by omega)]
    have hr := rd_txt h1 at' L HL
    rw [sp_txt h1] at hr ⊢
    simp only [lineT, if_neg (nm_get h1), hr]
    show some (worD _ _ _ _ _ _) = _
    exact congrArg some h2
  | false =>
    rw [if_neg (by simp)]
    have hl := itoa_le x (by omega) (by omega)
    have hl2 : ([119, 111, 114, 100, 32] ++ Lib.itoa x).length ≤ 30 := by simp; omega
    refine ⟨hl2, ?_⟩
    rw [lineV_eq, if_neg (by omega)]
    have hsp : sp ([119, 111, 114, 100, 32] ++ Lib.itoa x) = [wordN, Lib.itoa x] := by
      rw [show [119, 111, 114, 100, 32] ++ Lib.itoa x = wordN ++ 32 :: Lib.itoa x from rfl, sp_app _ _ (by decide), sp_one _ (itoa_no32 x)]
    rw [hsp]
    show (match canon (Lib.itoa x) with | some n => if 0 ≤ n ∧ n < 65536 then some n else none | none => none) = some x
    rw [canon_itoa x (by omega) (by omega)]
    exact if_pos ⟨x0, by omega⟩
theorem mark_back {x : Int} (hx : okB x = true) : mark (lineW x) = none := by
  cases h : mark (lineW x) with
  | none => rfl
  | some n =>
    have h1 := mark_line h 0 (fun _ => none)
    rw [(line_back hx 0 (fun _ => none) nofun).2] at h1
    cases h1
theorem labs_back : ∀ (xs : List Int) (i : Nat) (a : Int), xs.all okB = true → (labs (xs.map lineW) i [] a 0).1 = [] ∧ (labs (xs.map lineW) i [] a 0).2.2 = 0
  | [], _, _, _ => ⟨rfl, rfl⟩
  | x :: xs, i, a, h => by
    simp only [List.all_cons, Bool.and_eq_true] at h
    simp only [List.map_cons, labs, mark_back h.1]
    exact labs_back xs (i + 1) (a + 1) h.2
theorem words_back (L : List UInt8 → Option Int) (HL : ∀ y t, L y = some t → canon y = none) : ∀ (xs : List Int) (i : Nat) (out : List Int), xs.all okB = true → words L 0 (xs.map lineW) i out = (out ++ xs, 0)
  | [], _, out, _ => by simp [words]
  | x :: xs, i, out, h => by
    simp only [List.all_cons, Bool.and_eq_true] at h
    simp only [List.map_cons, words, mark_back h.1, (line_back h.1 out.length L HL).2]
    rw [if_neg (by omega), words_back L HL xs (i + 1) (out ++ [x]) h.2]
    simp
theorem tread_back {xs : List Int} (hl : xs.length ≤ 64) (h : xs.all okB = true) : tread (xs.map lineW) = (xs, 0) := by
  unfold tread
  rw [if_neg (by simp; omega)]
  obtain ⟨h1, h2⟩ := labs_back xs 0 0 h
  rw [h1, h2, words_back (look []) (fun y t h => by simp [look] at h) xs 0 [] h]
  simp
theorem lines_short {xs : List Int} (h : xs.all okB = true) : ∀ y ∈ xs.map lineW, y.length ≤ 30 := fun y hy => by
  obtain ⟨x, hx, rfl⟩ := List.mem_map.1 hy
  exact (line_back (List.all_eq_true.1 h x hx) 0 (fun _ => none) nofun).1

def No58 (x : List UInt8) : Prop := ∀ c ∈ x, c ≠ 58
theorem canon_no58 {x : List UInt8} {n : Int} (h : canon x = some n) : No58 x := fun c hc e => by
  rw [← (canon_some h).1, e] at hc
  exact itoa_no n 58 (by decide) hc
theorem low_no58 {x : List UInt8} (h : x.all low = true) : No58 x := fun c hc e => by
  have := List.all_eq_true.1 h c hc
  subst e
  revert this
  decide
theorem rdV_no58 {h : Nat} {k at' v : Int} {L : List UInt8 → Option Int} (HL : ∀ x t, L x = some t → x.all low = true) {x : List UInt8} (hv : rdV h k at' L x = some v) : No58 x := by
  unfold rdV at hv
  split at hv
  · unfold regI at hv
    split at hv
    · rename_i hh
      cases x with
      | nil => simp at hh
      | cons c t =>
        simp at hh
        subst hh
        intro c hc
        rcases List.mem_cons.1 hc with rfl | hc
        · decide
        · exact canon_no58 hv c hc
    · cases hv
  · split at hv
    · exact canon_no58 hv
    · unfold dist at hv
      split at hv
      · unfold labD at hv
        cases hL : L x with
        | some t => exact low_no58 (HL x t hL)
        | none =>
          rw [hL] at hv
          exact canon_no58 (by simpa using hv)
      · exact canon_no58 hv
theorem rdTo_no58 {k f at' : Int} {L : List UInt8 → Option Int} (HL : ∀ x t, L x = some t → x.all low = true) {ws : List (List UInt8)} : ∀ (p : Nat) (fs : List Int) (r : List (List UInt8)), rdTo k f at' L ws p = some (fs, r) → ∀ x ∈ ws, x ∈ r ∨ No58 x
  | 0, fs, r, h, x, hx => by
    unfold rdTo at h
    cases h
    exact .inl hx
  | p + 1, fs, r, h, x, hx => by
    unfold rdTo at h
    cases h1 : rdTo k f at' L ws p with
    | none => rw [h1] at h; cases h
    | some q =>
      obtain ⟨fs1, r1⟩ := q
      rw [h1] at h
      have ih := rdTo_no58 HL p fs1 r1 h1 x hx
      dsimp only at h
      split at h
      · cases h; exact ih
      · cases r1 with
        | nil => cases h
        | cons y t =>
          dsimp only at h
          cases hv : rdV (layN k p) k at' L y with
          | none => rw [hv] at h; cases h
          | some v =>
            rw [hv] at h
            cases h
            rcases ih with ih | ih
            · rcases List.mem_cons.1 ih with rfl | ih
              · exact .inr (rdV_no58 HL hv)
              · exact .inl ih
            · exact .inr ih
theorem kind_lt {w : List UInt8} {i : Nat} (h : kindOf w = some i) : No58 w := by
  unfold kindOf at h
  obtain ⟨hi, hw, _⟩ := List.findIdx?_eq_some_iff_getElem.1 h
  have hi' : i < 23 := hi
  have e : nmL[i]'hi = w := eq_of_beq hw
  intro c hc
  have h2 := nm_no58 i hi' c
  rw [List.getD_eq_getElem?_getD, List.getElem?_eq_getElem hi, Option.getD_some, e] at h2
  exact h2 hc
theorem sp_mem : ∀ (l : List UInt8) (c : UInt8), c ∈ l → c = 32 ∨ ∃ y ∈ sp l, c ∈ y
  | [], c, h => by simp at h
  | d :: r, c, h => by
    unfold sp
    split
    · rename_i h32
      rcases List.mem_cons.1 h with rfl | h
      · exact .inl h32
      · rcases sp_mem r c h with h | ⟨y, hy, hc⟩
        · exact .inl h
        · exact .inr ⟨y, List.mem_cons_of_mem _ hy, hc⟩
    · cases hs : sp r with
      | nil => exact absurd hs (sp_ne r)
      | cons a t =>
        rcases List.mem_cons.1 h with rfl | h
        · exact .inr ⟨c :: a, by simp, by simp⟩
        · rcases sp_mem r c h with h | ⟨y, hy, hc⟩
          · exact .inl h
          · rw [hs] at hy
            rcases List.mem_cons.1 hy with rfl | hy
            · exact .inr ⟨d :: y, by simp, List.mem_cons_of_mem _ hc⟩
            · exact .inr ⟨y, List.mem_cons_of_mem _ hy, hc⟩
theorem okB_of' {v : Int} (h0 : 0 ≤ v) (h1 : v < 65536) : okB v = true := by unfold okB; simp; omega
theorem line_said {at' v : Int} {L : List UInt8 → Option Int} (HL : ∀ x t, L x = some t → x.all low = true) {x : List UInt8} (h : lineV at' L x = some v) : No58 x ∧ okB v = true := by
  rw [lineV_eq] at h
  split at h
  · cases h
  · have key : (∀ y ∈ sp x, No58 y) ∧ okB v = true := by
      cases hs : sp x with
      | nil => exact absurd hs (sp_ne x)
      | cons w r =>
        rw [hs] at h
        by_cases hw : w = wordN
        · subst hw
          have h' : conT r = some v := h
          match r, h' with
          | [y], h' =>
            have h2 : (match canon y with | some n => if 0 ≤ n ∧ n < 65536 then some n else none | none => none) = some v := h'
            cases hc : canon y with
            | none => rw [hc] at h2; cases h2
            | some n =>
              rw [hc] at h2
              dsimp only at h2
              split at h2
              · rename_i hb
                cases h2
                refine ⟨fun z hz => ?_, okB_of' hb.1 hb.2⟩
                rcases List.mem_cons.1 hz with rfl | hz
                · unfold No58; decide
                · rw [List.mem_singleton.1 hz]; exact canon_no58 hc
              · cases h2
          | [], h' => cases h'
          | a :: b :: t, h' => cases h'
        · simp only [lineT, if_neg hw] at h
          cases hr : rd at' L (w :: r) with
          | none => rw [hr] at h; cases h
          | some q =>
            obtain ⟨k, fs⟩ := q
            rw [hr] at h
            dsimp only at h
            cases h
            unfold rd at hr
            dsimp only at hr
            cases hk : kindOf w with
            | none => rw [hk] at hr; cases hr
            | some i =>
              rw [hk] at hr
              dsimp only at hr
              cases hI : rdI i at' L r with
              | none => rw [hI] at hr; cases hr
              | some gs =>
                rw [hI] at hr
                cases hr
                unfold rdI at hI
                cases hT : rdTo (mk i) (mf i) at' L r 5 with
                | none => rw [hT] at hI; cases hI
                | some q =>
                  obtain ⟨f1, r1⟩ := q
                  rw [hT] at hI
                  unfold finI at hI
                  dsimp only at hI
                  split at hI
                  · rename_i hb
                    cases hI
                    obtain ⟨rfl, hio⟩ := hb
                    have hbd := worD_bd hio
                    refine ⟨fun z hz => ?_, okB_of' hbd.1 hbd.2⟩
                    rcases List.mem_cons.1 hz with rfl | hz
                    · exact kind_lt hk
                    · rcases rdTo_no58 HL 5 _ _ hT z hz with h | h
                      · simp at h
                      · exact h
                  · cases hI
    refine ⟨fun c hc => ?_, key.2⟩
    rcases sp_mem x c hc with rfl | ⟨y, hy, hcy⟩
    · decide
    · exact key.1 y hy c hcy
theorem line_ne {at' v : Int} {L : List UInt8 → Option Int} (h : lineV at' L [] = some v) : False := by
  have : lineV at' L [] = none := rfl
  rw [this] at h
  cases h
def isMark (x : List UInt8) : Bool := (mark x).isSome
/-- The byte at a line's end says whether it is a label, where no line is wrong. -/
def Fine (x : List UInt8) : Prop := ∃ D c, x = D ++ [c] ∧ ((c = 58 ∧ isMark x = true) ∨ (c ≠ 58 ∧ isMark x = false))
theorem words_said {L : List UInt8 → Option Int} (HL : ∀ x t, L x = some t → x.all low = true) (tw : Int) : ∀ (r : List (List UInt8)) (i : Nat) (out ws : List Int) (t : Int), words L tw r i out = (ws, t) →
    (t ≠ 0 → ws = [] ∧ 1 ≤ t ∧ t ≤ (i : Int) + r.length) ∧ (t = 0 → ws.length + r.countP isMark = out.length + r.length ∧ (∀ x ∈ r, Fine x) ∧ (out.all okB = true → ws.all okB = true))
  | [], i, out, ws, t, h => by
    simp only [words, Prod.mk.injEq] at h
    obtain ⟨rfl, rfl⟩ := h
    exact ⟨fun h => absurd rfl h, fun _ => ⟨by simp, by simp, fun h => h⟩⟩
  | x :: r, i, out, ws, t, h => by
    unfold words at h
    split at h
    · rename_i hi
      simp only [Prod.mk.injEq] at h
      obtain ⟨rfl, rfl⟩ := h
      refine ⟨fun _ => ⟨rfl, by omega, by simp; omega⟩, fun h0 => by omega⟩
    · cases hm : mark x with
      | some n =>
        rw [hm] at h
        dsimp only at h
        have ih := words_said HL tw r (i + 1) out ws t h
        have hM : isMark x = true := by unfold isMark; rw [hm]; rfl
        refine ⟨fun h0 => ?_, fun h0 => ?_⟩
        · obtain ⟨a, b, c⟩ := ih.1 h0
          exact ⟨a, b, by simp; omega⟩
        · obtain ⟨a, b, c⟩ := ih.2 h0
          refine ⟨?_, fun y hy => ?_, c⟩
          · rw [List.countP_cons_of_pos hM]; simp; omega
          · rcases List.mem_cons.1 hy with rfl | hy
            · exact ⟨n, 58, (mark_parts hm).1, .inl ⟨rfl, hM⟩⟩
            · exact b y hy
      | none =>
        rw [hm] at h
        dsimp only at h
        have hM : isMark x = false := by unfold isMark; rw [hm]; rfl
        cases hv : lineV out.length L x with
        | none =>
          rw [hv] at h
          simp only [Prod.mk.injEq] at h
          obtain ⟨rfl, rfl⟩ := h
          refine ⟨fun _ => ⟨rfl, by omega, by simp; omega⟩, fun h0 => by omega⟩
        | some v =>
          rw [hv] at h
          dsimp only at h
          have ih := words_said HL tw r (i + 1) (out ++ [v]) ws t h
          obtain ⟨h58, hok⟩ := line_said HL hv
          refine ⟨fun h0 => ?_, fun h0 => ?_⟩
          · obtain ⟨a, b, c⟩ := ih.1 h0
            exact ⟨a, b, by simp; omega⟩
          · obtain ⟨a, b, c⟩ := ih.2 h0
            refine ⟨?_, fun y hy => ?_, fun ho => c (by rw [List.all_append, ho]; simp [hok])⟩
            · rw [List.countP_cons_of_neg (by rw [hM]; simp)]; simp at a ⊢; omega
            · rcases List.mem_cons.1 hy with rfl | hy
              · rcases List.eq_nil_or_concat y with rfl | ⟨D, c, rfl⟩
                · exact (line_ne hv).elim
                · rw [List.concat_eq_append] at h58 hM ⊢
                  exact ⟨D, c, rfl, .inr ⟨h58 c (by simp), hM⟩⟩
              · exact b y hy
theorem tread_said {ls : List (List UInt8)} {ws : List Int} {t : Int} (h : tread ls = (ws, t)) :
    (t ≠ 0 → ws = [] ∧ 1 ≤ t ∧ t ≤ ls.length) ∧ (t = 0 → ws.length + ls.countP isMark = ls.length ∧ (∀ x ∈ ls, Fine x) ∧ ws.all okB = true) := by
  unfold tread at h
  split at h
  · simp only [Prod.mk.injEq] at h
    obtain ⟨rfl, rfl⟩ := h
    exact ⟨fun _ => ⟨rfl, by omega, by omega⟩, fun h0 => by omega⟩
  · have hlow := labs_low ls 0 [] 0 0 (fun e he => by simp at he) (by omega)
    have hS := words_said (L := look (labs ls 0 [] 0 0).1) (fun x t hx => (hlow _ (look_mem hx)).1) _ ls 0 [] ws t h
    refine ⟨fun h0 => ?_, fun h0 => ?_⟩
    · obtain ⟨a, b, c⟩ := hS.1 h0
      exact ⟨a, b, by simpa using c⟩
    · obtain ⟨a, b, c⟩ := hS.2 h0
      exact ⟨by simpa using a, b, c rfl⟩
end Go.Proofs.YtecdmafhjfnloaaGreatDoor
