/- Chapter 3: a line's scanner begins; CodParse of the program. -/
import Derived.Test.YtecdmafhjfnloaaDoorSc2
namespace Go.Proofs.YtecdmafhjfnloaaDoor
open Go.RowKit
set_option linter.unusedVariables false

theorem sp_len : ∀ (l : List UInt8) (x : List UInt8), x ∈ sp l → x.length ≤ l.length
  | [], x, h => by simp [sp] at h; simp [h]
  | c :: t, x, h => by
    by_cases hc : c = 32
    · subst hc
      rw [sp_blank] at h
      rcases List.mem_cons.1 h with h | h
      · simp [h]
      · have := sp_len t x h; simp; omega
    · rw [sp_char hc] at h
      cases e : sp t with
      | nil => exact absurd e (sp_ne t)
      | cons a r =>
        rw [e] at h
        simp only [ahead, List.mem_cons] at h
        have ha := sp_len t a (by rw [e]; simp)
        rcases h with h | h
        · subst h; simp; omega
        · have := sp_len t x (by rw [e]; simp [h])
          simp; omega
theorem Tabs3.size {w : World} (h : Tabs3 w) : 18 ≤ w.heap.size := by
  obtain ⟨t, q, e⟩ := h.e8
  exact lt_of_cell e
theorem nil_map (l : List UInt8) (u : World) : (Instr.lookup 83 (.map none) (.string (bs l)) true).run Tryd.prog u = .ok (.tuple #[.int .i64 0, .bool false]) u := by kernel_rfl
/-- A scanner that begins. -/
theorem sc_new {u : World} {m : Value} {L : List UInt8 → Option Int} {at' : Int} {ps : List ByteArray} {l : List UInt8} (ht : Tabs3 u) (hm : MapIs u.heap.size m L u) (hp : ps.map (·.data.toList) = sp l) (hl : l.length ≤ 30) (t1 t2 : TypeId) :
    Sc (u.heap.size + 1) m L at' ((u.alloc (.cells (ps.map Value.string).toArray t1)).alloc (.cells #[.slice (some ⟨u.heap.size, 0, none⟩) ps.length ps.length, m, .int .i64 at', .nilIface] t2)) (sp l) false := by
  have f1 := Fr.alloc u (.cells (ps.map Value.string).toArray t1)
  have s1 : (u.alloc (.cells (ps.map Value.string).toArray t1)).heap.size = u.heap.size + 1 := by simp
  have f2 := Fr.alloc (u.alloc (.cells (ps.map Value.string).toArray t1)) (.cells #[.slice (some ⟨u.heap.size, 0, none⟩) ps.length ps.length, m, .int .i64 at', .nilIface] t2)
  have hlen : (sp l).length = ps.length := by rw [← hp]; simp
  have h18 := ht.size
  have hsl : (sp l).length ≤ 31 := by
    have : ∀ l : List UInt8, (sp l).length ≤ l.length + 1 := by
      intro l
      induction l with
      | nil => simp [sp]
      | cons c t ih =>
        by_cases hc : c = 32
        · subst hc; rw [sp_blank]; simp; omega
        · rw [sp_char hc]
          cases e : sp t with
          | nil => exact absurd e (sp_ne t)
          | cons a r => rw [e] at ih; simp only [ahead, List.length_cons] at ih ⊢; omega
    have := this l
    omega
  have e2 : ∀ j, ((u.alloc (.cells (ps.map Value.string).toArray t1)).alloc (.cells #[.slice (some ⟨u.heap.size, 0, none⟩) ps.length ps.length, m, .int .i64 at', .nilIface] t2)).cell? ⟨u.heap.size + 1, j, none⟩ = #[Value.slice (some ⟨u.heap.size, 0, none⟩) ps.length ps.length, m, .int .i64 at', .nilIface][j]? := fun j => by rw [← s1]; simp
  have z2 : ∀ j, ((u.alloc (.cells (ps.map Value.string).toArray t1)).alloc (.cells #[.slice (some ⟨u.heap.size, 0, none⟩) ps.length ps.length, m, .int .i64 at', .nilIface] t2)).frozen? ⟨u.heap.size + 1, j, none⟩ = false := fun j => by rw [← s1]; simp
  have hw : ∀ i, i < (sp l).length → ((u.alloc (.cells (ps.map Value.string).toArray t1)).alloc (.cells #[.slice (some ⟨u.heap.size, 0, none⟩) ps.length ps.length, m, .int .i64 at', .nilIface] t2)).cell? ⟨u.heap.size, 0 + i, none⟩ = some (.string (bs ((sp l).getD i []))) := by
    intro i hi
    rw [f2.cell (show u.heap.size < (u.alloc (.cells (ps.map Value.string).toArray t1)).heap.size by omega), World.cell?_alloc_new, ← hp]
    have hi' : i < ps.length := by omega
    simp [hi', List.getD_eq_getElem?_getD]
  refine ⟨(ht.fr f1).fr f2, by omega, ⟨some ⟨u.heap.size, 0, none⟩, ps.length, ?_, by omega, by omega, fun _ => ⟨u.heap.size, 0, rfl, by omega, hw⟩⟩, ?_, ?_, ?_, z2 0, z2 3, ?_, fun x hx => Nat.le_trans (sp_len l x hx) hl⟩
  · rw [e2 0, hlen]; rfl
  · rw [e2 1]; rfl
  · rw [e2 2]; rfl
  · simp only [Bool.false_eq_true, if_false]; rw [e2 3]; rfl
  · intro v hv
    exact hm v (Below.trans (Fr.trans f1 f2) (hv.mono (by omega)))
/-- A scanner of a line that is too long. -/
theorem sc_wide {u : World} {t : TypeId} {q : Value} (ht : Tabs3 u) (t2 : TypeId) :
    Sc u.heap.size (.map none) (fun _ => none) 0 (u.alloc (.cells #[.slice none 0 0, .map none, .int .i64 0, .iface t q] t2)) [] true := by
  have f2 := Fr.alloc u (.cells #[.slice none 0 0, .map none, .int .i64 0, .iface t q] t2)
  have e2 : ∀ j, (u.alloc (.cells #[.slice none 0 0, .map none, .int .i64 0, .iface t q] t2)).cell? ⟨u.heap.size, j, none⟩ = #[Value.slice none 0 0, .map none, .int .i64 0, .iface t q][j]? := fun j => by simp
  have z2 : ∀ j, (u.alloc (.cells #[.slice none 0 0, .map none, .int .i64 0, .iface t q] t2)).frozen? ⟨u.heap.size, j, none⟩ = false := fun j => by simp
  refine ⟨ht.fr f2, ht.size, ⟨none, 0, by rw [e2 0]; rfl, by simp, by omega, fun h => by simp at h⟩, by rw [e2 1]; rfl, by rw [e2 2]; rfl, ?_, z2 0, z2 3, fun v _ l _ => nil_map l v, by simp⟩
  simp only [if_true]
  exact ⟨t, q, by rw [e2 3]; rfl⟩
def NewP (m : Value) (L : List UInt8 → Option Int) (at' : Int) (u : World) (l : List UInt8) (e : Ending) (u' : World) : Prop :=
  ∃ p, e = .returned (.pointer (some ⟨p, 0, none⟩)) ∧ u.heap.size ≤ p ∧ Fr u u' ∧ (l.length ≤ 30 → Sc p m L at' u' (sp l) false) ∧ (30 < l.length → Sc p (.map none) (fun _ => none) 0 u' [] true)
set_option maxHeartbeats 1000000 in
theorem impl_newLineScanner (l : List UInt8) (hl : l.length < 4294967281) (mb : Option Nat) (L : List UInt8 → Option Int) (at' : Int) (u : World) (ht : Tabs3 u) (hm : MapIs u.heap.size (.map mb) L u) :
    Calls Tryd.prog 56 #[.string (bs l), .map mb, .int .i64 at'] u (NewP (.map mb) L at' u l) := by
  have HT := Lib.hid ht
  have HM := Lib.hid hm
  clear hm
  by_cases h30 : l.length ≤ 30
  · obtain ⟨mx, hx⟩ := ht.mx
    clear ht
    have hk : ¬ (30 : Int) < (l.length : Int) := by omega
    have SP := split_sp (bs l)
    have hcl : Lib.countB (bs l) ⟨#[32]⟩ + 1 = (Lib.splitB ⟨#[32]⟩ 0 (Lib.countB (bs l) ⟨#[32]⟩) (bs l)).length := (Lib.splitB_all ⟨#[32]⟩ (by decide) 0 _ (bs l) rfl).symm
    have C := Tryd.strings_Split (bs l) ⟨#[32]⟩ mx u (show l.length < _ by omega) hx (by decide)
    rw [hcl] at C
    generalize Lib.splitB ⟨#[32]⟩ 0 (Lib.countB (bs l) ⟨#[32]⟩) (bs l) = ps at C SP
    have HSP := Lib.hid SP
    replace C := Lib.hid C
    clear SP hcl hx
    go_enter Tryd.func56, Tryd.ntmps56
    go_wp2_with (go_at_call 73; refine C.out.mono ?_; rintro e w' ⟨rfl, rfl⟩)
    go_ret
    exact ⟨u.heap.size + 1, rfl, by omega, Fr.trans (Fr.alloc _ _) (Fr.alloc _ _), fun _ => sc_new HT.out HM.out HSP.out h30 _ _, fun h => by omega⟩
  · obtain ⟨te, qe, he⟩ := ht.e0
    clear ht
    have hk : (30 : Int) < (l.length : Int) := by omega
    go_enter Tryd.func56, Tryd.ntmps56
    go_wp2
    go_ret
    exact ⟨u.heap.size, rfl, Nat.le_refl _, Fr.alloc _ _, fun h => absurd h h30, fun _ => sc_wide HT.out _⟩
/-- What a line says that is an instruction without labels. -/
def parse (l : List UInt8) : Option (Int × List Int) := if 30 < l.length then none else rd 0 (fun _ => none) (sp l)
def ParP (w : World) (l : List UInt8) (e : Ending) (w' : World) : Prop :=
  ∃ k d a b f n ok, e = .returned (.tuple #[.agg #[.int .i64 k, .int .i64 d, .int .i64 a, .int .i64 b, .int .i64 f, .int .i64 n], .bool ok]) ∧ Fr w w' ∧ (ok = true → parse l = some (k, [d, a, b, f, n])) ∧ (ok = false → parse l = none ∧ k = 0 ∧ d = 0 ∧ a = 0 ∧ b = 0 ∧ f = 0 ∧ n = 0)
theorem mapis_nil (p : Nat) (u : World) : MapIs p (.map none) (fun _ => none) u := fun v _ l _ => nil_map l v
set_option maxRecDepth 4000 in
set_option maxHeartbeats 4000000 in
theorem impl_CodParse (l : List UInt8) (hl : l.length < 4294967281) (w : World) (ht : Tabs3 w) : Calls Tryd.prog 24 #[.string (bs l)] w (ParP w l) := by
  have HT := Lib.hid ht
  clear ht
  have F0 := Fr.alloc w (.cells #[.int .i64 0, .int .i64 0, .int .i64 0, .int .i64 0, .int .i64 0, .int .i64 0] 24)
  have Z0 : ∀ j, j < 6 → (w.alloc (.cells #[.int .i64 0, .int .i64 0, .int .i64 0, .int .i64 0, .int .i64 0, .int .i64 0] 24)).cell? ⟨w.heap.size, j, none⟩ = some (.int .i64 0) ∧ (w.alloc (.cells #[.int .i64 0, .int .i64 0, .int .i64 0, .int .i64 0, .int .i64 0, .int .i64 0] 24)).frozen? ⟨w.heap.size, j, none⟩ = false := by
    intro j hj
    have e : j = 0 ∨ j = 1 ∨ j = 2 ∨ j = 3 ∨ j = 4 ∨ j = 5 := by omega
    rcases e with rfl | rfl | rfl | rfl | rfl | rfl <;> simp
  have hzs : (w.alloc (.cells #[.int .i64 0, .int .i64 0, .int .i64 0, .int .i64 0, .int .i64 0, .int .i64 0] 24)).heap.size = w.heap.size + 1 := by simp
  have HZ := Lib.hid Z0
  clear Z0
  go_enter Tryd.func24, Tryd.ntmps24
  go_wp2_with fail
  generalize (w.alloc (.cells #[.int .i64 0, .int .i64 0, .int .i64 0, .int .i64 0, .int .i64 0, .int .i64 0] 24)) = wz at *
  refine (impl_newLineScanner l hl none (fun _ => none) 0 wz (HT.out.fr F0) (mapis_nil _ _)).mono ?_
  rintro e u1 ⟨p, rfl, hp, f1, q1, q2⟩
  have SB : ∃ (r : List (List UInt8)) (bad : Bool), Sc p (.map none) (fun _ => none) 0 u1 r bad ∧ (l.length ≤ 30 → r = sp l ∧ bad = false) ∧ (30 < l.length → bad = true) := by
    by_cases h30 : l.length ≤ 30
    · exact ⟨_, _, q1 h30, fun _ => ⟨rfl, rfl⟩, fun h => by omega⟩
    · exact ⟨_, _, q2 (by omega), fun h => absurd h h30, fun _ => rfl⟩
  obtain ⟨r, bad, S1, r1, r2⟩ := SB
  replace S1 := Lib.hid S1
  replace r1 := Lib.hid r1
  replace r2 := Lib.hid r2
  clear q1 q2
  go_wp2_with fail
  refine (impl_field S1.out).mono ?_
  rintro e u2 ⟨s, r', b1, rfl, S2, A2, hs, T2, _⟩
  replace S2 := Lib.hid S2
  replace A2 := Lib.hid A2
  replace T2 := Lib.hid T2
  go_wp2_with fail
  refine (impl_instruction S2.out rfl (fun _ _ => nofun) (by decide) s).mono ?_
  rintro e u3 ⟨k, d, a, b, f, n, r3, b3, rfl, S3, A3, i1, i2⟩
  have FZ : Fr wz u3 := Ap.fr (Fr.trans f1 (Below.refl _ _)) (A2.out.trans A3) hp
  have F4 := Fr.alloc u3 (.cells #[.int .i64 k, .int .i64 d, .int .i64 a, .int .i64 b, .int .i64 f, .int .i64 n] 24)
  have S4 := S3.fr F4
  have c3 := S4.c3
  have PR : Hid ((b3 = true → parse l = none) ∧ (b3 = false → parse l = some (k, [d, a, b, f, n]))) := by
    show _ ∧ _
    by_cases h30 : l.length ≤ 30
    · obtain ⟨e1, e2⟩ := r1.out h30
      subst e1 e2
      have hT := T2.out.2 rfl
      have hpar : parse l = rd 0 (fun _ => none) (sp l) := by unfold parse; rw [if_neg (by omega)]
      rw [hpar]
      cases hsp : sp l with
      | nil => exact absurd hsp (sp_ne l)
      | cons x t =>
        rw [hsp] at hT
        obtain ⟨hb1, e2, e3⟩ := hT
        subst e2 e3
        rcases i2 hb1 with ⟨j1, j2⟩ | ⟨j1, j2⟩
        · exact ⟨fun h => (by rw [j1] at h; cases h), fun _ => j2⟩
        · exact ⟨fun _ => j2, fun h => (by rw [j1] at h; cases h)⟩
    · have hb := r2.out (by omega)
      have hb3 := i1 (T2.out.1 hb)
      have hpar : parse l = none := by unfold parse; rw [if_pos (by omega)]
      exact ⟨fun _ => hpar, fun h => (by rw [hb3] at h; cases h)⟩
  have z : ∀ j, j < 6 → (u3.alloc (.cells #[.int .i64 k, .int .i64 d, .int .i64 a, .int .i64 b, .int .i64 f, .int .i64 n] 24)).cell? ⟨w.heap.size, j, none⟩ = some (.int .i64 0) ∧ (u3.alloc (.cells #[.int .i64 k, .int .i64 d, .int .i64 a, .int .i64 b, .int .i64 f, .int .i64 n] 24)).frozen? ⟨w.heap.size, j, none⟩ = false := by
    intro j hj
    have hl1 : w.heap.size < wz.heap.size := by omega
    have hl2 := FZ.size
    rw [F4.cell (show w.heap.size < u3.heap.size by omega), F4.frozen (show w.heap.size < u3.heap.size by omega), FZ.cell (show w.heap.size < wz.heap.size by omega), FZ.frozen (show w.heap.size < wz.heap.size by omega)]
    exact HZ.out j hj
  obtain ⟨z0, y0⟩ := z 0 (by omega)
  obtain ⟨z1, y1⟩ := z 1 (by omega)
  obtain ⟨z2, y2⟩ := z 2 (by omega)
  obtain ⟨z3, y3⟩ := z 3 (by omega)
  obtain ⟨z4, y4⟩ := z 4 (by omega)
  obtain ⟨z5, y5⟩ := z 5 (by omega)
  have FW := Lib.hid (F0.trans (FZ.trans F4))
  clear z i1 i2 S4 S3 A3 FZ F4
  cases b3
  · simp only [Bool.false_eq_true, if_false] at c3
    go_wp2
    refine bodyPost_ret (v := .tuple #[.agg #[.int .i64 k, .int .i64 d, .int .i64 a, .int .i64 b, .int .i64 f, .int .i64 n], .bool true]) (by simp [results, Tryd.results24, go_sem, z0, z1, z2, z3, z4, z5]) rfl ⟨k, d, a, b, f, n, true, rfl, ?_, fun _ => PR.out.2 (by simp), fun h => by cases h⟩
    exact below6 FW.out (Nat.le_refl _) _ _ _ _ _ _
  · simp only [if_true] at c3
    obtain ⟨t3, q3, c3⟩ := c3
    go_wp2
    refine bodyPost_ret (v := .tuple #[.agg #[.int .i64 0, .int .i64 0, .int .i64 0, .int .i64 0, .int .i64 0, .int .i64 0], .bool false]) (by simp [results, Tryd.results24, go_sem, z0, z1, z2, z3, z4, z5]) rfl ⟨0, 0, 0, 0, 0, 0, false, rfl, ?_, fun h => (by cases h), fun _ => ⟨PR.out.1 (by simp), rfl, rfl, rfl, rfl, rfl, rfl⟩⟩
    exact below6 FW.out (Nat.le_refl _) _ _ _ _ _ _
end Go.Proofs.YtecdmafhjfnloaaDoor
