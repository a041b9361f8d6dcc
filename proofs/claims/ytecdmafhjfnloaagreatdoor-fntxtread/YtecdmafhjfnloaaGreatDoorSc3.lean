/- Chapter 3: a line's scanner begins; CodParse of the program. -/
import Derived.Test.YtecdmafhjfnloaaGreatDoorSc2
namespace Go.Proofs.YtecdmafhjfnloaaGreatDoor
open Go.RowKit
set_option linter.unusedVariables false

theorem sp_len : ∀ (l : List UInt8) (x : List UInt8), x ∈ sp l → x.length ≤ l.length
  | [], x, h => by simp [sp] at h; simp [h]
  | c :: t, x, h => by
    by_cases hc : c = 32
    · subst hc
      rw [sp_blank] at h
      rcases List.mem_cons.1 h with h | h
      · simp [h]
      · have := sp_len t x h; simp; omega
    · rw [sp_char hc] at h
      cases e : sp t with
      | nil => exact absurd e (sp_ne t)
      | cons a r =>
        rw [e] at h
        simp only [ahead, List.mem_cons] at h
        have ha := sp_len t a (by rw [e]; simp)
        rcases h with h | h
        · subst h; simp; omega
        · have := sp_len t x (by rw [e]; simp [h])
          simp; omega
theorem Tabs3.size {w : World} (h : Tabs3 w) : 18 ≤ w.heap.size := by
  obtain ⟨t, q, e⟩ := h.e8
  exact lt_of_cell e
theorem nil_map (l : List UInt8) (u : World) : (Instr.lookup 52 (.map none) (.string (bs l)) true).run Tryz.prog u = .ok (.tuple #[.int .i64 0, .bool false]) u := by kernel_rfl
/-- A scanner that begins. -/
theorem sc_new {u : World} {m : Value} {L : List UInt8 → Option Int} {at' : Int} {ps : List ByteArray} {l : List UInt8} (ht : Tabs3 u) (hm : MapIs u.heap.size m L u) (hp : ps.map (·.data.toList) = sp l) (hl : l.length ≤ 30) (t1 t2 : TypeId) :
    Sc (u.heap.size + 1) m L at' ((u.alloc (.cells (ps.map Value.string).toArray t1)).alloc (.cells #[.slice (some ⟨u.heap.size, 0, none⟩) ps.length ps.length, m, .int .i64 at', .nilIface] t2)) (sp l) false := by
  have f1 := Fr.alloc u (.cells (ps.map Value.string).toArray t1)
  have s1 : (u.alloc (.cells (ps.map Value.string).toArray t1)).heap.size = u.heap.size + 1 := by simp
  have f2 := Fr.alloc (u.alloc (.cells (ps.map Value.string).toArray t1)) (.cells #[.slice (some ⟨u.heap.size, 0, none⟩) ps.length ps.length, m, .int .i64 at', .nilIface] t2)
  have hlen : (sp l).length = ps.length := by rw [← hp]; simp
  have h18 := ht.size
  have hsl : (sp l).length ≤ 31 := by
    have : ∀ l : List UInt8, (sp l).length ≤ l.length + 1 := by
      intro l
      induction l with
      | nil => simp [sp]
      | cons c t ih =>
        by_cases hc : c = 32
        · subst hc; rw [sp_blank]; simp; omega
        · rw [sp_char hc]
          cases e : sp t with
          | nil => exact absurd e (sp_ne t)
          | cons a r => rw [e] at ih; simp only [ahead, List.length_cons] at ih ⊢; omega
    have := this l
    omega
  have e2 : ∀ j, ((u.alloc (.cells (ps.map Value.string).toArray t1)).alloc (.cells #[.slice (some ⟨u.heap.size, 0, none⟩) ps.length ps.length, m, .int .i64 at', .nilIface] t2)).cell? ⟨u.heap.size + 1, j, none⟩ = #[Value.slice (some ⟨u.heap.size, 0, none⟩) ps.length ps.length, m, .int .i64 at', .nilIface][j]? := fun j => by rw [← s1]; simp
  have z2 : ∀ j, ((u.alloc (.cells (ps.map Value.string).toArray t1)).alloc (.cells #[.slice (some ⟨u.heap.size, 0, none⟩) ps.length ps.length, m, .int .i64 at', .nilIface] t2)).frozen? ⟨u.heap.size + 1, j, none⟩ = false := fun j => by rw [← s1]; simp
  have hw : ∀ i, i < (sp l).length → ((u.alloc (.cells (ps.map Value.string).toArray t1)).alloc (.cells #[.slice (some ⟨u.heap.size, 0, none⟩) ps.length ps.length, m, .int .i64 at', .nilIface] t2)).cell? ⟨u.heap.size, 0 + i, none⟩ = some (.string (bs ((sp l).getD i []))) := by
    intro i hi
    rw [f2.cell (show u.heap.size < (u.alloc (.cells (ps.map Value.string).toArray t1)).heap.size by omega), World.cell?_alloc_new, ← hp]
    have hi' : i < ps.length := by omega
    simp [hi', List.getD_eq_getElem?_getD]
  refine ⟨(ht.fr f1).fr f2, by omega, ⟨some ⟨u.heap.size, 0, none⟩, ps.length, ?_, by omega, by omega, fun _ => ⟨u.heap.size, 0, rfl, by omega, hw⟩⟩, ?_, ?_, ?_, z2 0, z2 3, ?_, fun x hx => Nat.le_trans (sp_len l x hx) hl⟩
  · rw [e2 0, hlen]; rfl
  · rw [e2 1]; rfl
  · rw [e2 2]; rfl
  · simp only [Bool.false_eq_true, if_false]; rw [e2 3]; rfl
  · intro v hv
    exact hm v (Below.trans (Fr.trans f1 f2) (hv.mono (by omega)))
/-- A scanner of a line that is too long. -/
theorem sc_wide {u : World} {t : TypeId} {q : Value} (ht : Tabs3 u) (t2 : TypeId) :
    Sc u.heap.size (.map none) (fun _ => none) 0 (u.alloc (.cells #[.slice none 0 0, .map none, .int .i64 0, .iface t q] t2)) [] true := by
  have f2 := Fr.alloc u (.cells #[.slice none 0 0, .map none, .int .i64 0, .iface t q] t2)
  have e2 : ∀ j, (u.alloc (.cells #[.slice none 0 0, .map none, .int .i64 0, .iface t q] t2)).cell? ⟨u.heap.size, j, none⟩ = #[Value.slice none 0 0, .map none, .int .i64 0, .iface t q][j]? := fun j => by simp
  have z2 : ∀ j, (u.alloc (.cells #[.slice none 0 0, .map none, .int .i64 0, .iface t q] t2)).frozen? ⟨u.heap.size, j, none⟩ = false := fun j => by simp
  refine ⟨ht.fr f2, ht.size, ⟨none, 0, by rw [e2 0]; rfl, by simp, by omega, fun h => by simp at h⟩, by rw [e2 1]; rfl, by rw [e2 2]; rfl, ?_, z2 0, z2 3, fun v _ l _ => nil_map l v, by simp⟩
  simp only [if_true]
  exact ⟨t, q, by rw [e2 3]; rfl⟩
def NewP (m : Value) (L : List UInt8 → Option Int) (at' : Int) (u : World) (l : List UInt8) (e : Ending) (u' : World) : Prop :=
  ∃ p, e = .returned (.pointer (some ⟨p, 0, none⟩)) ∧ u.heap.size ≤ p ∧ Fr u u' ∧ (l.length ≤ 30 → Sc p m L at' u' (sp l) false) ∧ (30 < l.length → Sc p (.map none) (fun _ => none) 0 u' [] true)
set_option maxHeartbeats 1000000 in
theorem impl_newLineScanner (l : List UInt8) (hl : l.length < 4294967281) (mb : Option Nat) (L : List UInt8 → Option Int) (at' : Int) (u : World) (ht : Tabs3 u) (hm : MapIs u.heap.size (.map mb) L u) :
    Calls Tryz.prog 37 #[.string (bs l), .map mb, .int .i64 at'] u (NewP (.map mb) L at' u l) := by
  have HT := Lib.hid ht
  have HM := Lib.hid hm
  clear hm
  by_cases h30 : l.length ≤ 30
  · obtain ⟨mx, hx⟩ := ht.mx
    clear ht
    have hk : ¬ (30 : Int) < (l.length : Int) := by omega
    have SP := split_sp (bs l)
    have hcl : Lib.countB (bs l) ⟨#[32]⟩ + 1 = (Lib.splitB ⟨#[32]⟩ 0 (Lib.countB (bs l) ⟨#[32]⟩) (bs l)).length := (Lib.splitB_all ⟨#[32]⟩ (by decide) 0 _ (bs l) rfl).symm
    have C := Tryz.strings_Split (bs l) ⟨#[32]⟩ mx u (show l.length < _ by omega) hx (by decide)
    rw [hcl] at C
    generalize Lib.splitB ⟨#[32]⟩ 0 (Lib.countB (bs l) ⟨#[32]⟩) (bs l) = ps at C SP
    have HSP := Lib.hid SP
    replace C := Lib.hid C
    clear SP hcl hx
    go_enter Tryz.func37, Tryz.ntmps37
    go_wp2_with (go_at_call 51; refine C.out.mono ?_; rintro e w' ⟨rfl, rfl⟩)
    go_ret
    exact ⟨u.heap.size + 1, rfl, by omega, Fr.trans (Fr.alloc _ _) (Fr.alloc _ _), fun _ => sc_new HT.out HM.out HSP.out h30 _ _, fun h => by omega⟩
  · obtain ⟨te, qe, he⟩ := ht.e0
    clear ht
    have hk : (30 : Int) < (l.length : Int) := by omega
    go_enter Tryz.func37, Tryz.ntmps37
    go_wp2
    go_ret
    exact ⟨u.heap.size, rfl, Nat.le_refl _, Fr.alloc _ _, fun h => absurd h h30, fun _ => sc_wide HT.out _⟩
/-- What a line says that is an instruction without labels. -/
def parse (l : List UInt8) : Option (Int × List Int) := if 30 < l.length then none else rd 0 (fun _ => none) (sp l)
def ParP (w : World) (l : List UInt8) (e : Ending) (w' : World) : Prop :=
  ∃ k d a b f n ok, e = .returned (.tuple #[.agg #[.int .i64 k, .int .i64 d, .int .i64 a, .int .i64 b, .int .i64 f, .int .i64 n], .bool ok]) ∧ Fr w w' ∧ (ok = true → parse l = some (k, [d, a, b, f, n])) ∧ (ok = false → parse l = none ∧ k = 0 ∧ d = 0 ∧ a = 0 ∧ b = 0 ∧ f = 0 ∧ n = 0)
theorem mapis_nil (p : Nat) (u : World) : MapIs p (.map none) (fun _ => none) u := fun v _ l _ => nil_map l v
end Go.Proofs.YtecdmafhjfnloaaGreatDoor
