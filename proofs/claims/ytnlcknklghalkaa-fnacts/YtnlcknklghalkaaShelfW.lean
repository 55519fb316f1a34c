/- A shelf: a map of names to files, each behind a pointer in a block of its own. -/
import Derived.Test.YtnlcknklghalkaaAt
import Derived.Test.YtnlcknklghalkaaShelfPlain
namespace Go.Proofs.Ytnlcknklghalkaa
open Go.RowKit Go.Maps
open Plain
set_option linter.unusedVariables false

theorem keyedS : Keyed Try.prog 9 := string_keyed Try.underlying9
theorem zeroP (w : World) : (zeroValue 73).run Try.prog w = .ok (.pointer none) w := by kernel_rfl

/-- A pointer reads as its block's number. -/
def ptrElem (v : Value) : Option (DataW Unit × List MemPlace) :=
  match v with
  | .pointer (some ⟨g, 0, none⟩) => some (.lit (.int .i64 (g : Int)), [])
  | .pointer none => some (.lit (.int .i64 (-1)), [])
  | _ => none
theorem ptrElem_mk (g : Nat) : ptrElem (.pointer (some ⟨g, 0, none⟩)) = some (.lit (.int .i64 (g : Int)), []) := rfl
theorem ptrElem_nil : ptrElem (.pointer none) = some (.lit (.int .i64 (-1)), []) := rfl
theorem ptrElem_inv {v : Value} {g : Nat} {ps : List MemPlace} (h : ptrElem v = some (.lit (.int .i64 (g : Int)), ps)) : v = .pointer (some ⟨g, 0, none⟩) := by
  unfold ptrElem at h
  split at h
  · simp at h
    obtain ⟨h1, _⟩ := h
    obtain rfl : _ = g := Int.ofNat.inj h1
    rfl
  · simp at h
  · cases h
theorem ptrElem_inv_nil {v : Value} {ps : List MemPlace} (h : ptrElem v = some (.lit (.int .i64 (-1)), ps)) : v = .pointer none := by
  unfold ptrElem at h
  split at h
  · simp at h
  · rfl
  · cases h

theorem owns_tight {H : Type} {P : Program} {k : TypeId} {R : Value → Option (DataW H × List MemPlace)} {w : World} {b n m : Nat} {D : DataW H} (h : w.ownsMap P k R b n D) (hm : Maps.size D = m) : w.ownsMap P k R b m D := by
  obtain ⟨es, clock, h1, h2, h3, rfl⟩ := h
  refine ⟨es, clock, h1, h2, ?_, rfl⟩
  subst hm
  simp [Maps.size, length_sorted]

/-- The cells of a file in a block of its own. -/
def FileIn (w : World) (p : Fl × Nat) : Prop := w.heap[p.2]? = some (.cells #[.string p.1.name, .string p.1.text, .int .i64 p.1.kept] 55 (0, 0))
/-- A shelf in block b: it and all its files lie from block B on. -/
def Shelf (B : Nat) (w : World) (b : Nat) (s : List (Fl × Nat)) : Prop :=
  w.ownsMap Try.prog 9 ptrElem b s.length (dm s) ∧ B ≤ b ∧ (∀ p ∈ s, B ≤ p.2 ∧ FileIn w p) ∧ (∀ p ∈ s, ∀ q ∈ s, p.2 = q.2 → p.1.name = q.1.name) ∧ AscS s

theorem FileIn.lt {w : World} {p : Fl × Nat} (h : FileIn w p) : p.2 < w.heap.size := (Array.getElem?_eq_some_iff.1 h).1
theorem FileIn.up {w w' : World} {p : Fl × Nat} {B : Nat} (h : FileIn w p) (hb : Below B w w') (hl : p.2 < B) : FileIn w' p := (hb.block _ hl).trans h
theorem FileIn.cells {w : World} {p : Fl × Nat} (h : FileIn w p) : w.cell? ⟨p.2, 0, none⟩ = some (.string p.1.name) ∧ w.cell? ⟨p.2, 1, none⟩ = some (.string p.1.text) ∧ w.cell? ⟨p.2, 2, none⟩ = some (.int .i64 p.1.kept) :=
  ⟨cell_of_row w p.2 0 _ _ (0, 0) h, cell_of_row w p.2 1 _ _ (0, 0) h, cell_of_row w p.2 2 _ _ (0, 0) h⟩
theorem FileIn.frozen {w : World} {p : Fl × Nat} (h : FileIn w p) : w.frozen? ⟨p.2, 0, none⟩ = false ∧ w.frozen? ⟨p.2, 1, none⟩ = false ∧ w.frozen? ⟨p.2, 2, none⟩ = false :=
  ⟨frozen_of_row w p.2 0 _ _ h, frozen_of_row w p.2 1 _ _ h, frozen_of_row w p.2 2 _ _ h⟩
theorem FileIn.name {w : World} {f : Fl} {g : Nat} (h : FileIn w (f, g)) (n : ByteArray) : FileIn (w.setCell ⟨g, 0, none⟩ (.string n)) (⟨n, f.text, f.kept⟩, g) := heap_setCell_same w g 0 _ _ _ h
theorem FileIn.text {w : World} {f : Fl} {g : Nat} (h : FileIn w (f, g)) (t : ByteArray) : FileIn (w.setCell ⟨g, 1, none⟩ (.string t)) (⟨f.name, t, f.kept⟩, g) := heap_setCell_same w g 1 _ _ _ h
theorem FileIn.kept {w : World} {f : Fl} {g : Nat} (h : FileIn w (f, g)) (k : Int) : FileIn (w.setCell ⟨g, 2, none⟩ (.int .i64 k)) (⟨f.name, f.text, k⟩, g) := heap_setCell_same w g 2 _ _ _ h

theorem Shelf.ne {B : Nat} {w : World} {b : Nat} {s : List (Fl × Nat)} (h : Shelf B w b s) {p : Fl × Nat} (hp : FileIn w p) : p.2 ≠ b := fun e => by
  obtain ⟨es, clock, h1, _⟩ := h.1
  unfold FileIn at hp
  rw [e, h1] at hp
  cases hp
theorem Shelf.lt {B : Nat} {w : World} {b : Nat} {s : List (Fl × Nat)} (h : Shelf B w b s) : b < w.heap.size := h.1.lt
theorem Shelf.up {B : Nat} {w w' : World} {b : Nat} {s : List (Fl × Nat)} (h : Shelf B w b s) (hb : Below w.heap.size w w') : Shelf B w' b s := by
  obtain ⟨h1, h2, h3, h4, h5⟩ := h
  exact ⟨h1.kept (grown_of_below hb none) (by simp), h2, fun p hp => ⟨(h3 p hp).1, (h3 p hp).2.up hb (h3 p hp).2.lt⟩, h4, h5⟩
theorem Shelf.based {B B' : Nat} {w : World} {b : Nat} {s : List (Fl × Nat)} (h : Shelf B w b s) (hB : B' ≤ B) : Shelf B' w b s := by
  obtain ⟨h1, h2, h3, h4, h5⟩ := h
  exact ⟨h1, Nat.le_trans hB h2, fun p hp => ⟨Nat.le_trans hB (h3 p hp).1, (h3 p hp).2⟩, h4, h5⟩
theorem Shelf.drew {B : Nat} {w : World} {b : Nat} {s : List (Fl × Nat)} (h : Shelf B w b s) (q : Nat) : Shelf B (w.drewN q) b s := h

theorem keyS {n : ByteArray} (h : n.size ≤ 1048576) : keyOf Try.prog 9 (.string n) = some (.string n.data.toList) := WideMaps.keyOf_string_mk Try.underlying9 (by unfold maxLen; omega)

theorem Shelf.look {B : Nat} {w : World} {b : Nat} {s : List (Fl × Nat)} (h : Shelf B w b s) {n : ByteArray} (hn : n.size ≤ 1048576) {p : Fl × Nat} (hf : findS s n = some p) :
    (Instr.lookup 50 (.map (some b)) (.string n) true).run Try.prog w = .ok (.tuple #[.pointer (some ⟨p.2, 0, none⟩), .bool true]) w := by
  obtain ⟨v, ps, hr, hv⟩ := h.1.look_ok keyedS Try.underlying50 (zeroP w) ptrElem_nil (keyS hn)
  rw [dm_at hf] at hv
  rw [hr, ptrElem_inv hv, dm_has, hf]
  rfl
theorem Shelf.look_no {B : Nat} {w : World} {b : Nat} {s : List (Fl × Nat)} (h : Shelf B w b s) {n : ByteArray} (hn : n.size ≤ 1048576) (hf : findS s n = none) :
    (Instr.lookup 50 (.map (some b)) (.string n) true).run Try.prog w = .ok (.tuple #[.pointer none, .bool false]) w := by
  obtain ⟨v, ps, hr, hv⟩ := h.1.look_ok keyedS Try.underlying50 (zeroP w) ptrElem_nil (keyS hn)
  rw [dm_at_none hf] at hv
  rw [hr, ptrElem_inv_nil hv, dm_has, hf]
  rfl
theorem Shelf.look1 {B : Nat} {w : World} {b : Nat} {s : List (Fl × Nat)} (h : Shelf B w b s) {n : ByteArray} (hn : n.size ≤ 1048576) {p : Fl × Nat} (hf : findS s n = some p) :
    (Instr.lookup 50 (.map (some b)) (.string n) false).run Try.prog w = .ok (.pointer (some ⟨p.2, 0, none⟩)) w := by
  obtain ⟨v, ps, hr, hv⟩ := h.1.lookup keyedS Try.underlying50 (zeroP w) ptrElem_nil (keyS hn)
  rw [dm_at hf] at hv
  rw [hr, ptrElem_inv hv]
theorem Shelf.len {B : Nat} {w : World} {b : Nat} {s : List (Fl × Nat)} (h : Shelf B w b s) (ty : TypeId) : (Builtin.len_ #[50] ty #[.map (some b)]).run Try.prog w = .ok (.int .i64 (s.length : Int)) w := by
  have := h.1.len Try.underlying50 ty
  rwa [dm_size] at this
theorem Shelf.put {B : Nat} {w : World} {b : Nat} {s : List (Fl × Nat)} (h : Shelf B w b s) {p : Fl × Nat} (hn : p.1.name.size ≤ 1048576) (hl : s.length ≤ 1048576) (hB : B ≤ p.2) (hp : FileIn w p) (hs : ∀ q ∈ s, q.2 = p.2 → q.1.name = p.1.name) :
    ∃ w', (Instr.mapUpdate 50 (.map (some b)) (.string p.1.name) (.pointer (some ⟨p.2, 0, none⟩))).run Try.prog w = .ok () w' ∧ Shelf B w' b (putS s p) ∧ w.grownBy w' (some b) := by
  obtain ⟨w', hr, ho, hg⟩ := h.1.update keyedS Try.underlying50 (by unfold maxLen; omega) (keyS hn) (ptrElem_mk p.2)
  rw [dm_put p rfl rfl h.2.2.2.2] at ho
  refine ⟨w', hr, ⟨owns_tight ho (dm_size _), h.2.1, fun q hq => ?_, fun q hq r hr' e => ?_, putS_asc p h.2.2.2.2⟩, hg⟩
  · rcases putS_mem hq with rfl | ⟨hq, _⟩
    · exact ⟨hB, (hg.block _ hp.lt (by intro e; exact h.ne hp (Option.some.inj e))).trans hp⟩
    · have := (h.2.2.1 q hq).2
      exact ⟨(h.2.2.1 q hq).1, (hg.block _ this.lt (by intro e; exact h.ne this (Option.some.inj e))).trans this⟩
  · rcases putS_mem hq with h1 | ⟨h1, _⟩ <;> rcases putS_mem hr' with h2 | ⟨h2, _⟩
    · rw [h1, h2]
    · subst h1; exact (hs r h2 e.symm).symm
    · subst h2; exact hs q h1 e
    · exact h.2.2.2.1 q h1 r h2 e
theorem Shelf.del {B : Nat} {w : World} {b : Nat} {s : List (Fl × Nat)} (h : Shelf B w b s) {n : ByteArray} (hn : n.size ≤ 1048576) (ty : TypeId) :
    ∃ w', (Builtin.delete_ #[50, 9] ty #[.map (some b), .string n]).run Try.prog w = .ok (.tuple #[]) w' ∧ Shelf B w' b (withoutS s n) ∧ w.grownBy w' (some b) := by
  obtain ⟨w', hr, ho, hg⟩ := h.1.drop keyedS Try.underlying50 (keyS hn) ty
  rw [dm_del] at ho
  have hg := hg.grown
  refine ⟨w', hr, ⟨owns_tight ho (dm_size _), h.2.1, fun q hq => ?_, fun q hq r hr' e => ?_, withoutS_asc n h.2.2.2.2⟩, hg⟩
  · have hq := (withoutS_mem hq).1
    have := (h.2.2.1 q hq).2
    exact ⟨(h.2.2.1 q hq).1, (hg.block _ this.lt (by intro e; exact h.ne this (Option.some.inj e))).trans this⟩
  · exact h.2.2.2.1 q (withoutS_mem hq).1 r (withoutS_mem hr').1 e
/-- A file of a shelf is written in its place: its name stays. -/
theorem Shelf.write {B : Nat} {w w' : World} {b : Nat} {s : List (Fl × Nat)} (h : Shelf B w b s) {f g : Fl} {k : Nat} (hp : (f, k) ∈ s) (hg : g.name = f.name) (hw : FileIn w' (g, k)) (hgr : w.grownBy w' (some k)) : Shelf B w' b (putS s (g, k)) := by
  have hne := h.ne (h.2.2.1 _ hp).2
  refine ⟨?_, h.2.1, fun q hq => ?_, fun q hq r hr e => ?_, putS_asc _ h.2.2.2.2⟩
  · have := owns_tight (h.1.kept hgr (by intro e; exact hne (Option.some.inj e).symm)) (m := (putS s (g, k)).length) (by
      rw [← dm_same (g := g) h.2.2.2.2 hp hg, dm_size])
    rwa [dm_same h.2.2.2.2 hp hg]
  · rcases putS_mem hq with rfl | ⟨hq, hn⟩
    · exact ⟨(h.2.2.1 _ hp).1, hw⟩
    · have := (h.2.2.1 q hq).2
      refine ⟨(h.2.2.1 q hq).1, (hgr.block _ this.lt fun e => ?_).trans this⟩
      exact hn ((h.2.2.2.1 q hq _ hp (Option.some.inj e)).trans hg.symm)
  · rcases putS_mem hq with h1 | ⟨h1, _⟩ <;> rcases putS_mem hr with h2 | ⟨h2, _⟩
    · rw [h1, h2]
    · subst h1; exact hg.trans (h.2.2.2.1 _ hp r h2 e)
    · subst h2; exact (h.2.2.2.1 q h1 _ hp e).trans hg.symm
    · exact h.2.2.2.1 q h1 r h2 e
theorem Shelf.made {B : Nat} (w : World) (hB : B ≤ w.heap.size) : Shelf B (w.alloc (.map #[] 0)) w.heap.size [] :=
  ⟨World.ownsMap_made w Try.prog 9 ptrElem, hB, by simp, by simp, List.Pairwise.nil⟩
theorem putS_twice (s : List (Fl × Nat)) (p : Fl × Nat) : putS (putS s p) p = putS s p := by
  unfold putS
  simp only [List.filter_append, List.filter_cons, ltB_irrefl, List.filter_filter]
  have h1 : s.filter (fun a => ltB a.1.name p.1.name && ltB p.1.name a.1.name) = [] := by
    rw [List.filter_eq_nil_iff]
    intro q _ e
    rw [Bool.and_eq_true] at e
    rw [ltB_asymm e.1] at e
    cases e.2
  have h2 : s.filter (fun a => ltB p.1.name a.1.name && ltB a.1.name p.1.name) = [] := by
    rw [List.filter_eq_nil_iff]
    intro q _ e
    rw [Bool.and_eq_true] at e
    rw [ltB_asymm e.1] at e
    cases e.2
  simp [h1, h2]
end Go.Proofs.Ytnlcknklghalkaa
