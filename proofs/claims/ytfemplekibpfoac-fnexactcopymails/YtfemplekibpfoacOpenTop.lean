/- Several texts in one. -/
import Derived.Test.YtfemplekibpfoacStoreMarks
import Derived.Test.YtfemplekibpfoacStorePlain
import Derived.Test.YtfemplekibpfoacShelfPlain
import Derived.Maps.OwnSet
import Derived.Test.YtfemplekibpfoacCopyI
import Derived.Test.YtfemplekibpfoacRegA
import Derived.Test.YtfemplekibpfoacBoxI
/- A store that lies open: its boxes each in a block of its own, in a row of pointers, and by their names in a map. -/
namespace Go.Proofs.Ytfemplekibpfoac
open Go.RowKit Go.Maps
open Plain
set_option linter.unusedVariables false

namespace Plain
theorem findS_iff {s : List (Fl × Nat)} (ha : AscS s) {n : ByteArray} {q : Fl × Nat} : findS s n = some q ↔ q ∈ s ∧ q.1.name = n := by
  constructor
  · exact findS_mem
  · rintro ⟨h1, h2⟩
    cases hf : findS s n with
    | none => exact absurd h2 (findS_none.1 hf q h1)
    | some r =>
      obtain ⟨h3, h4⟩ := findS_mem hf
      congr 1
      rcases List.mem_iff_getElem.1 h1 with ⟨i, hi, rfl⟩
      rcases List.mem_iff_getElem.1 h3 with ⟨j, hj, rfl⟩
      rcases Nat.lt_trichotomy i j with h | h | h
      · have := List.pairwise_iff_getElem.1 ha i j hi hj h
        rw [h2, h4, ltB_irrefl] at this
        cases this
      · subst h; rfl
      · have := List.pairwise_iff_getElem.1 ha j i hj hi h
        rw [h2, h4, ltB_irrefl] at this
        cases this
theorem putS_self (s : List (Fl × Nat)) (p : Fl × Nat) : p ∈ putS s p := by unfold putS; simp
theorem putS_old {s : List (Fl × Nat)} {p q : Fl × Nat} (hq : q ∈ s) (hn : q.1.name ≠ p.1.name) : q ∈ putS s p := by
  unfold putS
  rcases ltB_total hn with h | h
  · exact List.mem_append_left _ (List.mem_filter.2 ⟨hq, h⟩)
  · exact List.mem_append_right _ (List.mem_cons_of_mem _ (List.mem_filter.2 ⟨hq, h⟩))
theorem findS_put_same {s : List (Fl × Nat)} (ha : AscS s) (p : Fl × Nat) : findS (putS s p) p.1.name = some p := (findS_iff (putS_asc p ha)).2 ⟨putS_self s p, rfl⟩
theorem findS_put_other {s : List (Fl × Nat)} (ha : AscS s) {p : Fl × Nat} {n : ByteArray} (hn : p.1.name ≠ n) : findS (putS s p) n = findS s n := by
  cases hf : findS s n with
  | some q =>
    obtain ⟨h1, h2⟩ := findS_mem hf
    exact (findS_iff (putS_asc p ha)).2 ⟨putS_old h1 (by rw [h2]; exact hn.symm), h2⟩
  | none =>
    rw [findS_none]
    intro q hq
    rcases putS_mem hq with rfl | ⟨h1, _⟩
    · exact hn
    · exact findS_none.1 hf q h1
/-- The block of the first box of that name. -/
def findB (P : List (Lb × Nat)) (n : ByteArray) : Option Nat := (P.find? fun p => sameN n p.1.b).map (·.2)
theorem findB_snoc (P : List (Lb × Nat)) (p : Lb × Nat) (n : ByteArray) : findB (P ++ [p]) n = (findB P n).or (if sameN n p.1.b then some p.2 else none) := by
  unfold findB
  rw [List.find?_append]
  cases P.find? fun p => sameN n p.1.b with
  | some q => rfl
  | none =>
    simp only [Option.none_or, Option.map_none, List.find?_cons, List.find?_nil]
    cases sameN n p.1.b <;> rfl
theorem findB_some {P : List (Lb × Nat)} {n : ByteArray} {g : Nat} (h : findB P n = some g) : ∃ k p, P[k]? = some p ∧ p.2 = g ∧ sameN n p.1.b = true ∧ ∀ y ∈ P.take k, sameN n y.1.b = false := by
  unfold findB at h
  cases hf : P.find? fun p => sameN n p.1.b with
  | none => rw [hf] at h; cases h
  | some p =>
    rw [hf] at h
    obtain ⟨hp, aa, bb, rfl, hno⟩ := List.find?_eq_some_iff_append.1 hf
    refine ⟨aa.length, p, by simp, Option.some.inj h, hp, fun y hy => ?_⟩
    simp at hy
    have := hno y hy
    simpa using this
theorem findB_none {P : List (Lb × Nat)} {n : ByteArray} (h : findB P n = none) : ∀ y ∈ P, sameN n y.1.b = false := by
  unfold findB at h
  rw [Option.map_eq_none_iff, List.find?_eq_none] at h
  intro y hy
  have := h y hy
  cases hq : sameN n y.1.b with
  | true => exact absurd hq this
  | false => rfl
theorem names_old {S : List (Fl × Nat)} {P : List (Lb × Nat)} {p : Lb × Nat} {g : Nat} (h : ∀ n, (findS S n).map (·.2) = findB P n) (hf : findB P p.1.b.name = some g) : ∀ n, (findS S n).map (·.2) = findB (P ++ [p]) n := by
  intro n
  rw [h, findB_snoc]
  cases hn : sameN n p.1.b with
  | true => rw [← sameN_iff.1 hn, hf]; rfl
  | false => cases findB P n <;> rfl
theorem names_new {S : List (Fl × Nat)} {P : List (Lb × Nat)} {p : Lb × Nat} (ha : AscS S) (h : ∀ n, (findS S n).map (·.2) = findB P n) (hf : findB P p.1.b.name = none) : ∀ n, (findS (putS S (⟨p.1.b.name, ByteArray.empty, 0⟩, p.2)) n).map (·.2) = findB (P ++ [p]) n := by
  intro n
  rw [findB_snoc]
  cases hn : sameN n p.1.b with
  | true =>
    have e := sameN_iff.1 hn
    subst e
    rw [hf]
    have := findS_put_same ha (⟨p.1.b.name, ByteArray.empty, 0⟩, p.2)
    simp only at this
    rw [this]
    rfl
  | false =>
    have hne : p.1.b.name ≠ n := fun e => by rw [sameN_iff.2 e] at hn; cases hn
    rw [findS_put_other ha hne, h]
    cases findB P n <;> rfl
end Plain
theorem keyedB : Keyed Try.prog 9 := string_keyed Try.underlying9
theorem zeroPB (w : World) : (zeroValue 79).run Try.prog w = .ok (.pointer none) w := by kernel_rfl
/-- A pointer reads as its block's number. -/
def ptrE (v : Value) : Option (DataW Unit × List MemPlace) :=
  match v with
  | .pointer (some ⟨g, 0, none⟩) => some (.lit (.int .i64 (g : Int)), [])
  | .pointer none => some (.lit (.int .i64 (-1)), [])
  | _ => none
theorem ptrE_mk (g : Nat) : ptrE (.pointer (some ⟨g, 0, none⟩)) = some (.lit (.int .i64 (g : Int)), []) := rfl
theorem ptrE_nil : ptrE (.pointer none) = some (.lit (.int .i64 (-1)), []) := rfl
theorem ptrE_inv {v : Value} {g : Nat} {ps : List MemPlace} (h : ptrE v = some (.lit (.int .i64 (g : Int)), ps)) : v = .pointer (some ⟨g, 0, none⟩) := by
  unfold ptrE at h
  split at h
  · simp at h
    obtain ⟨h1, _⟩ := h
    obtain rfl : _ = g := Int.ofNat.inj h1
    rfl
  · simp at h
  · cases h
theorem ptrE_inv_nil {v : Value} {ps : List MemPlace} (h : ptrE v = some (.lit (.int .i64 (-1)), ps)) : v = .pointer none := by
  unfold ptrE at h
  split at h
  · simp at h
  · rfl
  · cases h
theorem owns_fit {H : Type} {P : Program} {k : TypeId} {R : Value → Option (DataW H × List MemPlace)} {w : World} {b n m : Nat} {D : DataW H} (h : w.ownsMap P k R b n D) (hm : Maps.size D = m) : w.ownsMap P k R b m D := by
  obtain ⟨es, clock, h1, h2, h3, rfl⟩ := h
  refine ⟨es, clock, h1, h2, ?_, rfl⟩
  subst hm
  simp [Maps.size, length_sorted]
theorem keyB {n : ByteArray} (h : n.size ≤ 1048576) : keyOf Try.prog 9 (.string n) = some (.string n.data.toList) := WideMaps.keyOf_string_mk Try.underlying9 (by unfold maxLen; omega)
/-- Boxes by their names, in the map of block b. -/
def Named (B : Nat) (w : World) (b : Nat) (s : List (Fl × Nat)) : Prop := w.ownsMap Try.prog 9 ptrE b s.length (dm s) ∧ B ≤ b ∧ AscS s
theorem Named.lt {B : Nat} {w : World} {b : Nat} {s : List (Fl × Nat)} (h : Named B w b s) : b < w.heap.size := h.1.lt
theorem Named.kept {B : Nat} {w w' : World} {b : Nat} {s : List (Fl × Nat)} {row : Option Nat} (h : Named B w b s) (hg : w.grownBy w' row) (hne : some b ≠ row) : Named B w' b s := ⟨h.1.kept hg hne, h.2⟩
theorem Named.up {B : Nat} {w w' : World} {b : Nat} {s : List (Fl × Nat)} (h : Named B w b s) (hb : Below w.heap.size w w') : Named B w' b s := h.kept (g_grown hb none) (by simp)
theorem Named.drew {B : Nat} {w : World} {b : Nat} {s : List (Fl × Nat)} (h : Named B w b s) : Named B w.drew b s := h
theorem Named.based {B B' : Nat} {w : World} {b : Nat} {s : List (Fl × Nat)} (h : Named B w b s) (hB : B' ≤ B) : Named B' w b s := ⟨h.1, Nat.le_trans hB h.2.1, h.2.2⟩
theorem Named.no_obj {B : Nat} {w : World} {b : Nat} {s : List (Fl × Nat)} (h : Named B w b s) {g : Nat} {t : TypeId} {vs : List Value} (ho : HasObj w g t vs) : g ≠ b := fun e => by
  obtain ⟨es, clock, h1, _⟩ := h.1
  unfold HasObj at ho
  rw [e, h1] at ho
  cases ho
theorem Named.no_row {B : Nat} {w : World} {b : Nat} {s : List (Fl × Nat)} (h : Named B w b s) {B2 size n : Nat} {e : TypeId} {v : Value} {xs : List Value} (hr : w.ownsRow B2 e size v n xs) : v.ownBlock ≠ some b := fun he => by
  obtain ⟨es, clock, h1, _⟩ := h.1
  rcases hr.2 with ⟨h2, _⟩ | ⟨g, c, cur, h2, _, hh, _⟩
  · rw [h2] at he; cases he
  · rw [h2] at he
    cases he
    rw [h1] at hh
    cases hh
theorem Named.set {B : Nat} {w : World} {b : Nat} {s : List (Fl × Nat)} (h : Named B w b s) {g j : Nat} {t : TypeId} {vs : List Value} (ho : HasObj w g t vs) (u : Value) : Named B (w.setCell ⟨g, j, none⟩ u) b s :=
  ⟨h.1.setCell (a := ⟨g, j, none⟩) (fun e => h.no_obj ho e.symm) u, h.2⟩
def ptrOf : Option Nat → Value
  | some g => .pointer (some ⟨g, 0, none⟩)
  | none => .pointer none
theorem Named.look {B : Nat} {w : World} {b : Nat} {s : List (Fl × Nat)} (h : Named B w b s) {n : ByteArray} (hn : n.size ≤ 1048576) :
    (Instr.lookup 75 (.map (some b)) (.string n) false).run Try.prog w = .ok (ptrOf ((findS s n).map (·.2))) w := by
  obtain ⟨v, ps, hr, hv⟩ := h.1.lookup keyedB Try.underlying75 (zeroPB w) ptrE_nil (keyB hn)
  cases hf : findS s n with
  | some p => rw [dm_at hf] at hv; rw [hr, ptrE_inv hv]; rfl
  | none => rw [dm_at_none hf] at hv; rw [hr, ptrE_inv_nil hv]; rfl
theorem Named.put {B : Nat} {w : World} {b : Nat} {s : List (Fl × Nat)} (h : Named B w b s) {n : ByteArray} {g : Nat} (hn : n.size ≤ 1048576) (hl : s.length ≤ 4194304) :
    ∃ w', (Instr.mapUpdate 75 (.map (some b)) (.string n) (.pointer (some ⟨g, 0, none⟩))).run Try.prog w = .ok () w' ∧ Named B w' b (putS s (⟨n, ByteArray.empty, 0⟩, g)) ∧ w.grownBy w' (some b) := by
  obtain ⟨w', hr, ho, hg⟩ := h.1.update keyedB Try.underlying75 (by unfold maxLen; omega) (keyB hn) (ptrE_mk g)
  rw [dm_put (⟨n, ByteArray.empty, 0⟩, g) rfl rfl h.2.2] at ho
  exact ⟨w', hr, ⟨owns_fit ho (dm_size _), h.2.1, putS_asc _ h.2.2⟩, hg⟩
theorem Named.del {B : Nat} {w : World} {b : Nat} {s : List (Fl × Nat)} (h : Named B w b s) {n : ByteArray} (hn : n.size ≤ 1048576) (ty : TypeId) :
    ∃ w', (Builtin.delete_ #[75, 9] ty #[.map (some b), .string n]).run Try.prog w = .ok (.tuple #[]) w' ∧ w.grownBy w' (some b) := by
  obtain ⟨w', hr, ho, hg⟩ := h.1.drop keyedB Try.underlying75 (keyB hn) ty
  exact ⟨w', hr, hg.grown⟩
theorem Named.made {B : Nat} (w : World) (hB : B ≤ w.heap.size) : Named B (w.alloc (.map #[] 0)) w.heap.size [] := ⟨World.ownsMap_made w Try.prog 9 ptrE, hB, List.Pairwise.nil⟩
/-- A row of pointers. -/
def ptC (g : Nat) : List Value := [.pointer (some ⟨g, 0, none⟩)]
theorem ptC_len : ∀ g, (ptC g).length = 1 := fun _ => rfl
theorem Try.infoPBox : (Try.prog.info? 79).map (fun i => (i.zero, i.size, i.bytes)) = some (some (.pointer none), 1, 8) := by kernel_rfl
def OwnPt (B : Nat) (w : World) (v : Value) (l : List Nat) : Prop := w.ownsRow B 79 1 v l.length (rowC ptC l)
theorem OwnPt.up {B : Nat} {w w' : World} {v : Value} {l : List Nat} (h : OwnPt B w v l) (hb : Below w.heap.size w w') : OwnPt B w' v l := g_stays h hb
theorem OwnPt.drew {B : Nat} {w : World} {v : Value} {l : List Nat} (h : OwnPt B w v l) : OwnPt B w.drew v l := h
theorem OwnPt.based {B B' : Nat} {w : World} {v : Value} {l : List Nat} (h : OwnPt B w v l) (hB : B' ≤ B) : OwnPt B' w v l := g_based h hB
theorem OwnPt.snoc {B : Nat} {w : World} {v : Value} {l : List Nat} {x : Nat} (h : w.ownsRow B 79 1 v (l.length + 1) (rowC ptC l ++ ptC x)) : OwnPt B w v (l ++ [x]) := by
  unfold OwnPt
  rw [rowC_snoc, List.length_append]
  exact h
theorem pt_read {B : Nat} {w : World} {v : Value} {l : List Nat} (h : OwnPt B w v l) {k g : Nat} (hx : l[k]? = some g) : ∃ q c, v = .slice (some ⟨q, 0, none⟩) l.length c ∧ w.cell? ⟨q, k, none⟩ = some (.pointer (some ⟨g, 0, none⟩)) := by
  have hk : k < l.length := (List.getElem?_eq_some_iff.1 hx).1
  unfold OwnPt at h
  rcases h.2 with ⟨_, h0⟩ | ⟨q, c, cur, rfl, _, hh, _⟩
  · omega
  · refine ⟨q, c, rfl, ?_⟩
    rw [h.cellAt _ (by omega)]
    have h9 := rowC_get ptC_len hx (j := 0) (by decide)
    rw [Nat.mul_one, Nat.add_zero] at h9
    exact h9
/-- The boxes, each in its block. -/
def ObjsB (B : Nat) (w : World) (P : List (Lb × Nat)) : Prop := ∀ p ∈ P, B ≤ p.2 ∧ HasObj w p.2 39 (lbC p.1) ∧ OwnBx B w p.1.m p.1.t p.1.b
theorem ObjsB.up {B : Nat} {w w' : World} {P : List (Lb × Nat)} (h : ObjsB B w P) (hb : Below w.heap.size w w') : ObjsB B w' P := fun p hp => ⟨(h p hp).1, (h p hp).2.1.ups hb, (h p hp).2.2.up hb⟩
theorem ObjsB.drew {B : Nat} {w : World} {P : List (Lb × Nat)} (h : ObjsB B w P) : ObjsB B w.drew P := fun p hp => ⟨(h p hp).1, (h p hp).2.1, ⟨(h p hp).2.2.1, (h p hp).2.2.2⟩⟩
theorem ObjsB.based {B B' : Nat} {w : World} {P : List (Lb × Nat)} (h : ObjsB B w P) (hB : B' ≤ B) : ObjsB B' w P := fun p hp => ⟨Nat.le_trans hB (h p hp).1, (h p hp).2.1, (h p hp).2.2.based hB⟩
theorem ObjsB.nil (B : Nat) (w : World) : ObjsB B w [] := fun p hp => by cases hp
theorem ObjsB.snoc {B : Nat} {w : World} {P : List (Lb × Nat)} {p : Lb × Nat} (h : ObjsB B w P) (h1 : B ≤ p.2) (h2 : HasObj w p.2 39 (lbC p.1)) (h3 : OwnBx B w p.1.m p.1.t p.1.b) : ObjsB B w (P ++ [p]) := fun q hq => by
  rcases List.mem_append.1 hq with hq | hq
  · exact h q hq
  · simp at hq; subst hq; exact ⟨h1, h2, h3⟩
theorem ObjsB.sub {B : Nat} {w : World} {P P' : List (Lb × Nat)} (h : ObjsB B w P) (hs : ∀ p ∈ P', p ∈ P) : ObjsB B w P' := fun p hp => h p (hs p hp)
theorem obj_ne {w : World} {a b : Nat} {t u : TypeId} {vs us : List Value} (h1 : HasObj w a t vs) (h2 : HasObj w b u us) (hn : t ≠ u) : a ≠ b := fun e => by
  subst e
  unfold HasObj at h1 h2
  rw [h1] at h2
  simp at h2
  exact hn h2.2
theorem ObjsB.set {B : Nat} {W : World} {P : List (Lb × Nat)} {b j : Nat} {t : TypeId} {vs : List Value} (h : ObjsB B W P) (ho : HasObj W b t vs) (h0 : t ≠ 39) (h1 : t ≠ 98) (h2 : t ≠ 119) (u : Value) : ObjsB B (W.setCell ⟨b, j, none⟩ u) P :=
  fun p hp => ⟨(h p hp).1, (h p hp).2.1.other (obj_ne (h p hp).2.1 ho h0.symm) u, ⟨ho.row h1 (h p hp).2.2.1 u, ho.row h2 (h p hp).2.2.2 u⟩⟩
theorem ObjsB.aside {B B2 n size : Nat} {W W' : World} {P : List (Lb × Nat)} {e : TypeId} {v : Value} {xs : List Value} (h : ObjsB B W P) (hr : W.ownsRow B2 e size v n xs) (hg : W.grownBy W' v.ownBlock) (h0 : 39 ≠ e) (h1 : e ≠ 98) (h2 : e ≠ 119) : ObjsB B W' P :=
  fun p hp => ⟨(h p hp).1, (h p hp).2.1.kept hg (fun he => (h p hp).2.1.not_row h0 hr he.symm), ⟨g_aside (h p hp).2.2.1 hg (fun k hk => rows_apart hr (h p hp).2.2.1 h1 k hk), g_aside (h p hp).2.2.2 hg (fun k hk => rows_apart hr (h p hp).2.2.2 h2 k hk)⟩⟩
theorem ObjsB.beyond {B B2 n size N : Nat} {W W' : World} {P : List (Lb × Nat)} {e : TypeId} {v : Value} {xs : List Value} (h : ObjsB B W P) (hlt : ∀ p ∈ P, p.2 < N) (hr : W.ownsRow B2 e size v n xs) (hN : N ≤ B2) (hg : W.grownBy W' v.ownBlock) (h1 : e ≠ 98) (h2 : e ≠ 119) : ObjsB B W' P :=
  fun p hp => ⟨(h p hp).1, (h p hp).2.1.kept hg (fun he => by have q1 := hlt p hp; have q2 := (World.ownsRow.lt hr p.2 he.symm).1; omega), ⟨g_aside (h p hp).2.2.1 hg (fun k hk => rows_apart hr (h p hp).2.2.1 h1 k hk), g_aside (h p hp).2.2.2 hg (fun k hk => rows_apart hr (h p hp).2.2.2 h2 k hk)⟩⟩
theorem ObjsB.mapped {B B2 b : Nat} {W W' : World} {P : List (Lb × Nat)} {s : List (Fl × Nat)} (h : ObjsB B W P) (hm : Named B2 W b s) (hg : W.grownBy W' (some b)) : ObjsB B W' P :=
  fun p hp => ⟨(h p hp).1, (h p hp).2.1.kept hg (fun he => hm.no_obj (h p hp).2.1 (Option.some.inj he)), ⟨g_aside (h p hp).2.2.1 hg (fun k hk he => by cases hk; exact hm.no_row (h p hp).2.2.1 he), g_aside (h p hp).2.2.2 hg (fun k hk he => by cases hk; exact hm.no_row (h p hp).2.2.2 he)⟩⟩
theorem ObjsB.filled {B r : Nat} {W U : World} {P : List (Lb × Nat)} {t : TypeId} {vs us : List Value} (h : ObjsB B W P) (ho : HasObj W r t vs) (F : Filled W r t us U) (h0 : t ≠ 39) (h1 : t ≠ 98) (h2 : t ≠ 119) : ObjsB B U P :=
  fun p hp => ⟨(h p hp).1, F.other (obj_ne (h p hp).2.1 ho h0.symm) (h p hp).2.1, ⟨F.row h1 (h p hp).2.2.1, F.row h2 (h p hp).2.2.2⟩⟩
/-- No two boxes share a block or a row. -/
def AsideB (p q : Lb × Nat) : Prop := p.2 ≠ q.2 ∧ ApartB p.1 q.1
/-- A store that lies open. -/
structure OpenSt (B : Nat) (w : World) (v : Value) (mb : Nat) (P : List (Lb × Nat)) : Prop where
  row : OwnPt B w v (P.map (·.2))
  objs : ObjsB B w P
  apart : P.Pairwise AsideB
  map : ∃ S, Named B w mb S ∧ S.length ≤ P.length ∧ ∀ n, (findS S n).map (·.2) = findB P n
theorem OpenSt.up {B : Nat} {w w' : World} {v : Value} {mb : Nat} {P : List (Lb × Nat)} (h : OpenSt B w v mb P) (hb : Below w.heap.size w w') : OpenSt B w' v mb P := by
  obtain ⟨S, h1, h2, h3⟩ := h.map
  exact ⟨h.row.up hb, h.objs.up hb, h.apart, S, h1.up hb, h2, h3⟩
theorem OpenSt.drew {B : Nat} {w : World} {v : Value} {mb : Nat} {P : List (Lb × Nat)} (h : OpenSt B w v mb P) : OpenSt B w.drew v mb P := by
  obtain ⟨S, h1, h2, h3⟩ := h.map
  exact ⟨h.row.drew, h.objs.drew, h.apart, S, h1.drew, h2, h3⟩
theorem OpenSt.look {B : Nat} {w : World} {v : Value} {mb : Nat} {P : List (Lb × Nat)} (h : OpenSt B w v mb P) {n : ByteArray} (hn : n.size ≤ 1048576) :
    (Instr.lookup 75 (.map (some mb)) (.string n) false).run Try.prog w = .ok (ptrOf (findB P n)) w := by
  obtain ⟨S, h1, _, h3⟩ := h.map
  rw [h1.look hn, h3]
end Go.Proofs.Ytfemplekibpfoac

/- The program's openedStore. Made by gen_stores.py. -/
namespace Go.Proofs.Ytfemplekibpfoac
open Go.RowKit
open Plain
set_option linter.unusedVariables false
set_option linter.unusedSimpArgs false

theorem fill3 {W : World} {r : Nat} {t : TypeId} {v0 v1 v2 : Value} (h : HasObj W r t [v0, v1, v2]) (u0 u1 u2 : Value) :
    Filled W r t [u0, u1, u2] (((W.setCell ⟨r, 0, none⟩ u0).setCell ⟨r, 1, none⟩ u1).setCell ⟨r, 2, none⟩ u2) := by
  have h1 := h.set 0 u0; have h2 := h1.set 1 u1; have h3 := h2.set 2 u2
  refine ⟨h3, fun hne hb => ?_, fun hte hr => ?_, fun hn hb => ?_, by simp⟩
  · exact (((hb.other (j := 0) hne u0).other (j := 1) hne u1).other (j := 2) hne u2)
  · exact (h2.row (j := 2) hte (h1.row (j := 1) hte (h.row (j := 0) hte hr u0) u1) u2)
  · exact (((hb.setCell (p := ⟨r, 0, none⟩) hn u0).setCell (p := ⟨r, 1, none⟩) hn u1).setCell (p := ⟨r, 2, none⟩) hn u2)
set_option maxHeartbeats 8000000 in
set_option maxRecDepth 100000 in
theorem openedStore_any (s : Sx) (v : Value) (B : Nat) (w : World) (hf : FitSt s) (h : ReadSt B w v s.boxes) :
    Calls Try.prog 42 #[.agg #[v, .int .i64 s.valid]] w fun e w' => ∃ v' mb P, P.map (·.1.b) = s.boxes ∧ e = .returned (.agg #[v', .map (some mb), .int .i64 s.valid]) ∧ OpenSt w.heap.size w' v' mb P ∧ Below w.heap.size w w' := by
  obtain ⟨iP, hP, hP0, hP1, hP2⟩ := info_parts Try.infoPBox
  have hmm := @run_makeMap Try.prog
  obtain ⟨L, hL, h⟩ := h
  obtain ⟨a1, c1, rfl⟩ := g_shape h.row
  obtain ⟨n, hn⟩ : ∃ n, n = s.boxes.length := ⟨_, rfl⟩
  have hn1 : L.length = n := by rw [hn, ← hL, List.length_map]
  have hnl := hf.len
  rw [← hn] at hnl
  have S1 := hide h
  rw [hn1] at S1 ⊢
  have FE := hide hf.each; have HL := hide hL; have HN := hide hn; have HN1 := hide hn1; clear h hL hn hn1 hf
  have OR1 : Hid (OwnBr B w (.slice a1 n c1) L) := (unhide S1).row
  have EB1 : Hid (EachB B w L) := (unhide S1).each
  clear S1; have BB := hide (Below.refl w.heap.size w)
  obtain ⟨wo1, hA⟩ : ∃ X, X = w.alloc (.cells ([.slice a1 n c1, .int .i64 s.valid] : List Value).toArray 33) := ⟨_, rfl⟩
  have Ax : HasObj wo1 w.heap.size 33 [.slice a1 n c1, .int .i64 s.valid] := by rw [hA]; exact HasObj.new _ _ _
  have hbn : Below w.heap.size w wo1 := by rw [hA]; exact (Below.refl _ _).alloc (Nat.le_refl _) _
  have loA : w.heap.size ≤ w.heap.size := (unhide BB).size
  have EA := hA.symm; clear hA; replace OR1 := hide ((unhide OR1).up hbn); replace EB1 := hide ((unhide EB1).up hbn); have sz1 := hide (hbn.size); replace BB := hide (below_y (unhide BB) hbn); clear hbn; have A := hide Ax; clear Ax
  obtain ⟨wo2, hR⟩ : ∃ X, X = wo1.alloc (.cells ([.slice none 0 0, .map none, .int .i64 0] : List Value).toArray 77) := ⟨_, rfl⟩
  have Rx : HasObj wo2 wo1.heap.size 77 [.slice none 0 0, .map none, .int .i64 0] := by rw [hR]; exact HasObj.new _ _ _
  have hbn : Below wo1.heap.size wo1 wo2 := by rw [hR]; exact (Below.refl _ _).alloc (Nat.le_refl _) _
  have neAR : w.heap.size ≠ wo1.heap.size := Nat.ne_of_lt (unhide A).lt
  have loR : w.heap.size ≤ wo1.heap.size := (unhide BB).size
  have ER := hR.symm; clear hR; replace A := hide ((unhide A).ups hbn); replace OR1 := hide ((unhide OR1).up hbn); replace EB1 := hide ((unhide EB1).up hbn); have sz2 := hide (hbn.size); replace BB := hide (below_y (unhide BB) hbn); clear hbn; have R := hide Rx; clear Rx
  obtain ⟨wo3, hM⟩ : ∃ X, X = wo2.alloc (.map #[] 0) := ⟨_, rfl⟩
  have NMx : Named w.heap.size wo3 wo2.heap.size [] := by rw [hM]; exact Named.made _ (unhide BB).size
  have hbn : Below wo2.heap.size wo2 wo3 := by rw [hM]; exact (Below.refl _ _).alloc (Nat.le_refl _) _
  have EM := hM.symm; clear hM; replace A := hide ((unhide A).ups hbn); replace R := hide ((unhide R).ups hbn); replace OR1 := hide ((unhide OR1).up hbn); replace EB1 := hide ((unhide EB1).up hbn); have sz3 := hide (hbn.size); replace BB := hide (below_y (unhide BB) hbn); clear hbn; have NM := hide NMx; clear NMx; have Ac0_1 := (unhide A).cell 0 rfl; have Ac1_1 := (unhide A).cell 1 rfl
  obtain ⟨wo4, hO⟩ : ∃ X, X = wo3.alloc (.cells ([.slice none 0 0, .map (some (wo2.heap.size)), .int .i64 s.valid] : List Value).toArray 77) := ⟨_, rfl⟩
  have Ox : HasObj wo4 wo3.heap.size 77 [.slice none 0 0, .map (some (wo2.heap.size)), .int .i64 s.valid] := by rw [hO]; exact HasObj.new _ _ _
  have hbn : Below wo3.heap.size wo3 wo4 := by rw [hO]; exact (Below.refl _ _).alloc (Nat.le_refl _) _
  have neAO : w.heap.size ≠ wo3.heap.size := Nat.ne_of_lt (unhide A).lt
  have neRO : wo1.heap.size ≠ wo3.heap.size := Nat.ne_of_lt (unhide R).lt
  have loO : w.heap.size ≤ wo3.heap.size := (unhide BB).size
  have EO := hO.symm; clear hO; replace A := hide ((unhide A).ups hbn); replace R := hide ((unhide R).ups hbn); replace OR1 := hide ((unhide OR1).up hbn); replace EB1 := hide ((unhide EB1).up hbn); replace NM := hide ((unhide NM).up hbn); have sz4 := hide (hbn.size); replace BB := hide (below_y (unhide BB) hbn); clear hbn; have O := hide Ox; clear Ox; have Ac0_2 := (unhide A).cell 0 rfl; have Ac1_2 := (unhide A).cell 1 rfl
  go_enter Try.func42, Try.ntmps42
  go_wp2
  clear Ac0_1 Ac1_1 Ac0_2 Ac1_2 EA ER EM EO
  obtain ⟨REL, HREL⟩ : ∃ REL : Value → World → Prop, Hid (REL = fun i wr => ∃ (k : Nat) (P : List (Lb × Nat)) (Q : List Nat) (S : List (Fl × Nat)) (av : Option Addr) (cv : Nat), k ≤ n ∧ i = .int .i64 k ∧ P.map (·.1.b) = s.boxes.take k ∧ P.map (·.2) = Q ∧ P.Pairwise AsideB ∧ S.length ≤ P.length ∧ (∀ m, (findS S m).map (·.2) = findB P m) ∧ HasObj wr (w.heap.size) 33 [.slice a1 n c1, .int .i64 s.valid] ∧ HasObj wr (wo1.heap.size) 77 [.slice none 0 0, .map none, .int .i64 0] ∧ HasObj wr (wo3.heap.size) 77 [.slice av Q.length cv, .map (some (wo2.heap.size)), .int .i64 s.valid] ∧ OwnBr B wr (.slice a1 n c1) L ∧ EachB B wr L ∧ OwnPt w.heap.size wr (.slice av Q.length cv) Q ∧ ObjsB w.heap.size wr P ∧ Named w.heap.size wr (wo2.heap.size) S ∧ Below w.heap.size w wr) := ⟨_, rfl⟩
  go_loopw [14] (fun i wr => REL i wr) (fun i _ => n - (intOf i).toNat)
  case atStart => rw [unhide HREL]; exact ⟨0, [], [], [], none, 0, Nat.zero_le _, rfl, by simp, rfl, List.Pairwise.nil, Nat.le_refl _, fun _ => rfl, unhide A, unhide R, unhide O, unhide OR1, unhide EB1, World.ownsRow_nil _ _ _ _, ObjsB.nil _ _, unhide NM, unhide BB⟩
  clear OR1 EB1 BB A R O NM
  case round =>
    rw [unhide HREL] at hrel
    obtain ⟨k, P, Q, S, av, cv, hk, rfl, hPk, hPQ, hPA, hSP, hFS, oA, oR, oO, o1, oe, op, ob, nm, hbel⟩ := hrel
    obtain ⟨wo, hwo⟩ : ∃ wo, wo = wr := ⟨_, rfl⟩
    subst hwo
    have HPK := hide hPk; have HPQ := hide hPQ; have HPA := hide hPA; have HSP := hide hSP; have HFS := hide hFS; clear hPk hPQ hPA hSP hFS
    by_cases hlt : k < n
    · have hkl : k < L.length := by rw [unhide HN1]; exact hlt
      have hx : L[k]? = some L[k] := List.getElem?_eq_getElem hkl
      have hbx : s.boxes[k]? = some L[k].b := by rw [← unhide HL, List.getElem?_map, hx]; rfl
      have hmx := List.getElem_mem hkl; have hfx := unhide FE _ (List.mem_of_getElem? hbx)
      obtain ⟨g1, q1, e3, _, _, _⟩ := br_read o1 hx
      have e5 := (Value.slice.inj e3).1; clear e3
      subst e5
      generalize L[k] = x at *
      obtain ⟨b, m, t⟩ := x
      simp only at hbx hfx
      obtain ⟨am, cm, ee1⟩ := g_shape (oe _ hmx).1
      obtain ⟨at1, ct1, ee2⟩ := g_shape (oe _ hmx).2
      simp only at ee1 ee2
      subst ee1 ee2
      have A := hide oA; have R := hide oR; have O := hide oO; have OR1 := hide o1; have EB1 := hide oe; have OP := hide op; have OB := hide ob; have NM := hide nm; have BB := hide hbel; have X1 := hide hx; have XB := hide hbx; have M1 := hide hmx; have FX := hide hfx
      have hlo9 : w.heap.size ≤ wo.heap.size := hbel.size
      have LPK : Hid (P.length = k) := by have h9 := congrArg List.length (unhide HPK); rw [List.length_map, List.length_take, ← unhide HN] at h9; show _ = _; omega
      have LQK : Hid (Q.length = k) := by show _ = _; rw [← unhide HPQ, List.length_map]; exact unhide LPK
      clear oA oR oO o1 oe op ob nm hbel hx hbx hmx hfx
      have i1 : (0 : Int) ≤ (k : Int) := by omega
      have i2 : (k : Int) < (n : Int) := by omega
      have ec0 := (br_of (unhide OR1) (unhide X1)).1
      simp only at ec0
      have ec1 := (br_of (unhide OR1) (unhide X1)).2.1
      simp only at ec1
      have ec2 := (br_of (unhide OR1) (unhide X1)).2.2.1
      simp only at ec2
      have ec3 := (br_of (unhide OR1) (unhide X1)).2.2.2.1
      simp only at ec3
      have ec4 := (br_of (unhide OR1) (unhide X1)).2.2.2.2.1
      simp only at ec4
      have ec5 := (br_of (unhide OR1) (unhide X1)).2.2.2.2.2.1
      simp only at ec5
      have ec6 := (br_of (unhide OR1) (unhide X1)).2.2.2.2.2.2
      simp only at ec6
      obtain ⟨wor1, hV⟩ : ∃ X, X = wo.alloc (.cells ([.string b.name, .int .i64 b.valid, .int .i64 b.next, .int .i64 b.mod, .slice am b.mails.length cm, .slice at1 b.tombs.length ct1, .int .i64 b.hor] : List Value).toArray 39) := ⟨_, rfl⟩
      have Vx : HasObj wor1 wo.heap.size 39 [.string b.name, .int .i64 b.valid, .int .i64 b.next, .int .i64 b.mod, .slice am b.mails.length cm, .slice at1 b.tombs.length ct1, .int .i64 b.hor] := by rw [hV]; exact HasObj.new _ _ _
      have hbn : Below wo.heap.size wo wor1 := by rw [hV]; exact (Below.refl _ _).alloc (Nat.le_refl _) _
      have neAV : w.heap.size ≠ wo.heap.size := Nat.ne_of_lt (unhide A).lt
      have neRV : wo1.heap.size ≠ wo.heap.size := Nat.ne_of_lt (unhide R).lt
      have neOV : wo3.heap.size ≠ wo.heap.size := Nat.ne_of_lt (unhide O).lt
      have loV : w.heap.size ≤ wo.heap.size := (unhide BB).size
      have EV := hV.symm; clear hV; replace A := hide ((unhide A).ups hbn); replace R := hide ((unhide R).ups hbn); replace O := hide ((unhide O).ups hbn); replace OR1 := hide ((unhide OR1).up hbn); replace EB1 := hide ((unhide EB1).up hbn); replace OP := hide ((unhide OP).up hbn); replace OB := hide ((unhide OB).up hbn); replace NM := hide ((unhide NM).up hbn); have sz101 := hide (hbn.size); replace BB := hide (below_y (unhide BB) hbn); clear hbn; have V := hide Vx; clear Vx; have Vc0_51 := (unhide V).cell 0 rfl; have Vc1_51 := (unhide V).cell 1 rfl; have Vc2_51 := (unhide V).cell 2 rfl; have Vc3_51 := (unhide V).cell 3 rfl; have Vc4_51 := (unhide V).cell 4 rfl; have Vc5_51 := (unhide V).cell 5 rfl; have Vc6_51 := (unhide V).cell 6 rfl
      have hlo8 : w.heap.size ≤ wor1.heap.size := (unhide BB).size
      have PLT : Hid (∀ z ∈ P, z.2 < wor1.heap.size ∧ ∀ q, (z.1.m.ownBlock = some q ∨ z.1.t.ownBlock = some q) → q < wor1.heap.size) := fun z hz => ⟨(unhide OB z hz).2.1.lt, fun q hq => ((unhide OB z hz).2.2.base q hq).2⟩
      go_wp2_with fail; clear ec0 ec1 ec2 ec3 ec4 ec5 ec6 Vc0_51 Vc1_51 Vc2_51 Vc3_51 Vc4_51 Vc5_51 Vc6_51 EV
      refine (copiedBox_any b _ _ B _ (unhide FX) ((unhide EB1) _ (unhide M1))).mono ?_
      rintro e wor2 ⟨mC, tC, rfl, oC, hb⟩
      obtain ⟨amC, cmC, rfl⟩ := g_shape oC.1
      obtain ⟨atC, ctC, rfl⟩ := g_shape oC.2
      have NC := hide (OwnBx.base oC); replace A := hide ((unhide A).ups hb); replace R := hide ((unhide R).ups hb); replace O := hide ((unhide O).ups hb); replace V := hide ((unhide V).ups hb); replace OR1 := hide ((unhide OR1).up hb); replace EB1 := hide ((unhide EB1).up hb); replace OP := hide ((unhide OP).up hb); replace OB := hide ((unhide OB).up hb); replace NM := hide ((unhide NM).up hb); have sz102 := hide (hb.size); replace BB := hide (below_y (unhide BB) hb); clear hb; have OC := hide oC; clear oC
      obtain ⟨wor3, hG⟩ : ∃ X, X = wor2.alloc (.cells ([.string b.name, .int .i64 b.valid, .int .i64 b.next, .int .i64 b.mod, .slice amC b.mails.length cmC, .slice atC b.tombs.length ctC, .int .i64 b.hor] : List Value).toArray 39) := ⟨_, rfl⟩
      have Gx : HasObj wor3 wor2.heap.size 39 [.string b.name, .int .i64 b.valid, .int .i64 b.next, .int .i64 b.mod, .slice amC b.mails.length cmC, .slice atC b.tombs.length ctC, .int .i64 b.hor] := by rw [hG]; exact HasObj.new _ _ _
      have hbn : Below wor2.heap.size wor2 wor3 := by rw [hG]; exact (Below.refl _ _).alloc (Nat.le_refl _) _
      have neAG : w.heap.size ≠ wor2.heap.size := Nat.ne_of_lt (unhide A).lt
      have neRG : wo1.heap.size ≠ wor2.heap.size := Nat.ne_of_lt (unhide R).lt
      have neOG : wo3.heap.size ≠ wor2.heap.size := Nat.ne_of_lt (unhide O).lt
      have neVG : wo.heap.size ≠ wor2.heap.size := Nat.ne_of_lt (unhide V).lt
      have loG : w.heap.size ≤ wor2.heap.size := (unhide BB).size
      have EG := hG.symm; clear hG; replace A := hide ((unhide A).ups hbn); replace R := hide ((unhide R).ups hbn); replace O := hide ((unhide O).ups hbn); replace V := hide ((unhide V).ups hbn); replace OR1 := hide ((unhide OR1).up hbn); replace EB1 := hide ((unhide EB1).up hbn); replace OP := hide ((unhide OP).up hbn); replace OB := hide ((unhide OB).up hbn); replace NM := hide ((unhide NM).up hbn); replace OC := hide ((unhide OC).up hbn); have sz103 := hide (hbn.size); replace BB := hide (below_y (unhide BB) hbn); clear hbn; have G := hide Gx; clear Gx
      have hloG : w.heap.size ≤ wor2.heap.size := loG
      have Oc0_52 := (unhide O).cell 0 rfl; have Oc1_52 := (unhide O).cell 1 rfl; have Oc2_52 := (unhide O).cell 2 rfl
      have APN : Hid (∀ z ∈ P, AsideB z ((⟨b, .slice amC b.mails.length cmC, .slice atC b.tombs.length ctC⟩ : Lb), wor2.heap.size)) := fun z hz => ⟨Nat.ne_of_lt (Nat.lt_of_lt_of_le (unhide PLT z hz).1 (by have sz101_ := unhide sz101; have sz102_ := unhide sz102; have sz103_ := unhide sz103; omega)), ⟨fun q h1 h2 => by have q1 := (unhide PLT z hz).2 q (.inl h1); have q2 := (unhide NC q (.inl h2)).1; omega, fun q h1 h2 => by have q1 := (unhide PLT z hz).2 q (.inr h1); have q2 := (unhide NC q (.inr h2)).1; omega⟩⟩
      have lw4 := (unhide BB).size
      go_wp2_with (at_builtin; refine wpList_append_lies _ rfl _ _ 74 rfl w.heap.size 79 iP _ 1 8 Try.underlying74 hP hP0 hP1 hP2 rfl (by decide) _ _ _ rfl (World.ownsRow.alloc (unhide OP) _) ⟨wor3.heap.size, 0, none⟩ 1 1 (ptC (wor2.heap.size)) rfl rfl (newsC _ _) ?c2 (by decide) ?c3 ?c4 ?c5 (wor3.heap.size + 1) (by simp) ?_)
      clear Oc0_52 Oc1_52 Oc2_52 EG
      case c2 => intro u hu; simp [ptC] at hu; subst hu; rfl
      case c3 => unfold maxLen; have := unhide LQK; omega
      case c4 => have := unhide LQK; omega
      case c5 => have q1_ := (unhide BB).size; have sz101_ := unhide sz101; have sz102_ := unhide sz102; have sz103_ := unhide sz103; simp; omega
      intro gOP4 capOP4 wor4 hown hgr hat hlt_
      have oa := World.ownsRow.alloc (unhide OP) (.cells ((ptC (wor2.heap.size)) : List Value).toArray 79)
      have A_ := hide (((unhide A).alloc (.cells ((ptC (wor2.heap.size)) : List Value).toArray 79)).kept hgr (fun e => ((unhide A).alloc (.cells ((ptC (wor2.heap.size)) : List Value).toArray 79)).not_row (by decide) oa e.symm))
      have R_ := hide (((unhide R).alloc (.cells ((ptC (wor2.heap.size)) : List Value).toArray 79)).kept hgr (fun e => ((unhide R).alloc (.cells ((ptC (wor2.heap.size)) : List Value).toArray 79)).not_row (by decide) oa e.symm))
      have O_ := hide (((unhide O).alloc (.cells ((ptC (wor2.heap.size)) : List Value).toArray 79)).kept hgr (fun e => ((unhide O).alloc (.cells ((ptC (wor2.heap.size)) : List Value).toArray 79)).not_row (by decide) oa e.symm))
      have V_ := hide (((unhide V).alloc (.cells ((ptC (wor2.heap.size)) : List Value).toArray 79)).kept hgr (fun e => ((unhide V).alloc (.cells ((ptC (wor2.heap.size)) : List Value).toArray 79)).not_row (by decide) oa e.symm))
      have G_ := hide (((unhide G).alloc (.cells ((ptC (wor2.heap.size)) : List Value).toArray 79)).kept hgr (fun e => ((unhide G).alloc (.cells ((ptC (wor2.heap.size)) : List Value).toArray 79)).not_row (by decide) oa e.symm))
      have OR1_ : Hid (OwnBr B wor4 (.slice (some ⟨g1, 0, none⟩) n c1) (L)) := g_aside (World.ownsRow.alloc (unhide OR1) (.cells ((ptC (wor2.heap.size)) : List Value).toArray 79)) hgr (fun x hx => rows_apart (oa) (World.ownsRow.alloc (unhide OR1) (.cells ((ptC (wor2.heap.size)) : List Value).toArray 79)) (by decide) x hx)
      have EB1_ : Hid (EachB B wor4 (L)) := ((unhide EB1).up ((Below.refl _ _).alloc (Nat.le_refl _) (.cells ((ptC (wor2.heap.size)) : List Value).toArray 79))).aside oa hgr (by decide) (by decide)
      have OB_ : Hid (ObjsB w.heap.size wor4 (P)) := ((unhide OB).up ((Below.refl _ _).alloc (Nat.le_refl _) (.cells ((ptC (wor2.heap.size)) : List Value).toArray 79))).aside oa hgr (by decide) (by decide) (by decide)
      have NM_ : Hid (Named w.heap.size wor4 (wo2.heap.size) (S)) := ((unhide NM).up ((Below.refl _ _).alloc (Nat.le_refl _) (.cells ((ptC (wor2.heap.size)) : List Value).toArray 79))).kept hgr (fun e => ((unhide NM).up ((Below.refl _ _).alloc (Nat.le_refl _) (.cells ((ptC (wor2.heap.size)) : List Value).toArray 79))).no_row oa e.symm)
      have OC_ : Hid (OwnBx wor1.heap.size wor4 (.slice amC b.mails.length cmC) (.slice atC b.tombs.length ctC) b) := ⟨g_aside (World.ownsRow.alloc (unhide OC).1 (.cells ((ptC (wor2.heap.size)) : List Value).toArray 79)) hgr (fun x hx => rows_apart oa (World.ownsRow.alloc (unhide OC).1 (.cells ((ptC (wor2.heap.size)) : List Value).toArray 79)) (by decide) x hx), g_aside (World.ownsRow.alloc (unhide OC).2 (.cells ((ptC (wor2.heap.size)) : List Value).toArray 79)) hgr (fun x hx => rows_apart oa (World.ownsRow.alloc (unhide OC).2 (.cells ((ptC (wor2.heap.size)) : List Value).toArray 79)) (by decide) x hx)⟩
      have OP_ : Hid (OwnPt w.heap.size wor4 (.slice (some ⟨gOP4, 0, none⟩) (Q.length + 1) capOP4) (Q ++ [wor2.heap.size])) := by exact OwnPt.snoc hown
      have BB_ : Hid (Below w.heap.size w wor4) := ((unhide BB).alloc (unhide BB).size _).grown hgr (by have q1_ := (unhide BB).size; simp; omega) (fun b hb => by have q2_ := (World.ownsRow.lt (unhide OP) b hb).1; have q1_ := (unhide BB).size; have sz101_ := unhide sz101; have sz102_ := unhide sz102; have sz103_ := unhide sz103; omega)
      have sz104 : Hid (wor3.heap.size ≤ wor4.heap.size) := by have q3_ := hgr.size; simp at q3_; show _ ≤ _; omega
      replace A := A_; clear A_; replace R := R_; clear R_; replace O := O_; clear O_; replace V := V_; clear V_; replace G := G_; clear G_; replace OR1 := OR1_; clear OR1_; replace EB1 := EB1_; clear EB1_; replace OP := OP_; clear OP_; replace OB := OB_; clear OB_; replace NM := NM_; clear NM_; replace OC := OC_; clear OC_; replace BB := BB_; clear BB_; clear hown hgr oa lw4 hat hlt_; have Ofz0_53 := (unhide O).frozen 0; have Ocz0_53 := (unhide O).cell 0 rfl
      obtain ⟨wor5, hst⟩ : ∃ X, X = wor4.setCell ⟨wo3.heap.size, 0, none⟩ ((.slice (some ⟨gOP4, 0, none⟩) (Q.length + 1) capOP4)) := ⟨_, rfl⟩
      have OR1_ : Hid (OwnBr B wor5 (.slice (some ⟨g1, 0, none⟩) n c1) (L)) := by show OwnBr _ _ _ _; rw [hst]; exact (unhide O).row (j := 0) (by decide) (unhide OR1) _
      have EB1_ : Hid (EachB B wor5 (L)) := by show EachB _ _ _; rw [hst]; exact (unhide EB1).set (j := 0) (unhide O) (by decide) (by decide) _
      have OP_ : Hid (OwnPt w.heap.size wor5 ((.slice (some ⟨gOP4, 0, none⟩) (Q.length + 1) capOP4)) (Q ++ [wor2.heap.size])) := by show OwnPt _ _ _ _; rw [hst]; exact (unhide O).row (j := 0) (by decide) (unhide OP) _
      have OB_ : Hid (ObjsB w.heap.size wor5 (P)) := by show ObjsB _ _ _; rw [hst]; exact (unhide OB).set (j := 0) (unhide O) (by decide) (by decide) (by decide) _
      have NM_ : Hid (Named w.heap.size wor5 (wo2.heap.size) (S)) := by show Named _ _ _ _; rw [hst]; exact (unhide NM).set (j := 0) (unhide O) _
      have OC_ : Hid (OwnBx wor1.heap.size wor5 (.slice amC b.mails.length cmC) (.slice atC b.tombs.length ctC) b) := by show OwnBx _ _ _ _ _; rw [hst]; exact ⟨(unhide O).row (j := 0) (by decide) (unhide OC).1 _, (unhide O).row (j := 0) (by decide) (unhide OC).2 _⟩
      have A_ := hide ((unhide A).other (j := 0) neAO ((.slice (some ⟨gOP4, 0, none⟩) (Q.length + 1) capOP4)))
      rw [← hst] at A_
      have R_ := hide ((unhide R).other (j := 0) neRO ((.slice (some ⟨gOP4, 0, none⟩) (Q.length + 1) capOP4)))
      rw [← hst] at R_
      have O_ := hide ((unhide O).set 0 ((.slice (some ⟨gOP4, 0, none⟩) (Q.length + 1) capOP4)))
      rw [← hst] at O_
      have V_ := hide ((unhide V).other (j := 0) neOV.symm ((.slice (some ⟨gOP4, 0, none⟩) (Q.length + 1) capOP4)))
      rw [← hst] at V_
      have G_ := hide ((unhide G).other (j := 0) neOG.symm ((.slice (some ⟨gOP4, 0, none⟩) (Q.length + 1) capOP4)))
      rw [← hst] at G_
      have BB_ := hide ((unhide BB).setCell (p := ⟨wo3.heap.size, 0, none⟩) (show w.heap.size ≤ wo3.heap.size from loO) ((.slice (some ⟨gOP4, 0, none⟩) (Q.length + 1) capOP4)))
      rw [← hst] at BB_
      have sz105 : Hid (wor4.heap.size ≤ wor5.heap.size) := by show _ ≤ _; rw [hst]; simp
      replace OR1 := OR1_; clear OR1_; replace EB1 := EB1_; clear EB1_; replace OP := OP_; clear OP_; replace OB := OB_; clear OB_; replace NM := NM_; clear NM_; replace OC := OC_; clear OC_; replace A := A_; clear A_; replace R := R_; clear R_; replace O := O_; clear O_; replace V := V_; clear V_; replace G := G_; clear G_; replace BB := BB_; clear BB_; have Est105 := hst.symm; clear hst
      have OCB : Hid (OwnBx w.heap.size wor5 (.slice amC b.mails.length cmC) (.slice atC b.tombs.length ctC) b) := OwnBx.based (unhide OC) hlo8
      have OB9 := hide (ObjsB.snoc (p := ((⟨b, .slice amC b.mails.length cmC, .slice atC b.tombs.length ctC⟩ : Lb), wor2.heap.size)) (unhide OB) hloG (unhide G) (unhide OCB))
      clear OB OCB OC; have OB := OB9; clear OB9
      have e9 : Q.length + 1 = (Q ++ [wor2.heap.size]).length := by simp
      rw [e9] at O OP
      clear e9
      have HPK9 : Hid ((P ++ [((⟨b, .slice amC b.mails.length cmC, .slice atC b.tombs.length ctC⟩ : Lb), wor2.heap.size)]).map (·.1.b) = s.boxes.take (k + 1)) := by show _ = _; rw [List.map_append, unhide HPK, take_snoc (unhide XB)]; rfl
      have HPQ9 : Hid ((P ++ [((⟨b, .slice amC b.mails.length cmC, .slice atC b.tombs.length ctC⟩ : Lb), wor2.heap.size)]).map (·.2) = Q ++ [wor2.heap.size]) := by show _ = _; rw [List.map_append, unhide HPQ]; rfl
      have HPA9 : Hid ((P ++ [((⟨b, .slice amC b.mails.length cmC, .slice atC b.tombs.length ctC⟩ : Lb), wor2.heap.size)]).Pairwise AsideB) := List.pairwise_append.2 ⟨unhide HPA, by simp, fun z hz z2 hz2 => by simp at hz2; subst hz2; exact unhide APN z hz⟩
      have LK := (unhide NM).look (n := b.name) (unhide FX).name
      rw [unhide HFS] at LK
      have hnm := (unhide FX).name
      cases hfb : findB P b.name with
      | some g0 =>
        rw [hfb] at LK
        simp only [ptrOf] at LK
        have HFS9 := hide (names_old (p := ((⟨b, .slice amC b.mails.length cmC, .slice atC b.tombs.length ctC⟩ : Lb), wor2.heap.size)) (unhide HFS) hfb)
        clear hfb; have Oc0_54 := (unhide O).cell 0 rfl; have Oc1_54 := (unhide O).cell 1 rfl; have Oc2_54 := (unhide O).cell 2 rfl; have Gc0_55 := (unhide G).cell 0 rfl; have Gc1_55 := (unhide G).cell 1 rfl; have Gc2_55 := (unhide G).cell 2 rfl; have Gc3_55 := (unhide G).cell 3 rfl; have Gc4_55 := (unhide G).cell 4 rfl; have Gc5_55 := (unhide G).cell 5 rfl; have Gc6_55 := (unhide G).cell 6 rfl
        go_wp2
        clear Ofz0_53 Ocz0_53 Oc0_54 Oc1_54 Oc2_54 Gc0_55 Gc1_55 Gc2_55 Gc3_55 Gc4_55 Gc5_55 Gc6_55 Est105
        go_roundw
        case rel => rw [unhide HREL]; exact ⟨k + 1, _, _, _, _, _, by omega, by go_num, unhide HPK9, unhide HPQ9, unhide HPA9, by have h1 := unhide HSP; rw [List.length_append]; omega, unhide HFS9, unhide A, unhide R, unhide O, unhide OR1, unhide EB1, unhide OP, unhide OB, unhide NM, unhide BB⟩
        case measure => simp [intOf]; omega
      | none =>
        rw [hfb] at LK
        simp only [ptrOf] at LK
        have HFS9 := hide (names_new (p := ((⟨b, .slice amC b.mails.length cmC, .slice atC b.tombs.length ctC⟩ : Lb), wor2.heap.size)) (unhide NM).2.2 (unhide HFS) hfb)
        have LS9 := hide (putS_len_le S (⟨b.name, ByteArray.empty, 0⟩, wor2.heap.size))
        obtain ⟨w9, MU, nm9, hg9⟩ := (unhide NM).put (n := b.name) (g := wor2.heap.size) hnm (by have h1 := unhide HSP; have h2 := unhide LPK; omega)
        have NM9 := hide nm9; have HG9 := hide hg9; clear hfb nm9 hg9; have Oc0_54 := (unhide O).cell 0 rfl; have Oc1_54 := (unhide O).cell 1 rfl; have Oc2_54 := (unhide O).cell 2 rfl; have Gc0_55 := (unhide G).cell 0 rfl; have Gc1_55 := (unhide G).cell 1 rfl; have Gc2_55 := (unhide G).cell 2 rfl; have Gc3_55 := (unhide G).cell 3 rfl; have Gc4_55 := (unhide G).cell 4 rfl; have Gc5_55 := (unhide G).cell 5 rfl; have Gc6_55 := (unhide G).cell 6 rfl
        go_wp2
        clear Ofz0_53 Ocz0_53 Oc0_54 Oc1_54 Oc2_54 Gc0_55 Gc1_55 Gc2_55 Gc3_55 Gc4_55 Gc5_55 Gc6_55 Est105; clear LK MU; have hg9 := unhide HG9
        have A_ := hide ((unhide A).kept hg9 (fun e => (unhide NM).no_obj (unhide A) (Option.some.inj e)))
        have R_ := hide ((unhide R).kept hg9 (fun e => (unhide NM).no_obj (unhide R) (Option.some.inj e)))
        have O_ := hide ((unhide O).kept hg9 (fun e => (unhide NM).no_obj (unhide O) (Option.some.inj e)))
        have V_ := hide ((unhide V).kept hg9 (fun e => (unhide NM).no_obj (unhide V) (Option.some.inj e)))
        have G_ := hide ((unhide G).kept hg9 (fun e => (unhide NM).no_obj (unhide G) (Option.some.inj e)))
        have OR1_ : Hid (OwnBr B w9 (.slice (some ⟨g1, 0, none⟩) n c1) (L)) := g_aside (unhide OR1) hg9 (fun q hq he => by cases hq; exact (unhide NM).no_row (unhide OR1) he)
        have EB1_ : Hid (EachB B w9 (L)) := fun x hx => ⟨g_aside ((unhide EB1) x hx).1 hg9 (fun q hq he => by cases hq; exact (unhide NM).no_row ((unhide EB1) x hx).1 he), g_aside ((unhide EB1) x hx).2 hg9 (fun q hq he => by cases hq; exact (unhide NM).no_row ((unhide EB1) x hx).2 he)⟩
        have OP_ : Hid (OwnPt w.heap.size w9 ((.slice (some ⟨gOP4, 0, none⟩) (Q ++ [wor2.heap.size]).length capOP4)) (Q ++ [wor2.heap.size])) := g_aside (unhide OP) hg9 (fun q hq he => by cases hq; exact (unhide NM).no_row (unhide OP) he)
        have OB_ : Hid (ObjsB w.heap.size w9 (P ++ [((⟨b, .slice amC b.mails.length cmC, .slice atC b.tombs.length ctC⟩ : Lb), wor2.heap.size)])) := (unhide OB).mapped (unhide NM) hg9
        have BB_ : Hid (Below w.heap.size w w9) := (unhide BB).grown hg9 (unhide BB).size (fun q hq => by cases hq; exact (unhide NM).2.1)
        have sz106 := hide (hg9.size); replace A := A_; clear A_; replace R := R_; clear R_; replace O := O_; clear O_; replace V := V_; clear V_; replace G := G_; clear G_; replace OR1 := OR1_; clear OR1_; replace EB1 := EB1_; clear EB1_; replace OP := OP_; clear OP_; replace OB := OB_; clear OB_; replace BB := BB_; clear BB_; clear NM HG9 hg9; have NM := NM9; clear NM9
        go_roundw
        case rel => rw [unhide HREL]; exact ⟨k + 1, _, _, _, _, _, by omega, by go_num, unhide HPK9, unhide HPQ9, unhide HPA9, by have h1 := unhide HSP; have h2 := unhide LS9; rw [List.length_append]; simp only [List.length_cons, List.length_nil]; omega, unhide HFS9, unhide A, unhide R, unhide O, unhide OR1, unhide EB1, unhide OP, unhide OB, unhide NM, unhide BB⟩
        case measure => simp [intOf]; omega
    · obtain rfl : k = n := by omega
      have A := hide oA; have R := hide oR; have O := hide oO; have OP := hide op; have OB := hide ob; have NM := hide nm; have BB := hide hbel; clear oA oR oO o1 oe op ob nm hbel hlt hk; have Ac0_3 := (unhide A).cell 0 rfl; have Ac1_3 := (unhide A).cell 1 rfl; have Oc0_4 := (unhide O).cell 0 rfl; have Oc1_4 := (unhide O).cell 1 rfl; have Oc2_4 := (unhide O).cell 2 rfl; have Rf0 := (unhide R).frozen 0; have Rf1 := (unhide R).frozen 1; have Rf2 := (unhide R).frozen 2; have Re0 := (unhide R).cell 0 rfl; have Re1 := (unhide R).cell 1 rfl; have Re2 := (unhide R).cell 2 rfl; have F := hide (fill3 (unhide R) (.slice av Q.length cv) (.map (some (wo2.heap.size))) (.int .i64 s.valid))
      obtain ⟨U, hU⟩ : ∃ U, U = (((wo.setCell ⟨wo1.heap.size, 0, none⟩ (.slice av Q.length cv)).setCell ⟨wo1.heap.size, 1, none⟩ (.map (some (wo2.heap.size)))).setCell ⟨wo1.heap.size, 2, none⟩ (.int .i64 s.valid)) := ⟨_, rfl⟩
      have F9 := unhide F
      rw [← hU] at F9
      have NM9 : Hid (Named w.heap.size U (wo2.heap.size) S) := by show Named _ _ _ _; rw [hU]; exact (((unhide NM).set (unhide R) _).set ((unhide R).set 0 _) _).set (((unhide R).set 0 _).set 1 _) _
      have EU := hU.symm; clear F hU; have v0 := F9.obj.cell 0 rfl; have v1 := F9.obj.cell 1 rfl; have v2 := F9.obj.cell 2 rfl; have F := hide F9; clear F9
      go_wp2_with (refine bodyPost_ret (by simp [results, Try.results42, go_sem, v0, v1, v2]; try rfl) rfl ?_)
      clear EU; have F := unhide F
      refine ⟨_, _, P, ?_, rfl, ⟨?_, (unhide OB).filled (unhide R) F (by decide) (by decide) (by decide), unhide HPA, S, unhide NM9, unhide HSP, unhide HFS⟩, F.below loR (unhide BB)⟩
      · rw [unhide HPK, List.take_of_length_le (by have := unhide HN; omega)]
      · rw [unhide HPQ]; exact F.row (by decide) (unhide OP)
end Go.Proofs.Ytfemplekibpfoac

/- The program's store and copiedStore. Made by gen_stores.py. -/
namespace Go.Proofs.Ytfemplekibpfoac
open Go.RowKit
open Plain
set_option linter.unusedVariables false
set_option linter.unusedSimpArgs false

set_option maxHeartbeats 8000000 in
set_option maxRecDepth 100000 in
theorem stored_any (v : Value) (mb : Nat) (valid : Int) (B : Nat) (P : List (Lb × Nat)) (w : World) (hl : P.length ≤ 1048578) (hp : OwnPt B w v (P.map (·.2))) (ho : ObjsB B w P) :
    Calls Try.prog 44 #[.agg #[v, .map (some mb), .int .i64 valid]] w fun e w' => ∃ v', e = .returned (.agg #[v', .int .i64 valid]) ∧ OwnBr w.heap.size w' v' (P.map (·.1)) ∧ Below w.heap.size w w' := by
  obtain ⟨iX, hX, hX0, hX1, hX2⟩ := info_parts Try.infoBox
  obtain ⟨a1, c1, rfl⟩ := g_shape hp
  obtain ⟨n, hn⟩ : ∃ n, n = P.length := ⟨_, rfl⟩
  rw [List.length_map, ← hn]
  rw [← hn] at hl
  have OP : Hid (OwnPt B w (.slice a1 n c1) (P.map (·.2))) := by show OwnPt _ _ _ _; rw [List.length_map, ← hn] at hp; exact hp
  have OB := hide ho
  have PLT := hide (fun p (hp : p ∈ P) => (ho p hp).2.1.lt)
  have HN := hide hn; clear hp ho hn; have BB := hide (Below.refl w.heap.size w)
  obtain ⟨wt1, hA⟩ : ∃ X, X = w.alloc (.cells ([.slice a1 n c1, .map (some mb), .int .i64 valid] : List Value).toArray 77) := ⟨_, rfl⟩
  have Ax : HasObj wt1 w.heap.size 77 [.slice a1 n c1, .map (some mb), .int .i64 valid] := by rw [hA]; exact HasObj.new _ _ _
  have hbn : Below w.heap.size w wt1 := by rw [hA]; exact (Below.refl _ _).alloc (Nat.le_refl _) _
  have loA : w.heap.size ≤ w.heap.size := (unhide BB).size
  have EA := hA.symm; clear hA; replace OP := hide ((unhide OP).up hbn); replace OB := hide ((unhide OB).up hbn); have sz1 := hide (hbn.size); replace BB := hide (below_y (unhide BB) hbn); clear hbn; have A := hide Ax; clear Ax
  obtain ⟨wt2, hR⟩ : ∃ X, X = wt1.alloc (.cells ([.slice none 0 0, .int .i64 0] : List Value).toArray 33) := ⟨_, rfl⟩
  have Rx : HasObj wt2 wt1.heap.size 33 [.slice none 0 0, .int .i64 0] := by rw [hR]; exact HasObj.new _ _ _
  have hbn : Below wt1.heap.size wt1 wt2 := by rw [hR]; exact (Below.refl _ _).alloc (Nat.le_refl _) _
  have neAR : w.heap.size ≠ wt1.heap.size := Nat.ne_of_lt (unhide A).lt
  have loR : w.heap.size ≤ wt1.heap.size := (unhide BB).size
  have ER := hR.symm; clear hR; replace A := hide ((unhide A).ups hbn); replace OP := hide ((unhide OP).up hbn); replace OB := hide ((unhide OB).up hbn); have sz2 := hide (hbn.size); replace BB := hide (below_y (unhide BB) hbn); clear hbn; have R := hide Rx; clear Rx; have Ac0_1 := (unhide A).cell 0 rfl; have Ac1_1 := (unhide A).cell 1 rfl; have Ac2_1 := (unhide A).cell 2 rfl
  obtain ⟨wt3, hO⟩ : ∃ X, X = wt2.alloc (.cells ([.slice none 0 0, .int .i64 valid] : List Value).toArray 33) := ⟨_, rfl⟩
  have Ox : HasObj wt3 wt2.heap.size 33 [.slice none 0 0, .int .i64 valid] := by rw [hO]; exact HasObj.new _ _ _
  have hbn : Below wt2.heap.size wt2 wt3 := by rw [hO]; exact (Below.refl _ _).alloc (Nat.le_refl _) _
  have neAO : w.heap.size ≠ wt2.heap.size := Nat.ne_of_lt (unhide A).lt
  have neRO : wt1.heap.size ≠ wt2.heap.size := Nat.ne_of_lt (unhide R).lt
  have loO : w.heap.size ≤ wt2.heap.size := (unhide BB).size
  have EO := hO.symm; clear hO; replace A := hide ((unhide A).ups hbn); replace R := hide ((unhide R).ups hbn); replace OP := hide ((unhide OP).up hbn); replace OB := hide ((unhide OB).up hbn); have sz3 := hide (hbn.size); replace BB := hide (below_y (unhide BB) hbn); clear hbn; have O := hide Ox; clear Ox; have Ac0_2 := (unhide A).cell 0 rfl; have Ac1_2 := (unhide A).cell 1 rfl; have Ac2_2 := (unhide A).cell 2 rfl
  go_enter Try.func44, Try.ntmps44
  go_wp2
  clear Ac0_1 Ac1_1 Ac2_1 Ac0_2 Ac1_2 Ac2_2 EA ER EO
  go_loopw [12] (fun i wr => ∃ (k : Nat) (L2 : List Lb) (a2 : Option Addr) (c2 : Nat), k ≤ n ∧ i = .int .i64 k ∧ L2 = (P.take k).map (·.1) ∧ HasObj wr (wt1.heap.size) 33 [.slice none 0 0, .int .i64 0] ∧ HasObj wr (wt2.heap.size) 33 [.slice a2 L2.length c2, .int .i64 valid] ∧ OwnPt B wr (.slice a1 n c1) (P.map (·.2)) ∧ ObjsB B wr P ∧ OwnBr w.heap.size wr (.slice a2 L2.length c2) L2 ∧ Below w.heap.size w wr) (fun i _ => n - (intOf i).toNat)
  case atStart => exact ⟨0, [], none, 0, Nat.zero_le _, rfl, by simp, unhide R, unhide O, unhide OP, unhide OB, World.ownsRow_nil _ _ _ _, unhide BB⟩
  clear OP OB BB A R O
  case round =>
    obtain ⟨k, L2, a2, c2, hk, rfl, hL2, oR, oO, op, ob, o2, hbel⟩ := hrel
    obtain ⟨wo, hwo⟩ : ∃ wo, wo = wr := ⟨_, rfl⟩
    subst hwo
    have HL2 := hide hL2; clear hL2
    by_cases hlt : k < n
    · have hkl : k < P.length := by rw [← unhide HN]; exact hlt
      have hx : P[k]? = some P[k] := List.getElem?_eq_getElem hkl
      have hmx := List.getElem_mem hkl
      have hxg : (P.map (·.2))[k]? = some P[k].2 := by rw [List.getElem?_map, hx]; rfl
      have TK := hide (take_snoc hx)
      obtain ⟨q1, c9, e3, pc⟩ := pt_read op hxg
      have e5 := (Value.slice.inj e3).1; clear e3
      subst e5
      generalize P[k] = x at *
      obtain ⟨⟨b, m, t⟩, g1⟩ := x
      obtain ⟨am, cm, ee1⟩ := g_shape (ob _ hmx).2.2.1
      obtain ⟨at1, ct1, ee2⟩ := g_shape (ob _ hmx).2.2.2
      simp only at ee1 ee2 pc hxg
      subst ee1 ee2
      have R := hide oR; have O := hide oO; have OP := hide op; have OB := hide ob; have OR2 := hide o2; have BB := hide hbel; have M1 := hide hmx; have XG := hide hxg
      have LK : Hid (L2.length = k) := by show _ = _; rw [unhide HL2, List.length_map, List.length_take]; omega
      clear oR oO op ob o2 hbel hx hmx hxg
      have i1 : (0 : Int) ≤ (k : Int) := by omega
      have i2 : (k : Int) < (n : Int) := by omega
      have Oc0_3 := (unhide O).cell 0 rfl; have Oc1_3 := (unhide O).cell 1 rfl
      go_wp2
      clear Oc0_3 Oc1_3; clear pc
      refine lateBegin (S := fun w' => w'.cell? ⟨wt2.heap.size, 0, none⟩ = some (.slice a2 L2.length c2) ∧ w'.cell? ⟨g1, 0, none⟩ = some (.string b.name) ∧ w'.cell? ⟨g1, 1, none⟩ = some (.int .i64 b.valid) ∧ w'.cell? ⟨g1, 2, none⟩ = some (.int .i64 b.next) ∧ w'.cell? ⟨g1, 3, none⟩ = some (.int .i64 b.mod) ∧ w'.cell? ⟨g1, 4, none⟩ = some (.slice am b.mails.length cm) ∧ w'.cell? ⟨g1, 5, none⟩ = some (.slice at1 b.tombs.length ct1) ∧ w'.cell? ⟨g1, 6, none⟩ = some (.int .i64 b.hor)) 8 (by kernel_rfl) (⟨(unhide O).cell 0 rfl, ((unhide OB) _ (unhide M1)).2.1.cell 0 rfl, ((unhide OB) _ (unhide M1)).2.1.cell 1 rfl, ((unhide OB) _ (unhide M1)).2.1.cell 2 rfl, ((unhide OB) _ (unhide M1)).2.1.cell 3 rfl, ((unhide OB) _ (unhide M1)).2.1.cell 4 rfl, ((unhide OB) _ (unhide M1)).2.1.cell 5 rfl, ((unhide OB) _ (unhide M1)).2.1.cell 6 rfl⟩) (fun hHeld => ?_)
      replace R := hide ((unhide R).drew); replace O := hide ((unhide O).drew); replace OP := hide ((unhide OP).drew); replace OB := hide ((unhide OB).drew); replace OR2 := hide ((unhide OR2).drew); replace BB := hide ((unhide BB).drew)
      have sz101 : Hid (wo.heap.size ≤ wo.drew.heap.size) := Nat.le_refl _
      refine lateTake 0 (some 16) ?_ rfl (by kernel_rfl) (by kernel_rfl) (by kernel_rfl) (by kernel_rfl) rfl (fun _ _ _ h => h) (by rfl) (by assumption) ?_ ?_; rotate_left; (intro w hSw; (try dsimp only at hSw); go_simp <;> with_reducible rfl); simp only [Act.put, List.setIfInBounds_toArray, List.set_cons_zero, List.set_cons_succ]
      refine lateTake 1 (some 17) ?_ rfl (by kernel_rfl) (by kernel_rfl) (by kernel_rfl) (by kernel_rfl) rfl (fun _ _ _ h => h) (by rfl) (by assumption) ?_ ?_; rotate_left; (intro w hSw; (try dsimp only at hSw); go_simp <;> with_reducible rfl); simp only [Act.put, List.setIfInBounds_toArray, List.set_cons_zero, List.set_cons_succ]
      refine lateTake 2 (some 18) ?_ rfl (by kernel_rfl) (by kernel_rfl) (by kernel_rfl) (by kernel_rfl) rfl (fun _ _ _ h => h) (by rfl) (by assumption) ?_ ?_; rotate_left; (intro w hSw; (try dsimp only at hSw); go_simp <;> with_reducible rfl); simp only [Act.put, List.setIfInBounds_toArray, List.set_cons_zero, List.set_cons_succ]
      refine lateTake 3 (some 19) ?_ rfl (by kernel_rfl) (by kernel_rfl) (by kernel_rfl) (by kernel_rfl) rfl (fun _ _ _ h => h) (by rfl) (by assumption) ?_ ?_; rotate_left; (intro w hSw; (try dsimp only at hSw); go_simp <;> with_reducible rfl); simp only [Act.put, List.setIfInBounds_toArray, List.set_cons_zero, List.set_cons_succ]
      refine lateTake 4 (some 20) ?_ rfl (by kernel_rfl) (by kernel_rfl) (by kernel_rfl) (by kernel_rfl) rfl (fun _ _ _ h => h) (by rfl) (by assumption) ?_ ?_; rotate_left; (intro w hSw; (try dsimp only at hSw); go_simp <;> with_reducible rfl); simp only [Act.put, List.setIfInBounds_toArray, List.set_cons_zero, List.set_cons_succ]
      refine lateStep 5 (by kernel_rfl) rfl (by rfl) (fun K hK => ?_)
      go_simp
      have hA : Below wo.drew.heap.size wo.drew (wo.drew.alloc (.cells ((lbC (⟨b, .slice am b.mails.length cm, .slice at1 b.tombs.length ct1⟩ : Lb)) : List Value).toArray 39)) := (Below.refl _ _).alloc (Nat.le_refl _) _
      replace R := hide ((unhide R).ups hA); replace O := hide ((unhide O).ups hA); replace OP := hide ((unhide OP).up hA); replace OB := hide ((unhide OB).up hA); replace OR2 := hide ((unhide OR2).up hA); have sz102 := hide (hA.size); replace BB := hide (below_y (unhide BB) hA); clear hA
      refine hK.out _ _ (⟨(unhide O).cell 0 rfl, ((unhide OB) _ (unhide M1)).2.1.cell 0 rfl, ((unhide OB) _ (unhide M1)).2.1.cell 1 rfl, ((unhide OB) _ (unhide M1)).2.1.cell 2 rfl, ((unhide OB) _ (unhide M1)).2.1.cell 3 rfl, ((unhide OB) _ (unhide M1)).2.1.cell 4 rfl, ((unhide OB) _ (unhide M1)).2.1.cell 5 rfl, ((unhide OB) _ (unhide M1)).2.1.cell 6 rfl⟩) (fun hHeld2 => ?_)
      clear hK K hHeld; have hHeld := hHeld2; clear hHeld2
      try simp only [Act.put, List.setIfInBounds_toArray, List.set_cons_zero, List.set_cons_succ]
      have oa := unhide OR2; have ldl := (unhide BB).size
      refine lateStep 6 (by kernel_rfl) rfl (by rfl) (fun K hK => ?_)
      refine wp_append_lies _ (.tmp 17) (.tmp 21) 31 rfl (w.heap.size) 39 iX _ 7 96 Try.underlying31 hX hX0 hX1 hX2 rfl (by decide) (.slice a2 L2.length c2) _ _ rfl oa ⟨wo.drew.heap.size, 0, none⟩ 1 1 (lbC (⟨b, .slice am b.mails.length cm, .slice at1 b.tombs.length ct1⟩ : Lb)) rfl rfl (newsC _ _) ?c2 (by decide) ?c3 ?c4 ?c5 (wo.drew.heap.size + 1) (by simp) ?_
      case c2 => intro u hu; simp [lbC] at hu; rcases hu with rfl | rfl | rfl | rfl | rfl | rfl | rfl <;> rfl
      case c3 => unfold maxLen; have := unhide LK; omega
      case c4 => have := unhide LK; omega
      case c5 => have q1_ := (unhide BB).size; have sz101_ := unhide sz101; have sz102_ := unhide sz102; (try simp at q1_); (try simp); omega
      intro gtr1 captr1 wtr1 hown hgr hat hlt_
      have R_ := hide ((unhide R).kept hgr (fun e => (unhide R).not_row (by decide) oa e.symm))
      have O_ := hide ((unhide O).kept hgr (fun e => (unhide O).not_row (by decide) oa e.symm))
      have OP_ : Hid (OwnPt B wtr1 (.slice (some ⟨q1, 0, none⟩) n c1) (P.map (·.2))) := g_aside (unhide OP) hgr (fun x hx => rows_apart oa (unhide OP) (by decide) x hx)
      have OB_ : Hid (ObjsB B wtr1 (P)) := (unhide OB).beyond (unhide PLT) oa (Nat.le_refl _) hgr (by decide) (by decide)
      have OR2_ : Hid (OwnBr (w.heap.size) wtr1 (.slice (some ⟨gtr1, 0, none⟩) (L2.length + 1) captr1) (L2 ++ [(⟨b, .slice am b.mails.length cm, .slice at1 b.tombs.length ct1⟩ : Lb)])) := by exact OwnBr.snoc hown
      have BB_ : Hid (Below w.heap.size w wtr1) := (unhide BB).grown hgr (unhide BB).size (fun b hb => by have q2_ := (World.ownsRow.lt oa b hb).1; have sz101_ := unhide sz101; have sz102_ := unhide sz102; omega)
      have sz103 : Hid ((wo.drew.alloc (.cells ((lbC (⟨b, .slice am b.mails.length cm, .slice at1 b.tombs.length ct1⟩ : Lb)) : List Value).toArray 39)).heap.size ≤ wtr1.heap.size) := hgr.size
      replace R := R_; clear R_; replace O := O_; clear O_; replace OP := OP_; clear OP_; replace OB := OB_; clear OB_; replace OR2 := OR2_; clear OR2_; replace BB := BB_; clear BB_; clear hown hgr hat hlt_ oa ldl
      refine hK.out _ _ (⟨(unhide O).cell 0 rfl, ((unhide OB) _ (unhide M1)).2.1.cell 0 rfl, ((unhide OB) _ (unhide M1)).2.1.cell 1 rfl, ((unhide OB) _ (unhide M1)).2.1.cell 2 rfl, ((unhide OB) _ (unhide M1)).2.1.cell 3 rfl, ((unhide OB) _ (unhide M1)).2.1.cell 4 rfl, ((unhide OB) _ (unhide M1)).2.1.cell 5 rfl, ((unhide OB) _ (unhide M1)).2.1.cell 6 rfl⟩) (fun hHeld2 => ?_)
      clear hK K hHeld; have hHeld := hHeld2; clear hHeld2
      try simp only [Act.put, List.setIfInBounds_toArray, List.set_cons_zero, List.set_cons_succ]
      refine lateStep 7 (by kernel_rfl) rfl (by rfl) (fun K hK => ?_)
      go_simp
      refine hK.out _ _ (⟨(unhide O).cell 0 rfl, ((unhide OB) _ (unhide M1)).2.1.cell 0 rfl, ((unhide OB) _ (unhide M1)).2.1.cell 1 rfl, ((unhide OB) _ (unhide M1)).2.1.cell 2 rfl, ((unhide OB) _ (unhide M1)).2.1.cell 3 rfl, ((unhide OB) _ (unhide M1)).2.1.cell 4 rfl, ((unhide OB) _ (unhide M1)).2.1.cell 5 rfl, ((unhide OB) _ (unhide M1)).2.1.cell 6 rfl⟩) (fun hHeld2 => ?_)
      clear hK K hHeld; have hHeld := hHeld2; clear hHeld2
      try simp only [Act.put, List.setIfInBounds_toArray, List.set_cons_zero, List.set_cons_succ]
      have Ofz0_4 := (unhide O).frozen 0; have Ocz0_4 := (unhide O).cell 0 rfl
      obtain ⟨wtr2, hst⟩ : ∃ X, X = wtr1.setCell ⟨wt2.heap.size, 0, none⟩ (.slice (some ⟨gtr1, 0, none⟩) (L2.length + 1) captr1) := ⟨_, rfl⟩
      have OP_ : Hid (OwnPt B wtr2 (.slice (some ⟨q1, 0, none⟩) n c1) (P.map (·.2))) := by show OwnPt _ _ _ _; rw [hst]; exact (unhide O).row (j := 0) (by decide) (unhide OP) _
      have OB_ : Hid (ObjsB B wtr2 (P)) := by show ObjsB _ _ _; rw [hst]; exact (unhide OB).set (j := 0) (unhide O) (by decide) (by decide) (by decide) _
      have OR2_ : Hid (OwnBr w.heap.size wtr2 (.slice (some ⟨gtr1, 0, none⟩) (L2.length + 1) captr1) (L2 ++ [(⟨b, .slice am b.mails.length cm, .slice at1 b.tombs.length ct1⟩ : Lb)])) := by show OwnBr _ _ _ _; rw [hst]; exact (unhide O).row (j := 0) (by decide) (unhide OR2) _
      have R_ := hide ((unhide R).other (j := 0) neRO (.slice (some ⟨gtr1, 0, none⟩) (L2.length + 1) captr1))
      rw [← hst] at R_
      have O_ := hide ((unhide O).set 0 (.slice (some ⟨gtr1, 0, none⟩) (L2.length + 1) captr1))
      rw [← hst] at O_
      have BB_ := hide ((unhide BB).setCell (p := ⟨wt2.heap.size, 0, none⟩) (show w.heap.size ≤ wt2.heap.size from loO) (.slice (some ⟨gtr1, 0, none⟩) (L2.length + 1) captr1))
      rw [← hst] at BB_
      have sz104 : Hid (wtr1.heap.size ≤ wtr2.heap.size) := by show _ ≤ _; rw [hst]; simp
      replace OP := OP_; clear OP_; replace OB := OB_; clear OB_; replace OR2 := OR2_; clear OR2_; replace R := R_; clear R_; replace O := O_; clear O_; replace BB := BB_; clear BB_; have Est104 := hst.symm; clear hst
      refine lateLast 8 (by decide) (by kernel_rfl) rfl (by rfl) (fun K hK => ?_)
      go_simp
      refine hK.out _ _ ?_
      clear hK K hHeld
      try simp only [Act.put, List.setIfInBounds_toArray, List.set_cons_zero, List.set_cons_succ]
      try rw [Est104]
      clear Ofz0_4 Ocz0_4 Est104
      refine lateDone (by kernel_rfl) ?_ _
      have e9 : L2.length + 1 = (L2 ++ [(⟨b, .slice am b.mails.length cm, .slice at1 b.tombs.length ct1⟩ : Lb)]).length := by simp
      rw [e9] at O OR2
      clear e9
      have NX : Hid (L2 ++ [(⟨b, .slice am b.mails.length cm, .slice at1 b.tombs.length ct1⟩ : Lb)] = (P.take (k + 1)).map (·.1)) := by show _ = _; rw [unhide TK, List.map_append, unhide HL2]; rfl
      go_wp2
      go_roundw
      case rel => exact ⟨k + 1, _, _, _, by omega, by go_num, unhide NX, unhide R, unhide O, unhide OP, unhide OB, unhide OR2, unhide BB⟩
      case measure => simp [intOf]; omega
    · obtain rfl : k = n := by omega
      have R := hide oR; have O := hide oO; have OR2 := hide o2; have BB := hide hbel; clear oR oO op ob o2 hbel hlt hk; have Oc0_3 := (unhide O).cell 0 rfl; have Oc1_3 := (unhide O).cell 1 rfl; have Rf0 := (unhide R).frozen 0; have Rf1 := (unhide R).frozen 1; have Re0 := (unhide R).cell 0 rfl; have Re1 := (unhide R).cell 1 rfl; have F := hide (fill2 (unhide R) (.slice a2 L2.length c2) (.int .i64 valid))
      obtain ⟨U, hU⟩ : ∃ U, U = ((wo.setCell ⟨wt1.heap.size, 0, none⟩ (.slice a2 L2.length c2)).setCell ⟨wt1.heap.size, 1, none⟩ (.int .i64 valid)) := ⟨_, rfl⟩
      have F9 := unhide F
      rw [← hU] at F9
      have EU := hU.symm; clear F hU; have v0 := F9.obj.cell 0 rfl; have v1 := F9.obj.cell 1 rfl; have F := hide F9; clear F9
      go_wp2_with (refine bodyPost_ret (by simp [results, Try.results44, go_sem, v0, v1]; try rfl) rfl ?_)
      clear EU; have F := unhide F
      refine ⟨_, rfl, ?_, F.below loR (unhide BB)⟩
      have h9 := unhide HL2
      rw [List.take_of_length_le (by have := unhide HN; omega)] at h9
      rw [← h9]
      exact F.row (by decide) (unhide OR2)
theorem OwnSt.filled {B r : Nat} {W U : World} {v : Value} {l : List Bx} {t : TypeId} {us : List Value} (h : OwnSt B W v l) (F : Filled W r t us U) (h0 : t ≠ 39) (h1 : t ≠ 98) (h2 : t ≠ 119) : OwnSt B U v l := by
  obtain ⟨L, e, o, ap⟩ := h
  exact ⟨L, e, ⟨F.row h0 o.row, fun x hx => ⟨F.row h1 (o.each x hx).1, F.row h2 (o.each x hx).2⟩⟩, ap⟩
theorem OpenSt.based {B B' : Nat} {w : World} {v : Value} {mb : Nat} {P : List (Lb × Nat)} (h : OpenSt B w v mb P) (hB : B' ≤ B) : OpenSt B' w v mb P := by
  obtain ⟨S, h1, h2, h3⟩ := h.map
  exact ⟨h.row.based hB, h.objs.based hB, h.apart, S, h1.based hB, h2, h3⟩
theorem OpenSt.own {B : Nat} {w w' : World} {v v' : Value} {mb : Nat} {P : List (Lb × Nat)} {l : List Bx} (h : OpenSt B w v mb P) (hP : P.map (·.1.b) = l) (hr : OwnBr w.heap.size w' v' (P.map (·.1))) (hb : Below w.heap.size w w') (hB : B ≤ w.heap.size) : OwnSt B w' v' l := by
  refine ⟨P.map (·.1), by rw [List.map_map]; exact hP, ⟨hr.based hB, fun x hx => ?_⟩, ?_⟩
  · obtain ⟨p, hp, rfl⟩ := List.mem_map.1 hx
    exact (h.objs p hp).2.2.up hb
  · rw [List.pairwise_map]
    exact h.apart.imp fun h => h.2
theorem open_len {P : List (Lb × Nat)} {s : Sx} (h : P.map (·.1.b) = s.boxes) (hf : FitSt s) : P.length ≤ 1048578 := by have := congrArg List.length h; rw [List.length_map] at this; have := hf.len; omega
set_option maxHeartbeats 4000000 in
set_option maxRecDepth 100000 in
theorem copiedStore_any (s : Sx) (v : Value) (B : Nat) (w : World) (hf : FitSt s) (h : ReadSt B w v s.boxes) :
    Calls Try.prog 58 #[.agg #[v, .int .i64 s.valid]] w fun e w' => ∃ v', e = .returned (.agg #[v', .int .i64 s.valid]) ∧ OwnSt w.heap.size w' v' s.boxes ∧ Below w.heap.size w w' := by
  obtain ⟨a1, c1, rfl⟩ := h.shape
  have S1 := hide h; have FT := hide hf; clear h hf; have BB := hide (Below.refl w.heap.size w)
  obtain ⟨wk1, hA⟩ : ∃ X, X = w.alloc (.cells ([.slice a1 s.boxes.length c1, .int .i64 s.valid] : List Value).toArray 33) := ⟨_, rfl⟩
  have Ax : HasObj wk1 w.heap.size 33 [.slice a1 s.boxes.length c1, .int .i64 s.valid] := by rw [hA]; exact HasObj.new _ _ _
  have hbn : Below w.heap.size w wk1 := by rw [hA]; exact (Below.refl _ _).alloc (Nat.le_refl _) _
  have loA : w.heap.size ≤ w.heap.size := (unhide BB).size
  have EA := hA.symm; clear hA; replace S1 := hide ((unhide S1).up hbn); have sz1 := hide (hbn.size); replace BB := hide (below_y (unhide BB) hbn); clear hbn; have A := hide Ax; clear Ax
  obtain ⟨wk2, hR⟩ : ∃ X, X = wk1.alloc (.cells ([.slice none 0 0, .int .i64 0] : List Value).toArray 33) := ⟨_, rfl⟩
  have Rx : HasObj wk2 wk1.heap.size 33 [.slice none 0 0, .int .i64 0] := by rw [hR]; exact HasObj.new _ _ _
  have hbn : Below wk1.heap.size wk1 wk2 := by rw [hR]; exact (Below.refl _ _).alloc (Nat.le_refl _) _
  have neAR : w.heap.size ≠ wk1.heap.size := Nat.ne_of_lt (unhide A).lt
  have loR : w.heap.size ≤ wk1.heap.size := (unhide BB).size
  have ER := hR.symm; clear hR; replace A := hide ((unhide A).ups hbn); replace S1 := hide ((unhide S1).up hbn); have sz2 := hide (hbn.size); replace BB := hide (below_y (unhide BB) hbn); clear hbn; have R := hide Rx; clear Rx; have Ac0_1 := (unhide A).cell 0 rfl; have Ac1_1 := (unhide A).cell 1 rfl
  go_enter Try.func58, Try.ntmps58
  go_wp2_with fail; clear Ac0_1 Ac1_1 EA ER
  have LOP : Hid (w.heap.size ≤ wk2.heap.size) := (unhide BB).size
  refine (openedStore_any s _ _ _ (unhide FT) (unhide S1)).mono ?_
  rintro e wk3 ⟨vP, mbP, P, hPP, rfl, oS, hb⟩
  obtain ⟨aP, cP, rfl⟩ := g_shape oS.row
  rw [List.length_map] at oS ⊢
  have OSP_ := hide (oS.based (unhide LOP)); have HPP := hide hPP; clear oS hPP; replace A := hide ((unhide A).ups hb); replace R := hide ((unhide R).ups hb); replace S1 := hide ((unhide S1).up hb); have sz3 := hide (hb.size); replace BB := hide (below_y (unhide BB) hb); clear hb; have OSP := OSP_; clear OSP_
  replace LOP : Hid (w.heap.size ≤ wk3.heap.size) := (unhide BB).size
  go_wp2_with fail
  refine (stored_any _ mbP s.valid _ P _ (open_len (unhide HPP) (unhide FT)) (unhide OSP).row (unhide OSP).objs).mono ?_
  rintro e wk4 ⟨v9, rfl, o9, hb⟩
  obtain ⟨a9, c9, rfl⟩ := g_shape o9
  have OW_ := hide ((unhide OSP).own (unhide HPP) o9 hb (unhide LOP)); clear o9; clear OSP; replace A := hide ((unhide A).ups hb); replace R := hide ((unhide R).ups hb); replace S1 := hide ((unhide S1).up hb); have sz4 := hide (hb.size); replace BB := hide (below_y (unhide BB) hb); clear hb; have OW := OW_; clear OW_
  have HLP : Hid ((P.map (·.1)).length = s.boxes.length) := by show _ = _; rw [List.length_map, ← unhide HPP, List.length_map]
  rw [unhide HLP] at OW ⊢
  have Rf0 := (unhide R).frozen 0; have Rf1 := (unhide R).frozen 1; have Re0 := (unhide R).cell 0 rfl; have Re1 := (unhide R).cell 1 rfl; have F := hide (fill2 (unhide R) (.slice a9 s.boxes.length c9) (.int .i64 s.valid))
  obtain ⟨U, hU⟩ : ∃ U, U = ((wk4.setCell ⟨wk1.heap.size, 0, none⟩ (.slice a9 s.boxes.length c9)).setCell ⟨wk1.heap.size, 1, none⟩ (.int .i64 s.valid)) := ⟨_, rfl⟩
  have F9 := unhide F
  rw [← hU] at F9
  have EU := hU.symm; clear F hU; have v0 := F9.obj.cell 0 rfl; have v1 := F9.obj.cell 1 rfl; have F := hide F9; clear F9
  go_wp2_with (refine bodyPost_ret (by simp [results, Try.results58, go_sem, v0, v1]; try rfl) rfl ?_)
  clear EU; have F := unhide F
  exact ⟨_, rfl, (unhide OW).filled F (by decide) (by decide) (by decide), F.below loR (unhide BB)⟩
theorem field_named (w : World) (a c : Value) (mb : Nat) : (Instr.field 77 (.agg #[a, .map (some mb), c]) 1).run Try.prog w = .ok (.map (some mb)) w := by kernel_rfl
theorem found_at {P : List (Lb × Nat)} {s : Sx} {n : ByteArray} {g : Nat} (hP : P.map (·.1.b) = s.boxes) (hf : findB P n = some g) : ∃ k x, P[k]? = some (x, g) ∧ s.boxes[k]? = some x.b ∧ sameN n x.b = true ∧ (∀ y ∈ s.boxes.take k, sameN n y = false) ∧ boxAt s n = some x.b := by
  obtain ⟨k, ⟨x, g'⟩, h1, h2, h3, h4⟩ := findB_some hf
  simp only at h2
  subst h2
  have h5 : s.boxes[k]? = some x.b := by rw [← hP, List.getElem?_map, h1]; rfl
  have h6 : ∀ y ∈ s.boxes.take k, sameN n y = false := fun y hy => by
    rw [← hP, ← List.map_take] at hy
    obtain ⟨z, hz, rfl⟩ := List.mem_map.1 hy
    exact h4 z hz
  exact ⟨k, x, h1, h5, h3, h6, boxAt_first h5 h3 h6⟩
theorem found_no {P : List (Lb × Nat)} {s : Sx} {n : ByteArray} (hP : P.map (·.1.b) = s.boxes) (hf : findB P n = none) : boxAt s n = none := boxAt_none fun y hy => by
  rw [← hP] at hy
  obtain ⟨z, hz, rfl⟩ := List.mem_map.1 hy
  exact findB_none hf z hz
end Go.Proofs.Ytfemplekibpfoac
