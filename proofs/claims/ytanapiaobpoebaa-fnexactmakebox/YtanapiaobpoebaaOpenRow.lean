/- A store that lies open: its boxes each in a block of its own, in a row of pointers, and by their names in a map. -/
import Derived.Test.YtanapiaobpoebaaStoreMarks
import Derived.Test.YtanapiaobpoebaaStorePlain
import Derived.Test.YtanapiaobpoebaaShelfPlain
import Derived.Maps.OwnSet
namespace Go.Proofs.Ytanapiaobpoebaa
open Go.RowKit Go.Maps
open Plain
set_option linter.unusedVariables false

namespace Plain
theorem findS_iff {s : List (Fl × Nat)} (ha : AscS s) {n : ByteArray} {q : Fl × Nat} : findS s n = some q ↔ q ∈ s ∧ q.1.name = n := by
 constructor
 ·exact findS_mem
 ·rintro ⟨h1, h2⟩
  cases hf : findS s n with
  | none => exact absurd h2 (findS_none.1 hf q h1)
  | some r =>
   obtain ⟨h3, h4⟩ := findS_mem hf
   congr 1
   rcases List.mem_iff_getElem.1 h1 with ⟨i, hi, rfl⟩
   rcases List.mem_iff_getElem.1 h3 with ⟨j, hj, rfl⟩
   rcases Nat.lt_trichotomy i j with h | h | h
   ·have := List.pairwise_iff_getElem.1 ha i j hi hj h
    rw [h2, h4, ltB_irrefl] at this
    cases this
   ·subst h; rfl
   ·have := List.pairwise_iff_getElem.1 ha j i hj hi h
    rw [h2, h4, ltB_irrefl] at this
    cases this
theorem putS_self (s : List (Fl × Nat)) (p : Fl × Nat) : p ∈ putS s p := by unfold putS; simp
theorem putS_old {s : List (Fl × Nat)} {p q : Fl × Nat} (hq : q ∈ s) (hn : q.1.name ≠ p.1.name) : q ∈ putS s p := by
 unfold putS
 rcases ltB_total hn with h | h
 ·exact List.mem_append_left _ (List.mem_filter.2 ⟨hq, h⟩)
 ·exact List.mem_append_right _ (List.mem_cons_of_mem _ (List.mem_filter.2 ⟨hq, h⟩))
theorem findS_put_same {s : List (Fl × Nat)} (ha : AscS s) (p : Fl × Nat) : findS (putS s p) p.1.name = some p := (findS_iff (putS_asc p ha)).2 ⟨putS_self s p, rfl⟩
theorem findS_put_other {s : List (Fl × Nat)} (ha : AscS s) {p : Fl × Nat} {n : ByteArray} (hn : p.1.name ≠ n) : findS (putS s p) n = findS s n := by
 cases hf : findS s n with
 | some q =>
  obtain ⟨h1, h2⟩ := findS_mem hf
  exact (findS_iff (putS_asc p ha)).2 ⟨putS_old h1 (by rw [h2]; exact hn.symm), h2⟩
 | none =>
  rw [findS_none]
  intro q hq
  rcases putS_mem hq with rfl | ⟨h1, _⟩
  ·exact hn
  ·exact findS_none.1 hf q h1
/-- The block of the first box of that name. -/
def findB (P : List (Lb × Nat)) (n : ByteArray) : Option Nat := (P.find? fun p => sameN n p.1.b).map (·.2)
theorem findB_snoc (P : List (Lb × Nat)) (p : Lb × Nat) (n : ByteArray) : findB (P ++ [p]) n = (findB P n).or (if sameN n p.1.b then some p.2 else none) := by
 unfold findB
 rw [List.find?_append]
 cases P.find? fun p => sameN n p.1.b with
 | some q => rfl
 | none =>
  simp only [Option.none_or, Option.map_none, List.find?_cons, List.find?_nil]
  cases sameN n p.1.b <;> rfl
theorem findB_some {P : List (Lb × Nat)} {n : ByteArray} {g : Nat} (h : findB P n = some g) : ∃ k p, P[k]? = some p ∧ p.2 = g ∧ sameN n p.1.b = true ∧ ∀ y ∈ P.take k, sameN n y.1.b = false := by
 unfold findB at h
 cases hf : P.find? fun p => sameN n p.1.b with
 | none => rw [hf] at h; cases h
 | some p =>
  rw [hf] at h
  obtain ⟨hp, aa, bb, rfl, hno⟩ := List.find?_eq_some_iff_append.1 hf
  refine ⟨aa.length, p, by simp, Option.some.inj h, hp, fun y hy => ?_⟩
  simp at hy
  have := hno y hy
  simpa using this
theorem findB_none {P : List (Lb × Nat)} {n : ByteArray} (h : findB P n = none) : ∀ y ∈ P, sameN n y.1.b = false := by
 unfold findB at h
 rw [Option.map_eq_none_iff, List.find?_eq_none] at h
 intro y hy
 have := h y hy
 cases hq : sameN n y.1.b with
 | true => exact absurd hq this
 | false => rfl
theorem names_old {S : List (Fl × Nat)} {P : List (Lb × Nat)} {p : Lb × Nat} {g : Nat} (h : ∀ n, (findS S n).map (·.2) = findB P n) (hf : findB P p.1.b.name = some g) : ∀ n, (findS S n).map (·.2) = findB (P ++ [p]) n := by
 intro n
 rw [h, findB_snoc]
 cases hn : sameN n p.1.b with
 | true => rw [← sameN_iff.1 hn, hf]; rfl
 | false => cases findB P n <;> rfl
theorem names_new {S : List (Fl × Nat)} {P : List (Lb × Nat)} {p : Lb × Nat} (ha : AscS S) (h : ∀ n, (findS S n).map (·.2) = findB P n) (hf : findB P p.1.b.name = none) : ∀ n, (findS (putS S (⟨p.1.b.name, ByteArray.empty, 0⟩, p.2)) n).map (·.2) = findB (P ++ [p]) n := by
 intro n
 rw [findB_snoc]
 cases hn : sameN n p.1.b with
 | true =>
  have e := sameN_iff.1 hn
  subst e
  rw [hf]
  have := findS_put_same ha (⟨p.1.b.name, ByteArray.empty, 0⟩, p.2)
  simp only at this
  rw [this]
  rfl
 | false =>
  have hne : p.1.b.name ≠ n := fun e => by rw [sameN_iff.2 e] at hn; cases hn
  rw [findS_put_other ha hne, h]
  cases findB P n <;> rfl
end Plain
theorem keyedB : Keyed Try.prog 9 := string_keyed Try.underlying9
theorem zeroPB (w : World) : (zeroValue 52).run Try.prog w = .ok (.pointer none) w := by kernel_rfl
/-- A pointer reads as its block's number. -/
def ptrE (v : Value) : Option (DataW Unit × List MemPlace) :=
 match v with
 | .pointer (some ⟨g, 0, none⟩) => some (.lit (.int .i64 (g : Int)), [])
 | .pointer none => some (.lit (.int .i64 (-1)), [])
 | _ => none
theorem ptrE_mk (g : Nat) : ptrE (.pointer (some ⟨g, 0, none⟩)) = some (.lit (.int .i64 (g : Int)), []) := rfl
theorem ptrE_nil : ptrE (.pointer none) = some (.lit (.int .i64 (-1)), []) := rfl
theorem ptrE_inv {v : Value} {g : Nat} {ps : List MemPlace} (h : ptrE v = some (.lit (.int .i64 (g : Int)), ps)) : v = .pointer (some ⟨g, 0, none⟩) := by
 unfold ptrE at h
 split at h
 ·simp at h
  obtain ⟨h1, _⟩ := h
  obtain rfl : _ = g := Int.ofNat.inj h1
  rfl
 ·simp at h
 ·cases h
theorem ptrE_inv_nil {v : Value} {ps : List MemPlace} (h : ptrE v = some (.lit (.int .i64 (-1)), ps)) : v = .pointer none := by
 unfold ptrE at h
 split at h
 ·simp at h
 ·rfl
 ·cases h
theorem owns_fit {H : Type} {P : Program} {k : TypeId} {R : Value → Option (DataW H × List MemPlace)} {w : World} {b n m : Nat} {D : DataW H} (h : w.ownsMap P k R b n D) (hm : Maps.size D = m) : w.ownsMap P k R b m D := by
 obtain ⟨es, clock, h1, h2, h3, rfl⟩ := h
 refine ⟨es, clock, h1, h2, ?_, rfl⟩
 subst hm
 simp [Maps.size, length_sorted]
theorem keyB {n : ByteArray} (h : n.size ≤ 1048576) : keyOf Try.prog 9 (.string n) = some (.string n.data.toList) := WideMaps.keyOf_string_mk Try.underlying9 (by unfold maxLen; omega)
/-- Boxes by their names, in the map of block b. -/
def Named (B : Nat) (w : World) (b : Nat) (s : List (Fl × Nat)) : Prop := w.ownsMap Try.prog 9 ptrE b s.length (dm s) ∧ B ≤ b ∧ AscS s
theorem Named.lt {B : Nat} {w : World} {b : Nat} {s : List (Fl × Nat)} (h : Named B w b s) : b < w.heap.size := h.1.lt
theorem Named.kept {B : Nat} {w w' : World} {b : Nat} {s : List (Fl × Nat)} {row : Option Nat} (h : Named B w b s) (hg : w.grownBy w' row) (hne : some b ≠ row) : Named B w' b s := ⟨h.1.kept hg hne, h.2⟩
theorem Named.up {B : Nat} {w w' : World} {b : Nat} {s : List (Fl × Nat)} (h : Named B w b s) (hb : Below w.heap.size w w') : Named B w' b s := h.kept (g_grown hb none) (by simp)
theorem Named.drew {B : Nat} {w : World} {b : Nat} {s : List (Fl × Nat)} (h : Named B w b s) : Named B w.drew b s := h
theorem Named.based {B B' : Nat} {w : World} {b : Nat} {s : List (Fl × Nat)} (h : Named B w b s) (hB : B' ≤ B) : Named B' w b s := ⟨h.1, Nat.le_trans hB h.2.1, h.2.2⟩
theorem Named.no_obj {B : Nat} {w : World} {b : Nat} {s : List (Fl × Nat)} (h : Named B w b s) {g : Nat} {t : TypeId} {vs : List Value} (ho : HasObj w g t vs) : g ≠ b := fun e => by
 obtain ⟨es, clock, h1, _⟩ := h.1
 unfold HasObj at ho
 rw [e, h1] at ho
 cases ho
theorem Named.no_row {B : Nat} {w : World} {b : Nat} {s : List (Fl × Nat)} (h : Named B w b s) {B2 size n : Nat} {e : TypeId} {v : Value} {xs : List Value} (hr : w.ownsRow B2 e size v n xs) : v.ownBlock ≠ some b := fun he => by
 obtain ⟨es, clock, h1, _⟩ := h.1
 rcases hr.2 with ⟨h2, _⟩ | ⟨g, c, cur, h2, _, hh, _⟩
 ·rw [h2] at he; cases he
 ·rw [h2] at he
  cases he
  rw [h1] at hh
  cases hh
theorem Named.set {B : Nat} {w : World} {b : Nat} {s : List (Fl × Nat)} (h : Named B w b s) {g j : Nat} {t : TypeId} {vs : List Value} (ho : HasObj w g t vs) (u : Value) : Named B (w.setCell ⟨g, j, none⟩ u) b s :=
 ⟨h.1.setCell (a := ⟨g, j, none⟩) (fun e => h.no_obj ho e.symm) u, h.2⟩
def ptrOf : Option Nat → Value
 | some g => .pointer (some ⟨g, 0, none⟩)
 | none => .pointer none
theorem Named.look {B : Nat} {w : World} {b : Nat} {s : List (Fl × Nat)} (h : Named B w b s) {n : ByteArray} (hn : n.size ≤ 1048576) :
  (Instr.lookup 48 (.map (some b)) (.string n) false).run Try.prog w = .ok (ptrOf ((findS s n).map (·.2))) w := by
 obtain ⟨v, ps, hr, hv⟩ := h.1.lookup keyedB Try.underlying48 (zeroPB w) ptrE_nil (keyB hn)
 cases hf : findS s n with
 | some p => rw [dm_at hf] at hv; rw [hr, ptrE_inv hv]; rfl
 | none => rw [dm_at_none hf] at hv; rw [hr, ptrE_inv_nil hv]; rfl
theorem Named.put {B : Nat} {w : World} {b : Nat} {s : List (Fl × Nat)} (h : Named B w b s) {n : ByteArray} {g : Nat} (hn : n.size ≤ 1048576) (hl : s.length ≤ 4194304) :
  ∃ w', (Instr.mapUpdate 48 (.map (some b)) (.string n) (.pointer (some ⟨g, 0, none⟩))).run Try.prog w = .ok () w' ∧ Named B w' b (putS s (⟨n, ByteArray.empty, 0⟩, g)) ∧ w.grownBy w' (some b) := by
 obtain ⟨w', hr, ho, hg⟩ := h.1.update keyedB Try.underlying48 (by unfold maxLen; omega) (keyB hn) (ptrE_mk g)
 rw [dm_put (⟨n, ByteArray.empty, 0⟩, g) rfl rfl h.2.2] at ho
 exact ⟨w', hr, ⟨owns_fit ho (dm_size _), h.2.1, putS_asc _ h.2.2⟩, hg⟩
theorem Named.del {B : Nat} {w : World} {b : Nat} {s : List (Fl × Nat)} (h : Named B w b s) {n : ByteArray} (hn : n.size ≤ 1048576) (ty : TypeId) :
  ∃ w', (Builtin.delete_ #[48, 9] ty #[.map (some b), .string n]).run Try.prog w = .ok (.tuple #[]) w' ∧ w.grownBy w' (some b) := by
 obtain ⟨w', hr, ho, hg⟩ := h.1.drop keyedB Try.underlying48 (keyB hn) ty
 exact ⟨w', hr, hg.grown⟩
theorem Named.made {B : Nat} (w : World) (hB : B ≤ w.heap.size) : Named B (w.alloc (.map #[] 0)) w.heap.size [] := ⟨World.ownsMap_made w Try.prog 9 ptrE, hB, List.Pairwise.nil⟩
/-- A row of pointers. -/
def ptC (g : Nat) : List Value := [.pointer (some ⟨g, 0, none⟩)]
theorem ptC_len : ∀ g, (ptC g).length = 1 := fun _ => rfl
theorem Try.infoPBox : (Try.prog.info? 52).map (fun i => (i.zero, i.size, i.bytes)) = some (some (.pointer none), 1, 8) := by kernel_rfl
def OwnPt (B : Nat) (w : World) (v : Value) (l : List Nat) : Prop := w.ownsRow B 52 1 v l.length (rowC ptC l)
theorem OwnPt.up {B : Nat} {w w' : World} {v : Value} {l : List Nat} (h : OwnPt B w v l) (hb : Below w.heap.size w w') : OwnPt B w' v l := g_stays h hb
theorem OwnPt.drew {B : Nat} {w : World} {v : Value} {l : List Nat} (h : OwnPt B w v l) : OwnPt B w.drew v l := h
theorem OwnPt.based {B B' : Nat} {w : World} {v : Value} {l : List Nat} (h : OwnPt B w v l) (hB : B' ≤ B) : OwnPt B' w v l := g_based h hB
theorem OwnPt.snoc {B : Nat} {w : World} {v : Value} {l : List Nat} {x : Nat} (h : w.ownsRow B 52 1 v (l.length + 1) (rowC ptC l ++ ptC x)) : OwnPt B w v (l ++ [x]) := by
 unfold OwnPt
 rw [rowC_snoc, List.length_append]
 exact h
theorem pt_read {B : Nat} {w : World} {v : Value} {l : List Nat} (h : OwnPt B w v l) {k g : Nat} (hx : l[k]? = some g) : ∃ q c, v = .slice (some ⟨q, 0, none⟩) l.length c ∧ w.cell? ⟨q, k, none⟩ = some (.pointer (some ⟨g, 0, none⟩)) := by
 have hk : k < l.length := (List.getElem?_eq_some_iff.1 hx).1
 unfold OwnPt at h
 rcases h.2 with ⟨_, h0⟩ | ⟨q, c, cur, rfl, _, hh, _⟩
 ·omega
 ·refine ⟨q, c, rfl, ?_⟩
  rw [h.cellAt _ (by omega)]
  have h9 := rowC_get ptC_len hx (j := 0) (by decide)
  rw [Nat.mul_one, Nat.add_zero] at h9
  exact h9
/-- The boxes, each in its block. -/
def ObjsB (B : Nat) (w : World) (P : List (Lb × Nat)) : Prop := ∀ p ∈ P, B ≤ p.2 ∧ HasObj w p.2 42 (lbC p.1) ∧ OwnBx B w p.1.m p.1.t p.1.b
theorem ObjsB.up {B : Nat} {w w' : World} {P : List (Lb × Nat)} (h : ObjsB B w P) (hb : Below w.heap.size w w') : ObjsB B w' P := fun p hp => ⟨(h p hp).1, (h p hp).2.1.ups hb, (h p hp).2.2.up hb⟩
theorem ObjsB.drew {B : Nat} {w : World} {P : List (Lb × Nat)} (h : ObjsB B w P) : ObjsB B w.drew P := fun p hp => ⟨(h p hp).1, (h p hp).2.1, ⟨(h p hp).2.2.1, (h p hp).2.2.2⟩⟩
theorem ObjsB.based {B B' : Nat} {w : World} {P : List (Lb × Nat)} (h : ObjsB B w P) (hB : B' ≤ B) : ObjsB B' w P := fun p hp => ⟨Nat.le_trans hB (h p hp).1, (h p hp).2.1, (h p hp).2.2.based hB⟩
theorem ObjsB.nil (B : Nat) (w : World) : ObjsB B w [] := fun p hp => by cases hp
theorem ObjsB.snoc {B : Nat} {w : World} {P : List (Lb × Nat)} {p : Lb × Nat} (h : ObjsB B w P) (h1 : B ≤ p.2) (h2 : HasObj w p.2 42 (lbC p.1)) (h3 : OwnBx B w p.1.m p.1.t p.1.b) : ObjsB B w (P ++ [p]) := fun q hq => by
 rcases List.mem_append.1 hq with hq | hq
 ·exact h q hq
 ·simp at hq; subst hq; exact ⟨h1, h2, h3⟩
theorem ObjsB.sub {B : Nat} {w : World} {P P' : List (Lb × Nat)} (h : ObjsB B w P) (hs : ∀ p ∈ P', p ∈ P) : ObjsB B w P' := fun p hp => h p (hs p hp)
theorem obj_ne {w : World} {a b : Nat} {t u : TypeId} {vs us : List Value} (h1 : HasObj w a t vs) (h2 : HasObj w b u us) (hn : t ≠ u) : a ≠ b := fun e => by
 subst e
 unfold HasObj at h1 h2
 rw [h1] at h2
 simp at h2
 exact hn h2.2
theorem ObjsB.set {B : Nat} {W : World} {P : List (Lb × Nat)} {b j : Nat} {t : TypeId} {vs : List Value} (h : ObjsB B W P) (ho : HasObj W b t vs) (h0 : t ≠ 42) (h1 : t ≠ 76) (h2 : t ≠ 79) (u : Value) : ObjsB B (W.setCell ⟨b, j, none⟩ u) P :=
 fun p hp => ⟨(h p hp).1, (h p hp).2.1.other (obj_ne (h p hp).2.1 ho h0.symm) u, ⟨ho.row h1 (h p hp).2.2.1 u, ho.row h2 (h p hp).2.2.2 u⟩⟩
theorem ObjsB.aside {B B2 n size : Nat} {W W' : World} {P : List (Lb × Nat)} {e : TypeId} {v : Value} {xs : List Value} (h : ObjsB B W P) (hr : W.ownsRow B2 e size v n xs) (hg : W.grownBy W' v.ownBlock) (h0 : 42 ≠ e) (h1 : e ≠ 76) (h2 : e ≠ 79) : ObjsB B W' P :=
 fun p hp => ⟨(h p hp).1, (h p hp).2.1.kept hg (fun he => (h p hp).2.1.not_row h0 hr he.symm), ⟨g_aside (h p hp).2.2.1 hg (fun k hk => rows_apart hr (h p hp).2.2.1 h1 k hk), g_aside (h p hp).2.2.2 hg (fun k hk => rows_apart hr (h p hp).2.2.2 h2 k hk)⟩⟩
theorem ObjsB.beyond {B B2 n size N : Nat} {W W' : World} {P : List (Lb × Nat)} {e : TypeId} {v : Value} {xs : List Value} (h : ObjsB B W P) (hlt : ∀ p ∈ P, p.2 < N) (hr : W.ownsRow B2 e size v n xs) (hN : N ≤ B2) (hg : W.grownBy W' v.ownBlock) (h1 : e ≠ 76) (h2 : e ≠ 79) : ObjsB B W' P :=
 fun p hp => ⟨(h p hp).1, (h p hp).2.1.kept hg (fun he => by have q1 := hlt p hp; have q2 := (World.ownsRow.lt hr p.2 he.symm).1; omega), ⟨g_aside (h p hp).2.2.1 hg (fun k hk => rows_apart hr (h p hp).2.2.1 h1 k hk), g_aside (h p hp).2.2.2 hg (fun k hk => rows_apart hr (h p hp).2.2.2 h2 k hk)⟩⟩
theorem ObjsB.mapped {B B2 b : Nat} {W W' : World} {P : List (Lb × Nat)} {s : List (Fl × Nat)} (h : ObjsB B W P) (hm : Named B2 W b s) (hg : W.grownBy W' (some b)) : ObjsB B W' P :=
 fun p hp => ⟨(h p hp).1, (h p hp).2.1.kept hg (fun he => hm.no_obj (h p hp).2.1 (Option.some.inj he)), ⟨g_aside (h p hp).2.2.1 hg (fun k hk he => by cases hk; exact hm.no_row (h p hp).2.2.1 he), g_aside (h p hp).2.2.2 hg (fun k hk he => by cases hk; exact hm.no_row (h p hp).2.2.2 he)⟩⟩
theorem ObjsB.filled {B r : Nat} {W U : World} {P : List (Lb × Nat)} {t : TypeId} {vs us : List Value} (h : ObjsB B W P) (ho : HasObj W r t vs) (F : Filled W r t us U) (h0 : t ≠ 42) (h1 : t ≠ 76) (h2 : t ≠ 79) : ObjsB B U P :=
 fun p hp => ⟨(h p hp).1, F.other (obj_ne (h p hp).2.1 ho h0.symm) (h p hp).2.1, ⟨F.row h1 (h p hp).2.2.1, F.row h2 (h p hp).2.2.2⟩⟩
/-- No two boxes share a block or a row. -/
def AsideB (p q : Lb × Nat) : Prop := p.2 ≠ q.2 ∧ ApartB p.1 q.1
/-- A store that lies open. -/
structure OpenSt (B : Nat) (w : World) (v : Value) (mb : Nat) (P : List (Lb × Nat)) : Prop where
 row : OwnPt B w v (P.map (·.2))
 objs : ObjsB B w P
 apart : P.Pairwise AsideB
 map : ∃ S, Named B w mb S ∧ S.length ≤ P.length ∧ ∀ n, (findS S n).map (·.2) = findB P n
theorem OpenSt.up {B : Nat} {w w' : World} {v : Value} {mb : Nat} {P : List (Lb × Nat)} (h : OpenSt B w v mb P) (hb : Below w.heap.size w w') : OpenSt B w' v mb P := by
 obtain ⟨S, h1, h2, h3⟩ := h.map
 exact ⟨h.row.up hb, h.objs.up hb, h.apart, S, h1.up hb, h2, h3⟩
theorem OpenSt.drew {B : Nat} {w : World} {v : Value} {mb : Nat} {P : List (Lb × Nat)} (h : OpenSt B w v mb P) : OpenSt B w.drew v mb P := by
 obtain ⟨S, h1, h2, h3⟩ := h.map
 exact ⟨h.row.drew, h.objs.drew, h.apart, S, h1.drew, h2, h3⟩
theorem OpenSt.look {B : Nat} {w : World} {v : Value} {mb : Nat} {P : List (Lb × Nat)} (h : OpenSt B w v mb P) {n : ByteArray} (hn : n.size ≤ 1048576) :
  (Instr.lookup 48 (.map (some mb)) (.string n) false).run Try.prog w = .ok (ptrOf (findB P n)) w := by
 obtain ⟨S, h1, _, h3⟩ := h.map
 rw [h1.look hn, h3]
end Go.Proofs.Ytanapiaobpoebaa
