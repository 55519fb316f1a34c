/- Several texts in one. -/
import Derived.Test.YtecognggnbopaacGreatStA
import Derived.Maps.OwnSet
import Derived.Test.YtecognggnbopaacGreatStoreMarks
import Derived.Test.YtecognggnbopaacGreatPlainA
import Derived.Lib.OthersKept
import Derived.Test.YtecognggnbopaacGreatFlagA
import Derived.Test.YtecognggnbopaacGreatBnS
import Derived.Test.YtecognggnbopaacGreatBmA
namespace Go.Proofs.YtecognggnbopaacGreat.Plain
set_option linter.unusedVariables false

def ent {H : Type} (p : Fl × Nat) : Lit × DataW H := (.string p.1.name.data.toList, .lit (.int .i64 (p.2 : Int)))
def dm {H : Type} (s : List (Fl × Nat)) : DataW H := .map (s.map ent)
def AscS (s : List (Fl × Nat)) : Prop := s.Pairwise fun p q => ltB p.1.name q.1.name = true
def putS (s : List (Fl × Nat)) (p : Fl × Nat) : List (Fl × Nat) := s.filter (fun q => ltB q.1.name p.1.name) ++ p :: s.filter (fun q => ltB p.1.name q.1.name)
def withoutS (s : List (Fl × Nat)) (n : ByteArray) : List (Fl × Nat) := s.filter fun q => !(q.1.name.toList == n.toList)
def findS (s : List (Fl × Nat)) (n : ByteArray) : Option (Fl × Nat) := s.find? fun q => q.1.name.toList == n.toList
def files (s : List (Fl × Nat)) : List Fl := s.map (·.1)

theorem files_put (s : List (Fl × Nat)) (p : Fl × Nat) : files (putS s p) = putL (files s) p.1 := by
 simp [files, putS, putL, List.filter_map, Function.comp_def]
theorem files_asc {s : List (Fl × Nat)} : Asc (files s) ↔ AscS s := by
 simp [files, Asc, AscS, List.pairwise_map]
theorem files_length (s : List (Fl × Nat)) : (files s).length = s.length := by simp [files]
theorem findS_mem {s : List (Fl × Nat)} {n : ByteArray} {p : Fl × Nat} (h : findS s n = some p) : p ∈ s ∧ p.1.name = n :=
 ⟨List.mem_of_find?_eq_some h, same_iff.1 (List.find?_some (p := fun q : Fl × Nat => q.1.name.toList == n.toList) h)⟩
theorem findS_none {s : List (Fl × Nat)} {n : ByteArray} : findS s n = none ↔ ∀ p ∈ s, p.1.name ≠ n := by
 unfold findS
 rw [List.find?_eq_none]
 exact ⟨fun h f hf e => h f hf (same_iff.2 e), fun h f hf e => h f hf (same_iff.1 e)⟩
theorem putS_asc {s : List (Fl × Nat)} (p : Fl × Nat) (h : AscS s) : AscS (putS s p) := by
 rw [← files_asc, files_put]; exact putL_asc _ (files_asc.2 h)
theorem putS_mem {s : List (Fl × Nat)} {p q : Fl × Nat} (h : q ∈ putS s p) : q = p ∨ (q ∈ s ∧ q.1.name ≠ p.1.name) := by
 unfold putS at h
 rcases List.mem_append.1 h with h | h
 ·exact .inr ⟨(List.mem_filter.1 h).1, ltB_ne (List.mem_filter.1 h).2⟩
 ·rcases List.mem_cons.1 h with h | h
  ·exact .inl h
  ·exact .inr ⟨(List.mem_filter.1 h).1, (ltB_ne (List.mem_filter.1 h).2).symm⟩
theorem sameKey_is {H : Type} (p : Fl × Nat) (n : ByteArray) : (ent (H := H) p).1.sameKey (.string n.data.toList) = (p.1.name.toList == n.toList) := by
 simp only [ent, Lit.sameKey, ByteArray.toList_eq]
theorem dm_del {H : Type} (s : List (Fl × Nat)) (n : ByteArray) : (dm (H := H) s).del (.string n.data.toList) = dm (withoutS s n) := by
 unfold dm withoutS DataW.del
 simp only [List.filter_map]
 congr 2
 apply List.filter_congr
 intro p _
 simp only [Function.comp, sameKey_is]
theorem dm_at {H : Type} {s : List (Fl × Nat)} {n : ByteArray} {p : Fl × Nat} (h : findS s n = some p) (z : DataW H) : (dm (H := H) s).atKey (.string n.data.toList) z = .lit (.int .i64 (p.2 : Int)) := by
 unfold dm DataW.atKey
 simp only [List.find?_map]
 have e : ((fun p => Lit.sameKey p.1 (Lit.string n.data.toList)) ∘ ent (H := H)) = fun q : Fl × Nat => q.1.name.toList == n.toList := by
  funext q; simp only [Function.comp, sameKey_is]
 rw [e]
 unfold findS at h
 rw [h]
 rfl
theorem dm_at_none {H : Type} {s : List (Fl × Nat)} {n : ByteArray} (h : findS s n = none) (z : DataW H) : (dm (H := H) s).atKey (.string n.data.toList) z = z := by
 unfold dm DataW.atKey
 simp only [List.find?_map]
 have e : ((fun p => Lit.sameKey p.1 (Lit.string n.data.toList)) ∘ ent (H := H)) = fun q : Fl × Nat => q.1.name.toList == n.toList := by
  funext q; simp only [Function.comp, sameKey_is]
 rw [e]
 unfold findS at h
 rw [h]
 rfl
theorem dm_size {H : Type} (s : List (Fl × Nat)) : Maps.size (dm (H := H) s) = s.length := by simp [dm, Maps.size]

theorem before_is {H : Type} (p q : Fl × Nat) : (ent (H := H) p).1.before (ent (H := H) q).1 = ltB p.1.name q.1.name := by
 simp only [ent, Lit.before, ltB_is]
theorem insert_front {H : Type} (p : Fl × Nat) (s : List (Fl × Nat)) (h : ∀ q ∈ s, ltB p.1.name q.1.name = true) : DataW.insert (ent (H := H) p) (s.map ent) = ent p :: s.map ent := by
 cases s with
 | nil => rfl
 | cons q r =>
  rw [List.map_cons, DataW.insert, before_is, h q (by simp)]
  rfl
theorem filter_lt_none {s : List (Fl × Nat)} {n : ByteArray} (h : ∀ q ∈ s, ltB n q.1.name = true) : s.filter (fun q => ltB q.1.name n) = [] := by
 rw [List.filter_eq_nil_iff]
 intro q hq e
 rw [ltB_asymm (h q hq)] at e; cases e
theorem filter_gt_all {s : List (Fl × Nat)} {n : ByteArray} (h : ∀ q ∈ s, ltB n q.1.name = true) : s.filter (fun q => ltB n q.1.name) = s := List.filter_eq_self.2 h
theorem insert_put {H : Type} (s : List (Fl × Nat)) (p : Fl × Nat) (ha : AscS s) :
  DataW.insert (ent (H := H) p) ((withoutS s p.1.name).map ent) = (putS s p).map ent := by
 induction s with
 | nil => rfl
 | cons q r ih =>
  obtain ⟨h1, h2⟩ := List.pairwise_cons.1 ha
  have ih := ih h2
  by_cases e : q.1.name = p.1.name
  ·have hr : ∀ x ∈ r, ltB p.1.name x.1.name = true := fun x hx => by rw [← e]; exact h1 x hx
   have hw : withoutS (q :: r) p.1.name = r := by
    unfold withoutS
    rw [List.filter_cons_of_neg (by rw [same_iff.2 e]; simp)]
    rw [List.filter_eq_self]
    intro x hx
    cases e2 : (x.1.name.toList == p.1.name.toList)
    ·rfl
    ·exact absurd (same_iff.1 e2).symm (ltB_ne (hr x hx))
   rw [hw, insert_front p r hr]
   unfold putS
   rw [List.filter_cons_of_neg (by rw [e, ltB_irrefl]; simp), List.filter_cons_of_neg (by rw [e, ltB_irrefl]; simp), filter_lt_none hr, filter_gt_all hr]
   rfl
  ·have hne : (q.1.name.toList == p.1.name.toList) = false := by
    cases e2 : (q.1.name.toList == p.1.name.toList)
    ·rfl
    ·exact absurd (same_iff.1 e2) e
   rcases ltB_total e with hl | hl
   ·have hw : withoutS (q :: r) p.1.name = q :: withoutS r p.1.name := by
     unfold withoutS
     rw [List.filter_cons_of_pos (by rw [hne]; rfl)]
    rw [hw, List.map_cons, DataW.insert, before_is, ltB_asymm hl, if_neg (by simp), ih]
    unfold putS
    rw [List.filter_cons_of_pos (p := fun x : Fl × Nat => ltB x.1.name p.1.name) hl, List.filter_cons_of_neg (p := fun x : Fl × Nat => ltB p.1.name x.1.name) (by rw [ltB_asymm hl]; simp)]
    rfl
   ·have hr : ∀ x ∈ q :: r, ltB p.1.name x.1.name = true := fun x hx => by
     rcases List.mem_cons.1 hx with rfl | hx
     ·exact hl
     ·exact ltB_trans hl (h1 x hx)
    have hw : withoutS (q :: r) p.1.name = q :: r := by
     unfold withoutS
     rw [List.filter_eq_self]
     intro x hx
     cases e2 : (x.1.name.toList == p.1.name.toList)
     ·rfl
     ·exact absurd (same_iff.1 e2).symm (ltB_ne (hr x hx))
    rw [hw, insert_front p _ hr]
    unfold putS
    rw [filter_lt_none hr, filter_gt_all hr]
    rfl
theorem dm_put {H : Type} {s : List (Fl × Nat)} (p : Fl × Nat) {n : ByteArray} {b : Nat} (hn : n = p.1.name) (hb : b = p.2) (ha : AscS s) : (dm (H := H) s).put (.string n.data.toList) (.lit (.int .i64 (b : Int))) = dm (putS s p) := by
 subst hn hb
 have := dm_del (H := H) s p.1.name
 unfold dm DataW.del at this
 unfold dm DataW.put
 simp only at this ⊢
 have e := DataW.map.inj this
 rw [e]
 exact congrArg DataW.map (insert_put s p ha)
theorem putS_len_le (s : List (Fl × Nat)) (p : Fl × Nat) : (putS s p).length ≤ s.length + 1 := by
 rw [← files_length, files_put, ← files_length s]
 exact putL_len_le _ _
end Go.Proofs.YtecognggnbopaacGreat.Plain

namespace Go.Proofs.YtecognggnbopaacGreat
open Go.RowKit Go.Maps
open Plain
set_option linter.unusedVariables false

namespace Plain
theorem findS_iff {s : List (Fl × Nat)} (ha : AscS s) {n : ByteArray} {q : Fl × Nat} : findS s n = some q ↔ q ∈ s ∧ q.1.name = n := by
 constructor
 ·exact findS_mem
 ·rintro ⟨h1, h2⟩
  cases hf : findS s n with
  | none => exact absurd h2 (findS_none.1 hf q h1)
  | some r =>
   obtain ⟨h3, h4⟩ := findS_mem hf
   congr 1
   rcases List.mem_iff_getElem.1 h1 with ⟨i, hi, rfl⟩
   rcases List.mem_iff_getElem.1 h3 with ⟨j, hj, rfl⟩
   rcases Nat.lt_trichotomy i j with h | h | h
   ·have := List.pairwise_iff_getElem.1 ha i j hi hj h
    rw [h2, h4, ltB_irrefl] at this
    cases this
   ·subst h; rfl
   ·have := List.pairwise_iff_getElem.1 ha j i hj hi h
    rw [h2, h4, ltB_irrefl] at this
    cases this
theorem putS_self (s : List (Fl × Nat)) (p : Fl × Nat) : p ∈ putS s p := by unfold putS; simp
theorem putS_old {s : List (Fl × Nat)} {p q : Fl × Nat} (hq : q ∈ s) (hn : q.1.name ≠ p.1.name) : q ∈ putS s p := by
 unfold putS
 rcases ltB_total hn with h | h
 ·exact List.mem_append_left _ (List.mem_filter.2 ⟨hq, h⟩)
 ·exact List.mem_append_right _ (List.mem_cons_of_mem _ (List.mem_filter.2 ⟨hq, h⟩))
theorem findS_put_same {s : List (Fl × Nat)} (ha : AscS s) (p : Fl × Nat) : findS (putS s p) p.1.name = some p := (findS_iff (putS_asc p ha)).2 ⟨putS_self s p, rfl⟩
theorem findS_put_other {s : List (Fl × Nat)} (ha : AscS s) {p : Fl × Nat} {n : ByteArray} (hn : p.1.name ≠ n) : findS (putS s p) n = findS s n := by
 cases hf : findS s n with
 | some q =>
  obtain ⟨h1, h2⟩ := findS_mem hf
  exact (findS_iff (putS_asc p ha)).2 ⟨putS_old h1 (by rw [h2]; exact hn.symm), h2⟩
 | none =>
  rw [findS_none]
  intro q hq
  rcases putS_mem hq with rfl | ⟨h1, _⟩
  ·exact hn
  ·exact findS_none.1 hf q h1
/-- The block of the first box of that name. -/
def findB (P : List (Lb × Nat)) (n : ByteArray) : Option Nat := (P.find? fun p => sameN n p.1.b).map (·.2)
theorem findB_snoc (P : List (Lb × Nat)) (p : Lb × Nat) (n : ByteArray) : findB (P ++ [p]) n = (findB P n).or (if sameN n p.1.b then some p.2 else none) := by
 unfold findB
 rw [List.find?_append]
 cases P.find? fun p => sameN n p.1.b with
 | some q => rfl
 | none =>
  simp only [Option.none_or, Option.map_none, List.find?_cons, List.find?_nil]
  cases sameN n p.1.b <;> rfl
theorem findB_some {P : List (Lb × Nat)} {n : ByteArray} {g : Nat} (h : findB P n = some g) : ∃ k p, P[k]? = some p ∧ p.2 = g ∧ sameN n p.1.b = true ∧ ∀ y ∈ P.take k, sameN n y.1.b = false := by
 unfold findB at h
 cases hf : P.find? fun p => sameN n p.1.b with
 | none => rw [hf] at h; cases h
 | some p =>
  rw [hf] at h
  obtain ⟨hp, aa, bb, rfl, hno⟩ := List.find?_eq_some_iff_append.1 hf
  refine ⟨aa.length, p, by simp, Option.some.inj h, hp, fun y hy => ?_⟩
  simp at hy
  have := hno y hy
  simpa using this
theorem findB_none {P : List (Lb × Nat)} {n : ByteArray} (h : findB P n = none) : ∀ y ∈ P, sameN n y.1.b = false := by
 unfold findB at h
 rw [Option.map_eq_none_iff, List.find?_eq_none] at h
 intro y hy
 have := h y hy
 cases hq : sameN n y.1.b with
 | true => exact absurd hq this
 | false => rfl
theorem names_old {S : List (Fl × Nat)} {P : List (Lb × Nat)} {p : Lb × Nat} {g : Nat} (h : ∀ n, (findS S n).map (·.2) = findB P n) (hf : findB P p.1.b.name = some g) : ∀ n, (findS S n).map (·.2) = findB (P ++ [p]) n := by
 intro n
 rw [h, findB_snoc]
 cases hn : sameN n p.1.b with
 | true => rw [← sameN_iff.1 hn, hf]; rfl
 | false => cases findB P n <;> rfl
theorem names_new {S : List (Fl × Nat)} {P : List (Lb × Nat)} {p : Lb × Nat} (ha : AscS S) (h : ∀ n, (findS S n).map (·.2) = findB P n) (hf : findB P p.1.b.name = none) : ∀ n, (findS (putS S (⟨p.1.b.name, ByteArray.empty, 0⟩, p.2)) n).map (·.2) = findB (P ++ [p]) n := by
 intro n
 rw [findB_snoc]
 cases hn : sameN n p.1.b with
 | true =>
  have e := sameN_iff.1 hn
  subst e
  rw [hf]
  have := findS_put_same ha (⟨p.1.b.name, ByteArray.empty, 0⟩, p.2)
  simp only at this
  rw [this]
  rfl
 | false =>
  have hne : p.1.b.name ≠ n := fun e => by rw [sameN_iff.2 e] at hn; cases hn
  rw [findS_put_other ha hne, h]
  cases findB P n <;> rfl
end Plain
theorem keyedB : Keyed Tryz.prog 9 := string_keyed Tryz.underlying9
theorem zeroPB (w : World) : (zeroValue 69).run Tryz.prog w = .ok (.pointer none) w := by kernel_rfl
/-- A pointer reads as its block's number. -/
def ptrE (v : Value) : Option (DataW Unit × List MemPlace) :=
 match v with
 | .pointer (some ⟨g, 0, none⟩) => some (.lit (.int .i64 (g : Int)), [])
 | .pointer none => some (.lit (.int .i64 (-1)), [])
 | _ => none
theorem ptrE_mk (g : Nat) : ptrE (.pointer (some ⟨g, 0, none⟩)) = some (.lit (.int .i64 (g : Int)), []) := rfl
theorem ptrE_nil : ptrE (.pointer none) = some (.lit (.int .i64 (-1)), []) := rfl
theorem ptrE_inv {v : Value} {g : Nat} {ps : List MemPlace} (h : ptrE v = some (.lit (.int .i64 (g : Int)), ps)) : v = .pointer (some ⟨g, 0, none⟩) := by
 unfold ptrE at h
 split at h
 ·simp at h
  obtain ⟨h1, _⟩ := h
  obtain rfl : _ = g := Int.ofNat.inj h1
  rfl
 ·simp at h
 ·cases h
theorem ptrE_inv_nil {v : Value} {ps : List MemPlace} (h : ptrE v = some (.lit (.int .i64 (-1)), ps)) : v = .pointer none := by
 unfold ptrE at h
 split at h
 ·simp at h
 ·rfl
 ·cases h
theorem owns_fit {H : Type} {P : Program} {k : TypeId} {R : Value → Option (DataW H × List MemPlace)} {w : World} {b n m : Nat} {D : DataW H} (h : w.ownsMap P k R b n D) (hm : Maps.size D = m) : w.ownsMap P k R b m D := by
 obtain ⟨es, clock, h1, h2, h3, rfl⟩ := h
 refine ⟨es, clock, h1, h2, ?_, rfl⟩
 subst hm
 simp [Maps.size, length_sorted]
theorem keyB {n : ByteArray} (h : n.size ≤ 1048576) : keyOf Tryz.prog 9 (.string n) = some (.string n.data.toList) := WideMaps.keyOf_string_mk Tryz.underlying9 (by unfold maxLen; omega)
/-- Boxes by their names, in the map of block b. -/
def Named (B : Nat) (w : World) (b : Nat) (s : List (Fl × Nat)) : Prop := w.ownsMap Tryz.prog 9 ptrE b s.length (dm s) ∧ B ≤ b ∧ AscS s
theorem Named.lt {B : Nat} {w : World} {b : Nat} {s : List (Fl × Nat)} (h : Named B w b s) : b < w.heap.size := h.1.lt
theorem Named.kept {B : Nat} {w w' : World} {b : Nat} {s : List (Fl × Nat)} {row : Option Nat} (h : Named B w b s) (hg : w.grownBy w' row) (hne : some b ≠ row) : Named B w' b s := ⟨h.1.kept hg hne, h.2⟩
theorem Named.up {B : Nat} {w w' : World} {b : Nat} {s : List (Fl × Nat)} (h : Named B w b s) (hb : Below w.heap.size w w') : Named B w' b s := h.kept (g_grown hb none) (by simp)
theorem Named.drew {B : Nat} {w : World} {b : Nat} {s : List (Fl × Nat)} (h : Named B w b s) : Named B w.drew b s := h
theorem Named.based {B B' : Nat} {w : World} {b : Nat} {s : List (Fl × Nat)} (h : Named B w b s) (hB : B' ≤ B) : Named B' w b s := ⟨h.1, Nat.le_trans hB h.2.1, h.2.2⟩
theorem Named.no_obj {B : Nat} {w : World} {b : Nat} {s : List (Fl × Nat)} (h : Named B w b s) {g : Nat} {t : TypeId} {vs : List Value} (ho : HasObj w g t vs) : g ≠ b := fun e => by
 obtain ⟨es, clock, h1, _⟩ := h.1
 unfold HasObj at ho
 rw [e, h1] at ho
 cases ho
theorem Named.no_row {B : Nat} {w : World} {b : Nat} {s : List (Fl × Nat)} (h : Named B w b s) {B2 size n : Nat} {e : TypeId} {v : Value} {xs : List Value} (hr : w.ownsRow B2 e size v n xs) : v.ownBlock ≠ some b := fun he => by
 obtain ⟨es, clock, h1, _⟩ := h.1
 rcases hr.2 with ⟨h2, _⟩ | ⟨g, c, cur, h2, _, hh, _⟩
 ·rw [h2] at he; cases he
 ·rw [h2] at he
  cases he
  rw [h1] at hh
  cases hh
theorem Named.set {B : Nat} {w : World} {b : Nat} {s : List (Fl × Nat)} (h : Named B w b s) {g j : Nat} {t : TypeId} {vs : List Value} (ho : HasObj w g t vs) (u : Value) : Named B (w.setCell ⟨g, j, none⟩ u) b s :=
 ⟨h.1.setCell (a := ⟨g, j, none⟩) (fun e => h.no_obj ho e.symm) u, h.2⟩
def ptrOf : Option Nat → Value
 | some g => .pointer (some ⟨g, 0, none⟩)
 | none => .pointer none
theorem Named.look {B : Nat} {w : World} {b : Nat} {s : List (Fl × Nat)} (h : Named B w b s) {n : ByteArray} (hn : n.size ≤ 1048576) :
  (Instr.lookup 64 (.map (some b)) (.string n) false).run Tryz.prog w = .ok (ptrOf ((findS s n).map (·.2))) w := by
 obtain ⟨v, ps, hr, hv⟩ := h.1.lookup keyedB Tryz.underlying64 (zeroPB w) ptrE_nil (keyB hn)
 cases hf : findS s n with
 | some p => rw [dm_at hf] at hv; rw [hr, ptrE_inv hv]; rfl
 | none => rw [dm_at_none hf] at hv; rw [hr, ptrE_inv_nil hv]; rfl
theorem Named.put {B : Nat} {w : World} {b : Nat} {s : List (Fl × Nat)} (h : Named B w b s) {n : ByteArray} {g : Nat} (hn : n.size ≤ 1048576) (hl : s.length ≤ 4194304) :
  ∃ w', (Instr.mapUpdate 64 (.map (some b)) (.string n) (.pointer (some ⟨g, 0, none⟩))).run Tryz.prog w = .ok () w' ∧ Named B w' b (putS s (⟨n, ByteArray.empty, 0⟩, g)) ∧ w.grownBy w' (some b) := by
 obtain ⟨w', hr, ho, hg⟩ := h.1.update keyedB Tryz.underlying64 (by unfold maxLen; omega) (keyB hn) (ptrE_mk g)
 rw [dm_put (⟨n, ByteArray.empty, 0⟩, g) rfl rfl h.2.2] at ho
 exact ⟨w', hr, ⟨owns_fit ho (dm_size _), h.2.1, putS_asc _ h.2.2⟩, hg⟩
theorem Named.del {B : Nat} {w : World} {b : Nat} {s : List (Fl × Nat)} (h : Named B w b s) {n : ByteArray} (hn : n.size ≤ 1048576) (ty : TypeId) :
  ∃ w', (Builtin.delete_ #[64, 9] ty #[.map (some b), .string n]).run Tryz.prog w = .ok (.tuple #[]) w' ∧ w.grownBy w' (some b) := by
 obtain ⟨w', hr, ho, hg⟩ := h.1.drop keyedB Tryz.underlying64 (keyB hn) ty
 exact ⟨w', hr, hg.grown⟩
theorem Named.made {B : Nat} (w : World) (hB : B ≤ w.heap.size) : Named B (w.alloc (.map #[] 0)) w.heap.size [] := ⟨World.ownsMap_made w Tryz.prog 9 ptrE, hB, List.Pairwise.nil⟩
/-- A row of pointers. -/
def ptC (g : Nat) : List Value := [.pointer (some ⟨g, 0, none⟩)]
theorem ptC_len : ∀ g, (ptC g).length = 1 := fun _ => rfl
theorem Tryz.infoPBox : (Tryz.prog.info? 69).map (fun i => (i.zero, i.size, i.bytes)) = some (some (.pointer none), 1, 8) := by kernel_rfl
def OwnPt (B : Nat) (w : World) (v : Value) (l : List Nat) : Prop := w.ownsRow B 69 1 v l.length (rowC ptC l)
theorem OwnPt.up {B : Nat} {w w' : World} {v : Value} {l : List Nat} (h : OwnPt B w v l) (hb : Below w.heap.size w w') : OwnPt B w' v l := g_stays h hb
theorem OwnPt.drew {B : Nat} {w : World} {v : Value} {l : List Nat} (h : OwnPt B w v l) : OwnPt B w.drew v l := h
theorem OwnPt.based {B B' : Nat} {w : World} {v : Value} {l : List Nat} (h : OwnPt B w v l) (hB : B' ≤ B) : OwnPt B' w v l := g_based h hB
theorem OwnPt.snoc {B : Nat} {w : World} {v : Value} {l : List Nat} {x : Nat} (h : w.ownsRow B 69 1 v (l.length + 1) (rowC ptC l ++ ptC x)) : OwnPt B w v (l ++ [x]) := by
 unfold OwnPt
 rw [rowC_snoc, List.length_append]
 exact h
theorem pt_read {B : Nat} {w : World} {v : Value} {l : List Nat} (h : OwnPt B w v l) {k g : Nat} (hx : l[k]? = some g) : ∃ q c, v = .slice (some ⟨q, 0, none⟩) l.length c ∧ w.cell? ⟨q, k, none⟩ = some (.pointer (some ⟨g, 0, none⟩)) := by
 have hk : k < l.length := (List.getElem?_eq_some_iff.1 hx).1
 unfold OwnPt at h
 rcases h.2 with ⟨_, h0⟩ | ⟨q, c, cur, rfl, _, hh, _⟩
 ·omega
 ·refine ⟨q, c, rfl, ?_⟩
  rw [h.cellAt _ (by omega)]
  have h9 := rowC_get ptC_len hx (j := 0) (by decide)
  rw [Nat.mul_one, Nat.add_zero] at h9
  exact h9
/-- The boxes, each in its block. -/
def ObjsB (B : Nat) (w : World) (P : List (Lb × Nat)) : Prop := ∀ p ∈ P, B ≤ p.2 ∧ HasObj w p.2 46 (lbC p.1) ∧ OwnBx B w p.1.m p.1.t p.1.b
theorem ObjsB.up {B : Nat} {w w' : World} {P : List (Lb × Nat)} (h : ObjsB B w P) (hb : Below w.heap.size w w') : ObjsB B w' P := fun p hp => ⟨(h p hp).1, (h p hp).2.1.ups hb, (h p hp).2.2.up hb⟩
theorem ObjsB.drew {B : Nat} {w : World} {P : List (Lb × Nat)} (h : ObjsB B w P) : ObjsB B w.drew P := fun p hp => ⟨(h p hp).1, (h p hp).2.1, ⟨(h p hp).2.2.1, (h p hp).2.2.2⟩⟩
theorem ObjsB.based {B B' : Nat} {w : World} {P : List (Lb × Nat)} (h : ObjsB B w P) (hB : B' ≤ B) : ObjsB B' w P := fun p hp => ⟨Nat.le_trans hB (h p hp).1, (h p hp).2.1, (h p hp).2.2.based hB⟩
theorem ObjsB.nil (B : Nat) (w : World) : ObjsB B w [] := fun p hp => by cases hp
theorem ObjsB.snoc {B : Nat} {w : World} {P : List (Lb × Nat)} {p : Lb × Nat} (h : ObjsB B w P) (h1 : B ≤ p.2) (h2 : HasObj w p.2 46 (lbC p.1)) (h3 : OwnBx B w p.1.m p.1.t p.1.b) : ObjsB B w (P ++ [p]) := fun q hq => by
 rcases List.mem_append.1 hq with hq | hq
 ·exact h q hq
 ·simp at hq; subst hq; exact ⟨h1, h2, h3⟩
theorem ObjsB.sub {B : Nat} {w : World} {P P' : List (Lb × Nat)} (h : ObjsB B w P) (hs : ∀ p ∈ P', p ∈ P) : ObjsB B w P' := fun p hp => h p (hs p hp)
theorem obj_ne {w : World} {a b : Nat} {t u : TypeId} {vs us : List Value} (h1 : HasObj w a t vs) (h2 : HasObj w b u us) (hn : t ≠ u) : a ≠ b := fun e => by
 subst e
 unfold HasObj at h1 h2
 rw [h1] at h2
 simp at h2
 exact hn h2.2
theorem ObjsB.set {B : Nat} {W : World} {P : List (Lb × Nat)} {b j : Nat} {t : TypeId} {vs : List Value} (h : ObjsB B W P) (ho : HasObj W b t vs) (h0 : t ≠ 46) (h1 : t ≠ 51) (h2 : t ≠ 92) (u : Value) : ObjsB B (W.setCell ⟨b, j, none⟩ u) P :=
 fun p hp => ⟨(h p hp).1, (h p hp).2.1.other (obj_ne (h p hp).2.1 ho h0.symm) u, ⟨ho.row h1 (h p hp).2.2.1 u, ho.row h2 (h p hp).2.2.2 u⟩⟩
theorem ObjsB.aside {B B2 n size : Nat} {W W' : World} {P : List (Lb × Nat)} {e : TypeId} {v : Value} {xs : List Value} (h : ObjsB B W P) (hr : W.ownsRow B2 e size v n xs) (hg : W.grownBy W' v.ownBlock) (h0 : 46 ≠ e) (h1 : e ≠ 51) (h2 : e ≠ 92) : ObjsB B W' P :=
 fun p hp => ⟨(h p hp).1, (h p hp).2.1.kept hg (fun he => (h p hp).2.1.not_row h0 hr he.symm), ⟨g_aside (h p hp).2.2.1 hg (fun k hk => rows_apart hr (h p hp).2.2.1 h1 k hk), g_aside (h p hp).2.2.2 hg (fun k hk => rows_apart hr (h p hp).2.2.2 h2 k hk)⟩⟩
theorem ObjsB.beyond {B B2 n size N : Nat} {W W' : World} {P : List (Lb × Nat)} {e : TypeId} {v : Value} {xs : List Value} (h : ObjsB B W P) (hlt : ∀ p ∈ P, p.2 < N) (hr : W.ownsRow B2 e size v n xs) (hN : N ≤ B2) (hg : W.grownBy W' v.ownBlock) (h1 : e ≠ 51) (h2 : e ≠ 92) : ObjsB B W' P :=
 fun p hp => ⟨(h p hp).1, (h p hp).2.1.kept hg (fun he => by have q1 := hlt p hp; have q2 := (World.ownsRow.lt hr p.2 he.symm).1; omega), ⟨g_aside (h p hp).2.2.1 hg (fun k hk => rows_apart hr (h p hp).2.2.1 h1 k hk), g_aside (h p hp).2.2.2 hg (fun k hk => rows_apart hr (h p hp).2.2.2 h2 k hk)⟩⟩
theorem ObjsB.mapped {B B2 b : Nat} {W W' : World} {P : List (Lb × Nat)} {s : List (Fl × Nat)} (h : ObjsB B W P) (hm : Named B2 W b s) (hg : W.grownBy W' (some b)) : ObjsB B W' P :=
 fun p hp => ⟨(h p hp).1, (h p hp).2.1.kept hg (fun he => hm.no_obj (h p hp).2.1 (Option.some.inj he)), ⟨g_aside (h p hp).2.2.1 hg (fun k hk he => by cases hk; exact hm.no_row (h p hp).2.2.1 he), g_aside (h p hp).2.2.2 hg (fun k hk he => by cases hk; exact hm.no_row (h p hp).2.2.2 he)⟩⟩
theorem ObjsB.filled {B r : Nat} {W U : World} {P : List (Lb × Nat)} {t : TypeId} {vs us : List Value} (h : ObjsB B W P) (ho : HasObj W r t vs) (F : Filled W r t us U) (h0 : t ≠ 46) (h1 : t ≠ 51) (h2 : t ≠ 92) : ObjsB B U P :=
 fun p hp => ⟨(h p hp).1, F.other (obj_ne (h p hp).2.1 ho h0.symm) (h p hp).2.1, ⟨F.row h1 (h p hp).2.2.1, F.row h2 (h p hp).2.2.2⟩⟩
/-- No two boxes share a block or a row. -/
def AsideB (p q : Lb × Nat) : Prop := p.2 ≠ q.2 ∧ ApartB p.1 q.1
/-- A store that lies open. -/
structure OpenSt (B : Nat) (w : World) (v : Value) (mb : Nat) (P : List (Lb × Nat)) : Prop where
 row : OwnPt B w v (P.map (·.2))
 objs : ObjsB B w P
 apart : P.Pairwise AsideB
 map : ∃ S, Named B w mb S ∧ S.length ≤ P.length ∧ ∀ n, (findS S n).map (·.2) = findB P n
theorem OpenSt.up {B : Nat} {w w' : World} {v : Value} {mb : Nat} {P : List (Lb × Nat)} (h : OpenSt B w v mb P) (hb : Below w.heap.size w w') : OpenSt B w' v mb P := by
 obtain ⟨S, h1, h2, h3⟩ := h.map
 exact ⟨h.row.up hb, h.objs.up hb, h.apart, S, h1.up hb, h2, h3⟩
theorem OpenSt.drew {B : Nat} {w : World} {v : Value} {mb : Nat} {P : List (Lb × Nat)} (h : OpenSt B w v mb P) : OpenSt B w.drew v mb P := by
 obtain ⟨S, h1, h2, h3⟩ := h.map
 exact ⟨h.row.drew, h.objs.drew, h.apart, S, h1.drew, h2, h3⟩
theorem OpenSt.look {B : Nat} {w : World} {v : Value} {mb : Nat} {P : List (Lb × Nat)} (h : OpenSt B w v mb P) {n : ByteArray} (hn : n.size ≤ 1048576) :
  (Instr.lookup 64 (.map (some mb)) (.string n) false).run Tryz.prog w = .ok (ptrOf (findB P n)) w := by
 obtain ⟨S, h1, _, h3⟩ := h.map
 rw [h1.look hn, h3]
end Go.Proofs.YtecognggnbopaacGreat

namespace Go.Proofs.YtecognggnbopaacGreat.Plain
open Go.RowKit
set_option linter.unusedVariables false

theorem getD_byte (s : ByteArray) (p : Nat) (h : p < s.size) : s.data.toList.getD p 0 = s[p]'h := by
 rw [List.getD_eq_getElem?_getD, Array.getElem?_toList, Array.getElem?_eq_getElem h]
 rfl
theorem get_byte (s : ByteArray) (p : Nat) (h : p < s.size) : s.get! p = s.data.toList.getD p 0 := by
 rw [getD_byte s p h]
 simp [ByteArray.get!, getElem!_pos, h]
 rfl
theorem cont_span {s : ByteArray} {p : Nat} (h : (decide (p < s.size) && (s.get! p).toNat / 64 == 2) = true) : p < s.size ∧ 128 ≤ (s.data.toList.getD p 0).toNat := by
 rw [Bool.and_eq_true, decide_eq_true_eq] at h
 refine ⟨h.1, ?_⟩
 rw [← get_byte s p h.1]
 have := h.2
 rw [beq_iff_eq] at this
 omega
/-- A rune that is not one byte below 128 has no such byte in it. -/
theorem decode_span (s : ByteArray) (p : Nat) (h : p < s.size) (ha : 128 ≤ (s.data.toList.getD p 0).toNat) :
  ∀ j, p ≤ j → j < p + (Utf8.decode s p).2 → j < s.size ∧ 128 ≤ (s.data.toList.getD j 0).toNat := by
 have h0 : ¬ (s.get! (p + 0)).toNat < 128 := by rw [Nat.add_zero, get_byte s p h]; omega
 have one : ∀ j, p ≤ j → j < p + 1 → j < s.size ∧ 128 ≤ (s.data.toList.getD j 0).toNat := by
  intro j h1 h2
  have e : j = p := by omega
  subst e
  exact ⟨h, ha⟩
 simp only [Utf8.decode]
 rw [if_neg h0]
 split
 ·rename_i hc
  rw [Bool.and_eq_true] at hc
  have c1 := cont_span hc.2
  split
  ·intro j h1 h2
   rcases (show j = p ∨ j = p + 1 by omega) with e | e <;> subst e
   ·exact ⟨h, ha⟩
   ·exact c1
  ·exact one
 ·split
  ·rename_i hc
   rw [Bool.and_eq_true, Bool.and_eq_true] at hc
   have c1 := cont_span hc.1.2; have c2 := cont_span hc.2
   split
   ·intro j h1 h2
    rcases (show j = p ∨ j = p + 1 ∨ j = p + 2 by omega) with e | e | e <;> subst e
    ·exact ⟨h, ha⟩
    ·exact c1
    ·exact c2
   ·exact one
  ·split
   ·rename_i hc
    rw [Bool.and_eq_true, Bool.and_eq_true, Bool.and_eq_true] at hc
    have c1 := cont_span hc.1.1.2; have c2 := cont_span hc.1.2; have c3 := cont_span hc.2
    split
    ·intro j h1 h2
     rcases (show j = p ∨ j = p + 1 ∨ j = p + 2 ∨ j = p + 3 by omega) with e | e | e | e <;> subst e
     ·exact ⟨h, ha⟩
     ·exact c1
     ·exact c2
     ·exact c3
    ·exact one
   ·exact one
/-- The step at a place: its rune's number, and where the next one begins. -/
theorem rune_step (s : ByteArray) (p : Nat) (h : p < s.size) :
  ((s.data.toList.getD p 0).toNat < 128 ∧ (Utf8.decode s p) = ((s.data.toList.getD p 0).toNat, 1)) ∨
  (128 ≤ (Utf8.decode s p).1 ∧ 1 ≤ (Utf8.decode s p).2 ∧ ∀ j, p ≤ j → j < p + (Utf8.decode s p).2 → j < s.size ∧ 128 ≤ (s.data.toList.getD j 0).toNat) := by
 by_cases ha : (s.data.toList.getD p 0).toNat < 128
 ·refine .inl ⟨ha, ?_⟩
  rw [getD_byte s p h] at ha ⊢
  exact decode_ascii s p h ha
 ·have hb : 128 ≤ (s[p]'h).toNat := by rw [← getD_byte s p h]; omega
  exact .inr ⟨(decode_high s p h hb).1, (decode_high s p h hb).2, decode_span s p h (by omega)⟩
/-- Ahead of the first line without anything. -/
def headsFrom : Bool → List UInt8 → List UInt8
 | _, [] => []
 | s, b :: r => if b = 10 then (if s then [] else b :: headsFrom true r) else b :: headsFrom false r
/-- Going over bytes that end no line. -/
theorem over_heads : ∀ (m l : List UInt8) (s : Bool), m ≠ [] → (∀ b ∈ m, b ≠ 10) → headsFrom s (m ++ l) = m ++ headsFrom false l ∧ bodyFrom s (m ++ l) = bodyFrom false l := by
 intro m
 induction m with
 | nil => intro l s h; exact absurd rfl h
 | cons b r ih =>
  intro l s _ hb
  have hb0 : b ≠ 10 := hb b (by simp)
  rw [List.cons_append, headsFrom, if_neg hb0, bodyFrom, if_neg hb0]
  by_cases hr : r = []
  ·subst hr
   simp
  ·obtain ⟨h1, h2⟩ := ih l false hr (fun x hx => hb x (by simp [hx]))
   rw [h1, h2]
   exact ⟨rfl, rfl⟩
theorem drop_at {l : List UInt8} {p : Nat} (h : p < l.length) : l.drop p = l.getD p 0 :: l.drop (p + 1) := by
 rw [List.drop_eq_getElem_cons h, List.getD_eq_getElem?_getD, List.getElem?_eq_getElem h]
 rfl
/-- What is still to be looked at of a mail, at a place where a rune begins. -/
structure CutI (l : List UInt8) (p : Nat) (s : Bool) : Prop where
 le : p ≤ l.length
 heads : headsFrom true l = l.take p ++ headsFrom s (l.drop p)
 body : bodyL l = bodyFrom s (l.drop p)
theorem CutI.zero (l : List UInt8) : CutI l 0 true := ⟨Nat.zero_le _, by simp, rfl⟩
theorem CutI.here {l : List UInt8} {p : Nat} (h : CutI l p true) (hp : p < l.length) (hb : l.getD p 0 = 10) : headsFrom true l = l.take p ∧ bodyL l = l.drop (p + 1) := by
 have h1 := h.heads; have h2 := h.body
 rw [drop_at hp, hb] at h1 h2
 exact ⟨by rw [h1]; simp [headsFrom], by rw [h2]; simp [bodyFrom]⟩
theorem take_next {l : List UInt8} {p : Nat} (h : p < l.length) : l.take (p + 1) = l.take p ++ [l.getD p 0] := by
 rw [List.take_add_one, List.getElem?_eq_getElem h, List.getD_eq_getElem?_getD, List.getElem?_eq_getElem h]
 rfl
theorem CutI.line {l : List UInt8} {p : Nat} (h : CutI l p false) (hp : p < l.length) (hb : l.getD p 0 = 10) : CutI l (p + 1) true := by
 refine ⟨by omega, ?_, ?_⟩
 ·rw [h.heads, drop_at hp, take_next hp, hb]
  simp [headsFrom]
 ·rw [h.body, drop_at hp, hb]
  simp [bodyFrom]
theorem CutI.over {l : List UInt8} {p : Nat} {s : Bool} (h : CutI l p s) (d : Nat) (hd : 1 ≤ d) (hp : p + d ≤ l.length) (hb : ∀ j, p ≤ j → j < p + d → l.getD j 0 ≠ 10) : CutI l (p + d) false := by
 have e : l.drop p = (l.drop p).take d ++ l.drop (p + d) := by
  rw [← List.drop_drop, List.take_append_drop]
 have hm : ∀ b ∈ (l.drop p).take d, b ≠ 10 := by
  intro b hb2
  obtain ⟨k, hk, rfl⟩ := List.getElem_of_mem hb2
  have hk2 : k < d := by have := hk; simp at this; omega
  have h3 := hb (p + k) (by omega) (by omega)
  rw [List.getD_eq_getElem?_getD, List.getElem?_eq_getElem (by omega)] at h3
  simpa using h3
 have hne : (l.drop p).take d ≠ [] := by
  intro h0
  have := congrArg List.length h0
  simp at this
  omega
 obtain ⟨h1, h2⟩ := over_heads ((l.drop p).take d) (l.drop (p + d)) s hne hm
 rw [← e] at h1 h2
 refine ⟨hp, ?_, ?_⟩
 ·rw [h.heads, h1, ← List.append_assoc]
  congr 1
  rw [List.take_add]
 ·rw [h.body, h2]
end Go.Proofs.YtecognggnbopaacGreat.Plain

namespace Go.Proofs.YtecognggnbopaacGreat
open Go.RowKit
open Plain
set_option linter.unusedVariables false

namespace Plain
theorem all_over {t : List UInt8} {p d : Nat} (hp : p + d ≤ t.length) (ha : (t.take p).all (fun b => b != 0) = true) (hx : ∀ j, p ≤ j → j < p + d → t.getD j 0 ≠ 0) : (t.take (p + d)).all (fun b => b != 0) = true := by
 rw [List.take_add, List.all_append, ha, Bool.true_and, List.all_eq_true]
 intro b hb
 obtain ⟨k, hk, rfl⟩ := List.getElem_of_mem hb
 have hk2 : k < d := by have := hk; simp at this; omega
 have h3 := hx (p + k) (by omega) (by omega)
 rw [List.getD_eq_getElem?_getD, List.getElem?_eq_getElem (by omega)] at h3
 simpa using h3
theorem all_zero {t : List UInt8} {p : Nat} (hp : p < t.length) (h : t.getD p 0 = 0) : t.all (fun b => b != 0) = false := by
 refine all_no (k := p) ?_
 rw [List.getElem?_eq_getElem hp]
 rw [List.getD_eq_getElem?_getD, List.getElem?_eq_getElem hp] at h
 simpa using h
theorem mail_no {t : List UInt8} (h : t.all (fun b => b != 0) = false) : mailOkL t = false := by
 unfold mailOkL
 rw [h]
 rfl
theorem mail_in {t : List UInt8} (h : t.all (fun b => b != 0) = true) : mailOkL t = (decide (1 ≤ t.length) && decide (t.length ≤ 200)) := by
 unfold mailOkL
 rw [h]
 rfl
end Plain

set_option maxHeartbeats 2000000 in
set_option maxRecDepth 100000 in
theorem impl_MailOk_any (s : ByteArray) (w : World) (hs : s.size ≤ 1048576) :
  Calls Tryz.prog 102 #[.string s] w fun e w' => e = .returned (.bool (mailOkL s.data.toList)) ∧ Below w.heap.size w w' := by
 have BI : ∀ p, Hid (Below w.heap.size w (w.iter s p)) := fun p => (Below.refl _ w).alloc (Nat.le_refl _) _
 go_enter Tryz.func102, Tryz.ntmps102
 go_wp2
 go_loopw [4] (fun _ wr => ∃ p : Nat, p ≤ s.size ∧ wr = w.iter s p ∧ (s.data.toList.take p).all (fun b => b != 0) = true) (fun _ wr => s.size - wr.iterPos w.heap.size)
 case atStart => exact ⟨0, Nat.zero_le _, rfl, rfl⟩
 case round =>
  obtain ⟨p, hp, rfl, hall⟩ := hrel
  by_cases hlt : p < s.size
  ·have hnx := fun ty => run_next_any (P := Tryz.prog) w s p ty hlt
   rcases rune_step s p hlt with ⟨hlo, hd⟩ | ⟨hhi, hd1, hsp⟩
   ·rw [hd] at hnx
    simp only at hnx
    by_cases h0 : s.data.toList.getD p 0 = 0
    ·have V := hide (mail_no (all_zero (t := s.data.toList) (show p < s.data.toList.length from hlt) h0))
     rw [h0] at hnx
     clear hall h0 hd hlo
     go_wp2
     go_ret
     exact ⟨by rw [uh V]; rfl, uh (BI _)⟩
    ·have ST := hide (all_over (t := s.data.toList) (p := p) (d := 1) (show p + 1 ≤ s.size by omega) hall (fun j h1 h2 => by rw [show j = p by omega]; exact h0))
     have t0 : (((s.data.toList.getD p 0).toNat : Int) == 0) = false := by
      rw [beq_eq_false_iff_ne]
      intro e
      exact h0 (UInt8.toNat_inj.1 (by simpa using e))
     clear hall h0 hd hlo
     generalize (s.data.toList.getD p 0).toNat = x at *
     go_wp2
     go_roundw
     case rel => exact ⟨p + 1, by omega, rfl, uh ST⟩
     case measure => simp only [World.iterPos_iter]; omega
   ·have ST := hide (all_over (t := s.data.toList) (p := p) (d := (Utf8.decode s p).2) (by have := (hsp (p + (Utf8.decode s p).2 - 1) (by omega) (by omega)).1; show p + (Utf8.decode s p).2 ≤ s.size; omega) hall (fun j h1 h2 e => by have := (hsp j h1 h2).2; rw [e] at this; exact absurd this (by decide)))
    have hle : p + (Utf8.decode s p).2 ≤ s.size := by have := (hsp (p + (Utf8.decode s p).2 - 1) (by omega) (by omega)).1; omega
    clear hall hsp
    obtain ⟨r, hr⟩ : ∃ r, Utf8.decode s p = r := ⟨_, rfl⟩
    rw [hr] at hnx hhi hd1 ST hle
    clear hr
    obtain ⟨x, d⟩ := r
    simp only at hnx hhi hd1 ST hle
    have t0 : ((x : Int) == 0) = false := by rw [beq_eq_false_iff_ne]; omega
    go_wp2
    go_roundw
    case rel => exact ⟨p + d, by omega, rfl, uh ST⟩
    case measure => simp only [World.iterPos_iter]; omega
  ·have hnx := fun ty => run_next_end (P := Tryz.prog) w s p ty hlt
   rw [List.take_of_length_le (show s.data.toList.length ≤ p by show s.size ≤ p; omega)] at hall
   have V := hide (mail_in hall)
   rw [show s.data.toList.length = s.size from rfl] at V
   clear hall
   by_cases h1 : 1 ≤ s.size
   ·have d1 : decide ((1 : Int) ≤ (s.size : Int)) = true := by rw [decide_eq_true_eq]; omega
    rw [decide_eq_true h1, Bool.true_and] at V
    by_cases h2 : s.size ≤ 200
    ·have d2 : decide ((s.size : Int) ≤ 200) = true := by rw [decide_eq_true_eq]; omega
     rw [decide_eq_true h2] at V
     go_wp2
     go_ret
     exact ⟨by rw [uh V]; rfl, uh (BI _)⟩
    ·have d2 : decide ((s.size : Int) ≤ 200) = false := by rw [decide_eq_false_iff_not]; omega
     rw [decide_eq_false h2] at V
     go_wp2
     go_ret
     exact ⟨by rw [uh V]; rfl, uh (BI _)⟩
   ·have d1 : decide ((1 : Int) ≤ (s.size : Int)) = false := by rw [decide_eq_false_iff_not]; omega
    rw [decide_eq_false h1, Bool.false_and] at V
    go_wp2
    go_ret
    exact ⟨by rw [uh V]; rfl, uh (BI _)⟩

end Go.Proofs.YtecognggnbopaacGreat

namespace Go.Proofs.YtecognggnbopaacGreat
open Go.RowKit
open Plain
set_option linter.unusedVariables false

theorem impl_within_any (x l m : Int) (w : World) : Calls Tryz.prog 68 #[.int .i64 x, .int .i64 l, .int .i64 m] w fun e w' => e = .returned (.bool (inI x l m)) ∧ w' = w := by
 unfold inI
 by_cases h : l ≤ x
 ·have hd : decide (l ≤ x) = true := by simpa using h
  by_cases h2 : x ≤ m
  ·have hd2 : decide (x ≤ m) = true := by simpa using h2
   rw [hd, hd2]
   go_enter Tryz.func68, Tryz.ntmps68
   go_wp2
   go_ret
   exact ⟨rfl, rfl⟩
  ·have hd2 : decide (x ≤ m) = false := by simpa using h2
   rw [hd, hd2]
   go_enter Tryz.func68, Tryz.ntmps68
   go_wp2
   go_ret
   exact ⟨rfl, rfl⟩
 ·have hd : decide (l ≤ x) = false := by simpa using h
  rw [hd]
  go_enter Tryz.func68, Tryz.ntmps68
  go_wp2
  go_ret
  exact ⟨rfl, rfl⟩

namespace Plain
theorem name_bad {l : List UInt8} {p : Nat} (hp : p < l.length) (h : letter (l.getD p 0) = false) : nameOkL l = false :=
 name_no (i := p) (c := l.getD p 0) (by rw [List.getD_eq_getElem?_getD, List.getElem?_eq_getElem hp]; rfl) h
theorem name_good {l : List UInt8} (h : ∀ j, j < l.length → letter (l.getD j 0) = true) : nameOkL l = inI (l.length : Int) 1 8 :=
 name_yes fun i c hc => by
  have hi := (List.getElem?_eq_some_iff.1 hc).1
  have := h i hi
  rwa [List.getD_eq_getElem?_getD, hc] at this
theorem letter_no {c : UInt8} (h : c.toNat < 97 ∨ 122 < c.toNat) : letter c = false := by
 unfold letter
 rcases h with h | h
 ·rw [decide_eq_false (by omega)]; rfl
 ·rw [decide_eq_false (p := c.toNat ≤ 122) (by omega), Bool.and_false]
theorem letter_yes {c : UInt8} (h : 97 ≤ c.toNat) (h2 : c.toNat ≤ 122) : letter c = true := by
 unfold letter
 rw [decide_eq_true h, decide_eq_true h2]; rfl
end Plain

set_option maxHeartbeats 2000000 in
set_option maxRecDepth 100000 in
theorem impl_BoxName_any (s : ByteArray) (w : World) (hs : s.size ≤ 1048576) :
  Calls Tryz.prog 90 #[.string s] w fun e w' => e = .returned (.bool (nameOkL s.data.toList)) ∧ Below w.heap.size w w' := by
 have BI : ∀ p, Hid (Below w.heap.size w (w.iter s p)) := fun p => (Below.refl _ w).alloc (Nat.le_refl _) _
 go_enter Tryz.func90, Tryz.ntmps90
 go_wp2
 go_loopw [4] (fun _ wr => ∃ p : Nat, p ≤ s.size ∧ wr = w.iter s p ∧ ∀ j, j < p → letter (s.data.toList.getD j 0) = true) (fun _ wr => s.size - wr.iterPos w.heap.size)
 case atStart => exact ⟨0, Nat.zero_le _, rfl, fun j hj => by omega⟩
 case round =>
  obtain ⟨p, hp, rfl, hall⟩ := hrel
  by_cases hlt : p < s.size
  ·have hnx := fun ty => run_next_any (P := Tryz.prog) w s p ty hlt
   rcases rune_step s p hlt with ⟨hlo, hd⟩ | ⟨hhi, hd1, hsp⟩
   ·rw [hd] at hnx
    simp only at hnx
    have ST : Hid (letter (s.data.toList.getD p 0) = true → ∀ j, j < p + 1 → letter (s.data.toList.getD j 0) = true) := fun h j hj => by
     by_cases e : j = p
     ·rw [e]; exact h
     ·exact hall j (by omega)
    have NO : Hid (letter (s.data.toList.getD p 0) = false → nameOkL s.data.toList = false) := fun h => name_bad (show p < s.data.toList.length from hlt) h
    have L1 := hide (fun h => letter_no (c := s.data.toList.getD p 0) h)
    have L2 := hide (fun h h2 => letter_yes (c := s.data.toList.getD p 0) h h2)
    clear hall hd
    generalize (s.data.toList.getD p 0).toNat = x at *
    by_cases h0 : x < 97
    ·have t0 : decide ((x : Int) < 97) = true := by rw [decide_eq_true_eq]; omega
     have V := hide (uh NO (uh L1 (.inl h0)))
     go_wp2
     go_ret
     exact ⟨by rw [uh V]; rfl, uh (BI _)⟩
    ·have t0 : decide ((x : Int) < 97) = false := by rw [decide_eq_false_iff_not]; omega
     by_cases h1 : 122 < x
     ·have t1 : decide ((122 : Int) < (x : Int)) = true := by rw [decide_eq_true_eq]; omega
      have V := hide (uh NO (uh L1 (.inr h1)))
      go_wp2
      go_ret
      exact ⟨by rw [uh V]; rfl, uh (BI _)⟩
     ·have t1 : decide ((122 : Int) < (x : Int)) = false := by rw [decide_eq_false_iff_not]; omega
      have V := hide (uh ST (uh L2 (by omega) (by omega)))
      go_wp2
      go_roundw
      case rel => exact ⟨p + 1, by omega, rfl, uh V⟩
      case measure => simp only [World.iterPos_iter]; omega
   ·have V := hide (name_bad (l := s.data.toList) (p := p) hlt (letter_no (.inr (by have := (hsp p (Nat.le_refl _) (by omega)).2; omega))))
    clear hall hsp
    obtain ⟨r, hr⟩ : ∃ r, Utf8.decode s p = r := ⟨_, rfl⟩
    rw [hr] at hnx hhi hd1
    clear hr
    obtain ⟨x, d⟩ := r
    simp only at hnx hhi hd1
    have t0 : decide ((x : Int) < 97) = false := by rw [decide_eq_false_iff_not]; omega
    have t1 : decide ((122 : Int) < (x : Int)) = true := by rw [decide_eq_true_eq]; omega
    go_wp2
    go_ret
    exact ⟨by rw [uh V]; rfl, uh (BI _)⟩
  ·have hnx := fun ty => run_next_end (P := Tryz.prog) w s p ty hlt
   have V := hide (name_good (l := s.data.toList) (fun j hj => hall j (by have : j < s.size := hj; omega)))
   rw [show s.data.toList.length = s.size from rfl] at V
   have Q := hide (impl_within_any (s.size : Int) 1 8 (w.iter s p)); clear hall; go_wp2_with fail
   refine (uh Q).mono ?_
   rintro e w1 ⟨rfl, hw1⟩
   subst w1
   go_wp2
   go_ret
   exact ⟨by rw [uh V]; rfl, uh (BI _)⟩
end Go.Proofs.YtecognggnbopaacGreat

namespace Go.Proofs.YtecognggnbopaacGreat
open Go.RowKit
open Plain
set_option linter.unusedVariables false

namespace Plain
theorem orI : ∀ a b : Fin 32, bits .or .i64 (a.val : Int) (b.val : Int) = (a.val : Int) + b.val - andTo a.val b.val 5 := by decide +kernel
theorem notI : ∀ a b : Fin 32, bits .andNot .i64 (a.val : Int) (b.val : Int) = (a.val : Int) - andTo a.val b.val 5 := by decide +kernel
theorem fin_of {a : Int} (h0 : 0 ≤ a) (h1 : a ≤ 31) : ∃ x : Fin 32, (x.val : Int) = a := ⟨⟨a.toNat, by omega⟩, by simp; omega⟩
theorem or_is {a b : Int} (h0 : 0 ≤ a) (h1 : a ≤ 31) (h2 : 0 ≤ b) (h3 : b ≤ 31) : bits .or .i64 a b = a + b - andTo a b 5 := by
 obtain ⟨x, rfl⟩ := fin_of h0 h1
 obtain ⟨y, rfl⟩ := fin_of h2 h3
 exact orI x y
theorem not_is {a b : Int} (h0 : 0 ≤ a) (h1 : a ≤ 31) (h2 : 0 ≤ b) (h3 : b ≤ 31) : bits .andNot .i64 a b = a - andTo a b 5 := by
 obtain ⟨x, rfl⟩ := fin_of h0 h1
 obtain ⟨y, rfl⟩ := fin_of h2 h3
 exact notI x y
end Plain

theorem impl_FlagsOk_any (b : Int) (w : World) :
  Calls Tryz.prog 76 #[.int .i64 b] w fun e w' => e = .returned (.bool (flOk b)) ∧ w' = w := by
 by_cases h : 0 ≤ b
 ·have hd : decide (0 ≤ b) = true := by simpa using h
  by_cases h2 : b ≤ 31
  ·have hd2 : decide (b < 32) = true := by simp; omega
   rw [flOk_in h h2]
   go_enter Tryz.func76, Tryz.ntmps76
   go_wp2
   go_ret
   exact ⟨rfl, rfl⟩
  ·have hd2 : decide (b < 32) = false := by simp; omega
   rw [flOk_no (fun x => h2 x.2)]
   go_enter Tryz.func76, Tryz.ntmps76
   go_wp2
   go_ret
   exact ⟨rfl, rfl⟩
 ·have hd : decide (0 ≤ b) = false := by simpa using h
  rw [flOk_no (fun x => h x.1)]
  go_enter Tryz.func76, Tryz.ntmps76
  go_wp2
  go_ret
  exact ⟨rfl, rfl⟩

theorem with_any (a b : Int) (w : World) (h0 : 0 ≤ a) (h1 : a ≤ 31) (h2 : 0 ≤ b) (h3 : b ≤ 31) :
  Calls Tryz.prog 107 #[.int .i64 a, .int .i64 b] w fun e w' => e = .returned (.int .i64 (a + b - andTo a b 5)) ∧ w' = w := by
 have b1 := or_is h0 h1 h2 h3
 generalize a + b - andTo a b 5 = z at *
 go_enter Tryz.func107, Tryz.ntmps107
 go_wp2
 go_ret
 exact ⟨rfl, rfl⟩
theorem without_any (a b : Int) (w : World) (h0 : 0 ≤ a) (h1 : a ≤ 31) (h2 : 0 ≤ b) (h3 : b ≤ 31) :
  Calls Tryz.prog 108 #[.int .i64 a, .int .i64 b] w fun e w' => e = .returned (.int .i64 (a - andTo a b 5)) ∧ w' = w := by
 have b1 := not_is h0 h1 h2 h3
 generalize a - andTo a b 5 = z at *
 go_enter Tryz.func108, Tryz.ntmps108
 go_wp2
 go_ret
 exact ⟨rfl, rfl⟩
theorem after_any (a how b : Int) (w : World) (h0 : 0 ≤ a) (h1 : a ≤ 31) (h2 : 0 ≤ b) (h3 : b ≤ 31) :
  Calls Tryz.prog 96 #[.int .i64 a, .int .i64 how, .int .i64 b] w fun e w' => e = .returned (.int .i64 (afterV a how b)) ∧ w' = w := by
 have E := afterV_in (how := how) ⟨flOk_in h0 h1, flOk_in h2 h3⟩
 have Q1 := hide (with_any a b w h0 h1 h2 h3); have Q2 := hide (without_any a b w h0 h1 h2 h3)
 generalize afterV a how b = v at *
 generalize a + b - andTo a b 5 = x at *
 generalize a - andTo a b 5 = y at *
 by_cases c1 : how = 1
 ·have t1 : (how == 1) = true := by simpa using c1
  have E1 : Hid (v = b) := E.trans (if_pos c1)
  clear E c1
  go_enter Tryz.func96, Tryz.ntmps96
  go_wp2
  go_ret
  exact ⟨by rw [uh E1]; rfl, rfl⟩
 have t1 : (how == 1) = false := by simpa using c1
 rw [if_neg c1] at E
 clear c1
 by_cases c2 : how = 2
 ·have t2 : (how == 2) = true := by simpa using c2
  have E1 : Hid (v = x) := E.trans (if_pos c2)
  clear E c2
  go_enter Tryz.func96, Tryz.ntmps96
  go_wp2_with (go_at_call 107; refine (uh Q1).mono ?_; rintro e w1 ⟨rfl, hw1⟩; subst w1)
  go_ret
  exact ⟨by rw [uh E1]; rfl, rfl⟩
 have t2 : (how == 2) = false := by simpa using c2
 rw [if_neg c2] at E
 clear c2
 by_cases c3 : how = 3
 ·have t3 : (how == 3) = true := by simpa using c3
  have E1 : Hid (v = y) := E.trans (if_pos c3)
  clear E c3
  go_enter Tryz.func96, Tryz.ntmps96
  go_wp2_with (go_at_call 108; refine (uh Q2).mono ?_; rintro e w1 ⟨rfl, hw1⟩; subst w1)
  go_ret
  exact ⟨by rw [uh E1]; rfl, rfl⟩
 have t3 : (how == 3) = false := by simpa using c3
 have E1 : Hid (v = a) := E.trans (if_neg c3)
 clear E c3
 go_enter Tryz.func96, Tryz.ntmps96
 go_wp2
 go_ret
 exact ⟨by rw [uh E1]; rfl, rfl⟩

theorem impl_FlagsAfter_any (old how bits : Int) (w : World) :
  Calls Tryz.prog 78 #[.int .i64 old, .int .i64 how, .int .i64 bits] w fun e w' => e = .returned (.int .i64 (afterV old how bits)) ∧ w' = w := by
 cases ho : flOk old with
 | false =>
  have Q := impl_FlagsOk_any old w
  rw [ho] at Q
  have Q := hide Q
  have E : Hid (afterV old how bits = old) := afterV_no (by rw [ho]; simp)
  clear ho
  generalize afterV old how bits = v at *
  go_enter Tryz.func78, Tryz.ntmps78
  go_wp2_with (go_at_call 76; refine (uh Q).mono ?_; rintro e w1 ⟨rfl, hw1⟩; subst w1)
  go_ret
  exact ⟨by rw [uh E]; rfl, rfl⟩
 | true =>
  have Q := impl_FlagsOk_any old w
  rw [ho] at Q
  have Q := hide Q
  cases hb : flOk bits with
  | false =>
   have Q2 := impl_FlagsOk_any bits w
   rw [hb] at Q2
   have Q2 := hide Q2
   have E : Hid (afterV old how bits = old) := afterV_no (by rw [hb]; simp)
   clear ho hb
   generalize afterV old how bits = v at *
   go_enter Tryz.func78, Tryz.ntmps78
   go_wp2_with fail
   refine (uh Q).mono ?_
   rintro e w1 ⟨rfl, hw1⟩
   subst w1
   go_wp2_with fail
   refine (uh Q2).mono ?_
   rintro e w1 ⟨rfl, hw1⟩
   subst w1
   go_wp2
   go_ret
   exact ⟨by rw [uh E]; rfl, rfl⟩
  | true =>
   have Q2 := impl_FlagsOk_any bits w
   rw [hb] at Q2
   have Q2 := hide Q2
   obtain ⟨a1, a2⟩ := flOk_parts ho
   obtain ⟨b1, b2⟩ := flOk_parts hb
   have Q3 := hide (after_any old how bits w a1 a2 b1 b2); clear ho hb a1 a2 b1 b2
   generalize afterV old how bits = v at *
   go_enter Tryz.func78, Tryz.ntmps78
   go_wp2_with fail
   refine (uh Q).mono ?_
   rintro e w1 ⟨rfl, hw1⟩
   subst w1
   go_wp2_with fail
   refine (uh Q2).mono ?_
   rintro e w1 ⟨rfl, hw1⟩
   subst w1
   go_wp2_with fail
   refine (uh Q3).mono ?_
   rintro e w1 ⟨rfl, hw1⟩
   subst w1
   go_wp2
   go_ret
   exact ⟨rfl, rfl⟩
end Go.Proofs.YtecognggnbopaacGreat
