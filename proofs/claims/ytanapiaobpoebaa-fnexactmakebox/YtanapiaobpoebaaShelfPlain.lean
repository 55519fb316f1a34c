/- Files by their names, each in a block of its own: what a map of them reads as. Nothing of the program stands here. -/
import Derived.Test.YtanapiaobpoebaaActPlain
import Derived.Maps.OwnSet
namespace Go.Proofs.Ytanapiaobpoebaa.Plain
set_option linter.unusedVariables false

def ent {H : Type} (p : Fl × Nat) : Lit × DataW H := (.string p.1.name.data.toList, .lit (.int .i64 (p.2 : Int)))
def dm {H : Type} (s : List (Fl × Nat)) : DataW H := .map (s.map ent)
def AscS (s : List (Fl × Nat)) : Prop := s.Pairwise fun p q => ltB p.1.name q.1.name = true
def putS (s : List (Fl × Nat)) (p : Fl × Nat) : List (Fl × Nat) := s.filter (fun q => ltB q.1.name p.1.name) ++ p :: s.filter (fun q => ltB p.1.name q.1.name)
def withoutS (s : List (Fl × Nat)) (n : ByteArray) : List (Fl × Nat) := s.filter fun q => !(q.1.name.toList == n.toList)
def findS (s : List (Fl × Nat)) (n : ByteArray) : Option (Fl × Nat) := s.find? fun q => q.1.name.toList == n.toList
def files (s : List (Fl × Nat)) : List Fl := s.map (·.1)

theorem files_put (s : List (Fl × Nat)) (p : Fl × Nat) : files (putS s p) = putL (files s) p.1 := by
 simp [files, putS, putL, List.filter_map, Function.comp_def]
theorem files_asc {s : List (Fl × Nat)} : Asc (files s) ↔ AscS s := by
 simp [files, Asc, AscS, List.pairwise_map]
theorem files_length (s : List (Fl × Nat)) : (files s).length = s.length := by simp [files]
theorem findS_mem {s : List (Fl × Nat)} {n : ByteArray} {p : Fl × Nat} (h : findS s n = some p) : p ∈ s ∧ p.1.name = n :=
 ⟨List.mem_of_find?_eq_some h, same_iff.1 (List.find?_some (p := fun q : Fl × Nat => q.1.name.toList == n.toList) h)⟩
theorem findS_none {s : List (Fl × Nat)} {n : ByteArray} : findS s n = none ↔ ∀ p ∈ s, p.1.name ≠ n := by
 unfold findS
 rw [List.find?_eq_none]
 exact ⟨fun h f hf e => h f hf (same_iff.2 e), fun h f hf e => h f hf (same_iff.1 e)⟩
theorem putS_asc {s : List (Fl × Nat)} (p : Fl × Nat) (h : AscS s) : AscS (putS s p) := by
 rw [← files_asc, files_put]; exact putL_asc _ (files_asc.2 h)
theorem putS_mem {s : List (Fl × Nat)} {p q : Fl × Nat} (h : q ∈ putS s p) : q = p ∨ (q ∈ s ∧ q.1.name ≠ p.1.name) := by
 unfold putS at h
 rcases List.mem_append.1 h with h | h
 ·exact .inr ⟨(List.mem_filter.1 h).1, ltB_ne (List.mem_filter.1 h).2⟩
 ·rcases List.mem_cons.1 h with h | h
  ·exact .inl h
  ·exact .inr ⟨(List.mem_filter.1 h).1, (ltB_ne (List.mem_filter.1 h).2).symm⟩
theorem sameKey_is {H : Type} (p : Fl × Nat) (n : ByteArray) : (ent (H := H) p).1.sameKey (.string n.data.toList) = (p.1.name.toList == n.toList) := by
 simp only [ent, Lit.sameKey, ByteArray.toList_eq]
theorem dm_del {H : Type} (s : List (Fl × Nat)) (n : ByteArray) : (dm (H := H) s).del (.string n.data.toList) = dm (withoutS s n) := by
 unfold dm withoutS DataW.del
 simp only [List.filter_map]
 congr 2
 apply List.filter_congr
 intro p _
 simp only [Function.comp, sameKey_is]
theorem dm_at {H : Type} {s : List (Fl × Nat)} {n : ByteArray} {p : Fl × Nat} (h : findS s n = some p) (z : DataW H) : (dm (H := H) s).atKey (.string n.data.toList) z = .lit (.int .i64 (p.2 : Int)) := by
 unfold dm DataW.atKey
 simp only [List.find?_map]
 have e : ((fun p => Lit.sameKey p.1 (Lit.string n.data.toList)) ∘ ent (H := H)) = fun q : Fl × Nat => q.1.name.toList == n.toList := by
  funext q; simp only [Function.comp, sameKey_is]
 rw [e]
 unfold findS at h
 rw [h]
 rfl
theorem dm_at_none {H : Type} {s : List (Fl × Nat)} {n : ByteArray} (h : findS s n = none) (z : DataW H) : (dm (H := H) s).atKey (.string n.data.toList) z = z := by
 unfold dm DataW.atKey
 simp only [List.find?_map]
 have e : ((fun p => Lit.sameKey p.1 (Lit.string n.data.toList)) ∘ ent (H := H)) = fun q : Fl × Nat => q.1.name.toList == n.toList := by
  funext q; simp only [Function.comp, sameKey_is]
 rw [e]
 unfold findS at h
 rw [h]
 rfl
theorem dm_size {H : Type} (s : List (Fl × Nat)) : Maps.size (dm (H := H) s) = s.length := by simp [dm, Maps.size]

theorem before_is {H : Type} (p q : Fl × Nat) : (ent (H := H) p).1.before (ent (H := H) q).1 = ltB p.1.name q.1.name := by
 simp only [ent, Lit.before, ltB_is]
theorem insert_front {H : Type} (p : Fl × Nat) (s : List (Fl × Nat)) (h : ∀ q ∈ s, ltB p.1.name q.1.name = true) : DataW.insert (ent (H := H) p) (s.map ent) = ent p :: s.map ent := by
 cases s with
 | nil => rfl
 | cons q r =>
  rw [List.map_cons, DataW.insert, before_is, h q (by simp)]
  rfl
theorem filter_lt_none {s : List (Fl × Nat)} {n : ByteArray} (h : ∀ q ∈ s, ltB n q.1.name = true) : s.filter (fun q => ltB q.1.name n) = [] := by
 rw [List.filter_eq_nil_iff]
 intro q hq e
 rw [ltB_asymm (h q hq)] at e; cases e
theorem filter_gt_all {s : List (Fl × Nat)} {n : ByteArray} (h : ∀ q ∈ s, ltB n q.1.name = true) : s.filter (fun q => ltB n q.1.name) = s := List.filter_eq_self.2 h
theorem insert_put {H : Type} (s : List (Fl × Nat)) (p : Fl × Nat) (ha : AscS s) :
  DataW.insert (ent (H := H) p) ((withoutS s p.1.name).map ent) = (putS s p).map ent := by
 induction s with
 | nil => rfl
 | cons q r ih =>
  obtain ⟨h1, h2⟩ := List.pairwise_cons.1 ha
  have ih := ih h2
  by_cases e : q.1.name = p.1.name
  ·have hr : ∀ x ∈ r, ltB p.1.name x.1.name = true := fun x hx => by rw [← e]; exact h1 x hx
   have hw : withoutS (q :: r) p.1.name = r := by
    unfold withoutS
    rw [List.filter_cons_of_neg (by rw [same_iff.2 e]; simp)]
    rw [List.filter_eq_self]
    intro x hx
    cases e2 : (x.1.name.toList == p.1.name.toList)
    ·rfl
    ·exact absurd (same_iff.1 e2).symm (ltB_ne (hr x hx))
   rw [hw, insert_front p r hr]
   unfold putS
   rw [List.filter_cons_of_neg (by rw [e, ltB_irrefl]; simp), List.filter_cons_of_neg (by rw [e, ltB_irrefl]; simp), filter_lt_none hr, filter_gt_all hr]
   rfl
  ·have hne : (q.1.name.toList == p.1.name.toList) = false := by
    cases e2 : (q.1.name.toList == p.1.name.toList)
    ·rfl
    ·exact absurd (same_iff.1 e2) e
   rcases ltB_total e with hl | hl
   ·have hw : withoutS (q :: r) p.1.name = q :: withoutS r p.1.name := by
     unfold withoutS
     rw [List.filter_cons_of_pos (by rw [hne]; rfl)]
    rw [hw, List.map_cons, DataW.insert, before_is, ltB_asymm hl, if_neg (by simp), ih]
    unfold putS
    rw [List.filter_cons_of_pos (p := fun x : Fl × Nat => ltB x.1.name p.1.name) hl, List.filter_cons_of_neg (p := fun x : Fl × Nat => ltB p.1.name x.1.name) (by rw [ltB_asymm hl]; simp)]
    rfl
   ·have hr : ∀ x ∈ q :: r, ltB p.1.name x.1.name = true := fun x hx => by
     rcases List.mem_cons.1 hx with rfl | hx
     ·exact hl
     ·exact ltB_trans hl (h1 x hx)
    have hw : withoutS (q :: r) p.1.name = q :: r := by
     unfold withoutS
     rw [List.filter_eq_self]
     intro x hx
     cases e2 : (x.1.name.toList == p.1.name.toList)
     ·rfl
     ·exact absurd (same_iff.1 e2).symm (ltB_ne (hr x hx))
    rw [hw, insert_front p _ hr]
    unfold putS
    rw [filter_lt_none hr, filter_gt_all hr]
    rfl
theorem dm_put {H : Type} {s : List (Fl × Nat)} (p : Fl × Nat) {n : ByteArray} {b : Nat} (hn : n = p.1.name) (hb : b = p.2) (ha : AscS s) : (dm (H := H) s).put (.string n.data.toList) (.lit (.int .i64 (b : Int))) = dm (putS s p) := by
 subst hn hb
 have := dm_del (H := H) s p.1.name
 unfold dm DataW.del at this
 unfold dm DataW.put
 simp only at this ⊢
 have e := DataW.map.inj this
 rw [e]
 exact congrArg DataW.map (insert_put s p ha)
theorem putS_len_le (s : List (Fl × Nat)) (p : Fl × Nat) : (putS s p).length ≤ s.length + 1 := by
 rw [← files_length, files_put, ← files_length s]
 exact putL_len_le _ _
end Go.Proofs.Ytanapiaobpoebaa.Plain
