/- What acts do to a disk, plainly. Nothing of the program stands here. -/
import Derived.Test.YtecognggnbopaacDiskPlain
import Derived.WideAt
import Derived.WideShapes
namespace Go.Proofs.Ytecognggnbopaac.Plain
set_option linter.unusedVariables false

structure Ac where
  kind : Int
  name : ByteArray
  text : ByteArray
  to : ByteArray

theorem less_is : ∀ a b : List UInt8, Op.bytesLess a b = bytesBefore a b
  | [], [] => rfl
  | [], _ :: _ => rfl
  | _ :: _, [] => rfl
  | x :: a, y :: b => by simp only [Op.bytesLess, bytesBefore, less_is a b]
theorem ltB_is (a b : ByteArray) : ltB a b = bytesBefore a.data.toList b.data.toList := by
  unfold ltB; rw [less_is, ByteArray.toList_eq, ByteArray.toList_eq]
theorem ltB_irrefl (a : ByteArray) : ltB a a = false := by rw [ltB_is]; exact WideAt.bytes_irrefl _
theorem ltB_trans {a b c : ByteArray} (h1 : ltB a b = true) (h2 : ltB b c = true) : ltB a c = true := by
  rw [ltB_is] at *; exact WideShapes.bytes_trans _ _ _ h1 h2
theorem ltB_asymm {a b : ByteArray} (h : ltB a b = true) : ltB b a = false := by
  cases e : ltB b a
  · rfl
  · have := ltB_trans h e; rw [ltB_irrefl] at this; cases this
theorem ltB_total {a b : ByteArray} (h : a ≠ b) : ltB a b = true ∨ ltB b a = true := by
  rw [ltB_is, ltB_is]
  exact WideAt.bytes_total _ _ fun e => h (WideShapes.bytes_inj e)
theorem ltB_ne {a b : ByteArray} (h : ltB a b = true) : a ≠ b := fun e => by rw [e, ltB_irrefl] at h; cases h
theorem same_iff {a b : ByteArray} : (a.toList == b.toList) = true ↔ a = b := by
  rw [beq_iff_eq, ByteArray.toList_eq, ByteArray.toList_eq]
  exact ⟨fun h => WideShapes.bytes_inj h, fun h => by rw [h]⟩
theorem same_dec (a b : ByteArray) : (a.toList == b.toList) = decide (a = b) := by
  rw [Bool.eq_iff_iff, same_iff, decide_eq_true_iff]

def Asc (l : List Fl) : Prop := l.Pairwise fun f g => ltB f.name g.name = true
theorem pair_of_steps : ∀ (l : List Fl), (∀ (i : Nat) (f p : Fl), l[i + 1]? = some f → l[i]? = some p → ltB p.name f.name = true) → Asc l
  | [], _ => List.Pairwise.nil
  | [f], _ => by simp [Asc]
  | f :: g :: r, h => by
    have ih : Asc (g :: r) := pair_of_steps (g :: r) fun i x p hx hp => h (i + 1) x p (by simpa using hx) (by simpa using hp)
    have h0 : ltB f.name g.name = true := h 0 g f rfl rfl
    refine List.Pairwise.cons ?_ ih
    intro x hx
    rcases List.mem_cons.1 hx with rfl | hx
    · exact h0
    · exact ltB_trans h0 ((List.pairwise_cons.1 ih).1 x hx)
theorem DiskR_iff {l : List Fl} : DiskR l ↔ l.length ≤ 30 ∧ (∀ f ∈ l, fileB f = true) ∧ Asc l := by
  constructor
  · intro ⟨h1, h2⟩
    refine ⟨h1, fun f hf => ?_, pair_of_steps l fun i f p hf hp => (h2 (i + 1) f hf).2 i p rfl hp⟩
    obtain ⟨i, hi, rfl⟩ := List.getElem_of_mem hf
    exact (h2 i _ (List.getElem?_eq_getElem hi)).1
  · intro ⟨h1, h2, h3⟩
    refine ⟨h1, fun i f hf => ⟨h2 f (List.mem_of_getElem? hf), fun j p hj hp => ?_⟩⟩
    subst hj
    have a1 := (List.getElem?_eq_some_iff.1 hf)
    have a2 := (List.getElem?_eq_some_iff.1 hp)
    obtain ⟨x1, rfl⟩ := a1
    obtain ⟨x2, rfl⟩ := a2
    exact List.pairwise_iff_getElem.1 h3 j (j + 1) x2 x1 (by omega)

def fileOf (l : List Fl) (n : ByteArray) : Option Fl := l.find? fun f => f.name.toList == n.toList
def putL (l : List Fl) (f : Fl) : List Fl := l.filter (fun g => ltB g.name f.name) ++ f :: l.filter (fun g => ltB f.name g.name)
def withoutL (l : List Fl) (n : ByteArray) : List Fl := l.filter fun g => !(g.name.toList == n.toList)

theorem fileOf_mem {l : List Fl} {n : ByteArray} {f : Fl} (h : fileOf l n = some f) : f ∈ l ∧ f.name = n :=
  ⟨List.mem_of_find?_eq_some h, by have := List.find?_some h; exact same_iff.1 this⟩
theorem fileOf_none {l : List Fl} {n : ByteArray} : fileOf l n = none ↔ ∀ f ∈ l, f.name ≠ n := by
  unfold fileOf
  rw [List.find?_eq_none]
  exact ⟨fun h f hf e => h f hf (same_iff.2 e), fun h f hf e => h f hf (same_iff.1 e)⟩

theorem putL_asc {l : List Fl} (f : Fl) (h : Asc l) : Asc (putL l f) := by
  unfold Asc putL
  rw [List.pairwise_append]
  refine ⟨h.filter _, ?_, ?_⟩
  · refine List.Pairwise.cons ?_ (h.filter _)
    intro g hg
    exact (List.mem_filter.1 hg).2
  · intro g hg x hx
    have h1 := (List.mem_filter.1 hg).2
    rcases List.mem_cons.1 hx with rfl | hx
    · exact h1
    · exact ltB_trans h1 (List.mem_filter.1 hx).2
theorem putL_mem {l : List Fl} {f g : Fl} (h : g ∈ putL l f) : g = f ∨ g ∈ l := by
  unfold putL at h
  rcases List.mem_append.1 h with h | h
  · exact .inr (List.mem_filter.1 h).1
  · rcases List.mem_cons.1 h with h | h
    · exact .inl h
    · exact .inr (List.mem_filter.1 h).1
def sames (l : List Fl) (n : ByteArray) : List Fl := l.filter fun g => g.name.toList == n.toList
theorem three (l : List Fl) (n : ByteArray) : (l.filter (fun g => ltB g.name n)).length + (l.filter (fun g => ltB n g.name)).length + (sames l n).length = l.length := by
  unfold sames
  induction l with
  | nil => rfl
  | cons g r ih =>
    simp only [List.filter_cons, same_dec] at ih ⊢
    by_cases e : g.name = n
    · subst e; simp [ltB_irrefl]; omega
    · rcases ltB_total e with h | h
      · simp [h, ltB_asymm h, e]; omega
      · simp [h, ltB_asymm h, e]; omega
theorem putL_length (l : List Fl) (f : Fl) : (putL l f).length + (sames l f.name).length = l.length + 1 := by
  have := three l f.name
  simp [putL]; omega
theorem withoutL_length (l : List Fl) (n : ByteArray) : (withoutL l n).length + (sames l n).length = l.length := by
  unfold withoutL sames
  induction l with
  | nil => rfl
  | cons g r ih =>
    simp only [List.filter_cons]
    cases (g.name.toList == n.toList) <;> simp <;> omega
theorem sames_none {l : List Fl} {n : ByteArray} (h : fileOf l n = none) : sames l n = [] := by
  unfold sames
  rw [List.filter_eq_nil_iff]
  intro f hf e
  exact fileOf_none.1 h f hf (same_iff.1 e)
theorem sames_some {l : List Fl} {n : ByteArray} {f : Fl} (ha : Asc l) (h : fileOf l n = some f) : (sames l n).length = 1 := by
  induction l with
  | nil => cases h
  | cons g r ih =>
    obtain ⟨h1, h2⟩ := List.pairwise_cons.1 ha
    unfold sames
    by_cases e : g.name = n
    · subst e
      have hn : r.filter (fun x => x.name.toList == g.name.toList) = [] := by
        rw [List.filter_eq_nil_iff]
        intro x hx e
        exact ltB_ne (h1 x hx) (same_iff.1 e).symm
      simp [hn]
    · have h' : fileOf r n = some f := by
        unfold fileOf at h ⊢
        rw [List.find?_cons_of_neg (by rw [same_iff]; exact e)] at h
        exact h
      have := ih h2 h'
      unfold sames at this
      rw [List.filter_cons_of_neg (by rw [same_iff]; exact e)]
      exact this
theorem putL_len_new {l : List Fl} {f : Fl} (h : fileOf l f.name = none) : (putL l f).length = l.length + 1 := by
  have := putL_length l f
  rw [sames_none h] at this
  simpa using this
theorem putL_len_old {l : List Fl} {f g : Fl} (ha : Asc l) (h : fileOf l f.name = some g) : (putL l f).length = l.length := by
  have := putL_length l f
  rw [sames_some ha h] at this
  omega
theorem putL_len_le (l : List Fl) (f : Fl) : (putL l f).length ≤ l.length + 1 := by
  have := putL_length l f
  omega
theorem withoutL_len {l : List Fl} {n : ByteArray} {f : Fl} (ha : Asc l) (h : fileOf l n = some f) : (withoutL l n).length + 1 = l.length := by
  have := withoutL_length l n
  rw [sames_some ha h] at this
  omega
theorem withoutL_asc {l : List Fl} (n : ByteArray) (h : Asc l) : Asc (withoutL l n) := h.filter _
theorem withoutL_mem {l : List Fl} {n : ByteArray} {g : Fl} (h : g ∈ withoutL l n) : g ∈ l := (List.mem_filter.1 h).1

theorem DiskR.put {l : List Fl} {f : Fl} (h : DiskR l) (hf : fileB f = true) (hl : (putL l f).length ≤ 30) : DiskR (putL l f) := by
  obtain ⟨h1, h2, h3⟩ := DiskR_iff.1 h
  refine DiskR_iff.2 ⟨hl, fun g hg => ?_, putL_asc f h3⟩
  rcases putL_mem hg with rfl | hg
  · exact hf
  · exact h2 g hg
theorem DiskR.without {l : List Fl} (n : ByteArray) (h : DiskR l) : DiskR (withoutL l n) := by
  obtain ⟨h1, h2, h3⟩ := DiskR_iff.1 h
  exact DiskR_iff.2 ⟨Nat.le_trans (List.length_filter_le _ _) h1, fun g hg => h2 g (withoutL_mem hg), withoutL_asc n h3⟩
theorem DiskR.not_put {l : List Fl} {f : Fl} (hf : fileB f = false) : diskB (putL l f) = false := by
  refine diskB_no fun h => ?_
  have := (DiskR_iff.1 h).2.1 f (by simp [putL])
  rw [hf] at this; cases this

/-- What comes behind a file's text, on a right disk. -/
def addL (l : List Fl) (n t : ByteArray) : Option (List Fl) :=
  match fileOf l n with
  | none => if l.length = 30 ∨ nameB n = false ∨ 20000 < t.size then none else some (putL l ⟨n, t, 0⟩)
  | some f => if nameB n = false ∨ 20000 < f.text.size + t.size then none else some (putL l ⟨n, f.text ++ t, f.kept⟩)
/-- A file that takes another name. -/
def moveL (l : List Fl) (f : Fl) (to : ByteArray) : Option (List Fl) :=
  if f.kept < (f.text.size : Int) ∨ to = f.name ∨ nameB to = false then none else some (putL (withoutL l f.name) ⟨to, f.text, f.kept⟩)
/-- What the program does of an act, on a right disk. -/
def actL (l : List Fl) (a : Ac) : Option (List Fl) :=
  if (a.text ≠ ByteArray.empty ∧ a.kind ≠ 1) ∨ (a.to ≠ ByteArray.empty ∧ a.kind ≠ 3) then none
  else if a.kind = 1 then
    match fileOf l a.name with
    | none => if l.length = 30 ∨ nameB a.name = false ∨ 20000 < a.text.size then none else some (putL l ⟨a.name, a.text, 0⟩)
    | some f => if nameB a.name = false ∨ 20000 < f.text.size + a.text.size then none else some (putL l ⟨a.name, f.text ++ a.text, f.kept⟩)
  else match fileOf l a.name with
    | none => none
    | some f =>
      if a.kind = 2 then some (putL l ⟨a.name, f.text, (f.text.size : Int)⟩)
      else if a.kind = 3 then if f.kept < (f.text.size : Int) ∨ a.to = a.name ∨ nameB a.to = false then none else some (putL (withoutL l a.name) ⟨a.to, f.text, f.kept⟩)
      else if a.kind = 4 then some (withoutL l a.name)
      else none

/-- What is left of an answer that must be right. -/
def rightL (l : List Fl) : Option (List Fl) := if diskB l = true then some l else none
theorem rightL_yes {l : List Fl} (h : DiskR l) : rightL l = some l := by unfold rightL; rw [diskB_yes h]; rfl
theorem rightL_no {l : List Fl} (h : diskB l = false) : rightL l = none := by unfold rightL; rw [h]; rfl

/-- The file that an act speaks of, as the specification takes it. -/
def fileL (l : List Fl) (n : ByteArray) : Fl := (fileOf l n).getD ⟨n, ByteArray.empty, 0⟩
def specL (l : List Fl) (a : Ac) : Option (List Fl) :=
  if diskB l = false ∨ nameB a.name = false ∨ (a.kind ≠ 3 ∧ a.to ≠ ByteArray.empty) ∨ (a.kind ≠ 1 ∧ a.text ≠ ByteArray.empty) then none
  else if a.kind = 1 then rightL (putL l ⟨(fileL l a.name).name, (fileL l a.name).text ++ a.text, (fileL l a.name).kept⟩)
  else match fileOf l a.name with
    | none => none
    | some f =>
      if a.kind = 2 then rightL (putL l ⟨f.name, f.text, (f.text.size : Int)⟩)
      else if a.kind = 3 then if f.kept < (f.text.size : Int) ∨ a.to = a.name ∨ nameB a.to = false then none else rightL (putL (withoutL l a.name) ⟨a.to, f.text, f.kept⟩)
      else if a.kind = 4 then rightL (withoutL l a.name)
      else none

theorem fileB_mk {n t : ByteArray} {k : Int} : fileB ⟨n, t, k⟩ = true ↔ nameB n = true ∧ t.size ≤ 20000 ∧ 0 ≤ k ∧ k ≤ (t.size : Int) := by
  simp [fileB, and_assoc]
theorem fileB_no {n t : ByteArray} {k : Int} (h : 20000 < t.size) : fileB ⟨n, t, k⟩ = false := by
  cases e : fileB ⟨n, t, k⟩
  · rfl
  · have := (fileB_mk.1 e).2.1; omega
theorem fileB_parts {f : Fl} (h : fileB f = true) : nameB f.name = true ∧ f.text.size ≤ 20000 ∧ 0 ≤ f.kept ∧ f.kept ≤ (f.text.size : Int) := fileB_mk.1 h

theorem spec_is {l : List Fl} (a : Ac) (hd : diskB l = true) : specL l a = actL l a := by
  have hD := diskB_iff.1 hd
  obtain ⟨d1, d2, d3⟩ := DiskR_iff.1 hD
  have hne : ¬ diskB l = false := by rw [hd]; simp
  unfold specL actL
  by_cases c1 : (a.text ≠ ByteArray.empty ∧ a.kind ≠ 1) ∨ (a.to ≠ ByteArray.empty ∧ a.kind ≠ 3)
  · rw [if_pos c1, if_pos]
    rcases c1 with c | c
    · exact .inr (.inr (.inr ⟨c.2, c.1⟩))
    · exact .inr (.inr (.inl ⟨c.2, c.1⟩))
  rw [if_neg c1]
  have c2 : ¬ ((a.kind ≠ 3 ∧ a.to ≠ ByteArray.empty) ∨ (a.kind ≠ 1 ∧ a.text ≠ ByteArray.empty)) := fun c => c1 (c.elim (fun c => .inr ⟨c.2, c.1⟩) fun c => .inl ⟨c.2, c.1⟩)
  cases hn : nameB a.name
  · -- no right name: no act
    rw [if_pos (.inr (.inl rfl))]
    cases hf : fileOf l a.name with
    | none => simp
    | some f =>
      obtain ⟨m1, m2⟩ := fileOf_mem hf
      have := (fileB_parts (d2 f m1)).1
      rw [m2, hn] at this; cases this
  rw [if_neg (by rintro (c | c | c)
                 · exact hne c
                 · cases c
                 · exact c2 c)]
  by_cases k1 : a.kind = 1
  · rw [if_pos k1, if_pos k1]
    cases hf : fileOf l a.name with
    | none =>
      have e1 : fileL l a.name = ⟨a.name, ByteArray.empty, 0⟩ := by unfold fileL; rw [hf]; rfl
      have e2 : ByteArray.empty ++ a.text = a.text := by simp
      rw [e1]
      simp only [e2]
      have hl := putL_len_new (l := l) (f := ⟨a.name, a.text, 0⟩) hf
      by_cases c : l.length = 30 ∨ 20000 < a.text.size
      · rw [if_pos (c.elim .inl fun c => .inr (.inr c))]
        refine rightL_no ?_
        rcases c with c | c
        · exact diskB_no fun h => by have := h.1; omega
        · exact DiskR.not_put (fileB_no c)
      · rw [if_neg (by simp; omega)]
        exact rightL_yes (hD.put (fileB_mk.2 ⟨hn, by omega, by omega, by omega⟩) (by omega))
    | some f =>
      obtain ⟨m1, m2⟩ := fileOf_mem hf
      have e1 : fileL l a.name = f := by unfold fileL; rw [hf]; rfl
      obtain ⟨p1, p2, p3, p4⟩ := fileB_parts (d2 f m1)
      have hl := putL_len_old (l := l) (f := ⟨a.name, f.text ++ a.text, f.kept⟩) d3 hf
      have hs : (f.text ++ a.text).size = f.text.size + a.text.size := ByteArray.size_append
      rw [e1, m2]
      simp only
      by_cases c : 20000 < f.text.size + a.text.size
      · rw [if_pos (.inr c)]
        exact rightL_no (DiskR.not_put (fileB_no (by omega)))
      · rw [if_neg (by simp; omega)]
        exact rightL_yes (hD.put (fileB_mk.2 ⟨hn, by omega, p3, by omega⟩) (by omega))
  rw [if_neg k1, if_neg k1]
  cases hf : fileOf l a.name with
  | none => rfl
  | some f =>
    obtain ⟨m1, m2⟩ := fileOf_mem hf
    obtain ⟨p1, p2, p3, p4⟩ := fileB_parts (d2 f m1)
    simp only
    by_cases k2 : a.kind = 2
    · rw [if_pos k2, if_pos k2, m2]
      have hl := putL_len_old (l := l) (f := ⟨a.name, f.text, (f.text.size : Int)⟩) d3 hf
      exact rightL_yes (hD.put (fileB_mk.2 ⟨hn, p2, by omega, by omega⟩) (by omega))
    rw [if_neg k2, if_neg k2]
    by_cases k3 : a.kind = 3
    · rw [if_pos k3, if_pos k3]
      by_cases c : f.kept < (f.text.size : Int) ∨ a.to = a.name ∨ nameB a.to = false
      · rw [if_pos c, if_pos c]
      · rw [if_neg c, if_neg c]
        have hl := withoutL_len d3 hf
        have hl2 := putL_len_le (withoutL l a.name) ⟨a.to, f.text, f.kept⟩
        refine rightL_yes ((hD.without a.name).put (fileB_mk.2 ⟨?_, p2, p3, p4⟩) (by omega))
        cases e : nameB a.to
        · exact absurd (.inr (.inr e)) c
        · rfl
    rw [if_neg k3, if_neg k3]
    by_cases k4 : a.kind = 4
    · rw [if_pos k4, if_pos k4]
      exact rightL_yes (hD.without a.name)
    · rw [if_neg k4, if_neg k4]
theorem specL_no {l : List Fl} (a : Ac) (hd : diskB l = false) : specL l a = none := by
  unfold specL; rw [if_pos (.inl hd)]
/-- The answer of one act: the disk, or none. -/
def doneL (l : List Fl) (a : Ac) : Option (List Fl) := if diskB l = true then actL l a else none
theorem specL_done (l : List Fl) (a : Ac) : specL l a = doneL l a := by
  unfold doneL
  cases hd : diskB l
  · rw [specL_no a hd]; rfl
  · rw [spec_is a hd]; rfl
theorem actL_right {l l' : List Fl} {a : Ac} (hd : diskB l = true) (h : actL l a = some l') : diskB l' = true := by
  rw [← spec_is a hd] at h
  have key : ∀ x, rightL x = some l' → diskB l' = true := fun x hx => by
    unfold rightL at hx
    split at hx
    · rename_i h1; cases hx; exact h1
    · cases hx
  unfold specL at h
  split at h
  · cases h
  · split at h
    · exact key _ h
    · split at h
      · cases h
      · split at h
        · exact key _ h
        · split at h
          · split at h
            · cases h
            · exact key _ h
          · split at h
            · exact key _ h
            · cases h
theorem actL_no {l : List Fl} {a : Ac} (h : (a.text ≠ ByteArray.empty ∧ a.kind ≠ 1) ∨ (a.to ≠ ByteArray.empty ∧ a.kind ≠ 3)) : actL l a = none := by
  unfold actL; rw [if_pos h]
theorem actL_add {l : List Fl} {a : Ac} (h : ¬ ((a.text ≠ ByteArray.empty ∧ a.kind ≠ 1) ∨ (a.to ≠ ByteArray.empty ∧ a.kind ≠ 3))) (hk : a.kind = 1) : actL l a = addL l a.name a.text := by
  unfold actL addL; rw [if_neg h, if_pos hk]
theorem actL_none {l : List Fl} {a : Ac} (hk : a.kind ≠ 1) (hf : fileOf l a.name = none) : actL l a = none := by
  unfold actL; rw [if_neg hk, hf]; split <;> rfl
theorem actL_keep {l : List Fl} {a : Ac} {f : Fl} (h : ¬ ((a.text ≠ ByteArray.empty ∧ a.kind ≠ 1) ∨ (a.to ≠ ByteArray.empty ∧ a.kind ≠ 3))) (hk : a.kind = 2) (hf : fileOf l a.name = some f) : actL l a = some (putL l ⟨f.name, f.text, (f.text.size : Int)⟩) := by
  unfold actL; rw [if_neg h, if_neg (by omega), hf, (fileOf_mem hf).2]; simp only; rw [if_pos hk]
theorem actL_move {l : List Fl} {a : Ac} {f : Fl} (h : ¬ ((a.text ≠ ByteArray.empty ∧ a.kind ≠ 1) ∨ (a.to ≠ ByteArray.empty ∧ a.kind ≠ 3))) (hk : a.kind = 3) (hf : fileOf l a.name = some f) : actL l a = moveL l f a.to := by
  unfold actL moveL; rw [if_neg h, if_neg (by omega), hf, (fileOf_mem hf).2]; simp only; rw [if_neg (by omega), if_pos hk]
theorem actL_drop {l : List Fl} {a : Ac} {f : Fl} (h : ¬ ((a.text ≠ ByteArray.empty ∧ a.kind ≠ 1) ∨ (a.to ≠ ByteArray.empty ∧ a.kind ≠ 3))) (hk : a.kind = 4) (hf : fileOf l a.name = some f) : actL l a = some (withoutL l a.name) := by
  unfold actL; rw [if_neg h, if_neg (by omega), hf]; simp only; rw [if_neg (by omega), if_neg (by omega), if_pos hk]
theorem actL_odd {l : List Fl} {a : Ac} (h1 : a.kind ≠ 1) (h2 : a.kind ≠ 2) (h3 : a.kind ≠ 3) (h4 : a.kind ≠ 4) : actL l a = none := by
  unfold actL; rw [if_neg h1]; split
  · rfl
  · split
    · rfl
    · rfl
end Go.Proofs.Ytecognggnbopaac.Plain
