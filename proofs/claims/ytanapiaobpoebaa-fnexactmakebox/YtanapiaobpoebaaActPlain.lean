/- What acts do to a disk, plainly. Nothing of the program stands here. -/
import Derived.Test.YtanapiaobpoebaaDiskPlain
import Derived.WideAt
import Derived.WideShapes
namespace Go.Proofs.Ytanapiaobpoebaa.Plain
set_option linter.unusedVariables false

theorem less_is : ∀ a b : List UInt8, Op.bytesLess a b = bytesBefore a b
  | [], [] => rfl
  | [], _ :: _ => rfl
  | _ :: _, [] => rfl
  | x :: a, y :: b => by simp only [Op.bytesLess, bytesBefore, less_is a b]
theorem ltB_is (a b : ByteArray) : ltB a b = bytesBefore a.data.toList b.data.toList := by
  unfold ltB; rw [less_is, ByteArray.toList_eq, ByteArray.toList_eq]
theorem ltB_irrefl (a : ByteArray) : ltB a a = false := by rw [ltB_is]; exact WideAt.bytes_irrefl _
theorem ltB_trans {a b c : ByteArray} (h1 : ltB a b = true) (h2 : ltB b c = true) : ltB a c = true := by
  rw [ltB_is] at *; exact WideShapes.bytes_trans _ _ _ h1 h2
theorem ltB_asymm {a b : ByteArray} (h : ltB a b = true) : ltB b a = false := by
  cases e : ltB b a
  · rfl
  · have := ltB_trans h e; rw [ltB_irrefl] at this; cases this
theorem ltB_total {a b : ByteArray} (h : a ≠ b) : ltB a b = true ∨ ltB b a = true := by
  rw [ltB_is, ltB_is]
  exact WideAt.bytes_total _ _ fun e => h (WideShapes.bytes_inj e)
theorem ltB_ne {a b : ByteArray} (h : ltB a b = true) : a ≠ b := fun e => by rw [e, ltB_irrefl] at h; cases h
theorem same_iff {a b : ByteArray} : (a.toList == b.toList) = true ↔ a = b := by
  rw [beq_iff_eq, ByteArray.toList_eq, ByteArray.toList_eq]
  exact ⟨fun h => WideShapes.bytes_inj h, fun h => by rw [h]⟩
theorem same_dec (a b : ByteArray) : (a.toList == b.toList) = decide (a = b) := by
  rw [Bool.eq_iff_iff, same_iff, decide_eq_true_iff]

def Asc (l : List Fl) : Prop := l.Pairwise fun f g => ltB f.name g.name = true
theorem pair_of_steps : ∀ (l : List Fl), (∀ (i : Nat) (f p : Fl), l[i + 1]? = some f → l[i]? = some p → ltB p.name f.name = true) → Asc l
  | [], _ => List.Pairwise.nil
  | [f], _ => by simp [Asc]
  | f :: g :: r, h => by
    have ih : Asc (g :: r) := pair_of_steps (g :: r) fun i x p hx hp => h (i + 1) x p (by simpa using hx) (by simpa using hp)
    have h0 : ltB f.name g.name = true := h 0 g f rfl rfl
    refine List.Pairwise.cons ?_ ih
    intro x hx
    rcases List.mem_cons.1 hx with rfl | hx
    · exact h0
    · exact ltB_trans h0 ((List.pairwise_cons.1 ih).1 x hx)
theorem DiskR_iff {l : List Fl} : DiskR l ↔ l.length ≤ 30 ∧ (∀ f ∈ l, fileB f = true) ∧ Asc l := by
  constructor
  · intro ⟨h1, h2⟩
    refine ⟨h1, fun f hf => ?_, pair_of_steps l fun i f p hf hp => (h2 (i + 1) f hf).2 i p rfl hp⟩
    obtain ⟨i, hi, rfl⟩ := List.getElem_of_mem hf
    exact (h2 i _ (List.getElem?_eq_getElem hi)).1
  · intro ⟨h1, h2, h3⟩
    refine ⟨h1, fun i f hf => ⟨h2 f (List.mem_of_getElem? hf), fun j p hj hp => ?_⟩⟩
    subst hj
    have a1 := (List.getElem?_eq_some_iff.1 hf); have a2 := (List.getElem?_eq_some_iff.1 hp)
    obtain ⟨x1, rfl⟩ := a1
    obtain ⟨x2, rfl⟩ := a2
    exact List.pairwise_iff_getElem.1 h3 j (j + 1) x2 x1 (by omega)

def putL (l : List Fl) (f : Fl) : List Fl := l.filter (fun g => ltB g.name f.name) ++ f :: l.filter (fun g => ltB f.name g.name)
def withoutL (l : List Fl) (n : ByteArray) : List Fl := l.filter fun g => !(g.name.toList == n.toList)

theorem putL_asc {l : List Fl} (f : Fl) (h : Asc l) : Asc (putL l f) := by
  unfold Asc putL
  rw [List.pairwise_append]
  refine ⟨h.filter _, ?_, ?_⟩
  · refine List.Pairwise.cons ?_ (h.filter _)
    intro g hg
    exact (List.mem_filter.1 hg).2
  · intro g hg x hx
    have h1 := (List.mem_filter.1 hg).2
    rcases List.mem_cons.1 hx with rfl | hx
    · exact h1
    · exact ltB_trans h1 (List.mem_filter.1 hx).2
theorem putL_mem {l : List Fl} {f g : Fl} (h : g ∈ putL l f) : g = f ∨ g ∈ l := by
  unfold putL at h
  rcases List.mem_append.1 h with h | h
  · exact .inr (List.mem_filter.1 h).1
  · rcases List.mem_cons.1 h with h | h
    · exact .inl h
    · exact .inr (List.mem_filter.1 h).1
def sames (l : List Fl) (n : ByteArray) : List Fl := l.filter fun g => g.name.toList == n.toList
theorem three (l : List Fl) (n : ByteArray) : (l.filter (fun g => ltB g.name n)).length + (l.filter (fun g => ltB n g.name)).length + (sames l n).length = l.length := by
  unfold sames
  induction l with
  | nil => rfl
  | cons g r ih =>
    simp only [List.filter_cons, same_dec] at ih ⊢
    by_cases e : g.name = n
    · subst e; simp [ltB_irrefl]; omega
    · rcases ltB_total e with h | h
      · simp [h, ltB_asymm h, e]; omega
      · simp [h, ltB_asymm h, e]; omega
theorem putL_length (l : List Fl) (f : Fl) : (putL l f).length + (sames l f.name).length = l.length + 1 := by
  have := three l f.name
  simp [putL]; omega
theorem putL_len_le (l : List Fl) (f : Fl) : (putL l f).length ≤ l.length + 1 := by
  have := putL_length l f
  omega
theorem withoutL_asc {l : List Fl} (n : ByteArray) (h : Asc l) : Asc (withoutL l n) := h.filter _
theorem withoutL_mem {l : List Fl} {n : ByteArray} {g : Fl} (h : g ∈ withoutL l n) : g ∈ l := (List.mem_filter.1 h).1

theorem DiskR.put {l : List Fl} {f : Fl} (h : DiskR l) (hf : fileB f = true) (hl : (putL l f).length ≤ 30) : DiskR (putL l f) := by
  obtain ⟨h1, h2, h3⟩ := DiskR_iff.1 h
  refine DiskR_iff.2 ⟨hl, fun g hg => ?_, putL_asc f h3⟩
  rcases putL_mem hg with rfl | hg
  · exact hf
  · exact h2 g hg
theorem DiskR.without {l : List Fl} (n : ByteArray) (h : DiskR l) : DiskR (withoutL l n) := by
  obtain ⟨h1, h2, h3⟩ := DiskR_iff.1 h
  exact DiskR_iff.2 ⟨Nat.le_trans (List.length_filter_le _ _) h1, fun g hg => h2 g (withoutL_mem hg), withoutL_asc n h3⟩
end Go.Proofs.Ytanapiaobpoebaa.Plain
