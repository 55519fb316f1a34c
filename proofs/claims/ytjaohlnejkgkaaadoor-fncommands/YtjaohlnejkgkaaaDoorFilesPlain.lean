/- Files, plainly: a name, a text, how much of it is kept. Nothing of the program stands here. -/
import Derived.Below
import Derived.Test.YtjaohlnejkgkaaaDoorPlainA
namespace Go.Proofs.YtjaohlnejkgkaaaDoor.Plain

structure Fl where
  name : ByteArray
  text : ByteArray
  kept : Int

/-- The cells of one file, and of a row of them. -/
def fc (f : Fl) : List Value := [.string f.name, .string f.text, .int .i64 f.kept]
def fcs (l : List Fl) : List Value := l.flatMap fc

theorem fcs_cons (f : Fl) (l : List Fl) : fcs (f :: l) = fc f ++ fcs l := by simp [fcs]
theorem fcs_append (a b : List Fl) : fcs (a ++ b) = fcs a ++ fcs b := by simp [fcs]
theorem fcs_length (l : List Fl) : (fcs l).length = l.length * 3 := by
  induction l with
  | nil => rfl
  | cons f r ih => rw [fcs_cons, List.length_append, ih]; simp [fc]; omega
theorem fcs_get (l : List Fl) (k : Nat) (f : Fl) (h : l[k]? = some f) (j : Nat) (hj : j < 3) : (fcs l)[k * 3 + j]? = (fc f)[j]? := by
  induction l generalizing k with
  | nil => simp at h
  | cons g r ih =>
    rw [fcs_cons]
    cases k with
    | zero =>
      simp at h; subst h
      rw [Nat.zero_mul, Nat.zero_add, List.getElem?_append_left (by simpa [fc] using hj)]
    | succ k =>
      simp at h
      rw [List.getElem?_append_right (by simp [fc]; omega)]
      have : (k + 1) * 3 + j - (fc g).length = k * 3 + j := by simp [fc]; omega
      rw [this, ih k h]
theorem fcs_0 {l : List Fl} {k : Nat} {f : Fl} (h : l[k]? = some f) : (fcs l)[k * 3]? = some (.string f.name) := by
  have := fcs_get l k f h 0 (by omega); simpa [fc] using this
theorem fcs_1 {l : List Fl} {k : Nat} {f : Fl} (h : l[k]? = some f) : (fcs l)[k * 3 + 1]? = some (.string f.text) := by
  have := fcs_get l k f h 1 (by omega); simpa [fc] using this
theorem fcs_2 {l : List Fl} {k : Nat} {f : Fl} (h : l[k]? = some f) : (fcs l)[k * 3 + 2]? = some (.int .i64 f.kept) := by
  have := fcs_get l k f h 2 (by omega); simpa [fc] using this
/-- One file of a row laid anew, cell by cell. -/
theorem fcs_set (l : List Fl) (k : Nat) (f : Fl) (h : k < l.length) :
    (((fcs l).set (k * 3) (.string f.name)).set (k * 3 + 1) (.string f.text)).set (k * 3 + 2) (.int .i64 f.kept) = fcs (l.set k f) := by
  apply List.ext_getElem?
  intro i
  obtain ⟨q, j, rfl, hj⟩ : ∃ q j, i = q * 3 + j ∧ j < 3 := ⟨i / 3, i % 3, by omega, Nat.mod_lt _ (by omega)⟩
  by_cases hq : q < l.length
  · by_cases e : q = k
    · subst e
      rw [fcs_get (l.set q f) q f (by simp [hq]) j hj]
      have hl : (fcs l).length = l.length * 3 := fcs_length l
      match j, hj with
      | 0, _ => simp [List.getElem?_set, fc]; omega
      | 1, _ => simp [List.getElem?_set, fc]; omega
      | 2, _ => simp [List.getElem?_set, fc]; omega
    · rw [fcs_get (l.set k f) q l[q] (by rw [List.getElem?_set_ne (by omega), List.getElem?_eq_getElem hq]) j hj, ← fcs_get l q l[q] (List.getElem?_eq_getElem hq) j hj]
      rw [List.getElem?_set_ne (by omega), List.getElem?_set_ne (by omega), List.getElem?_set_ne (by omega)]
  · rw [List.getElem?_eq_none (by simp [fcs_length]; omega), List.getElem?_eq_none (by simp [fcs_length]; omega)]

/-- The file that is nothing. -/
def fl0 : Fl := ⟨ByteArray.empty, ByteArray.empty, 0⟩

/-- The first k of a row laid, the others nothing yet. -/
def laidF (l : List Fl) (k : Nat) : List Fl := l.take k ++ List.replicate (l.length - k) fl0
theorem laidF_zero (l : List Fl) : laidF l 0 = List.replicate l.length fl0 := by simp [laidF]
theorem laidF_all (l : List Fl) : laidF l l.length = l := by simp [laidF]
theorem laidF_length (l : List Fl) (k : Nat) (h : k ≤ l.length) : (laidF l k).length = l.length := by simp [laidF]; omega
theorem laidF_set (l : List Fl) (k : Nat) (h : k < l.length) : (laidF l k).set k l[k] = laidF l (k + 1) := by
  unfold laidF
  have e : l.length - k = (l.length - (k + 1)) + 1 := by omega
  rw [List.set_append_right _ _ (by simp; omega), e, List.replicate_succ]
  have : k - (l.take k).length = 0 := by simp; omega
  rw [this, List.set_cons_zero, List.take_succ_eq_append_getElem h, List.append_assoc]
  rfl
end Go.Proofs.YtjaohlnejkgkaaaDoor.Plain
