/- Rows of acts, plainly: their cells. Nothing of the program stands here. -/
import Derived.Test.YtnlcknklghalkaaActPlain
namespace Go.Proofs.Ytnlcknklghalkaa.Plain
set_option linter.unusedVariables false

def acl (a : Ac) : List Value := [.int .i64 a.kind, .string a.name, .string a.text, .string a.to]
def acs (l : List Ac) : List Value := l.flatMap acl
theorem acs_cons (f : Ac) (l : List Ac) : acs (f :: l) = acl f ++ acs l := by simp [acs]
theorem acs_length (l : List Ac) : (acs l).length = l.length * 4 := by
  induction l with
  | nil => rfl
  | cons f r ih => rw [acs_cons, List.length_append, ih]; simp [acl]; omega
theorem acs_get (l : List Ac) (k : Nat) (f : Ac) (h : l[k]? = some f) (j : Nat) (hj : j < 4) : (acs l)[k * 4 + j]? = (acl f)[j]? := by
  induction l generalizing k with
  | nil => simp at h
  | cons g r ih =>
    rw [acs_cons]
    cases k with
    | zero =>
      simp at h; subst h
      rw [Nat.zero_mul, Nat.zero_add, List.getElem?_append_left (by simpa [acl] using hj)]
    | succ k =>
      simp at h
      rw [List.getElem?_append_right (by simp [acl]; omega)]
      have : (k + 1) * 4 + j - (acl g).length = k * 4 + j := by simp [acl]; omega
      rw [this, ih k h]
theorem acs_0 {l : List Ac} {k : Nat} {f : Ac} (h : l[k]? = some f) : (acs l)[k * 4]? = some (.int .i64 f.kind) := by
  have := acs_get l k f h 0 (by omega); simpa [acl] using this
theorem acs_1 {l : List Ac} {k : Nat} {f : Ac} (h : l[k]? = some f) : (acs l)[k * 4 + 1]? = some (.string f.name) := by
  have := acs_get l k f h 1 (by omega); simpa [acl] using this
theorem acs_2 {l : List Ac} {k : Nat} {f : Ac} (h : l[k]? = some f) : (acs l)[k * 4 + 2]? = some (.string f.text) := by
  have := acs_get l k f h 2 (by omega); simpa [acl] using this
theorem acs_3 {l : List Ac} {k : Nat} {f : Ac} (h : l[k]? = some f) : (acs l)[k * 4 + 3]? = some (.string f.to) := by
  have := acs_get l k f h 3 (by omega); simpa [acl] using this
/-- One act of a row laid anew, cell by cell. -/
theorem acs_set (l : List Ac) (k : Nat) (f : Ac) (h : k < l.length) :
    ((((acs l).set (k * 4) (.int .i64 f.kind)).set (k * 4 + 1) (.string f.name)).set (k * 4 + 2) (.string f.text)).set (k * 4 + 3) (.string f.to) = acs (l.set k f) := by
  apply List.ext_getElem?
  intro i
  obtain ⟨q, j, rfl, hj⟩ : ∃ q j, i = q * 4 + j ∧ j < 4 := ⟨i / 4, i % 4, by omega, Nat.mod_lt _ (by omega)⟩
  by_cases hq : q < l.length
  · by_cases e : q = k
    · subst e
      rw [acs_get (l.set q f) q f (by simp [hq]) j hj]
      have hl : (acs l).length = l.length * 4 := acs_length l
      match j, hj with
      | 0, _ => simp [List.getElem?_set, acl]; omega
      | 1, _ => simp [List.getElem?_set, acl]; omega
      | 2, _ => simp [List.getElem?_set, acl]; omega
      | 3, _ => simp [List.getElem?_set, acl]; omega
    · rw [acs_get (l.set k f) q l[q] (by rw [List.getElem?_set_ne (by omega), List.getElem?_eq_getElem hq]) j hj, ← acs_get l q l[q] (List.getElem?_eq_getElem hq) j hj]
      rw [List.getElem?_set_ne (by omega), List.getElem?_set_ne (by omega), List.getElem?_set_ne (by omega), List.getElem?_set_ne (by omega)]
  · rw [List.getElem?_eq_none (by simp [acs_length]; omega), List.getElem?_eq_none (by simp [acs_length]; omega)]

def ac0 : Ac := ⟨0, ByteArray.empty, ByteArray.empty, ByteArray.empty⟩
def laidA (l : List Ac) (k : Nat) : List Ac := l.take k ++ List.replicate (l.length - k) ac0
theorem laidA_zero (l : List Ac) : laidA l 0 = List.replicate l.length ac0 := by simp [laidA]
theorem laidA_all (l : List Ac) : laidA l l.length = l := by simp [laidA]
theorem laidA_length (l : List Ac) (k : Nat) (h : k ≤ l.length) : (laidA l k).length = l.length := by simp [laidA]; omega
theorem laidA_set (l : List Ac) (k : Nat) (h : k < l.length) : (laidA l k).set k l[k] = laidA l (k + 1) := by
  unfold laidA
  have e : l.length - k = (l.length - (k + 1)) + 1 := by omega
  rw [List.set_append_right _ _ (by simp; omega), e, List.replicate_succ]
  have : k - (l.take k).length = 0 := by simp; omega
  rw [this, List.set_cons_zero, List.take_succ_eq_append_getElem h, List.append_assoc]
  rfl
end Go.Proofs.Ytnlcknklghalkaa.Plain
