/- Commands, plainly: bytes, words, lists, texts. -/
import Derived.Test.YtjaohlnejkgkaaaGreatDoorBoxP
import Derived.Test.YtjaohlnejkgkaaaGreatDoorPlainA
import Derived.Lib.Join
namespace Go.Proofs.YtjaohlnejkgkaaaGreatDoor.Plain
set_option linter.unusedVariables false

/-- A byte that may stand in a word as it is. -/
def plB (b : UInt8) : Bool := decide (33 ≤ b.toNat) && (decide (b.toNat ≤ 126) && (!(b.toNat == 34) && (!(b.toNat == 92) && (!(b.toNat == 40) && (!(b.toNat == 41) && !(b.toNat == 123))))))
/-- A byte that may stand in quotation marks. -/
def prB (b : UInt8) : Bool := decide (32 ≤ b.toNat) && decide (b.toNat ≤ 126)
def plainW (l : List UInt8) : Bool := l.all plB && inI (l.length : Int) 1 60
/-- The place behind a list in parentheses whose rest this is: n bytes of a word are read, k bytes of all; 0: more is to come, -1: there is none. -/
def scanL (start : Bool) (n k : Nat) : List UInt8 → Int
  | [] => 0
  | b :: r => if b = 41 then (if n = 0 ∧ start = false then -1 else (k : Int) + 1) else if b = 32 then (if n = 0 then -1 else scanL false 0 (k + 1) r) else if plB b = false ∨ n = 60 then -1 else scanL false (n + 1) (k + 1) r
def listW (l : List UInt8) : Bool := match l with
  | [] => false
  | b :: r => b == 40 && scanL true 0 1 r == ((r.length : Int) + 1)
def quB (b : UInt8) : List UInt8 := if b = 34 ∨ b = 92 then [92, b] else [b]
def quoteL (l : List UInt8) : List UInt8 := 34 :: (l.flatMap quB ++ [34])
def figL (n : Nat) : List UInt8 := Lib.itoa (n : Int)
def litL (l : List UInt8) : List UInt8 := 123 :: (figL l.length ++ (125 :: 13 :: 10 :: l))
def wordT (l : List UInt8) : List UInt8 := if plainW l || listW l then l else if l.all prB then quoteL l else litL l
/-- The words' texts with a blank between. -/
def joinT : List (List UInt8) → List UInt8
  | [] => []
  | [w] => wordT w
  | w :: v :: r => wordT w ++ (32 :: joinT (v :: r))
def cmdV (ws : List (List UInt8)) : List UInt8 × Bool :=
  if inI (ws.length : Int) 1 12 then (if (joinT ws).length + 2 ≤ 300 then (joinT ws ++ [13, 10], true) else ([], false)) else ([], false)

theorem plain_no {l : List UInt8} {i : Nat} {c : UInt8} (h : l[i]? = some c) (hc : plB c = false) : plainW l = false := by
  unfold plainW
  rw [Bool.and_eq_false_iff]
  left
  rw [List.all_eq_false]
  exact ⟨c, List.mem_of_getElem? h, by rw [hc]; decide⟩
theorem plain_yes {l : List UInt8} (h : ∀ (i : Nat) (c : UInt8), l[i]? = some c → plB c = true) : plainW l = inI (l.length : Int) 1 60 := by
  unfold plainW
  rw [show l.all plB = true from List.all_eq_true.2 fun c hc => by obtain ⟨i, hi, rfl⟩ := List.getElem_of_mem hc; exact h i _ (List.getElem?_eq_getElem hi), Bool.true_and]
theorem print_no {l : List UInt8} {i : Nat} {c : UInt8} (h : l[i]? = some c) (hc : prB c = false) : l.all prB = false := by
  rw [List.all_eq_false]
  exact ⟨c, List.mem_of_getElem? h, by rw [hc]; decide⟩
theorem print_yes {l : List UInt8} (h : ∀ (i : Nat) (c : UInt8), l[i]? = some c → prB c = true) : l.all prB = true :=
  List.all_eq_true.2 fun c hc => by obtain ⟨i, hi, rfl⟩ := List.getElem_of_mem hc; exact h i _ (List.getElem?_eq_getElem hi)
theorem quB_len (b : UInt8) : (quB b).length ≤ 2 := by unfold quB; split <;> simp
theorem flat_len (l : List UInt8) : (l.flatMap quB).length ≤ 2 * l.length := by
  induction l with
  | nil => simp
  | cons b r ih => rw [List.flatMap_cons, List.length_append, List.length_cons]; have := quB_len b; omega
theorem itoa_len {n : Nat} (h : n ≤ 9223372036854775807) : (figL n).length ≤ 20 := by
  unfold figL
  rw [itoa_nat]
  by_cases h0 : n = 0
  · subst h0; rw [Lib.decDigits, dif_pos (by decide)]; decide
  · rw [← dz_pos h0]; exact dz_len (by omega)
theorem wordT_len {l : List UInt8} (h : l.length ≤ 1048576) : (wordT l).length ≤ 2 * l.length + 30 := by
  unfold wordT
  split
  · omega
  · split
    · unfold quoteL; have := flat_len l; simp only [List.length_cons, List.length_append, List.length_nil]; omega
    · unfold litL; have := itoa_len (n := l.length) (by omega); simp; omega
theorem joinT_snoc (w : List UInt8) (l : List (List UInt8)) (h : l ≠ []) : joinT (l ++ [w]) = joinT l ++ (32 :: wordT w) := by
  induction l with
  | nil => exact absurd rfl h
  | cons a r ih =>
    cases r with
    | nil => rfl
    | cons b r => show wordT a ++ (32 :: joinT ((b :: r) ++ [w])) = _; rw [ih (by simp)]; simp [joinT]
theorem joinT_one (w : List UInt8) : joinT [w] = wordT w := rfl
/-- As the library joins. -/
theorem joinT_lib : ∀ (l : List (List UInt8)), joinT l = Lib.join (l.map wordT) [32] := by
  intro l
  induction l with
  | nil => rfl
  | cons a r ih =>
    cases r with
    | nil => simp [joinT, Lib.join_one]
    | cons b r =>
      rw [joinT, ih]
      simp [Lib.join, List.intercalate]
end Go.Proofs.YtjaohlnejkgkaaaGreatDoor.Plain
