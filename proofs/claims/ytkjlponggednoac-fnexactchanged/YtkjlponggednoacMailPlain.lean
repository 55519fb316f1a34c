/- Mails, plainly: heads, bodies, subjects, parts. Nothing of the program stands here. -/
import Derived.Test.YtkjlponggednoacFlagPlain
namespace Go.Proofs.Ytkjlponggednoac.Plain
open Go.RowKit
set_option linter.unusedVariables false

def mailOkL (l : List UInt8) : Bool := l.all (fun b => b != 0) && (decide (1 ≤ l.length) && decide (l.length ≤ 200))
def isBlank (b : UInt8) : Bool := b == 32
/-- Without blanks ahead; without blanks behind. -/
def trimA (l : List UInt8) : List UInt8 := l.dropWhile isBlank
def trimZ (l : List UInt8) : List UInt8 := (l.reverse.dropWhile isBlank).reverse
def trimL (l : List UInt8) : List UInt8 := trimZ (trimA l)
theorem trimA_cons (r : List UInt8) : trimA (32 :: r) = trimA r := rfl
theorem trimA_no {b : UInt8} (r : List UInt8) (h : b ≠ 32) : trimA (b :: r) = b :: r := by
  unfold trimA
  rw [List.dropWhile_cons, if_neg (by simpa [isBlank] using h)]
theorem trimZ_snoc (r : List UInt8) : trimZ (r ++ [32]) = trimZ r := by
  unfold trimZ
  rw [List.reverse_append]
  rfl
theorem trimZ_no {b : UInt8} (r : List UInt8) (h : b ≠ 32) : trimZ (r ++ [b]) = r ++ [b] := by
  unfold trimZ
  rw [List.reverse_append, show [b].reverse ++ r.reverse = b :: r.reverse from rfl, List.dropWhile_cons, if_neg (by simpa [isBlank] using h)]
  simp
theorem trimA_len (l : List UInt8) : (trimA l).length ≤ l.length := by
  unfold trimA
  exact (List.dropWhile_suffix _).length_le
theorem trimZ_len (l : List UInt8) : (trimZ l).length ≤ l.length := by
  unfold trimZ
  rw [List.length_reverse]
  have := (List.dropWhile_suffix (l := l.reverse) isBlank).length_le
  rwa [List.length_reverse] at this
theorem trimL_len (l : List UInt8) : (trimL l).length ≤ l.length := Nat.le_trans (trimZ_len _) (trimA_len _)
/-- What is behind the first line without anything. -/
def bodyFrom : Bool → List UInt8 → List UInt8
  | _, [] => []
  | s, b :: r => if b = 10 then (if s then r else bodyFrom true r) else bodyFrom false r
def bodyL (l : List UInt8) : List UInt8 := bodyFrom true l
/-- The head of a name among lines. -/
def headIn (name : List UInt8) : List (List UInt8) → List UInt8 × Bool
  | [] => ([], false)
  | p :: r => if p = [] then ([], false)
    else if name.length < p.length ∧ (p.take name.length).map lowB = name.map lowB ∧ p[name.length]? = some 58 then (trimL (p.drop (name.length + 1)), true)
    else headIn name r
def headL (t name : List UInt8) : List UInt8 × Bool := headIn name (cutsL 10 t)
/-- A subject without what answers and what is handed on. -/
def baseF : Nat → List UInt8 → List UInt8
  | 0, s => s
  | f + 1, s => if s.take 3 = [114, 101, 58] then baseF f (trimL (s.drop 3)) else if s.take 4 = [102, 119, 100, 58] then baseF f (trimL (s.drop 4)) else s
def baseL (s : List UInt8) : List UInt8 := baseF s.length ((trimL s).map lowB)
def partL (t : List UInt8) (p n : Int) : List UInt8 := if p < 0 ∨ n < 0 ∨ (t.length : Int) < p then [] else (t.drop p.toNat).take n.toNat
theorem partL_no {t : List UInt8} {p n : Int} (h : p < 0 ∨ n < 0 ∨ (t.length : Int) < p) : partL t p n = [] := if_pos h
theorem partL_in {t : List UInt8} {p n : Int} (h : ¬ (p < 0 ∨ n < 0 ∨ (t.length : Int) < p)) : partL t p n = (t.drop p.toNat).take n.toNat := if_neg h
end Go.Proofs.Ytkjlponggednoac.Plain
