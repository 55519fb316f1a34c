/- Keys that words tell, plainly. Made by gen_keys.py. -/
import Derived.Test.YthnofckkehephaaGreatDoorKeyRow
import Derived.Test.YthnofckkehephaaGreatDoorRDecPlain
import Derived.Test.YthnofckkehephaaGreatDoorPlainA
import Derived.Test.YthnofckkehephaaGreatDoorBoxP
namespace Go.Proofs.YthnofckkehephaaGreatDoor
open Go.RowKit
set_option linter.unusedVariables false

namespace Plain
abbrev alW : List UInt8 := [97, 108, 108]
abbrev unW : List UInt8 := [117, 110]
abbrev suW : List UInt8 := [115, 117, 98, 106, 101, 99, 116]
abbrev teW : List UInt8 := [116, 101, 120, 116]
abbrev uiW : List UInt8 := [117, 105, 100]
abbrev moW : List UInt8 := [109, 111, 100, 115, 101, 113]
def k0 : Ky := ⟨0, 0, ⟨#[]⟩⟩
def decP (m : List UInt8) : Int × Bool := if decVal m ≤ 1000000000 ∧ Lib.decDigits (decVal m) = m then ((decVal m : Int), true) else (0, false)
theorem ansD_is (m : List UInt8) : ansD m = .tuple #[.int .i64 (decP m).1, .bool (decP m).2] := by
  unfold ansD decP
  split <;> rfl
def aloneP (w : List UInt8) : Ky × Bool :=
  if w = alW then (⟨1, 0, ⟨#[]⟩⟩, true)
  else if w.take 2 = unW then (⟨3, bitV (w.drop 2), ⟨#[]⟩⟩, !bitV (w.drop 2) == 0)
  else (⟨2, bitV w, ⟨#[]⟩⟩, !bitV w == 0)
def withP (w m : List UInt8) : Ky × Bool :=
  if w = suW then (⟨4, 0, ⟨m.toArray⟩⟩, inI m.length 1 20)
  else if w = teW then (⟨5, 0, ⟨m.toArray⟩⟩, inI m.length 1 20)
  else if w = uiW then (⟨6, 0, ⟨m.toArray⟩⟩, (readV m 9999).2)
  else if w = moW then (⟨7, (decP m).1, ⟨#[]⟩⟩, (decP m).2 && decide ((decP m).1 ≤ 100000))
  else (k0, false)
/-- The key that words begin with, and how many of them it takes: 0 where they begin with none. -/
def stepP : List (List UInt8) → Ky × Nat
  | [] => (k0, 0)
  | w :: r => if (aloneP w).2 = true then ((aloneP w).1, 1) else match r with
    | [] => (k0, 0)
    | m :: _ => if (withP w m).2 = true then ((withP w m).1, 2) else (k0, 0)
def keysF : Nat → List (List UInt8) → List Ky → Option (List Ky)
  | 0, _, acc => some acc
  | f + 1, ws, acc => if ws = [] then some acc else if (stepP ws).2 = 0 ∨ acc.length = 6 then none else keysF f (ws.drop (stepP ws).2) (acc ++ [(stepP ws).1])
def kyV (ws : List (List UInt8)) : List Ky × Bool := match keysF ws.length ws [] with
  | none => ([], false)
  | some l => (l, decide (0 < l.length))
theorem step_two (ws : List (List UInt8)) : (stepP ws).2 = 0 ∨ (stepP ws).2 = 1 ∨ (stepP ws).2 = 2 := by
  unfold stepP
  repeat' split
  all_goals simp
theorem step_len (ws : List (List UInt8)) : (stepP ws).2 ≤ ws.length := by
  unfold stepP
  repeat' split
  all_goals simp
/-- Fuel that is enough is as good as more of it. -/
theorem keysF_more : ∀ (f : Nat) (ws : List (List UInt8)) (acc : List Ky), ws.length ≤ f → keysF f ws acc = keysF ws.length ws acc := by
  intro f
  induction f using Nat.strongRecOn with
  | _ f ih =>
    intro ws acc h
    match f, ws, h with
    | 0, [], _ => rfl
    | f + 1, [], _ => simp [keysF]
    | f + 1, w :: r, h =>
      show keysF (f + 1) (w :: r) acc = keysF (r.length + 1) (w :: r) acc
      have hf : r.length ≤ f := by simp at h; omega
      by_cases h0 : (stepP (w :: r)).2 = 0 ∨ acc.length = 6
      · have e1 : ∀ g, keysF (g + 1) (w :: r) acc = none := fun g => by rw [keysF, if_neg (by simp), if_pos h0]
        rw [e1, e1]
      · have e1 : ∀ g, keysF (g + 1) (w :: r) acc = keysF g ((w :: r).drop (stepP (w :: r)).2) (acc ++ [(stepP (w :: r)).1]) := fun g => by rw [keysF, if_neg (by simp), if_neg h0]
        have h1 : (stepP (w :: r)).2 ≠ 0 := fun e => h0 (.inl e)
        have hl : ((w :: r).drop (stepP (w :: r)).2).length ≤ r.length := by rw [List.length_drop]; simp only [List.length_cons]; omega
        rw [e1, e1, ih f (by omega) _ _ (by omega)]
        by_cases e : r.length = f
        · rw [e, ih f (by omega) _ _ (by omega)]
        · rw [ih r.length (by omega) _ _ hl]
theorem keysF_stop (acc : List Ky) : keysF ([] : List (List UInt8)).length [] acc = some acc := rfl
theorem keysF_step {ws : List (List UInt8)} {acc : List Ky} (h : ws ≠ []) : keysF ws.length ws acc = if (stepP ws).2 = 0 ∨ acc.length = 6 then none else keysF (ws.drop (stepP ws).2).length (ws.drop (stepP ws).2) (acc ++ [(stepP ws).1]) := by
  match ws, h with
  | w :: r, _ =>
    show keysF (r.length + 1) (w :: r) acc = _
    rw [keysF, if_neg (by simp)]
    by_cases h0 : (stepP (w :: r)).2 = 0 ∨ acc.length = 6
    · rw [if_pos h0, if_pos h0]
    · rw [if_neg h0, if_neg h0]
      have h1 : (stepP (w :: r)).2 ≠ 0 := fun e => h0 (.inl e)
      rw [keysF_more r.length _ _ (by rw [List.length_drop]; simp only [List.length_cons]; omega)]
theorem un_bit {w : List UInt8} (h : w.take 2 = unW) : bitV w = 0 := by
  unfold bitV
  repeat' split
  all_goals (try rfl)
  all_goals (rename_i e; rw [e] at h; exact absurd h (by decide))
theorem un_more {w : List UInt8} (h : w.take 2 = unW) (h2 : w.length ≤ 2) : bitV (w.drop 2) = 0 := by
  rw [List.drop_of_length_le h2]; decide
theorem al_bit : bitV alW = 0 := by decide
end Plain
end Go.Proofs.YthnofckkehephaaGreatDoor
