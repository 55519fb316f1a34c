/- What CopyMails answers, plainly. Made by gen_stores.py. -/
import Derived.Test.YtfemplekibpfoacStorePlain2
import Derived.Test.YtfemplekibpfoacBoxKeeps
namespace Go.Proofs.Ytfemplekibpfoac
open Go.RowKit
open Plain
set_option linter.unusedVariables false
set_option linter.unusedSimpArgs false

namespace Plain
theorem addV_ok {b : Bx} {f : Int} {t : ByteArray} (h : ¬ (addV b f t).2 = 0) : boxOk (addV b f t).1 = true := by
  unfold addV at h ⊢
  split
  · rename_i x; exact x.2
  · rename_i x; rw [if_neg x] at h; exact absurd rfl h
theorem addAll_no {b : Bx} {m : Ml} {l : List Ml} (h : (addV b m.flags m.text).2 = 0) : addAll b (m :: l) = none := by unfold addAll; rw [if_pos h]
theorem addAll_yes {b : Bx} {m : Ml} {l : List Ml} (h : ¬ (addV b m.flags m.text).2 = 0) : addAll b (m :: l) = addAll (addV b m.flags m.text).1 l := by rw [addAll, if_neg h]
theorem addV_name (b : Bx) (f : Int) (t : ByteArray) : (addV b f t).1.name = b.name := by unfold addV; split <;> rfl
theorem addAll_name : ∀ (l : List Ml) (b b' : Bx), addAll b l = some b' → b'.name = b.name := by
  intro l
  induction l with
  | nil => intro b b' h; cases h; rfl
  | cons m l ih =>
    intro b b' h
    by_cases hz : (addV b m.flags m.text).2 = 0
    · rw [addAll_no hz] at h; cases h
    · rw [addAll_yes hz] at h
      rw [ih _ _ h, addV_name]
theorem copyV_bad1 {s : Sx} {f n : ByteArray} {set : List Rg} (h : storeOk s = false) : copyV s f set n = (s, 4) := by unfold copyV; rw [if_pos (.inl h)]
theorem copyV_bad2 {s : Sx} {f n : ByteArray} {set : List Rg} (h : okS set = false) : copyV s f set n = (s, 4) := by unfold copyV; rw [if_pos (.inr h)]
theorem copyV_in {s : Sx} {f n : ByteArray} {set : List Rg} (h1 : storeOk s = true) (h2 : okS set = true) : copyV s f set n = match boxAt s f, boxAt s n with
    | some a, some b => match addAll b (inSet set a) with
      | some b' => (putSt s b', 0)
      | none => (s, 3)
    | _, _ => (s, 1) := by unfold copyV; rw [if_neg (by rw [h1, h2]; simp)]; cases boxAt s f <;> cases boxAt s n <;> rfl
end Plain
end Go.Proofs.Ytfemplekibpfoac
