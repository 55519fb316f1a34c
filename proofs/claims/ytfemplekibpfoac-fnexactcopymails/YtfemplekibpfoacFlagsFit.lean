/- Flags of those that are told change, plainly: all at once. Nothing of the program stands here. -/
import Derived.Test.YtfemplekibpfoacBoxP
namespace Go.Proofs.Ytfemplekibpfoac.Plain
open Go.RowKit
set_option linter.unusedVariables false

def isLate (s : List Rg) (since : Int) (m : Ml) : Bool := hasB s m.uid && (decide (0 ≤ since) && decide (since < m.mod))
def isNew (s : List Rg) (how bits since : Int) (m : Ml) : Bool := hasB s m.uid && (!(decide (0 ≤ since) && decide (since < m.mod)) && !(afterV m.flags how bits == m.flags))
def newM (b : Bx) (s : List Rg) (how bits since : Int) (m : Ml) : Ml := if isNew s how bits since m = true then ⟨m.uid, afterV m.flags how bits, b.mod + 1, m.text⟩ else m
def newU (s : List Rg) (how bits since : Int) (l : List Ml) : List Int := (l.filter (isNew s how bits since)).map (·.uid)
def lateU (s : List Rg) (since : Int) (l : List Ml) : List Int := (l.filter (isLate s since)).map (·.uid)
theorem fgStep_is (b : Bx) (s : List Rg) (how bits since : Int) (x : Fg) (m : Ml) :
    fgStep b s how bits since x m = ⟨x.ms ++ [newM b s how bits since m], if isNew s how bits since m = true then b.mod + 1 else x.md, if isNew s how bits since m = true then addU x.done m.uid else x.done, if isLate s since m = true then addU x.late m.uid else x.late⟩ := by
  unfold fgStep newM isNew isLate
  cases hh : hasB s m.uid with
  | false => simp
  | true =>
    by_cases h1 : 0 ≤ since
    · by_cases h2 : since < m.mod
      · simp [h1, h2]
      · by_cases h3 : afterV m.flags how bits = m.flags
        · simp [h1, h2, h3]
        · simp [h1, h2, h3]
    · by_cases h3 : afterV m.flags how bits = m.flags
      · simp [h1, h3]
      · simp [h1, h3]
theorem fg_fold (b : Bx) (s : List Rg) (how bits since : Int) : ∀ (l : List Ml) (x : Fg), l.foldl (fgStep b s how bits since) x = ⟨x.ms ++ l.map (newM b s how bits since), if (newU s how bits since l).isEmpty = true then x.md else b.mod + 1, (newU s how bits since l).foldl addU x.done, (lateU s since l).foldl addU x.late⟩ := by
  intro l
  induction l with
  | nil => intro x; simp [newU, lateU]
  | cons m l ih =>
    intro x
    rw [List.foldl_cons, ih, fgStep_is]
    unfold newU lateU
    by_cases hn : isNew s how bits since m = true
    · by_cases hl : isLate s since m = true
      · simp [hn, hl]
      · simp [hn, hl]
    · by_cases hl : isLate s since m = true
      · simp [hn, hl]
      · simp [hn, hl]
theorem fg_is (b : Bx) (s : List Rg) (how bits since : Int) : fgOf b s how bits since = ⟨b.mails.map (newM b s how bits since), if (newU s how bits since b.mails).isEmpty = true then b.mod else b.mod + 1, uidsV (newU s how bits since b.mails), uidsV (lateU s since b.mails)⟩ := by
  unfold fgOf
  rw [fg_fold]
  rfl
theorem newM_text (b : Bx) (s : List Rg) (how bits since : Int) (m : Ml) : (newM b s how bits since m).text = m.text ∧ (newM b s how bits since m).uid = m.uid := by unfold newM; split <;> exact ⟨rfl, rfl⟩
theorem fg_fit {b : Bx} {s : List Rg} {how bits since : Int} (h : FitBx b) : FitBx (fgBox b (fgOf b s how bits since)) := by
  rw [fg_is]
  refine ⟨h.name, by simpa [fgBox] using h.mails, fun m hm => ?_, h.tombs⟩
  obtain ⟨x, hx, rfl⟩ := List.mem_map.1 (show m ∈ b.mails.map (newM b s how bits since) from hm)
  rw [(newM_text b s how bits since x).1]
  exact h.texts x hx
theorem uids_right {b : Bx} (h : boxOk b = true) : ∀ m ∈ b.mails, 1 ≤ m.uid ∧ m.uid ≤ 9999 := by
  intro m hm
  obtain ⟨i, hi, rfl⟩ := List.getElem_of_mem hm
  have h1 := (boxOk_iff.1 h).2.1 i hi
  rw [mailAt_is (List.getElem?_eq_getElem hi)] at h1
  unfold mailRight at h1
  rw [Bool.and_eq_true] at h1
  have h2 := inI_iff.1 h1.1
  have h3 : inI b.next 1 9999 = true := by
    have := (boxOk_iff.1 h).1
    unfold headOk at this
    simp only [Bool.and_eq_true] at this
    exact this.2.2.1
  have h3 := inI_iff.1 h3
  omega
theorem newU_right {b : Bx} {s : List Rg} {how bits since : Int} (h : boxOk b = true) : (newU s how bits since b.mails).length ≤ 40 ∧ ∀ u ∈ newU s how bits since b.mails, 1 ≤ u ∧ u ≤ 9999 := by
  have h30 : b.mails.length ≤ 30 := by
    have := (boxOk_iff.1 h).1
    unfold headOk at this
    simp only [Bool.and_eq_true, decide_eq_true_eq] at this
    exact this.2.2.2.2.1
  constructor
  · unfold newU
    rw [List.length_map]
    exact Nat.le_trans (List.length_filter_le _ _) (by omega)
  · intro u hu
    obtain ⟨m, hm, rfl⟩ := List.mem_map.1 hu
    exact uids_right h m (List.mem_filter.1 hm).1
theorem lateU_right {b : Bx} {s : List Rg} {since : Int} (h : boxOk b = true) : (lateU s since b.mails).length ≤ 40 ∧ ∀ u ∈ lateU s since b.mails, 1 ≤ u ∧ u ≤ 9999 := by
  have h30 : b.mails.length ≤ 30 := by
    have := (boxOk_iff.1 h).1
    unfold headOk at this
    simp only [Bool.and_eq_true, decide_eq_true_eq] at this
    exact this.2.2.2.2.1
  constructor
  · unfold lateU
    rw [List.length_map]
    exact Nat.le_trans (List.length_filter_le _ _) (by omega)
  · intro u hu
    obtain ⟨m, hm, rfl⟩ := List.mem_map.1 hu
    exact uids_right h m (List.mem_filter.1 hm).1
end Go.Proofs.Ytfemplekibpfoac.Plain
