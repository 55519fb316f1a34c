/- Plain facts on figures read back. Nothing of the program stands here. -/
import Derived.Test.YtanapiaobpoebaaDoorPlainA
import Derived.Laws.OwnMore
namespace Go.Proofs.YtanapiaobpoebaaDoor.Plain
open Go.RowKit

/-- A byte is a figure. -/
def isF (x : Nat) : Bool := decide (48 ≤ x ∧ x ≤ 57 ∨ 97 ≤ x ∧ x ≤ 102)
/-- Its value. -/
def vf (x : Nat) : Nat := if x ≤ 57 then x - 48 else x - 87

theorem isF_iff (x : Nat) : isF x = true ↔ (48 ≤ x ∧ x ≤ 57 ∨ 97 ≤ x ∧ x ≤ 102) := by simp [isF]
theorem isF_not (x : Nat) : isF x = false ↔ ¬ (48 ≤ x ∧ x ≤ 57 ∨ 97 ≤ x ∧ x ≤ 102) := by simp only [isF, decide_eq_false_iff_not]
theorem vf_lt {x : Nat} (h : isF x = true) : vf x < 16 := by
  rw [isF_iff] at h; unfold vf; split <;> omega
theorem fig_nat {v : Nat} (h : v < 16) : (fig v).toNat = if v < 10 then 48 + v else 87 + v := by
  unfold fig; split <;> rw [UInt8.toNat_ofNat'] <;> omega
theorem fig_vf {x : Nat} (h : isF x = true) : (fig (vf x)).toNat = x := by
  rw [fig_nat (vf_lt h)]; rw [isF_iff] at h; unfold vf; split <;> split <;> omega
theorem vf_fig {v x : Nat} (h : v < 16) (e : (fig v).toNat = x) : isF x = true ∧ vf x = v := by
  rw [fig_nat h] at e; rw [isF_iff]; unfold vf; subst e; split <;> constructor <;> (try split) <;> omega

def ab (l : List UInt8) (k : Nat) : Nat := (l.getD k 0).toNat
def pairB (l : List UInt8) (j : Nat) : UInt8 := UInt8.ofNat (16 * vf (ab l (2 * j)) + vf (ab l (2 * j + 1)))
def outL (l : List UInt8) (n : Nat) : List UInt8 := (List.range n).map (pairB l)
def allF (l : List UInt8) : Bool := l.all fun b => isF b.toNat

theorem ab_at {s : ByteArray} {k : Nat} (h : k < s.size) : ab s.data.toList k = s[k].toNat := by
  unfold ab
  rw [List.getD_eq_getElem?_getD, Array.getElem?_toList, Array.getElem?_eq_getElem (by exact h)]; rfl

theorem outL_succ (l : List UInt8) (n : Nat) : outL l (n + 1) = outL l n ++ [pairB l n] := by
  simp [outL, List.range_succ]
theorem outL_length (l : List UInt8) (n : Nat) : (outL l n).length = n := by simp [outL]

theorem pair_nat {l : List UInt8} {j : Nat} (h1 : isF (ab l (2 * j)) = true) (h2 : isF (ab l (2 * j + 1)) = true) : (pairB l j).toNat = 16 * vf (ab l (2 * j)) + vf (ab l (2 * j + 1)) := by
  have a := vf_lt h1; have b := vf_lt h2
  unfold pairB; rw [UInt8.toNat_ofNat']; omega

theorem allF_of {l : List UInt8} (h : ∀ k, k < l.length → isF (ab l k) = true) : allF l = true := by
  unfold allF
  rw [List.all_eq_true]
  intro b hb
  obtain ⟨k, hk, rfl⟩ := List.getElem_of_mem hb
  have := h k hk
  unfold ab at this
  rwa [List.getD_eq_getElem?_getD, List.getElem?_eq_getElem hk] at this
theorem allF_not {l : List UInt8} {k : Nat} (hk : k < l.length) (h : isF (ab l k) = false) : allF l = false := by
  unfold allF
  rw [← Bool.not_eq_true, List.all_eq_true]
  intro hh
  have := hh l[k] (List.getElem_mem hk)
  unfold ab at h
  rw [List.getD_eq_getElem?_getD, List.getElem?_eq_getElem hk] at h
  simp at h
  rw [h] at this
  cases this

/-- The answer. -/
def unV (l : List UInt8) : Value := if allF l = true then .tuple #[.string ⟨(outL l (l.length / 2)).toArray⟩, .bool true] else .tuple #[.string ⟨#[]⟩, .bool false]

/-- All below k are figures. -/
def Figs (l : List UInt8) (k : Nat) : Prop := ∀ i, i < k → isF (ab l i) = true
theorem Figs.zero (l : List UInt8) : Figs l 0 := fun i h => by omega
theorem Figs.succ {l : List UInt8} {k : Nat} (h : Figs l k) (hk : isF (ab l k) = true) : Figs l (k + 1) := fun i hi => by
  by_cases e : i = k
  · rw [e]; exact hk
  · exact h i (by omega)
theorem un_yes {l : List UInt8} {k : Nat} (h : Figs l k) (hk : l.length ≤ k) : unV l = .tuple #[.string ⟨(outL l (l.length / 2)).toArray⟩, .bool true] :=
  if_pos (allF_of fun i hi => h i (by omega))
theorem un_no {l : List UInt8} {k : Nat} (hk : k < l.length) (h : isF (ab l k) = false) : unV l = .tuple #[.string ⟨#[]⟩, .bool false] :=
  if_neg (by rw [allF_not hk h]; simp)

/-- What is written when i figures were gone through one by one. -/
def impB (l : List UInt8) (i j : Nat) : UInt8 := if 2 * j + 1 < i then pairB l j else if 2 * j < i then UInt8.ofNat (vf (ab l (2 * j))) else 0
def impL (l : List UInt8) (i n : Nat) : List UInt8 := (List.range n).map (impB l i)
theorem impL_length (l : List UInt8) (i n : Nat) : (impL l i n).length = n := by simp [impL]
theorem impL_zero (l : List UInt8) (n : Nat) : impL l 0 n = List.replicate n 0 := by
  unfold impL
  apply List.ext_getElem (by simp)
  intro j h1 h2
  simp [impB]
theorem impL_all {l : List UInt8} {i n : Nat} (h : 2 * n ≤ i) : impL l i n = outL l n := by
  unfold impL outL
  apply List.map_congr_left
  intro j hj
  have : j < n := by simpa using hj
  unfold impB
  rw [if_pos (by omega)]
theorem impL_get {l : List UInt8} {i n j : Nat} (h : j < n) : (impL l i n)[j]? = some (impB l i j) := by
  unfold impL
  rw [List.getElem?_map, List.getElem?_range h]; rfl
/-- What stands where the next figure goes. -/
def impX (l : List UInt8) (i : Nat) : Nat := if i % 2 = 0 then 0 else vf (ab l (i - 1))
theorem impX_lt {l : List UInt8} {i : Nat} (h : Figs l i) : impX l i < 16 := by
  unfold impX
  split
  · omega
  · exact vf_lt (h _ (by omega))
theorem impB_at {l : List UInt8} {i : Nat} (h : Figs l i) : ((impB l i (i / 2)).toNat : Int) = (impX l i : Int) := by
  have hx := impX_lt h
  unfold impB
  rw [if_neg (by omega)]
  by_cases e : i % 2 = 0
  · rw [if_neg (by omega)]
    unfold impX
    rw [if_pos e]; rfl
  · rw [if_pos (by omega), show 2 * (i / 2) = i - 1 from by omega]
    unfold impX at hx ⊢
    rw [if_neg e] at hx ⊢
    rw [UInt8.toNat_ofNat']
    omega
theorem impB_next {l : List UInt8} {i : Nat} (h : Figs l i) (hi : isF (ab l i) = true) : ((impB l (i + 1) (i / 2)).toNat : Int) = (impX l i : Int) * 16 + (vf (ab l i) : Int) := by
  have hv := vf_lt hi
  unfold impB impX
  by_cases e : i % 2 = 0
  · rw [if_neg (by omega), if_pos (by omega), if_pos e, show 2 * (i / 2) = i from by omega, UInt8.toNat_ofNat']
    omega
  · have h1 : isF (ab l (i - 1)) = true := h _ (by omega)
    rw [if_pos (by omega), if_neg e, pair_nat (by rw [show 2 * (i / 2) = i - 1 from by omega]; exact h1) (by rw [show 2 * (i / 2) + 1 = i from by omega]; exact hi), show 2 * (i / 2) = i - 1 from by omega, show i - 1 + 1 = i from by omega]
    omega
theorem impB_same {l : List UInt8} {i j : Nat} (h : j ≠ i / 2) : impB l (i + 1) j = impB l i j := by
  unfold impB
  by_cases h1 : 2 * j + 1 < i
  · rw [if_pos h1, if_pos (by omega)]
  · rw [if_neg h1, if_neg (by omega)]
    by_cases h2 : 2 * j < i
    · rw [if_pos h2, if_pos (by omega)]
    · rw [if_neg h2, if_neg (by omega)]
theorem impL_set {l : List UInt8} {i n : Nat} (h : Figs l i) (hi : isF (ab l i) = true) (hn : i / 2 < n) :
    (bv (impL l i n)).set (i / 2) (.int .u8 ((impX l i : Int) * 16 + (vf (ab l i) : Int))) = bv (impL l (i + 1) n) := by
  apply List.ext_getElem?
  intro j
  rw [List.getElem?_set]
  unfold bv
  rw [List.length_map, impL_length, List.getElem?_map, List.getElem?_map]
  by_cases e : i / 2 = j
  · subst e
    rw [if_pos rfl, if_pos hn, impL_get hn, Option.map_some, impB_next h hi]
  · rw [if_neg e]
    by_cases hj : j < n
    · rw [impL_get hj, impL_get hj, Option.map_some, Option.map_some, impB_same (fun x => e x.symm)]
    · rw [List.getElem?_eq_none (by rw [impL_length]; omega), List.getElem?_eq_none (by rw [impL_length]; omega)]
theorem made_zero (n : Nat) : (madeCells (Value.int .u8 0).cells (n * 1)).toList = bv (List.replicate n 0) := by
  rw [Nat.mul_one]
  rw [show (Value.int .u8 0).cells = #[Value.int .u8 0] from rfl, toList_madeCells_one]
  simp [bv]
theorem made_zero' (n : Nat) : (madeCells #[Value.int .u8 0] n).toList = bv (List.replicate n 0) := by
  have h := made_zero n
  rw [Nat.mul_one] at h
  exact h
end Go.Proofs.YtanapiaobpoebaaDoor.Plain
