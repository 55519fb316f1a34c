/- Plain facts: numbers and texts come back from their bytes and their figures. Nothing of the program stands here. -/
import Derived.Test.YtnlcknklghalkaaDoorReadPlain
import Derived.Test.YtnlcknklghalkaaDoorUnPlain
import Derived.Test.YtnlcknklghalkaaDoorRDecPlain
namespace Go.Proofs.YtnlcknklghalkaaDoor.Plain
open Go.RowKit

theorem val_var (f n : Nat) (h : n < 128 ^ (f + 1)) : valL (varF f n) = n := by
  induction f generalizing n with
  | zero =>
    have h' : n < 128 := by simpa using h
    simp only [varF, valL, UInt8.toNat_ofNat', Nat.reducePow]; omega
  | succ f ih =>
    unfold varF
    split
    · have h2 : n / 128 < 128 ^ (f + 1) := by rw [Nat.pow_succ] at h; omega
      rw [valL, ih _ h2, UInt8.toNat_ofNat']
      omega
    · simp only [valL, UInt8.toNat_ofNat', Nat.reducePow]; omega

theorem rd_from (g n : Nat) (h : n < 128 ^ (g + 1)) : ∀ (f : Nat) (pre r : List UInt8), (varF g n).length ≤ f →
    rdL f pre (varF g n ++ r) = if valL (pre ++ varF g n) ≤ 1000000000 ∧ varL (valL (pre ++ varF g n)) = pre ++ varF g n then some (valL (pre ++ varF g n), pre.length + (varF g n).length) else none := by
  induction g generalizing n with
  | zero =>
    intro f pre r hf
    have h' : n < 128 := by simpa using h
    match f, hf with
    | f + 1, hf =>
      have hb : (UInt8.ofNat n).toNat < 128 := by rw [UInt8.toNat_ofNat']; omega
      show rdL (f + 1) pre (UInt8.ofNat n :: r) = _
      rw [rdL, if_pos hb]
      rfl
  | succ g ih =>
    intro f pre r hf
    by_cases hn : 127 < n
    · rw [varF_more g n hn] at hf ⊢
      match f, hf with
      | f + 1, hf =>
        have h2 : n / 128 < 128 ^ (g + 1) := by rw [Nat.pow_succ] at h; omega
        have hb : ¬ (UInt8.ofNat (n % 128 + 128)).toNat < 128 := by rw [UInt8.toNat_ofNat']; omega
        have := ih (n / 128) h2 f (pre ++ [UInt8.ofNat (n % 128 + 128)]) r (by simp at hf; omega)
        rw [List.cons_append, rdL, if_neg hb, this]
        simp only [List.append_assoc, List.singleton_append, List.length_append, List.length_cons, List.length_nil, Nat.zero_add, Nat.add_assoc, Nat.add_comm 1]
    · rw [varF_last (g + 1) n (by omega)] at hf ⊢
      match f, hf with
      | f + 1, hf =>
        have hb : (UInt8.ofNat n).toNat < 128 := by rw [UInt8.toNat_ofNat']; omega
        show rdL (f + 1) pre (UInt8.ofNat n :: r) = _
        rw [rdL, if_pos hb]
        rfl
theorem rd_var (N : Nat) (h : N ≤ 1000000000) (r : List UInt8) : rdL 5 [] (varL N ++ r) = some (N, (varL N).length) := by
  have hl : (varF 10 N).length ≤ 5 := varF_len_le 10 N 5 (by omega) (by omega)
  have hv : valL (varF 10 N) = N := val_var 10 N (by omega)
  have := rd_from 10 N (by omega) 5 [] r hl
  rw [List.nil_append, hv] at this
  unfold varL
  rw [this, if_pos ⟨h, rfl⟩]
  simp

theorem ans_back (N : Nat) (h : N ≤ 1000000000) : ansD (Lib.itoa (N : Int)) = .tuple #[.int .i64 (N : Int), .bool true] :=
  ans_yes (n := N) (by rw [itoa_nat]; exact (val_dec N).1) (by omega) rfl

theorem hex_at (l : List UInt8) : ∀ j (hj : j < l.length), (hexL l)[2 * j]? = some (fig (l[j].toNat / 16)) ∧ (hexL l)[2 * j + 1]? = some (fig (l[j].toNat % 16)) := by
  induction l with
  | nil => intro j hj; simp at hj
  | cons b r ih =>
    intro j hj
    have e : hexL (b :: r) = fig (b.toNat / 16) :: fig (b.toNat % 16) :: hexL r := rfl
    rw [e]
    cases j with
    | zero => exact ⟨rfl, rfl⟩
    | succ j =>
      have := ih j (by simpa using hj)
      rw [show 2 * (j + 1) = 2 * j + 1 + 1 from by omega]
      exact this
theorem fig_back {v : Nat} (h : v < 16) : isF (fig v).toNat = true ∧ vf (fig v).toNat = v := vf_fig h rfl
theorem un_hex (l : List UInt8) : unV (hexL l) = .tuple #[.string ⟨l.toArray⟩, .bool true] := by
  have hab : ∀ j (hj : j < l.length), ab (hexL l) (2 * j) = (fig (l[j].toNat / 16)).toNat ∧ ab (hexL l) (2 * j + 1) = (fig (l[j].toNat % 16)).toNat := by
    intro j hj
    have := hex_at l j hj
    unfold ab
    rw [List.getD_eq_getElem?_getD, List.getD_eq_getElem?_getD, this.1, this.2]
    exact ⟨rfl, rfl⟩
  have hF : Figs (hexL l) (hexL l).length := by
    intro i hi
    rw [hexL_length] at hi
    have hj : i / 2 < l.length := by omega
    have h1 := hab (i / 2) hj
    have hb := l[i / 2].toNat_lt
    rcases Nat.mod_two_eq_zero_or_one i with h | h
    · rw [show i = 2 * (i / 2) from by omega, h1.1]; exact (fig_back (by omega)).1
    · rw [show i = 2 * (i / 2) + 1 from by omega, h1.2]; exact (fig_back (by omega)).1
  rw [un_yes hF (Nat.le_refl _), hexL_length]
  have : outL (hexL l) (2 * l.length / 2) = l := by
    rw [show 2 * l.length / 2 = l.length from by omega]
    apply List.ext_getElem
    · simp [outL]
    · intro j h1 h2
      have h := hab j h2
      have hb := l[j].toNat_lt
      simp only [outL, List.getElem_map, List.getElem_range, pairB]
      rw [h.1, h.2, (fig_back (show l[j].toNat / 16 < 16 by omega)).2, (fig_back (show l[j].toNat % 16 < 16 by omega)).2, show 16 * (l[j].toNat / 16) + l[j].toNat % 16 = l[j].toNat from by omega]
      simp
  rw [this]
end Go.Proofs.YtnlcknklghalkaaDoor.Plain
