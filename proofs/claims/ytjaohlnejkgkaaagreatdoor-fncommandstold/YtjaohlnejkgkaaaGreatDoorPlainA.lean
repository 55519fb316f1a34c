/- Several texts in one: Plain, HexPlain, DecPlain, StrPlain, RangePlain, SetPlain, ReadPlain, ReadSetPlain, FlagPlain, MailPlain, SetTextPlain, RunsCount, SetCut, SetFacts. Made by fuse_tl.py. -/
import Derived.Below
import Derived.WalkKit
import Derived.Lib.ItoaLen
import Derived.Lib.Strings
/- Plain facts on bytes and numbers: the bytes of a number, seven bits a byte, and their reading. Nothing of the program stands here. -/
namespace Go.Proofs.YtjaohlnejkgkaaaGreatDoor.Plain

/-- The bytes of a number, the lowest seven bits first, with fuel. -/
def varF : Nat → Nat → List UInt8
  | 0, n => [UInt8.ofNat n]
  | f + 1, n => if 127 < n then UInt8.ofNat (n % 128 + 128) :: varF f (n / 128) else [UInt8.ofNat n]

def varL (n : Nat) : List UInt8 := varF 10 n

/-- The number that bytes tell. -/
def valL : List UInt8 → Nat
  | [] => 0
  | b :: r => b.toNat % 128 + 128 * valL r

theorem varF_more (f n : Nat) (h : 127 < n) : varF (f + 1) n = UInt8.ofNat (n % 128 + 128) :: varF f (n / 128) := by
  simp [varF, h]
theorem varF_last (f n : Nat) (h : n ≤ 127) : varF f n = [UInt8.ofNat n] := by
  cases f with
  | zero => rfl
  | succ f => simp [varF]; omega

theorem varF_length (f n : Nat) : (varF f n).length ≤ f + 1 := by
  induction f generalizing n with
  | zero => simp [varF]
  | succ f ih =>
    unfold varF
    split
    · have := ih (n / 128); simp; omega
    · simp
theorem varF_pos (f n : Nat) : 1 ≤ (varF f n).length := by
  cases f with
  | zero => simp [varF]
  | succ f => unfold varF; split <;> simp

theorem varL_length (n : Nat) : (varL n).length ≤ 11 := varF_length 10 n

theorem valL_append (l : List UInt8) (b : UInt8) : valL (l ++ [b]) = valL l + b.toNat % 128 * 128 ^ l.length := by
  induction l with
  | nil => simp [valL]
  | cons a r ih =>
    simp only [List.cons_append, valL, ih, List.length_cons, Nat.pow_succ]
    rw [Nat.mul_add]
    have : 128 * (b.toNat % 128 * 128 ^ r.length) = b.toNat % 128 * (128 ^ r.length * 128) := by
      rw [← Nat.mul_assoc, Nat.mul_comm 128, Nat.mul_assoc, Nat.mul_comm 128]
    omega

theorem valL_lt (l : List UInt8) : valL l < 128 ^ l.length := by
  induction l with
  | nil => simp [valL]
  | cons a r ih =>
    simp only [valL, List.length_cons, Nat.pow_succ]
    omega

/-- All but the last have 128; the last has not. -/
def okL : List UInt8 → Bool
  | [] => false
  | [b] => decide (b.toNat < 128)
  | b :: r => decide (128 ≤ b.toNat) && okL r

theorem ofNat_mod_add (b : UInt8) (h : 128 ≤ b.toNat) (k : Nat) : UInt8.ofNat ((b.toNat % 128 + 128 * k) % 128 + 128) = b := by
  have hb := b.toNat_lt
  have e : (b.toNat % 128 + 128 * k) % 128 + 128 = b.toNat := by omega
  rw [e]; simp

/-- Bytes whose last is not nought (or that are one alone) are those of their number. -/
theorem var_val (pre : List UInt8) (b : UInt8) (hpre : ∀ x ∈ pre, 128 ≤ x.toNat) (hb : b.toNat < 128) (hz : pre = [] ∨ b.toNat ≠ 0) :
    ∀ f, pre.length ≤ f → varF f (valL (pre ++ [b])) = pre ++ [b] := by
  induction pre with
  | nil =>
    intro f _
    have e : valL ([] ++ [b]) = b.toNat := by simp [valL]; omega
    rw [e, varF_last f _ (by omega)]
    simp
  | cons a r ih =>
    intro f hf
    have ha := hpre a (by simp)
    have hz' : b.toNat ≠ 0 := by
      rcases hz with h | h
      · cases h
      · exact h
    match f, hf with
    | f + 1, hf =>
      have hr := ih (fun x hx => hpre x (by simp [hx])) (.inr hz') f (by simp at hf; omega)
      have hv : valL (a :: r ++ [b]) = a.toNat % 128 + 128 * valL (r ++ [b]) := rfl
      have hpos : 1 ≤ valL (r ++ [b]) := by
        rw [valL_append]
        have : 1 ≤ 128 ^ r.length := Nat.pow_pos (by omega)
        have h2 : b.toNat % 128 = b.toNat := by omega
        rw [h2]
        have : 1 * 1 ≤ b.toNat * 128 ^ r.length := Nat.mul_le_mul (by omega) this
        omega
      rw [hv, varF_more f _ (by omega), ofNat_mod_add a ha]
      have hd : (a.toNat % 128 + 128 * valL (r ++ [b])) / 128 = valL (r ++ [b]) := by omega
      rw [hd, hr]
      rfl

theorem varF_len_le (f n k : Nat) (h : n < 128 ^ k) (hk : 1 ≤ k) : (varF f n).length ≤ k := by
  induction f generalizing n k with
  | zero => simp [varF]; omega
  | succ f ih =>
    unfold varF
    split
    · match k, hk with
      | 1, _ => simp at h; omega
      | k + 2, _ =>
        have h2 : n / 128 < 128 ^ (k + 1) := by
          rw [Nat.pow_succ] at h
          omega
        have := ih (n / 128) (k + 1) h2 (by omega)
        simp; omega
    · simp; omega

/-- Bytes whose last is nought, behind others, are a longer form. -/
theorem var_val_longer (pre : List UInt8) (b : UInt8) (hb : b.toNat = 0) (hz : pre ≠ []) (f : Nat) : varF f (valL (pre ++ [b])) ≠ pre ++ [b] := by
  intro e
  have h1 : valL (pre ++ [b]) = valL pre := by rw [valL_append, hb]; simp
  have h2 := valL_lt pre
  have hp : 1 ≤ pre.length := List.length_pos_iff.2 hz
  have h3 := varF_len_le f _ _ h2 hp
  rw [h1] at e
  rw [e] at h3
  simp at h3
  omega

/-- What is read: fuel, what was seen, what is ahead. -/
def rdL : Nat → List UInt8 → List UInt8 → Option (Nat × Nat)
  | 0, _, _ => none
  | _ + 1, _, [] => none
  | f + 1, pre, b :: r =>
    if b.toNat < 128 then
      if valL (pre ++ [b]) ≤ 1000000000 ∧ varL (valL (pre ++ [b])) = pre ++ [b] then some (valL (pre ++ [b]), pre.length + 1) else none
    else rdL f (pre ++ [b]) r

theorem canon (pre : List UInt8) (b : UInt8) (hpre : ∀ x ∈ pre, 128 ≤ x.toNat) (hl : pre.length ≤ 4) (hb : b.toNat < 128) :
    varL (valL (pre ++ [b])) = pre ++ [b] ↔ ¬ (b.toNat = 0 ∧ 0 < pre.length) := by
  constructor
  · intro h ⟨h1, h2⟩
    exact var_val_longer pre b h1 (List.length_pos_iff.1 h2) 10 h
  · intro h
    refine var_val pre b hpre hb ?_ 10 (by omega)
    by_cases hp : pre = []
    · exact .inl hp
    · exact .inr fun e => h ⟨e, List.length_pos_iff.2 hp⟩

/-- Behind some rounds: what is written, and what is left to write. -/
def VarInv (N m : Nat) (pre : List UInt8) : Prop := ∃ f, m < 128 ^ f ∧ pre.length + f = 10 ∧ varL N = pre ++ varF f m

theorem VarInv.start (N : Nat) (h : N ≤ 34359738368) : VarInv N N [] := ⟨10, by omega, rfl, rfl⟩
theorem VarInv.step {N m : Nat} {pre : List UInt8} (h : VarInv N m pre) (hm : 127 < m) : VarInv N (m / 128) (pre ++ [UInt8.ofNat (m % 128 + 128)]) := by
  obtain ⟨f, h1, h2, h3⟩ := h
  match f, h1, h2, h3 with
  | 0, h1, _, _ => simp at h1; omega
  | f + 1, h1, h2, h3 =>
    refine ⟨f, ?_, by simp; omega, ?_⟩
    · rw [Nat.pow_succ] at h1; omega
    · rw [h3, varF_more f m hm]; simp
theorem VarInv.done {N m : Nat} {pre : List UInt8} (h : VarInv N m pre) (hm : m ≤ 127) : varL N = pre ++ [UInt8.ofNat m] := by
  obtain ⟨f, h1, h2, h3⟩ := h
  rw [h3, varF_last f m hm]
theorem VarInv.len {N m : Nat} {pre : List UInt8} (h : VarInv N m pre) : pre.length ≤ 10 := by
  obtain ⟨f, h1, h2, h3⟩ := h
  omega

/-- Bytes as values. -/
def bv (l : List UInt8) : List Value := l.map fun b => Value.int .u8 (b.toNat : Int)
theorem bv_length (l : List UInt8) : (bv l).length = l.length := by simp [bv]
theorem bv_append (a b : List UInt8) : bv (a ++ b) = bv a ++ bv b := by simp [bv]
theorem u8_more (m : Nat) : ((UInt8.ofNat (m % 128 + 128)).toNat : Int) = ((m % 128 + 128 : Nat) : Int) := by
  rw [UInt8.toNat_ofNat']; omega
theorem u8_small (m : Nat) (h : m ≤ 127) : ((UInt8.ofNat m).toNat : Int) = (m : Int) := by
  rw [UInt8.toNat_ofNat']; omega

theorem hide {p : Prop} (h : p) : RowKit.Hid p := h
theorem unhide {p : Prop} (h : RowKit.Hid p) : p := h
theorem below2 {w w1 w2 : World} (h1 : RowKit.Below w.heap.size w w1) (h2 : RowKit.Below w1.heap.size w1 w2) : RowKit.Below w.heap.size w w2 :=
  h1.trans (h2.mono h1.size)

end Go.Proofs.YtjaohlnejkgkaaaGreatDoor.Plain

/- Plain facts on figures: two for each byte. Nothing of the program stands here. -/
namespace Go.Proofs.YtjaohlnejkgkaaaGreatDoor.Plain
open Go.RowKit

/-- The figure of a number below 16. -/
def fig (x : Nat) : UInt8 := if x < 10 then UInt8.ofNat (48 + x) else UInt8.ofNat (87 + x)

theorem fig_low {x : Nat} (h : x < 10) : ((fig x).toNat : Int) = 48 + (x : Int) := by
  unfold fig; rw [if_pos h, UInt8.toNat_ofNat']; omega
theorem fig_high {x : Nat} (h : ¬ x < 10) (h2 : x < 16) : ((fig x).toNat : Int) = 87 + (x : Int) := by
  unfold fig; rw [if_neg h, UInt8.toNat_ofNat']; omega

def hexL (l : List UInt8) : List UInt8 := l.flatMap fun b => [fig (b.toNat / 16), fig (b.toNat % 16)]

theorem hexL_snoc (l : List UInt8) (b : UInt8) : hexL (l ++ [b]) = hexL l ++ [fig (b.toNat / 16), fig (b.toNat % 16)] := by
  simp [hexL]
theorem hexL_length (l : List UInt8) : (hexL l).length = 2 * l.length := by
  induction l with
  | nil => rfl
  | cons a r ih => simp [hexL] at ih ⊢; omega

theorem take_snoc' {s : ByteArray} {k : Nat} (h : k < s.size) : s.data.toList.take (k + 1) = s.data.toList.take k ++ [s[k]] := by
  rw [List.take_succ_eq_append_getElem (by simpa using h)]; rfl

theorem hex_step {s : ByteArray} {k : Nat} (h : k < s.size) : hexL (s.data.toList.take (k + 1)) = hexL (s.data.toList.take k) ++ [fig (s[k].toNat / 16), fig (s[k].toNat % 16)] := by
  rw [take_snoc' h, hexL_snoc]
theorem hex_len {s : ByteArray} {k : Nat} (h : k ≤ s.size) : (hexL (s.data.toList.take k)).length = 2 * k := by
  rw [hexL_length, List.length_take, Nat.min_eq_left (by simpa using h)]
theorem take_all {s : ByteArray} {k : Nat} (h : s.size ≤ k) : s.data.toList.take k = s.data.toList := List.take_of_length_le (by simpa using h)

/-- A figure, as a number, of a number. -/
def figI (x : Int) : Int := ((fig x.toNat).toNat : Int)
/-- The two figures of a byte, as values. -/
def figs (x : Nat) : List Value := [.int .u8 (figI ((x : Int) / 16)), .int .u8 (figI ((x : Int) % 16))]
theorem bv_figs (x : Nat) : bv [fig (x / 16), fig (x % 16)] = figs x := rfl
theorem figs_one (x : Nat) : ∀ u ∈ figs x, u.oneCell' = true := by
  intro u hu
  simp only [figs, List.mem_cons, List.not_mem_nil, or_false] at hu
  rcases hu with rfl | rfl <;> rfl
end Go.Proofs.YtjaohlnejkgkaaaGreatDoor.Plain

/- Plain facts on decimal figures. Nothing of the program stands here. -/
namespace Go.Proofs.YtjaohlnejkgkaaaGreatDoor.Plain
open Go.RowKit

/-- The figures of a number; none of 0. -/
def dz (m : Nat) : List UInt8 := if m = 0 then [] else Lib.decDigits m

theorem dz_zero : dz 0 = [] := rfl
theorem dz_pos {m : Nat} (h : m ≠ 0) : dz m = Lib.decDigits m := if_neg h
theorem fig_dec {x : Nat} (h : x < 10) : fig x = UInt8.ofNat (48 + x) := if_pos h
theorem dz_step {m : Nat} (h : m ≠ 0) : dz m = dz (m / 10) ++ [fig (m % 10)] := by
  rw [dz_pos h, fig_dec (by omega)]
  by_cases h10 : m < 10
  · rw [Lib.decDigits, dif_pos h10, show m / 10 = 0 from by omega, dz_zero, show m % 10 = m from by omega]; rfl
  · rw [Lib.decDigits, dif_neg h10, dz_pos (by omega)]
theorem dz_len {m : Nat} (h : m ≤ 9223372036854775808) : (dz m).length ≤ 20 := by
  unfold dz
  split
  · simp
  · rw [Lib.decDigits_length]; exact Lib.nDigits_le20 m (by omega)

/-- Behind some rounds: what is left, and what is written. -/
def DecInv (N m : Nat) (suf : List UInt8) : Prop := dz N = dz m ++ suf ∧ suf.length ≤ 20
theorem DecInv.start (N : Nat) : DecInv N N [] := ⟨by simp, by simp⟩
theorem DecInv.step {N m : Nat} {suf : List UInt8} (hN : N ≤ 9223372036854775808) (h : DecInv N m suf) (hm : m ≠ 0) : DecInv N (m / 10) (fig (m % 10) :: suf) := by
  have e : dz N = dz (m / 10) ++ (fig (m % 10) :: suf) := by rw [h.1, dz_step hm]; simp
  refine ⟨e, ?_⟩
  have := dz_len hN
  rw [e] at this
  simp only [List.length_append] at this
  omega
theorem DecInv.done {N : Nat} {suf : List UInt8} (h : DecInv N 0 suf) (hN : N ≠ 0) : suf = Lib.decDigits N := by
  have := h.1
  rw [dz_pos hN, dz_zero] at this
  simpa using this.symm

theorem itoa_nat {N : Nat} : Lib.itoa (N : Int) = Lib.decDigits N := by
  simp [Lib.itoa]
theorem itoa_neg {N : Nat} (h : N ≠ 0) : Lib.itoa (-(N : Int)) = 45 :: Lib.decDigits N := by
  unfold Lib.itoa
  rw [if_pos (by omega)]
  simp
theorem tmod_neg (m : Nat) : (-(m : Int)).tmod 10 = -((m % 10 : Nat) : Int) := by
  rw [Int.neg_tmod, Int.tmod_eq_emod_of_nonneg (by omega)]; rfl
theorem tdiv_neg (m : Nat) : (-(m : Int)).tdiv 10 = -((m / 10 : Nat) : Int) := by
  rw [Int.neg_tdiv, Int.tdiv_eq_ediv_of_nonneg (by omega)]; rfl
end Go.Proofs.YtjaohlnejkgkaaaGreatDoor.Plain

/- Plain facts on rows of strings and on marks. Nothing of the program stands here. -/
namespace Go.Proofs.YtjaohlnejkgkaaaGreatDoor.Plain
open Go.RowKit

/-- Texts as values. -/
def strs (l : List (List UInt8)) : List Value := l.map fun x => Value.string ⟨x.toArray⟩
theorem strs_length (l : List (List UInt8)) : (strs l).length = l.length := by simp [strs]
theorem strs_append (a b : List (List UInt8)) : strs (a ++ b) = strs a ++ strs b := by simp [strs]

/-- The text of a mark. -/
def mkL (k : Nat) : List UInt8 := 109 :: dz k
theorem mkL_len {k : Nat} (h : k ≤ 9223372036854775808) : (mkL k).length ≤ 21 := by
  have := dz_len h
  simp [mkL]; omega
/-- n marks, from k0 on. -/
def marksL (k0 n : Nat) : List (List UInt8) := (List.range n).map fun i => mkL (k0 + i)
theorem marksL_length (k0 n : Nat) : (marksL k0 n).length = n := by simp [marksL]
theorem marksL_succ (k0 n : Nat) : marksL k0 (n + 1) = marksL k0 n ++ [mkL (k0 + n)] := by simp [marksL, List.range_succ]
theorem marksL_get {k0 n i : Nat} (h : i < n) : (marksL k0 n)[i]? = some (mkL (k0 + i)) := by
  unfold marksL; rw [List.getElem?_map, List.getElem?_range h]; rfl
/-- The first i are marks; the rest is as it was. -/
def markedL (k0 : Nat) (l : List (List UInt8)) (i : Nat) : List (List UInt8) := marksL k0 i ++ l.drop i
theorem markedL_zero (k0 : Nat) (l : List (List UInt8)) : markedL k0 l 0 = l := by simp [markedL, marksL]
theorem markedL_all {k0 : Nat} {l : List (List UInt8)} : markedL k0 l l.length = marksL k0 l.length := by simp [markedL]
theorem markedL_length {k0 i : Nat} {l : List (List UInt8)} (h : i ≤ l.length) : (markedL k0 l i).length = l.length := by
  simp [markedL, marksL_length]; omega
theorem markedL_set {k0 i : Nat} {l : List (List UInt8)} (h : i < l.length) : (strs (markedL k0 l i)).set i (.string ⟨(mkL (k0 + i)).toArray⟩) = strs (markedL k0 l (i + 1)) := by
  unfold markedL
  rw [strs_append, strs_append, marksL_succ, strs_append, List.drop_eq_getElem_cons h]
  rw [List.set_append_right _ _ (by rw [strs_length, marksL_length]; omega), strs_length, marksL_length, Nat.sub_self, List.append_assoc]
  simp only [strs, List.map_cons, List.set_cons_zero, List.map_nil, List.cons_append, List.nil_append]

theorem DecInv.mark {N : Nat} {suf : List UInt8} (h : DecInv N 0 suf) : suf = dz N := by
  have := h.1
  rw [dz_zero] at this
  simpa using this.symm
theorem fig_10 (m : Nat) : ((fig (m % 10)).toNat : Int) = 48 + (m : Int) % 10 := by
  rw [fig_low (by omega)]; omega
end Go.Proofs.YtjaohlnejkgkaaaGreatDoor.Plain

/- Rows of ranges, plainly: their cells; sets of numbers as ranges. Nothing of the program stands here. -/
namespace Go.Proofs.YtjaohlnejkgkaaaGreatDoor.Plain
set_option linter.unusedVariables false

structure Rg where
  lo : Int
  hi : Int

def rgl (r : Rg) : List Value := [.int .i64 r.lo, .int .i64 r.hi]
def rgs (l : List Rg) : List Value := l.flatMap rgl
theorem rgs_nil : rgs [] = [] := rfl
theorem rgs_cons (r : Rg) (l : List Rg) : rgs (r :: l) = rgl r ++ rgs l := by simp [rgs]
theorem rgs_append (a b : List Rg) : rgs (a ++ b) = rgs a ++ rgs b := by simp [rgs]
theorem rgs_length (l : List Rg) : (rgs l).length = l.length * 2 := by
  induction l with
  | nil => rfl
  | cons f r ih => rw [rgs_cons, List.length_append, ih]; simp [rgl]; omega
theorem rgs_get (l : List Rg) (k : Nat) (f : Rg) (h : l[k]? = some f) (j : Nat) (hj : j < 2) : (rgs l)[k * 2 + j]? = (rgl f)[j]? := by
  induction l generalizing k with
  | nil => simp at h
  | cons g r ih =>
    rw [rgs_cons]
    cases k with
    | zero =>
      simp at h; subst h
      rw [Nat.zero_mul, Nat.zero_add, List.getElem?_append_left (by simpa [rgl] using hj)]
    | succ k =>
      simp at h
      rw [List.getElem?_append_right (by simp [rgl]; omega)]
      have : (k + 1) * 2 + j - (rgl g).length = k * 2 + j := by simp [rgl]; omega
      rw [this, ih k h]
theorem rgs_0 {l : List Rg} {k : Nat} {f : Rg} (h : l[k]? = some f) : (rgs l)[k * 2]? = some (.int .i64 f.lo) := by
  have := rgs_get l k f h 0 (by omega); simpa [rgl] using this
theorem rgs_1 {l : List Rg} {k : Nat} {f : Rg} (h : l[k]? = some f) : (rgs l)[k * 2 + 1]? = some (.int .i64 f.hi) := by
  have := rgs_get l k f h 1 (by omega); simpa [rgl] using this
/-- One range of a row laid anew, cell by cell. -/
theorem rgs_set (l : List Rg) (k : Nat) (f : Rg) (h : k < l.length) : ((rgs l).set (k * 2) (.int .i64 f.lo)).set (k * 2 + 1) (.int .i64 f.hi) = rgs (l.set k f) := by
  apply List.ext_getElem?
  intro i
  obtain ⟨q, j, rfl, hj⟩ : ∃ q j, i = q * 2 + j ∧ j < 2 := ⟨i / 2, i % 2, by omega, Nat.mod_lt _ (by omega)⟩
  by_cases hq : q < l.length
  · by_cases e : q = k
    · subst e
      rw [rgs_get (l.set q f) q f (by simp [hq]) j hj]
      have hl : (rgs l).length = l.length * 2 := rgs_length l
      match j, hj with
      | 0, _ => simp [List.getElem?_set, rgl]; omega
      | 1, _ => simp [List.getElem?_set, rgl]; omega
    · rw [rgs_get (l.set k f) q l[q] (by rw [List.getElem?_set_ne (by omega), List.getElem?_eq_getElem hq]) j hj, ← rgs_get l q l[q] (List.getElem?_eq_getElem hq) j hj]
      rw [List.getElem?_set_ne (by omega), List.getElem?_set_ne (by omega)]
  · rw [List.getElem?_eq_none (by simp [rgs_length]; omega), List.getElem?_eq_none (by simp [rgs_length]; omega)]
/-- The upper end alone laid anew. -/
theorem rgs_setHi (l : List Rg) (k : Nat) (f : Rg) (x : Int) (h : l[k]? = some f) : (rgs l).set (k * 2 + 1) (.int .i64 x) = rgs (l.set k ⟨f.lo, x⟩) := by
  have hk : k < l.length := (List.getElem?_eq_some_iff.1 h).1
  rw [← rgs_set l k ⟨f.lo, x⟩ hk]
  have e : (rgs l).set (k * 2) (.int .i64 f.lo) = rgs l := by
    apply List.ext_getElem?
    intro i
    by_cases hi : k * 2 = i
    · subst hi
      rw [List.getElem?_set_self (by rw [rgs_length]; omega), rgs_0 h]
    · rw [List.getElem?_set_ne hi]
  rw [e]

def rg0 : Rg := ⟨0, 0⟩
def laidR (l : List Rg) (k : Nat) : List Rg := l.take k ++ List.replicate (l.length - k) rg0
theorem laidR_zero (l : List Rg) : laidR l 0 = List.replicate l.length rg0 := by simp [laidR]
theorem laidR_all (l : List Rg) : laidR l l.length = l := by simp [laidR]
theorem laidR_length (l : List Rg) (k : Nat) (h : k ≤ l.length) : (laidR l k).length = l.length := by simp [laidR]; omega
theorem laidR_set (l : List Rg) (k : Nat) (h : k < l.length) : (laidR l k).set k l[k] = laidR l (k + 1) := by
  unfold laidR
  have e : l.length - k = (l.length - (k + 1)) + 1 := by omega
  rw [List.set_append_right _ _ (by simp; omega), e, List.replicate_succ]
  have : k - (l.take k).length = 0 := by simp; omega
  rw [this, List.set_cons_zero, List.take_succ_eq_append_getElem h, List.append_assoc]
  rfl

/-- Marks: k0, k0 + 1, .. in the cells of n ranges. -/
def mkR (k : Nat) : Rg := ⟨(k : Int), (k : Int) + 1⟩
def marksR (k0 n : Nat) : List Rg := (List.range n).map fun i => mkR (k0 + i * 2)
theorem marksR_length (k0 n : Nat) : (marksR k0 n).length = n := by simp [marksR]
theorem marksR_get {k0 n i : Nat} (h : i < n) : (marksR k0 n)[i]? = some (mkR (k0 + i * 2)) := by simp [marksR, h]
def markedR (k0 : Nat) (l : List Rg) (i : Nat) : List Rg := marksR k0 i ++ l.drop i
theorem markedR_zero (k0 : Nat) (l : List Rg) : markedR k0 l 0 = l := by simp [markedR, marksR]
theorem markedR_all {k0 : Nat} {l : List Rg} : markedR k0 l l.length = marksR k0 l.length := by simp [markedR]
theorem markedR_length {k0 i : Nat} {l : List Rg} (h : i ≤ l.length) : (markedR k0 l i).length = l.length := by simp [markedR, marksR]; omega
theorem markedR_set {k0 i : Nat} {l : List Rg} (h : i < l.length) : (markedR k0 l i).set i (mkR (k0 + i * 2)) = markedR k0 l (i + 1) := by
  unfold markedR
  rw [List.set_append_right _ _ (by simp [marksR])]
  have e : i - (marksR k0 i).length = 0 := by simp [marksR]
  rw [e, List.drop_eq_getElem_cons h, List.set_cons_zero]
  simp [marksR, List.range_succ]

/- Sets of numbers. -/
/-- Ranges in order, none meeting the one ahead of it, whose upper end is p. -/
def okFrom : Int → List Rg → Bool
  | _, [] => true
  | p, r :: t => decide (1 ≤ r.lo) && decide (r.lo ≤ r.hi) && decide (r.hi ≤ 9999) && decide (p + 1 < r.lo) && okFrom r.hi t
def okS (s : List Rg) : Bool := okFrom (-1) s && decide (s.length ≤ 40)
def hasB (s : List Rg) (n : Int) : Bool := s.any fun r => decide (r.lo ≤ n) && decide (n ≤ r.hi)

theorem okFrom_cons {p : Int} {r : Rg} {t : List Rg} : okFrom p (r :: t) = true ↔ 1 ≤ r.lo ∧ r.lo ≤ r.hi ∧ r.hi ≤ 9999 ∧ p + 1 < r.lo ∧ okFrom r.hi t = true := by
  simp [okFrom, and_assoc]
theorem okFrom_mono {p q : Int} {t : List Rg} (h : okFrom p t = true) (hq : q ≤ p) : okFrom q t = true := by
  cases t with
  | nil => rfl
  | cons r t =>
    rw [okFrom_cons] at h ⊢
    exact ⟨h.1, h.2.1, h.2.2.1, by omega, h.2.2.2.2⟩
theorem hasB_cons (r : Rg) (t : List Rg) (n : Int) : hasB (r :: t) n = ((decide (r.lo ≤ n) && decide (n ≤ r.hi)) || hasB t n) := by simp [hasB]
theorem hasB_append (a b : List Rg) (n : Int) : hasB (a ++ b) n = (hasB a n || hasB b n) := by simp [hasB]
theorem hasB_nil (n : Int) : hasB [] n = false := rfl
/-- All of a right row lies beyond what is ahead of it, and up to 9999. -/
theorem has_low {p : Int} {t : List Rg} (h : okFrom p t = true) {n : Int} (hn : hasB t n = true) : p + 1 < n ∧ 1 ≤ n ∧ n ≤ 9999 := by
  induction t generalizing p with
  | nil => simp [hasB] at hn
  | cons r t ih =>
    rw [okFrom_cons] at h
    rw [hasB_cons] at hn
    obtain ⟨h1, h2, h3, h4, h5⟩ := h
    rcases Bool.or_eq_true _ _ ▸ hn with hx | hx
    · simp at hx; omega
    · have := ih h5 hx
      omega
theorem hasB_no {p : Int} {t : List Rg} (h : okFrom p t = true) {n : Int} (hn : n ≤ p + 1) : hasB t n = false := by
  cases hx : hasB t n with
  | false => rfl
  | true => have := has_low h hx; omega

/-- Two right rows with the same numbers are the same. -/
theorem set_unique : ∀ (s t : List Rg) (p q : Int), okFrom p s = true → okFrom q t = true → (∀ n, hasB s n = hasB t n) → s = t := by
  intro s
  induction s with
  | nil =>
    intro t p q hs ht h
    cases t with
    | nil => rfl
    | cons u t =>
      rw [okFrom_cons] at ht
      have := h u.lo
      rw [hasB_nil, hasB_cons] at this
      simp at this
      omega
  | cons r s ih =>
    intro t p q hs ht h
    cases t with
    | nil =>
      rw [okFrom_cons] at hs
      have := h r.lo
      rw [hasB_nil, hasB_cons] at this
      simp at this
      omega
    | cons u t =>
      rw [okFrom_cons] at hs ht
      obtain ⟨a1, a2, a3, a4, a5⟩ := hs
      obtain ⟨b1, b2, b3, b4, b5⟩ := ht
      have below : ∀ (x : Rg) (y : List Rg), okFrom x.hi y = true → x.lo ≤ x.hi → ∀ n, n < x.lo → hasB (x :: y) n = false := by
        intro x y hy hx n hn
        rw [hasB_cons, hasB_no hy (by omega), decide_eq_false (show ¬ x.lo ≤ n by omega)]
        rfl
      have inside : ∀ (x : Rg) (y : List Rg) n, x.lo ≤ n → n ≤ x.hi → hasB (x :: y) n = true := by
        intro x y n h1 h2
        rw [hasB_cons, decide_eq_true h1, decide_eq_true h2]; rfl
      have after : ∀ (x : Rg) (y : List Rg), okFrom x.hi y = true → hasB (x :: y) (x.hi + 1) = false := by
        intro x y hy
        rw [hasB_cons, hasB_no hy (by omega), decide_eq_false (show ¬ x.hi + 1 ≤ x.hi by omega), Bool.and_false]
        rfl
      have elo : r.lo = u.lo := by
        have h1 := h r.lo
        have h2 := h u.lo
        rw [inside r s r.lo (by omega) a2] at h1
        rw [inside u t u.lo (by omega) b2] at h2
        rcases Int.lt_trichotomy r.lo u.lo with hl | hl | hl
        · rw [below u t b5 b2 r.lo hl] at h1; cases h1
        · exact hl
        · rw [below r s a5 a2 u.lo hl] at h2; cases h2
      have ehi : r.hi = u.hi := by
        rcases Int.lt_trichotomy r.hi u.hi with hl | hl | hl
        · have h1 := h (r.hi + 1)
          rw [after r s a5, inside u t (r.hi + 1) (by omega) (by omega)] at h1
          cases h1
        · exact hl
        · have h1 := h (u.hi + 1)
          rw [after u t b5, inside r s (u.hi + 1) (by omega) (by omega)] at h1
          cases h1
      have e : r = u := by cases r; cases u; simp at elo ehi; rw [elo, ehi]
      subst e
      rw [ih t r.hi r.hi a5 b5 (fun n => ?_)]
      have hn := h n
      rw [hasB_cons, hasB_cons] at hn
      by_cases hr : n ≤ r.hi
      · rw [hasB_no a5 (by omega), hasB_no b5 (by omega)]
      · rw [decide_eq_false hr, Bool.and_false, Bool.false_or, Bool.false_or] at hn
        exact hn
end Go.Proofs.YtjaohlnejkgkaaaGreatDoor.Plain

/- Sets of numbers as marks, and the ranges of what is marked. Nothing of the program stands here. -/
namespace Go.Proofs.YtjaohlnejkgkaaaGreatDoor.Plain
set_option linter.unusedVariables false

/-- The upper end of the last one. -/
def lastHi (p : Int) (s : List Rg) : Int := (s.getLast?.map (·.hi)).getD p
theorem lastHi_nil (p : Int) : lastHi p [] = p := rfl
theorem lastHi_snoc (p : Int) (a : List Rg) (r : Rg) : lastHi p (a ++ [r]) = r.hi := by simp [lastHi]
theorem lastHi_cons (p : Int) (r : Rg) (t : List Rg) : lastHi p (r :: t) = lastHi r.hi t := by
  cases t with
  | nil => rfl
  | cons u t => unfold lastHi; rw [List.getLast?_cons_cons, List.getLast?_eq_some_getLast (by simp)]; rfl
theorem okFrom_snoc {p : Int} {a : List Rg} {r : Rg} : okFrom p (a ++ [r]) = true ↔ okFrom p a = true ∧ 1 ≤ r.lo ∧ r.lo ≤ r.hi ∧ r.hi ≤ 9999 ∧ lastHi p a + 1 < r.lo := by
  induction a generalizing p with
  | nil => rw [List.nil_append, okFrom_cons, lastHi_nil]; simp [okFrom]
  | cons u t ih =>
    rw [List.cons_append, okFrom_cons, okFrom_cons, ih, lastHi_cons]
    simp only [and_assoc]

/-- The ranges of what is marked up to n. -/
def runsTo (b : Nat → Bool) : Nat → List Rg
  | 0 => []
  | n + 1 =>
    if b (n + 1) then
      (if b n then (runsTo b n).dropLast ++ [⟨((runsTo b n).getLast?.getD rg0).lo, (n + 1 : Nat)⟩] else runsTo b n ++ [⟨(n + 1 : Nat), (n + 1 : Nat)⟩])
    else runsTo b n

theorem runsTo_off {b : Nat → Bool} {n : Nat} (h : b (n + 1) = false) : runsTo b (n + 1) = runsTo b n := by rw [runsTo, h]; rfl
theorem runsTo_new {b : Nat → Bool} {n : Nat} (h : b (n + 1) = true) (h2 : b n = false) : runsTo b (n + 1) = runsTo b n ++ [⟨(n + 1 : Nat), (n + 1 : Nat)⟩] := by rw [runsTo, h, h2]; rfl
theorem runsTo_on {b : Nat → Bool} {n : Nat} {a : List Rg} {r : Rg} (h : b (n + 1) = true) (h2 : b n = true) (hs : runsTo b n = a ++ [r]) : runsTo b (n + 1) = a ++ [⟨r.lo, (n + 1 : Nat)⟩] := by
  rw [runsTo, h, h2, hs]; simp

theorem runs_inv (b : Nat → Bool) (h0 : b 0 = false) : ∀ n, n ≤ 9999 → okFrom (-1) (runsTo b n) = true ∧ (∀ m : Int, hasB (runsTo b n) m = (decide (1 ≤ m ∧ m ≤ n) && b m.toNat)) ∧
    (b n = true → ∃ (a : List Rg) (r : Rg), runsTo b n = a ++ [r] ∧ r.hi = (n : Int)) ∧ (b n = false → lastHi (-1) (runsTo b n) < n) ∧ lastHi (-1) (runsTo b n) ≤ n := by
  intro n
  induction n with
  | zero =>
    intro _
    refine ⟨rfl, fun m => ?_, fun h => (by rw [h0] at h; cases h), fun _ => (by simp [runsTo, lastHi_nil]), by simp [runsTo, lastHi_nil]⟩
    rw [runsTo, hasB_nil]
    by_cases hm : 1 ≤ m ∧ m ≤ ((0 : Nat) : Int)
    · omega
    · rw [decide_eq_false hm]; rfl
  | succ n ih =>
    intro hn
    obtain ⟨i1, i2, i3, i4, i5⟩ := ih (by omega)
    cases hb : b (n + 1) with
    | false =>
      rw [runsTo_off hb]
      refine ⟨i1, fun m => ?_, fun h => (by cases h), fun _ => (by omega), by omega⟩
      rw [i2 m]
      by_cases hm : 1 ≤ m ∧ m ≤ (n : Int)
      · rw [decide_eq_true hm, decide_eq_true (show 1 ≤ m ∧ m ≤ ((n + 1 : Nat) : Int) by omega)]
      · by_cases hm2 : m = ((n + 1 : Nat) : Int)
        · subst hm2
          rw [decide_eq_false hm, Int.toNat_natCast, hb]; simp
        · rw [decide_eq_false hm, decide_eq_false (show ¬ (1 ≤ m ∧ m ≤ ((n + 1 : Nat) : Int)) by omega)]
    | true =>
      cases hc : b n with
      | false =>
        have hl := i4 hc
        rw [runsTo_new hb hc]
        refine ⟨okFrom_snoc.2 ⟨i1, (by show (1 : Int) ≤ ((n + 1 : Nat) : Int); omega), Int.le_refl _, (by show ((n + 1 : Nat) : Int) ≤ 9999; omega), (by show lastHi (-1) (runsTo b n) + 1 < ((n + 1 : Nat) : Int); omega)⟩, fun m => ?_, fun _ => ⟨_, _, rfl, rfl⟩, fun h => (by cases h), by rw [lastHi_snoc]; exact Int.le_refl _⟩
        rw [hasB_append, i2 m, hasB_cons, hasB_nil, Bool.or_false]
        by_cases hm2 : m = ((n + 1 : Nat) : Int)
        · subst hm2
          simp only [Int.toNat_natCast, hb]
          simp
          omega
        · by_cases hm : 1 ≤ m ∧ m ≤ (n : Int)
          · rw [decide_eq_true hm, decide_eq_true (show 1 ≤ m ∧ m ≤ ((n + 1 : Nat) : Int) by omega), decide_eq_false (show ¬ ((n + 1 : Nat) : Int) ≤ m by omega)]; simp
          · rw [decide_eq_false hm, decide_eq_false (show ¬ (1 ≤ m ∧ m ≤ ((n + 1 : Nat) : Int)) by omega)]
            by_cases hx : ((n + 1 : Nat) : Int) ≤ m
            · rw [decide_eq_false (show ¬ m ≤ ((n + 1 : Nat) : Int) by omega)]; simp
            · rw [decide_eq_false hx]; simp
      | true =>
        obtain ⟨a, r, hs, hr⟩ := i3 hc
        rw [runsTo_on hb hc hs]
        rw [hs] at i1 i2
        obtain ⟨o1, o2, o3, o4, o5⟩ := okFrom_snoc.1 i1
        refine ⟨okFrom_snoc.2 ⟨o1, o2, (by show r.lo ≤ ((n + 1 : Nat) : Int); omega), (by show ((n + 1 : Nat) : Int) ≤ 9999; omega), o5⟩, fun m => ?_, fun _ => ⟨_, _, rfl, rfl⟩, fun h => (by cases h), by rw [lastHi_snoc]; exact Int.le_refl _⟩
        have hm' := i2 m
        rw [hasB_append, hasB_cons, hasB_nil, Bool.or_false] at hm' ⊢
        simp only [hr] at hm'
        by_cases hm2 : m = ((n + 1 : Nat) : Int)
        · subst hm2
          simp only [Int.toNat_natCast, hb]
          rw [decide_eq_true (show r.lo ≤ ((n + 1 : Nat) : Int) by omega), decide_eq_true (Int.le_refl ((n + 1 : Nat) : Int)), decide_eq_true (show 1 ≤ ((n + 1 : Nat) : Int) ∧ ((n + 1 : Nat) : Int) ≤ ((n + 1 : Nat) : Int) by omega)]
          simp
        · by_cases hm : m ≤ (n : Int)
          · rw [decide_eq_true hm] at hm'
            rw [decide_eq_true (show m ≤ ((n + 1 : Nat) : Int) by omega), hm']
            by_cases h1 : 1 ≤ m
            · rw [decide_eq_true (show 1 ≤ m ∧ m ≤ (n : Int) by omega), decide_eq_true (show 1 ≤ m ∧ m ≤ ((n + 1 : Nat) : Int) by omega)]
            · rw [decide_eq_false (show ¬ (1 ≤ m ∧ m ≤ (n : Int)) by omega), decide_eq_false (show ¬ (1 ≤ m ∧ m ≤ ((n + 1 : Nat) : Int)) by omega)]
          · rw [decide_eq_false hm, Bool.and_false, Bool.or_false, decide_eq_false (show ¬ (1 ≤ m ∧ m ≤ (n : Int)) by omega), Bool.false_and] at hm'
            rw [hm', decide_eq_false (show ¬ m ≤ ((n + 1 : Nat) : Int) by omega), decide_eq_false (show ¬ (1 ≤ m ∧ m ≤ ((n + 1 : Nat) : Int)) by omega)]
            simp

theorem runs_len (b : Nat → Bool) : ∀ n, (runsTo b n).length ≤ n := by
  intro n
  induction n with
  | zero => simp [runsTo]
  | succ n ih =>
    rw [runsTo]
    split
    · split
      · simp; omega
      · simp; omega
    · omega

/-- The set of what is marked. -/
def setOf (b : Nat → Bool) : List Rg := runsTo b 9999
theorem setOf_ok (b : Nat → Bool) (h0 : b 0 = false) : okFrom (-1) (setOf b) = true := (runs_inv b h0 9999 (Nat.le_refl _)).1
theorem setOf_has (b : Nat → Bool) (h0 : b 0 = false) (m : Int) : hasB (setOf b) m = (decide (1 ≤ m ∧ m ≤ 9999) && b m.toNat) := (runs_inv b h0 9999 (Nat.le_refl _)).2.1 m
/-- A right row with these numbers is that set. -/
theorem setOf_is {b : Nat → Bool} (h0 : b 0 = false) {s : List Rg} {p : Int} (h : okFrom p s = true) (hb : ∀ m : Int, 1 ≤ m → m ≤ 9999 → hasB s m = b m.toNat) : s = setOf b := by
  refine set_unique s _ p (-1) h (setOf_ok b h0) (fun n => ?_)
  rw [setOf_has b h0]
  by_cases hn : 1 ≤ n ∧ n ≤ 9999
  · rw [decide_eq_true hn, Bool.true_and, hb n hn.1 hn.2]
  · rw [decide_eq_false hn, Bool.false_and]
    cases hx : hasB s n with
    | false => rfl
    | true => have := has_low h hx; omega

def bitsOf (s : List Rg) (n : Nat) : Bool := hasB s (n : Int)
theorem bitsOf_zero {s : List Rg} {p : Int} (h : okFrom p s = true) : bitsOf s 0 = false := by
  cases hx : bitsOf s 0 with
  | false => rfl
  | true => have := has_low h hx; simp at this
theorem set_back {s : List Rg} {p : Int} (h : okFrom p s = true) : setOf (bitsOf s) = s :=
  (setOf_is (bitsOf_zero h) h (fun m h1 h2 => by unfold bitsOf; rw [Int.toNat_of_nonneg (by omega)])).symm

/-- The set of what is marked, if it is right. -/
def setV (b : Nat → Bool) : List Rg × Bool := if (setOf b).length ≤ 40 then (setOf b, true) else ([], false)
def putB (s : List Rg) (lo hi : Int) (c : Bool) (n : Nat) : Bool := if lo ≤ (n : Int) ∧ (n : Int) ≤ hi then c else bitsOf s n
/-- A set with some put in or taken out. -/
def putV (s : List Rg) (lo hi : Int) (c : Bool) : List Rg × Bool :=
  if okS s = true ∧ 1 ≤ lo ∧ lo ≤ hi ∧ hi ≤ 9999 then (if (setOf (putB s lo hi c)).length ≤ 40 then (setOf (putB s lo hi c), true) else (s, false)) else (s, false)
def twoB (a b : List Rg) (both : Bool) (n : Nat) : Bool := if both then bitsOf a n && bitsOf b n else bitsOf a n || bitsOf b n
/-- What two sets have, either or both. -/
def twoV (a b : List Rg) (both : Bool) : List Rg × Bool := if okS a = true ∧ okS b = true then setV (twoB a b both) else ([], false)
def sizeL (s : List Rg) : Int := if okS s = true then s.foldl (fun n r => n + r.hi - r.lo + 1) 0 else 0
end Go.Proofs.YtjaohlnejkgkaaaGreatDoor.Plain

/- Plain facts on the reading of a number out of bytes. Nothing of the program stands here. -/
namespace Go.Proofs.YtjaohlnejkgkaaaGreatDoor.Plain
open Go.RowKit

/-- The bytes from A on, up to k. -/
def seg (l : List UInt8) (A k : Nat) : List UInt8 := (l.take k).drop A

theorem seg_length {l : List UInt8} {A k : Nat} (h2 : k ≤ l.length) : (seg l A k).length = k - A := by
  unfold seg; rw [List.length_drop, List.length_take]; omega

theorem seg_same (l : List UInt8) (A : Nat) : seg l A A = [] := by
  unfold seg; apply List.eq_nil_of_length_eq_zero; rw [List.length_drop, List.length_take]; omega

theorem seg_succ {l : List UInt8} {A k : Nat} {b : UInt8} (h1 : A ≤ k) (hb : l[k]? = some b) : seg l A (k + 1) = seg l A k ++ [b] := by
  have hk : k < l.length := (List.getElem?_eq_some_iff.1 hb).1
  have e : l[k] = b := (List.getElem?_eq_some_iff.1 hb).2
  unfold seg
  rw [List.take_succ_eq_append_getElem hk, List.drop_append_of_le_length (by rw [List.length_take]; omega), e]

theorem drop_eq {l : List UInt8} {k : Nat} {b : UInt8} (hb : l[k]? = some b) : l.drop k = b :: l.drop (k + 1) := by
  have hk : k < l.length := (List.getElem?_eq_some_iff.1 hb).1
  have e : l[k] = b := (List.getElem?_eq_some_iff.1 hb).2
  rw [List.drop_eq_getElem_cons hk, e]

/-- Behind some rounds of the reading. -/
def RdInv (l : List UInt8) (A k n sc : Nat) : Prop :=
  A ≤ k ∧ k ≤ l.length ∧ k ≤ A + 5 ∧ n = valL (seg l A k) ∧ sc = 128 ^ (k - A) ∧ (∀ x ∈ seg l A k, 128 ≤ x.toNat) ∧
    rdL 5 [] (l.drop A) = rdL (5 - (k - A)) (seg l A k) (l.drop k)

/-- The number, a byte later. -/
def rdn (m c x : Nat) : Nat := m + x % 128 * c

theorem rdn_le (m c x : Nat) (hm : m < c) (hc : c ≤ 268435456) : rdn m c x ≤ 34359738368 := by
  unfold rdn
  have h := Nat.mul_le_mul (show x % 128 ≤ 127 by omega) hc
  omega

theorem wrapRd (m c x : Nat) (hm : m < c) (hc : c ≤ 268435456) : wrap64 ((m : Int) + wrap64 ((x : Int) % 128 * (c : Int))) = ((rdn m c x : Nat) : Int) := by
  have h := Nat.mul_le_mul (show x % 128 ≤ 127 by omega) hc
  have h2 : (x : Int) % 128 = ((x % 128 : Nat) : Int) := rfl
  rw [h2, ← Int.natCast_mul]
  unfold rdn
  generalize x % 128 * c = y at h ⊢
  have h3 : wrap64 (y : Int) = (y : Int) := by simp only [wrap64]; omega
  rw [h3]
  simp only [wrap64]
  omega

theorem RdInv.start (l : List UInt8) (A : Nat) (h : A ≤ l.length) : RdInv l A A 0 1 := by
  refine ⟨Nat.le_refl _, h, by omega, ?_, ?_, ?_, ?_⟩
  · rw [seg_same]; rfl
  · simp
  · rw [seg_same]; simp
  · rw [seg_same]; simp

theorem RdInv.bound {l : List UInt8} {A k n sc : Nat} (h : RdInv l A k n sc) : n < sc ∧ 1 ≤ sc ∧ (sc = 1 ∨ sc = 128 ∨ sc = 16384 ∨ sc = 2097152 ∨ sc = 268435456 ∨ sc = 34359738368) ∧ (k < A + 5 → sc ≤ 268435456) ∧ (k = A + 5 → sc = 34359738368) := by
  obtain ⟨h1, h2, h3, h4, h5, h6, h7⟩ := h
  have hv := valL_lt (seg l A k)
  rw [seg_length h2, ← h4, ← h5] at hv
  have hd : k - A = 0 ∨ k - A = 1 ∨ k - A = 2 ∨ k - A = 3 ∨ k - A = 4 ∨ k - A = 5 := by omega
  rcases hd with e | e | e | e | e | e <;> rw [e] at h5 <;> simp at h5 <;> subst h5 <;> refine ⟨hv, by omega, by omega, by omega, by omega⟩

theorem RdInv.step {l : List UInt8} {A k n sc : Nat} {b : UInt8} (h : RdInv l A k n sc) (hb : l[k]? = some b) (hk : k < A + 5) (h128 : 128 ≤ b.toNat) :
    RdInv l A (k + 1) (rdn n sc b.toNat) (sc * 128) := by
  obtain ⟨h1, h2, h3, h4, h5, h6, h7⟩ := h
  have hkl : k < l.length := (List.getElem?_eq_some_iff.1 hb).1
  refine ⟨by omega, by omega, by omega, ?_, ?_, ?_, ?_⟩
  · rw [seg_succ h1 hb, valL_append, seg_length h2, ← h4, ← h5]; rfl
  · rw [show k + 1 - A = (k - A) + 1 from by omega, Nat.pow_succ, h5]
  · rw [seg_succ h1 hb]
    intro x hx
    rcases List.mem_append.1 hx with hx | hx
    · exact h6 x hx
    · simp at hx; subst hx; exact h128
  · rw [h7, drop_eq hb, show 5 - (k - A) = (5 - (k + 1 - A)) + 1 from by omega, seg_succ h1 hb]
    rw [rdL, if_neg (by omega)]

theorem RdInv.last {l : List UInt8} {A k n sc : Nat} {b : UInt8} (h : RdInv l A k n sc) (hb : l[k]? = some b) (hk : k < A + 5) (h128 : b.toNat < 128) :
    rdL 5 [] (l.drop A) = if rdn n sc b.toNat ≤ 1000000000 ∧ varL (rdn n sc b.toNat) = seg l A (k + 1) then some (rdn n sc b.toNat, k + 1 - A) else none := by
  obtain ⟨h1, h2, h3, h4, h5, h6, h7⟩ := h
  have hn : rdn n sc b.toNat = valL (seg l A k ++ [b]) := by rw [valL_append, seg_length h2, ← h4, ← h5]; rfl
  rw [hn, seg_succ h1 hb, h7, drop_eq hb, show 5 - (k - A) = (5 - (k + 1 - A)) + 1 from by omega, rdL, if_pos h128, seg_length h2, show k - A + 1 = k + 1 - A from by omega]

theorem RdInv.canon {l : List UInt8} {A k n sc : Nat} {b : UInt8} (h : RdInv l A k n sc) (hb : l[k]? = some b) (hk : k < A + 5) (h128 : b.toNat < 128) :
    varL (rdn n sc b.toNat) = seg l A (k + 1) ↔ ¬ (b.toNat = 0 ∧ A < k) := by
  obtain ⟨h1, h2, h3, h4, h5, h6, h7⟩ := h
  have hn : rdn n sc b.toNat = valL (seg l A k ++ [b]) := by rw [valL_append, seg_length h2, ← h4, ← h5]; rfl
  rw [hn, seg_succ h1 hb, Plain.canon _ b h6 (by rw [seg_length h2]; omega) h128, seg_length h2]
  constructor
  · intro h ⟨x, y⟩; exact h ⟨x, by omega⟩
  · intro h ⟨x, y⟩; exact h ⟨x, by omega⟩

theorem RdInv.stop {l : List UInt8} {A k n sc : Nat} (h : RdInv l A k n sc) (hk : k = l.length ∨ k = A + 5) : rdL 5 [] (l.drop A) = none := by
  obtain ⟨h1, h2, h3, h4, h5, h6, h7⟩ := h
  rw [h7]
  rcases hk with e | e
  · rw [e, List.drop_length]
    cases 5 - (l.length - A) <;> rfl
  · rw [e, show 5 - (A + 5 - A) = 0 from by omega]; rfl

/-- The answer of a reading. -/
def rvV (A : Nat) : Option (Nat × Nat) → Value
  | some (n, d) => .tuple #[.int .i64 n, .int .i64 ((A + d : Nat) : Int), .bool true]
  | none => .tuple #[.int .i64 0, .int .i64 0, .bool false]

theorem rd_le {f : Nat} {pre r : List UInt8} {n d : Nat} (h : rdL f pre r = some (n, d)) : d ≤ pre.length + r.length ∧ 1 ≤ d ∧ n ≤ 1000000000 := by
  induction f generalizing pre r with
  | zero => simp [rdL] at h
  | succ f ih =>
    cases r with
    | nil => simp [rdL] at h
    | cons b r =>
      rw [rdL] at h
      split at h
      · split at h
        · rename_i h3
          simp at h
          obtain ⟨h1, h2⟩ := h
          simp; omega
        · cases h
      · have := ih h
        simp at this ⊢
        omega

theorem byte_at {s : ByteArray} {k : Nat} (h : k < s.size) : s.data.toList[k]? = some s[k] := by
  rw [Array.getElem?_toList]; exact Array.getElem?_eq_getElem h

theorem ext_seg (s : ByteArray) (A k : Nat) : (s.extract A k).toList = seg s.data.toList A k := by
  rw [ByteArray.toList_eq, Lib.extract_data, seg, List.drop_take]

theorem rv_yes {A k y : Nat} {l : List UInt8} (hAk : A ≤ k) (h : rdL 5 [] (l.drop A) = if y ≤ 1000000000 ∧ varL y = seg l A (k + 1) then some (y, k + 1 - A) else none)
    (h1 : ¬ 1000000000 < y) (h2 : varL y = seg l A (k + 1)) : rvV A (rdL 5 [] (l.drop A)) = .tuple #[.int .i64 y, .int .i64 ((k : Int) + 1), .bool true] := by
  rw [h, if_pos ⟨by omega, h2⟩]
  simp only [rvV]
  rw [show A + (k + 1 - A) = k + 1 from by omega]
  rfl

theorem rv_no {A k y : Nat} {l : List UInt8} (h : rdL 5 [] (l.drop A) = if y ≤ 1000000000 ∧ varL y = seg l A (k + 1) then some (y, k + 1 - A) else none)
    (h1 : 1000000000 < y ∨ varL y ≠ seg l A (k + 1)) : rvV A (rdL 5 [] (l.drop A)) = .tuple #[.int .i64 0, .int .i64 0, .bool false] := by
  rw [h, if_neg (by rintro ⟨x, z⟩; rcases h1 with h1 | h1; omega; exact h1 z)]
  rfl

end Go.Proofs.YtjaohlnejkgkaaaGreatDoor.Plain

/- The set that a text tells, plainly. Nothing of the program stands here. -/
namespace Go.Proofs.YtjaohlnejkgkaaaGreatDoor.Plain
open Go.RowKit
set_option linter.unusedVariables false

/-- Pieces with c between. -/
def cutsL (c : UInt8) : List UInt8 → List (List UInt8)
  | [] => [[]]
  | b :: r => if b = c then [] :: cutsL c r else match cutsL c r with
    | h :: t => (b :: h) :: t
    | [] => [[b]]
theorem cuts_one {c : UInt8} : ∀ (p : List UInt8), (∀ b ∈ p, b ≠ c) → cutsL c p = [p] := by
  intro p
  induction p with
  | nil => intro _; rfl
  | cons b r ih =>
    intro h
    rw [cutsL, if_neg (h b (by simp)), ih (fun x hx => h x (by simp [hx]))]
theorem cuts_at {c : UInt8} : ∀ (p r : List UInt8), (∀ b ∈ p, b ≠ c) → cutsL c (p ++ c :: r) = p :: cutsL c r := by
  intro p
  induction p with
  | nil => intro r _; rw [List.nil_append, cutsL, if_pos rfl]
  | cons b q ih =>
    intro r h
    rw [List.cons_append, cutsL, if_neg (h b (by simp)), ih r (fun x hx => h x (by simp [hx]))]

def figOk (b : UInt8) : Bool := decide (48 ≤ b.toNat) && decide (b.toNat ≤ 57)
def figsV (t : List UInt8) : Int := t.foldl (fun n b => 10 * n + (b.toNat : Int) - 48) 0
theorem figsV_snoc (t : List UInt8) (b : UInt8) : figsV (t ++ [b]) = 10 * figsV t + (b.toNat : Int) - 48 := by simp [figsV]
theorem figs_from : ∀ (t : List UInt8) (n : Int), 0 ≤ n → t.all figOk = true → 0 ≤ t.foldl (fun n b => 10 * n + (b.toNat : Int) - 48) n ∧ t.foldl (fun n b => 10 * n + (b.toNat : Int) - 48) n < (n + 1) * 10 ^ t.length := by
  intro t
  induction t with
  | nil => intro n hn _; simp; omega
  | cons b t ih =>
    intro n hn h
    rw [List.all_cons, Bool.and_eq_true] at h
    have hb : 48 ≤ b.toNat ∧ b.toNat ≤ 57 := by simpa [figOk] using h.1
    obtain ⟨i1, i2⟩ := ih (10 * n + (b.toNat : Int) - 48) (by omega) h.2
    rw [List.foldl_cons, List.length_cons]
    refine ⟨i1, Int.lt_of_lt_of_le i2 ?_⟩
    have hp : (0 : Int) ≤ 10 ^ t.length := Int.pow_nonneg (by decide)
    have := Int.mul_le_mul_of_nonneg_right (show 10 * n + (b.toNat : Int) - 48 + 1 ≤ (n + 1) * 10 by omega) hp
    rw [Int.pow_succ, Int.mul_comm (10 ^ t.length) 10, ← Int.mul_assoc]
    exact this
theorem figsV_bound (t : List UInt8) (h : t.all figOk = true) : 0 ≤ figsV t ∧ figsV t < 10 ^ t.length := by
  have := figs_from t 0 (Int.le_refl _) h
  simpa [figsV] using this
/-- The number of a part. -/
def numV (t : List UInt8) (last : Int) : Int × Bool :=
  if t = [42] then (last, true)
  else if 1 ≤ t.length ∧ t.length ≤ 4 then (if t.all figOk then (figsV t, decide (1 ≤ figsV t)) else (0, false))
  else (0, false)
theorem num_ok {t : List UInt8} {last : Int} (h1 : 1 ≤ last) (h2 : last ≤ 9999) (h : (numV t last).2 = true) : 1 ≤ (numV t last).1 ∧ (numV t last).1 ≤ 9999 := by
  unfold numV at h ⊢
  split
  · exact ⟨h1, h2⟩
  · rename_i hs
    rw [if_neg hs] at h
    split
    · rename_i hl
      rw [if_pos hl] at h
      split
      · rename_i ha
        rw [if_pos ha] at h
        have := figsV_bound t ha
        have hp : (10 : Int) ^ t.length ≤ 10000 := by
          have : t.length = 1 ∨ t.length = 2 ∨ t.length = 3 ∨ t.length = 4 := by omega
          rcases this with e | e | e | e <;> rw [e] <;> decide
        have h3 : 1 ≤ figsV t := by simpa using h
        exact ⟨h3, by omega⟩
      · rename_i ha
        rw [if_neg ha] at h
        cases h
    · rename_i hl
      rw [if_neg hl] at h
      cases h
def upV (x y : Int × Bool) : Int × Int × Bool := if y.1 < x.1 then (y.1, x.1, x.2 && y.2) else (x.1, y.1, x.2 && y.2)
/-- What a part tells: i is the place of its first ':'. -/
def partV (t : List UInt8) (last : Int) : Int × Int × Bool :=
  match t.idxOf? 58 with
  | some i => upV (numV (t.take i) last) (numV (t.drop (i + 1)) last)
  | none => ((numV t last).1, (numV t last).1, (numV t last).2)
theorem part_at {t : List UInt8} {last : Int} {i : Nat} (h1 : ∀ b ∈ t.take i, b ≠ 58) (h2 : t[i]? = some 58) : partV t last = upV (numV (t.take i) last) (numV (t.drop (i + 1)) last) := by
  have hi : i < t.length := (List.getElem?_eq_some_iff.1 h2).1
  have e : t.idxOf? 58 = some i := by
    unfold List.idxOf?
    rw [List.findIdx?_eq_some_iff_getElem]
    refine ⟨hi, ?_, fun j hj => ?_⟩
    · simp [(List.getElem?_eq_some_iff.1 h2).2]
    · have hm : t[j] ∈ t.take i := by
        rw [List.mem_take_iff_getElem]
        exact ⟨j, by omega, rfl⟩
      simpa using h1 _ hm
  unfold partV
  rw [e]
theorem part_no {t : List UInt8} {last : Int} (h : ∀ b ∈ t, b ≠ 58) : partV t last = ((numV t last).1, (numV t last).1, (numV t last).2) := by
  have e : t.idxOf? 58 = none := by
    unfold List.idxOf?
    rw [List.findIdx?_eq_none_iff]
    intro x hx
    simpa using h x hx
  unfold partV
  rw [e]
theorem part_ok {t : List UInt8} {last : Int} (h1 : 1 ≤ last) (h2 : last ≤ 9999) (h : (partV t last).2.2 = true) : 1 ≤ (partV t last).1 ∧ (partV t last).1 ≤ (partV t last).2.1 ∧ (partV t last).2.1 ≤ 9999 := by
  unfold partV at h ⊢
  split
  · rename_i i hi
    rw [hi] at h
    simp only at h
    unfold upV at h ⊢
    have hb : (numV (t.take i) last).2 = true ∧ (numV (t.drop (i + 1)) last).2 = true := by
      split at h <;> simpa using h
    have a := num_ok h1 h2 hb.1
    have b := num_ok h1 h2 hb.2
    split
    · simp only; omega
    · simp only; omega
  · rename_i hi
    rw [hi] at h
    have a := num_ok h1 h2 h
    simp only
    omega
/-- What the parts mark. -/
def marksV (ps : List (List UInt8)) (last : Int) (n : Nat) : Bool := ps.any fun p => decide ((partV p last).1 ≤ (n : Int)) && decide ((n : Int) ≤ (partV p last).2.1)
theorem marksV_snoc (ps : List (List UInt8)) (p : List UInt8) (last : Int) (n : Nat) : marksV (ps ++ [p]) last n = (marksV ps last n || (decide ((partV p last).1 ≤ (n : Int)) && decide ((n : Int) ≤ (partV p last).2.1))) := by simp [marksV]
def okParts (ps : List (List UInt8)) (last : Int) : Bool := ps.all fun p => (partV p last).2.2
theorem okParts_snoc (ps : List (List UInt8)) (p : List UInt8) (last : Int) : okParts (ps ++ [p]) last = (okParts ps last && (partV p last).2.2) := by simp [okParts]
/-- The set that a text tells. -/
def readV (l : List UInt8) (last : Int) : List Rg × Bool :=
  if 1 ≤ last ∧ last ≤ 9999 ∧ okParts (cutsL 44 l) last = true then setV (marksV (cutsL 44 l) last) else ([], false)
theorem readV_no {l : List UInt8} {last : Int} (h : ¬ (1 ≤ last ∧ last ≤ 9999 ∧ okParts (cutsL 44 l) last = true)) : readV l last = ([], false) := if_neg h
theorem readV_in {l : List UInt8} {last : Int} (h : 1 ≤ last ∧ last ≤ 9999 ∧ okParts (cutsL 44 l) last = true) : readV l last = setV (marksV (cutsL 44 l) last) := if_pos h
theorem marks_zero {ps : List (List UInt8)} {last : Int} (h1 : 1 ≤ last) (h2 : last ≤ 9999) (h : okParts ps last = true) : marksV ps last 0 = false := by
  cases hx : marksV ps last 0 with
  | false => rfl
  | true =>
    unfold marksV at hx
    rw [List.any_eq_true] at hx
    obtain ⟨p, hp, hm⟩ := hx
    have ho : (partV p last).2.2 = true := by
      unfold okParts at h
      rw [List.all_eq_true] at h
      exact h p hp
    have := part_ok h1 h2 ho
    simp at hm
    omega

/-- Behind some rounds of the reading. -/
def CutInv (l : List UInt8) (i b : Nat) (done : List (List UInt8)) : Prop :=
  (i ≤ l.length ∧ b ≤ i ∧ done ++ cutsL 44 (l.drop b) = cutsL 44 l ∧ ∀ x ∈ seg l b i, x ≠ 44) ∨ (i = l.length + 1 ∧ done = cutsL 44 l)
theorem CutInv.start (l : List UInt8) : CutInv l 0 0 [] := .inl ⟨Nat.zero_le _, Nat.le_refl _, by simp, by simp [seg]⟩
theorem CutInv.on {l : List UInt8} {i b : Nat} {done : List (List UInt8)} {x : UInt8} (h : CutInv l i b done) (hx : l[i]? = some x) (hn : x ≠ 44) : CutInv l (i + 1) b done := by
  have hi : i < l.length := (List.getElem?_eq_some_iff.1 hx).1
  rcases h with ⟨h1, h2, h3, h4⟩ | ⟨h1, _⟩
  · refine .inl ⟨by omega, by omega, h3, fun y hy => ?_⟩
    rw [seg_succ h2 hx] at hy
    rcases List.mem_append.1 hy with hy | hy
    · exact h4 y hy
    · simp at hy; rw [hy]; exact hn
  · omega
theorem drop_seg {l : List UInt8} {b i : Nat} (h : b ≤ i) : l.drop b = seg l b i ++ l.drop i := by
  unfold seg
  rw [List.drop_take]
  have : l.drop i = (l.drop b).drop (i - b) := by rw [List.drop_drop]; congr 1; omega
  rw [this, List.take_append_drop]
theorem CutInv.cut {l : List UInt8} {i b : Nat} {done : List (List UInt8)} (h : CutInv l i b done) (hi : i ≤ l.length) (hx : i = l.length ∨ l[i]? = some 44) : CutInv l (i + 1) (i + 1) (done ++ [seg l b i]) ∧ b ≤ i := by
  rcases h with ⟨h1, h2, h3, h4⟩ | ⟨h1, _⟩
  · refine ⟨?_, h2⟩
    rcases hx with e | e
    · refine .inr ⟨by omega, ?_⟩
      rw [← h3]
      congr 1
      rw [drop_seg h2, e, List.drop_length, List.append_nil, ← e]
      exact (cuts_one _ h4).symm
    · have hl : i < l.length := (List.getElem?_eq_some_iff.1 e).1
      refine .inl ⟨by omega, Nat.le_refl _, ?_, by rw [seg_same]; intro x hx; cases hx⟩
      rw [← h3, drop_seg h2, drop_eq e, cuts_at _ _ h4]
      simp
  · omega
theorem CutInv.parts {l : List UInt8} {i b : Nat} {done : List (List UInt8)} (h : CutInv l i b done) : ∃ r, done ++ r = cutsL 44 l := by
  rcases h with ⟨_, _, h3, _⟩ | ⟨_, h2⟩
  · exact ⟨_, h3⟩
  · exact ⟨[], by simpa using h2⟩
theorem CutInv.stop {l : List UInt8} {i b : Nat} {done : List (List UInt8)} (h : CutInv l i b done) {last : Int} (hno : okParts done last = false) : okParts (cutsL 44 l) last = false := by
  obtain ⟨r, hr⟩ := h.parts
  rw [← hr]
  unfold okParts at hno ⊢
  rw [List.all_append, hno]; rfl
theorem CutInv.done {l : List UInt8} {i b : Nat} {done : List (List UInt8)} (h : CutInv l i b done) (hi : ¬ i ≤ l.length) : done = cutsL 44 l := by
  rcases h with ⟨h1, _⟩ | ⟨_, h2⟩
  · exact absurd h1 hi
  · exact h2
theorem CutInv.le {l : List UInt8} {i b : Nat} {done : List (List UInt8)} (h : CutInv l i b done) : i ≤ l.length + 1 := by
  rcases h with ⟨h1, _⟩ | ⟨h1, _⟩ <;> omega
end Go.Proofs.YtjaohlnejkgkaaaGreatDoor.Plain

/- Flags and their texts, plainly. Nothing of the program stands here. -/
namespace Go.Proofs.YtjaohlnejkgkaaaGreatDoor.Plain
open Go.RowKit
set_option linter.unusedVariables false

def seenL : List UInt8 := [115, 101, 101, 110]
def answL : List UInt8 := [97, 110, 115, 119, 101, 114, 101, 100]
def flagL : List UInt8 := [102, 108, 97, 103, 103, 101, 100]
def deleL : List UInt8 := [100, 101, 108, 101, 116, 101, 100]
def drafL : List UInt8 := [100, 114, 97, 102, 116]
def namesL : List (List UInt8) := [seenL, answL, flagL, deleL, drafL]
def flOk (b : Int) : Bool := decide (0 ≤ b) && decide (b ≤ 31)
theorem flOk_in {b : Int} (h0 : 0 ≤ b) (h1 : b ≤ 31) : flOk b = true := by unfold flOk; rw [decide_eq_true h0, decide_eq_true h1]; rfl
theorem flOk_no {b : Int} (h : ¬ (0 ≤ b ∧ b ≤ 31)) : flOk b = false := by
  unfold flOk
  by_cases h0 : 0 ≤ b
  · rw [decide_eq_false (show ¬ b ≤ 31 by omega), Bool.and_false]
  · rw [decide_eq_false h0, Bool.false_and]
theorem flOk_parts {b : Int} (h : flOk b = true) : 0 ≤ b ∧ b ≤ 31 := by unfold flOk at h; simpa using h
/-- A word behind those that are told already. -/
def wordOn (s n : List UInt8) : List UInt8 := if s = [] then n else s ++ 32 :: n
def flTo (b : Int) : Nat → List UInt8
  | 0 => []
  | k + 1 => if b / 2 ^ k % 2 = 1 then wordOn (flTo b k) (namesL[k]?.getD []) else flTo b k
def flagsL (b : Int) : List UInt8 := if flOk b = true then 40 :: flTo b 5 ++ [41] else []
theorem flagsL_no {b : Int} (h : flOk b = false) : flagsL b = [] := if_neg (by rw [h]; decide)
theorem flagsL_in {b : Int} (h : flOk b = true) : flagsL b = 40 :: flTo b 5 ++ [41] := if_pos h
/-- A letter made small. -/
def lowB (b : UInt8) : UInt8 := if 65 ≤ b.toNat ∧ b.toNat ≤ 90 then UInt8.ofNat (b.toNat + 32) else b
theorem lowB_in {b : UInt8} (h0 : 65 ≤ b.toNat) (h1 : b.toNat ≤ 90) : lowB b = UInt8.ofNat (b.toNat + 32) := if_pos ⟨h0, h1⟩
theorem lowB_no {b : UInt8} (h : ¬ (65 ≤ b.toNat ∧ b.toNat ≤ 90)) : lowB b = b := if_neg h
/-- The bit of a word; 0 of none. -/
def bitV (t : List UInt8) : Int := if t = seenL then 1 else if t = answL then 2 else if t = flagL then 4 else if t = deleL then 8 else if t = drafL then 16 else 0
theorem bitV_is (t : List UInt8) : bitV t = 0 ∨ bitV t = 1 ∨ bitV t = 2 ∨ bitV t = 4 ∨ bitV t = 8 ∨ bitV t = 16 := by
  unfold bitV
  repeat' split
  all_goals simp
/-- What words tell, one behind the other: none where a word is none, or is told twice. -/
def foldF : Option Int → List (List UInt8) → Option Int
  | x, [] => x
  | none, _ :: _ => none
  | some n, p :: r => foldF (if bitV p = 0 ∨ n / bitV p % 2 = 1 then none else some (n + bitV p)) r
theorem foldF_none (r : List (List UInt8)) : foldF none r = none := by cases r <;> rfl
theorem foldF_append (a b : List (List UInt8)) : ∀ x, foldF x (a ++ b) = foldF (foldF x a) b := by
  induction a with
  | nil => intro x; rfl
  | cons p a ih =>
    intro x
    cases x with
    | none => rw [foldF_none, foldF_none, foldF_none]
    | some n => rw [List.cons_append, foldF, foldF, ih]
def stepF (n : Int) (p : List UInt8) : Option Int := if bitV p = 0 ∨ n / bitV p % 2 = 1 then none else some (n + bitV p)
theorem foldF_snoc {a : List (List UInt8)} {n : Int} (p : List UInt8) (h : foldF (some 0) a = some n) : foldF (some 0) (a ++ [p]) = stepF n p := by
  rw [foldF_append, h]; rfl
theorem step_range {n : Int} {p : List UInt8} {m : Int} (h0 : 0 ≤ n) (h1 : n ≤ 31) (h : stepF n p = some m) : 0 ≤ m ∧ m ≤ 31 := by
  unfold stepF at h
  split at h
  · cases h
  · rename_i hn
    have e : n + bitV p = m := by simpa using h
    rcases bitV_is p with b | b | b | b | b | b <;> rw [b] at e hn <;> omega
theorem fold_range : ∀ (r : List (List UInt8)) (n m : Int), 0 ≤ n → n ≤ 31 → foldF (some n) r = some m → 0 ≤ m ∧ m ≤ 31 := by
  intro r
  induction r with
  | nil => intro n m h0 h1 h; have e : n = m := by simpa [foldF] using h
           omega
  | cons p r ih =>
    intro n m h0 h1 h
    rw [show foldF (some n) (p :: r) = foldF (stepF n p) r from rfl] at h
    cases hs : stepF n p with
    | none => rw [hs, foldF_none] at h; cases h
    | some k =>
      rw [hs] at h
      have := step_range h0 h1 hs
      exact ih k m this.1 this.2 h
def ansF (x : Option Int) : Int × Bool := match x with
  | some n => (n, true)
  | none => (0, false)
/-- What stands between the signs. -/
def inner (t : List UInt8) : List UInt8 := (t.drop 1).take (t.length - 2)
def shutF (t : List UInt8) : Bool := decide (2 ≤ t.length) && (t[0]? == some 40) && (t[t.length - 1]? == some 41)
def wordsF (s : List UInt8) : Option Int := if s = [] then some 0 else foldF (some 0) (cutsL 32 s)
/-- The bits that a text tells. -/
def readF (t : List UInt8) : Int × Bool := if shutF t = true then ansF (wordsF ((inner t).map lowB)) else (0, false)
theorem readF_no {t : List UInt8} (h : shutF t = false) : readF t = (0, false) := if_neg (by rw [h]; decide)
theorem readF_in {t : List UInt8} (h : shutF t = true) : readF t = ansF (wordsF ((inner t).map lowB)) := if_pos h
theorem words_nil : wordsF [] = some 0 := rfl
theorem words_in {s : List UInt8} (h : s ≠ []) : wordsF s = foldF (some 0) (cutsL 32 s) := if_neg h

/-- Behind some rounds of a cutting at c. -/
def CutC (c : UInt8) (l : List UInt8) (i b : Nat) (done : List (List UInt8)) : Prop :=
  (i ≤ l.length ∧ b ≤ i ∧ done ++ cutsL c (l.drop b) = cutsL c l ∧ ∀ x ∈ seg l b i, x ≠ c) ∨ (i = l.length + 1 ∧ done = cutsL c l)
theorem CutC.start (c : UInt8) (l : List UInt8) : CutC c l 0 0 [] := .inl ⟨Nat.zero_le _, Nat.le_refl _, by simp, by simp [seg]⟩
theorem CutC.on {c : UInt8} {l : List UInt8} {i b : Nat} {done : List (List UInt8)} {x : UInt8} (h : CutC c l i b done) (hx : l[i]? = some x) (hn : x ≠ c) : CutC c l (i + 1) b done := by
  have hi : i < l.length := (List.getElem?_eq_some_iff.1 hx).1
  rcases h with ⟨h1, h2, h3, h4⟩ | ⟨h1, _⟩
  · refine .inl ⟨by omega, by omega, h3, fun y hy => ?_⟩
    rw [seg_succ h2 hx] at hy
    rcases List.mem_append.1 hy with hy | hy
    · exact h4 y hy
    · simp at hy; rw [hy]; exact hn
  · omega
theorem CutC.cut {c : UInt8} {l : List UInt8} {i b : Nat} {done : List (List UInt8)} (h : CutC c l i b done) (hi : i ≤ l.length) (hx : i = l.length ∨ l[i]? = some c) : CutC c l (i + 1) (i + 1) (done ++ [seg l b i]) ∧ b ≤ i := by
  rcases h with ⟨h1, h2, h3, h4⟩ | ⟨h1, _⟩
  · refine ⟨?_, h2⟩
    rcases hx with e | e
    · refine .inr ⟨by omega, ?_⟩
      rw [← h3]
      congr 1
      rw [drop_seg h2, e, List.drop_length, List.append_nil, ← e]
      exact (cuts_one _ h4).symm
    · have hl : i < l.length := (List.getElem?_eq_some_iff.1 e).1
      refine .inl ⟨by omega, Nat.le_refl _, ?_, by rw [seg_same]; intro x hx; cases hx⟩
      rw [← h3, drop_seg h2, drop_eq e, cuts_at _ _ h4]
      simp
  · omega
theorem CutC.parts {c : UInt8} {l : List UInt8} {i b : Nat} {done : List (List UInt8)} (h : CutC c l i b done) : ∃ r, done ++ r = cutsL c l := by
  rcases h with ⟨_, _, h3, _⟩ | ⟨_, h2⟩
  · exact ⟨_, h3⟩
  · exact ⟨[], by simpa using h2⟩
theorem CutC.done {c : UInt8} {l : List UInt8} {i b : Nat} {done : List (List UInt8)} (h : CutC c l i b done) (hi : ¬ i ≤ l.length) : done = cutsL c l := by
  rcases h with ⟨h1, _⟩ | ⟨_, h2⟩
  · exact absurd h1 hi
  · exact h2
theorem CutC.le {c : UInt8} {l : List UInt8} {i b : Nat} {done : List (List UInt8)} (h : CutC c l i b done) : i ≤ l.length + 1 := by
  rcases h with ⟨h1, _⟩ | ⟨h1, _⟩ <;> omega
theorem CutC.stop {c : UInt8} {l : List UInt8} {i b : Nat} {done : List (List UInt8)} (h : CutC c l i b done) (hno : foldF (some 0) done = none) : foldF (some 0) (cutsL c l) = none := by
  obtain ⟨r, hr⟩ := h.parts
  rw [← hr, foldF_append, hno, foldF_none]

/-- What both have; what either has; what one has without the other. -/
def andTo (a b : Int) : Nat → Int
  | 0 => 0
  | k + 1 => if a / 2 ^ k % 2 = 1 ∧ b / 2 ^ k % 2 = 1 then andTo a b k + 2 ^ k else andTo a b k
def afterV (old how bits : Int) : Int :=
  if flOk old = true ∧ flOk bits = true then
    (if how = 1 then bits else if how = 2 then old + bits - andTo old bits 5 else if how = 3 then old - andTo old bits 5 else old)
  else old
theorem afterV_no {old how bits : Int} (h : ¬ (flOk old = true ∧ flOk bits = true)) : afterV old how bits = old := if_neg h
theorem afterV_in {old how bits : Int} (h : flOk old = true ∧ flOk bits = true) : afterV old how bits = (if how = 1 then bits else if how = 2 then old + bits - andTo old bits 5 else if how = 3 then old - andTo old bits 5 else old) := if_pos h
/-- In bits: both, and without, of numbers below 32. -/
theorem or_bits : ∀ a b : Fin 32, ((a.val : Int) + b.val - andTo a.val b.val 5) = ((a.val ||| b.val : Nat) : Int) := by decide +kernel
theorem without_bits : ∀ a b : Fin 32, ((a.val : Int) - andTo a.val b.val 5) = ((a.val - (a.val &&& b.val) : Nat) : Int) := by decide +kernel
theorem and_bits : ∀ a b : Fin 32, andTo a.val b.val 5 = ((a.val &&& b.val : Nat) : Int) := by decide +kernel
/-- A text of flags is read back. -/
theorem read_back : ∀ b : Fin 32, readF (flagsL b.val) = ((b.val : Int), true) := by decide +kernel
end Go.Proofs.YtjaohlnejkgkaaaGreatDoor.Plain

/- Mails, plainly: heads, bodies, subjects, parts. Nothing of the program stands here. -/
namespace Go.Proofs.YtjaohlnejkgkaaaGreatDoor.Plain
open Go.RowKit
set_option linter.unusedVariables false

def mailOkL (l : List UInt8) : Bool := l.all (fun b => b != 0) && (decide (1 ≤ l.length) && decide (l.length ≤ 200))
def isBlank (b : UInt8) : Bool := b == 32
/-- Without blanks ahead; without blanks behind. -/
def trimA (l : List UInt8) : List UInt8 := l.dropWhile isBlank
def trimZ (l : List UInt8) : List UInt8 := (l.reverse.dropWhile isBlank).reverse
def trimL (l : List UInt8) : List UInt8 := trimZ (trimA l)
theorem trimA_cons (r : List UInt8) : trimA (32 :: r) = trimA r := rfl
theorem trimA_no {b : UInt8} (r : List UInt8) (h : b ≠ 32) : trimA (b :: r) = b :: r := by
  unfold trimA
  rw [List.dropWhile_cons, if_neg (by simpa [isBlank] using h)]
theorem trimZ_snoc (r : List UInt8) : trimZ (r ++ [32]) = trimZ r := by
  unfold trimZ
  rw [List.reverse_append]
  rfl
theorem trimZ_no {b : UInt8} (r : List UInt8) (h : b ≠ 32) : trimZ (r ++ [b]) = r ++ [b] := by
  unfold trimZ
  rw [List.reverse_append, show [b].reverse ++ r.reverse = b :: r.reverse from rfl, List.dropWhile_cons, if_neg (by simpa [isBlank] using h)]
  simp
theorem trimA_len (l : List UInt8) : (trimA l).length ≤ l.length := by
  unfold trimA
  exact (List.dropWhile_suffix _).length_le
theorem trimZ_len (l : List UInt8) : (trimZ l).length ≤ l.length := by
  unfold trimZ
  rw [List.length_reverse]
  have := (List.dropWhile_suffix (l := l.reverse) isBlank).length_le
  rwa [List.length_reverse] at this
theorem trimL_len (l : List UInt8) : (trimL l).length ≤ l.length := Nat.le_trans (trimZ_len _) (trimA_len _)
/-- What is behind the first line without anything. -/
def bodyFrom : Bool → List UInt8 → List UInt8
  | _, [] => []
  | s, b :: r => if b = 10 then (if s then r else bodyFrom true r) else bodyFrom false r
def bodyL (l : List UInt8) : List UInt8 := bodyFrom true l
/-- The head of a name among lines. -/
def headIn (name : List UInt8) : List (List UInt8) → List UInt8 × Bool
  | [] => ([], false)
  | p :: r => if p = [] then ([], false)
    else if name.length < p.length ∧ (p.take name.length).map lowB = name.map lowB ∧ p[name.length]? = some 58 then (trimL (p.drop (name.length + 1)), true)
    else headIn name r
def headL (t name : List UInt8) : List UInt8 × Bool := headIn name (cutsL 10 t)
/-- A subject without what answers and what is handed on. -/
def baseF : Nat → List UInt8 → List UInt8
  | 0, s => s
  | f + 1, s => if s.take 3 = [114, 101, 58] then baseF f (trimL (s.drop 3)) else if s.take 4 = [102, 119, 100, 58] then baseF f (trimL (s.drop 4)) else s
def baseL (s : List UInt8) : List UInt8 := baseF s.length ((trimL s).map lowB)
def partL (t : List UInt8) (p n : Int) : List UInt8 := if p < 0 ∨ n < 0 ∨ (t.length : Int) < p then [] else (t.drop p.toNat).take n.toNat
theorem partL_no {t : List UInt8} {p n : Int} (h : p < 0 ∨ n < 0 ∨ (t.length : Int) < p) : partL t p n = [] := if_pos h
theorem partL_in {t : List UInt8} {p n : Int} (h : ¬ (p < 0 ∨ n < 0 ∨ (t.length : Int) < p)) : partL t p n = (t.drop p.toNat).take n.toNat := if_neg h
end Go.Proofs.YtjaohlnejkgkaaaGreatDoor.Plain

/- The text of a set read back; how many a set has. Nothing of the program stands here. -/
namespace Go.Proofs.YtjaohlnejkgkaaaGreatDoor.Plain
open Go.RowKit
set_option linter.unusedVariables false

/- How many. -/
def cntTo (f : Nat → Bool) : Nat → Int
  | 0 => 0
  | n + 1 => cntTo f n + (if f (n + 1) then 1 else 0)
theorem cnt_congr {f g : Nat → Bool} {N : Nat} (h : ∀ n, 1 ≤ n → n ≤ N → f n = g n) : cntTo f N = cntTo g N := by
  induction N with
  | zero => rfl
  | succ N ih => rw [cntTo, cntTo, ih (fun n h1 h2 => h n h1 (by omega)), h (N + 1) (by omega) (Nat.le_refl _)]
theorem cnt_or {f g : Nat → Bool} {N : Nat} : cntTo (fun n => f n || g n) N + cntTo (fun n => f n && g n) N = cntTo f N + cntTo g N := by
  induction N with
  | zero => rfl
  | succ N ih =>
    simp only [cntTo]
    by_cases hf : f (N + 1) = true <;> by_cases hg : g (N + 1) = true <;> simp [hf, hg] <;> omega
theorem cnt_none {N : Nat} : cntTo (fun _ => false) N = 0 := by
  induction N with
  | zero => rfl
  | succ N ih => rw [cntTo, ih]; rfl
theorem cnt_range {lo hi : Int} (h1 : 1 ≤ lo) (h2 : lo ≤ hi + 1) : ∀ N : Nat, cntTo (fun n => decide (lo ≤ (n : Int)) && decide ((n : Int) ≤ hi)) N = (if (N : Int) < lo then 0 else if (N : Int) ≤ hi then (N : Int) - lo + 1 else hi - lo + 1) := by
  intro N
  induction N with
  | zero => rw [cntTo, if_pos (by omega)]
  | succ N ih =>
    rw [cntTo, ih]
    by_cases ha : lo ≤ ((N + 1 : Nat) : Int)
    · by_cases hb : ((N + 1 : Nat) : Int) ≤ hi
      · rw [decide_eq_true ha, decide_eq_true hb]
        rw [if_neg (show ¬ ((N + 1 : Nat) : Int) < lo by omega), if_pos hb]
        by_cases hc : (N : Int) < lo
        · rw [if_pos hc]; simp; omega
        · rw [if_neg hc, if_pos (by omega)]; simp; omega
      · rw [decide_eq_false hb, Bool.and_false]
        rw [if_neg (show ¬ ((N + 1 : Nat) : Int) < lo by omega), if_neg hb]
        by_cases hc : (N : Int) < lo
        · rw [if_pos hc]; simp; omega
        · rw [if_neg hc]
          by_cases hd : (N : Int) ≤ hi
          · rw [if_pos hd]; simp; omega
          · rw [if_neg hd]; simp
    · rw [decide_eq_false ha, Bool.false_and, if_pos (by omega), if_pos (show ((N + 1 : Nat) : Int) < lo by omega)]; simp

theorem size_from {p : Int} {s : List Rg} (h : okFrom p s = true) : ∀ z : Int, s.foldl (fun n r => n + r.hi - r.lo + 1) z = z + cntTo (bitsOf s) 9999 := by
  induction s generalizing p with
  | nil => intro z; rw [show bitsOf [] = (fun _ => false) from rfl, cnt_none]; simp
  | cons r t ih =>
    intro z
    rw [okFrom_cons] at h
    obtain ⟨h1, h2, h3, h4, h5⟩ := h
    rw [List.foldl_cons, ih h5]
    have e := cnt_or (f := fun n => decide (r.lo ≤ (n : Int)) && decide ((n : Int) ≤ r.hi)) (g := bitsOf t) (N := 9999)
    have e1 : cntTo (fun n => (decide (r.lo ≤ (n : Int)) && decide ((n : Int) ≤ r.hi)) || bitsOf t n) 9999 = cntTo (bitsOf (r :: t)) 9999 := cnt_congr fun n _ _ => by unfold bitsOf; rw [hasB_cons]
    have e2 : cntTo (fun n => (decide (r.lo ≤ (n : Int)) && decide ((n : Int) ≤ r.hi)) && bitsOf t n) 9999 = 0 := by
      rw [← cnt_none (N := 9999)]
      refine cnt_congr fun n _ _ => ?_
      by_cases hn : (n : Int) ≤ r.hi
      · unfold bitsOf; rw [hasB_no h5 (by omega), Bool.and_false]
      · rw [decide_eq_false hn, Bool.and_false, Bool.false_and]
    have e3 := cnt_range (lo := r.lo) (hi := r.hi) h1 (by omega) 9999
    rw [if_neg (by omega)] at e3
    have e4 : cntTo (fun n => decide (r.lo ≤ (n : Int)) && decide ((n : Int) ≤ r.hi)) 9999 = r.hi - r.lo + 1 := by
      rw [e3]
      split
      · have : r.hi = 9999 := by omega
        omega
      · rfl
    rw [e1, e2, e4] at e
    omega
theorem size_cnt {s : List Rg} (h : okS s = true) : sizeL s = cntTo (bitsOf s) 9999 := by
  unfold sizeL
  rw [if_pos h, size_from (show okFrom (-1) s = true by have := h; simp [okS] at this; exact this.1)]
  omega

/- The text of a number read back. -/
theorem dec_figs : ∀ (N : Nat), (Lib.decDigits N).all figOk = true ∧ figsV (Lib.decDigits N) = (N : Int) := by
  intro N
  induction N using Nat.strongRecOn with
  | ind N ih =>
    by_cases h10 : N < 10
    · rw [Lib.decDigits, dif_pos h10]
      constructor
      · simp [figOk]; omega
      · simp [figsV]; omega
    · rw [Lib.decDigits, dif_neg h10]
      obtain ⟨i1, i2⟩ := ih (N / 10) (by omega)
      have e : (UInt8.ofNat (48 + N % 10)).toNat = 48 + N % 10 := by rw [UInt8.toNat_ofNat']; omega
      constructor
      · rw [List.all_append, i1]; simp [figOk]; omega
      · rw [figsV_snoc, i2, e]; omega
theorem num_back {n : Int} (h1 : 1 ≤ n) (h2 : n ≤ 9999) (last : Int) : numV (Lib.itoa n) last = (n, true) := by
  obtain ⟨N, rfl⟩ := Int.eq_ofNat_of_zero_le (show 0 ≤ n by omega)
  rw [itoa_nat]
  obtain ⟨d1, d2⟩ := dec_figs N
  have hl : 1 ≤ (Lib.decDigits N).length ∧ (Lib.decDigits N).length ≤ 4 := by
    have hp : 1 ≤ (Lib.decDigits N).length := by
      cases hx : Lib.decDigits N with
      | nil => rw [hx] at d2; simp [figsV] at d2; omega
      | cons b r => simp
    refine ⟨hp, ?_⟩
    have hN : N ≤ 9999 := by omega
    rw [Lib.decDigits]
    split
    · simp
    · rw [Lib.decDigits]
      split
      · simp
      · rw [Lib.decDigits]
        split
        · simp
        · rw [Lib.decDigits, dif_pos (by omega)]; simp
  have hs : Lib.decDigits N ≠ [42] := by
    intro e
    rw [e] at d1
    simp [figOk] at d1
  unfold numV
  rw [if_neg hs, if_pos hl, d1, d2]
  simp
  omega
theorem itoa_plain {n : Int} (h : 0 ≤ n) : ∀ b ∈ Lib.itoa n, b ≠ 58 ∧ b ≠ 44 := by
  obtain ⟨N, rfl⟩ := Int.eq_ofNat_of_zero_le h
  rw [itoa_nat]
  intro b hb
  have := (dec_figs N).1
  rw [List.all_eq_true] at this
  have h2 := this b hb
  have h3 : 48 ≤ b.toNat ∧ b.toNat ≤ 57 := by simpa [figOk] using h2
  constructor
  · intro e; rw [e] at h3; revert h3; decide
  · intro e; rw [e] at h3; revert h3; decide
end Go.Proofs.YtjaohlnejkgkaaaGreatDoor.Plain

/- How many ranges what is marked has: one for each beginning. Nothing of the program stands here. -/
namespace Go.Proofs.YtjaohlnejkgkaaaGreatDoor.Plain
open Go.RowKit
set_option linter.unusedVariables false

def startB (b : Nat → Bool) (n : Nat) : Bool := b n && !b (n - 1)
theorem runs_count (b : Nat → Bool) (h0 : b 0 = false) : ∀ n, n ≤ 9999 → ((runsTo b n).length : Int) = cntTo (startB b) n := by
  intro n
  induction n with
  | zero => intro _; rfl
  | succ n ih =>
    intro hn
    have i := ih (by omega)
    rw [cntTo, ← i]
    unfold startB
    rw [Nat.add_sub_cancel]
    cases hb : b (n + 1) with
    | false => rw [runsTo_off hb]; simp
    | true =>
      cases hc : b n with
      | false => rw [runsTo_new hb hc]; simp
      | true =>
        obtain ⟨a, r, hs, _⟩ := (runs_inv b h0 n (by omega)).2.2.1 hc
        rw [runsTo_on hb hc hs, hs]; simp
theorem cnt_le {f g : Nat → Bool} {N : Nat} (h : ∀ n, 1 ≤ n → n ≤ N → f n = true → g n = true) : cntTo f N ≤ cntTo g N := by
  induction N with
  | zero => exact Int.le_refl _
  | succ N ih =>
    have := ih (fun n h1 h2 => h n h1 (by omega))
    simp only [cntTo]
    by_cases hf : f (N + 1) = true
    · rw [if_pos hf, if_pos (h (N + 1) (by omega) (Nat.le_refl _) hf)]; omega
    · rw [if_neg hf]
      split <;> omega
theorem cnt_one (x : Nat) : ∀ N, cntTo (fun n => decide (n = x)) N ≤ 1 ∧ (N < x → cntTo (fun n => decide (n = x)) N = 0) := by
  intro N
  induction N with
  | zero => exact ⟨by simp [cntTo], fun _ => rfl⟩
  | succ N ih =>
    rw [cntTo]
    by_cases e : N + 1 = x
    · have := ih.2 (by omega)
      rw [this]
      simp [e]
    · rw [decide_eq_false e]
      exact ⟨by simp; exact ih.1, fun h => by simp; exact ih.2 (by omega)⟩
theorem cnt_more {f g : Nat → Bool} {N x : Nat} (h : ∀ n, 1 ≤ n → n ≤ N → f n = true → g n = true ∨ n = x) : cntTo f N ≤ cntTo g N + 1 := by
  have h1 : cntTo f N ≤ cntTo (fun n => g n || decide (n = x)) N := cnt_le fun n a b hf => by
    rcases h n a b hf with e | e
    · rw [e]; rfl
    · rw [decide_eq_true e, Bool.or_true]
  have h2 := cnt_or (f := g) (g := fun n => decide (n = x)) (N := N)
  have h3 := (cnt_one x N).1
  have h4 : 0 ≤ cntTo (fun n => g n && decide (n = x)) N := by
    have := cnt_le (f := fun _ => false) (g := fun n => g n && decide (n = x)) (N := N) (fun n _ _ h => by cases h)
    rw [cnt_none] at this
    exact this
  omega
theorem cnt_two {f g k : Nat → Bool} {N : Nat} (h : ∀ n, 1 ≤ n → n ≤ N → f n = true → g n = true ∨ k n = true) : cntTo f N ≤ cntTo g N + cntTo k N := by
  have h1 : cntTo f N ≤ cntTo (fun n => g n || k n) N := cnt_le fun n a b hf => by
    rcases h n a b hf with e | e
    · rw [e]; rfl
    · rw [e, Bool.or_true]
  have h2 := cnt_or (f := g) (g := k) (N := N)
  have h4 : 0 ≤ cntTo (fun n => g n && k n) N := by
    have := cnt_le (f := fun _ => false) (g := fun n => g n && k n) (N := N) (fun n _ _ h => by cases h)
    rw [cnt_none] at this
    exact this
  omega
theorem set_count {s : List Rg} (h : okFrom (-1) s = true) : (s.length : Int) = cntTo (startB (bitsOf s)) 9999 := by
  have := runs_count (bitsOf s) (bitsOf_zero h) 9999 (Nat.le_refl _)
  rw [← this]
  have e := set_back h
  unfold setOf at e
  rw [e]
/-- What is put in or taken out makes one range more at most. -/
theorem put_len {s : List Rg} {lo hi : Int} {c : Bool} (h : okFrom (-1) s = true) (h1 : 1 ≤ lo) (h2 : lo ≤ hi) (h3 : hi ≤ 9999) : (setOf (putB s lo hi c)).length ≤ s.length + 1 := by
  have h0 : putB s lo hi c 0 = false := by unfold putB; rw [if_neg (by simp; omega)]; exact bitsOf_zero h
  have a := runs_count (putB s lo hi c) h0 9999 (Nat.le_refl _)
  have b := set_count h
  obtain ⟨ln, rfl⟩ : ∃ ln : Nat, lo = (ln : Int) := ⟨lo.toNat, by omega⟩
  obtain ⟨hn, rfl⟩ : ∃ hn : Nat, hi = (hn : Int) := ⟨hi.toNat, by omega⟩
  have k : cntTo (startB (putB s ln hn c)) 9999 ≤ cntTo (startB (bitsOf s)) 9999 + 1 := by
    refine cnt_more (x := if c then ln else hn + 1) (fun n n1 n2 hs => ?_)
    unfold startB at hs ⊢
    rw [Bool.and_eq_true] at hs
    obtain ⟨s1, s2⟩ := hs
    have s2' : putB s ln hn c (n - 1) = false := by simpa using s2
    unfold putB at s1 s2'
    cases c with
    | true =>
      by_cases e : n = ln
      · exact .inr (by rw [if_pos rfl]; exact e)
      · left
        by_cases hin : (ln : Int) ≤ (n : Int) ∧ (n : Int) ≤ (hn : Int)
        · rw [if_pos (by omega)] at s2'
          cases s2'
        · rw [if_neg hin] at s1
          by_cases hin2 : (ln : Int) ≤ ((n - 1 : Nat) : Int) ∧ ((n - 1 : Nat) : Int) ≤ (hn : Int)
          · rw [if_pos hin2] at s2'; cases s2'
          · rw [if_neg hin2] at s2'
            rw [s1, s2']; rfl
    | false =>
      by_cases e : n = hn + 1
      · exact .inr (by simp; exact e)
      · left
        by_cases hin : (ln : Int) ≤ (n : Int) ∧ (n : Int) ≤ (hn : Int)
        · rw [if_pos hin] at s1; cases s1
        · rw [if_neg hin] at s1
          by_cases hin2 : (ln : Int) ≤ ((n - 1 : Nat) : Int) ∧ ((n - 1 : Nat) : Int) ≤ (hn : Int)
          · omega
          · rw [if_neg hin2] at s2'
            rw [s1, s2']; rfl
  show (runsTo _ 9999).length ≤ _
  omega
theorem two_len {x y : List Rg} {both : Bool} (hx : okS x = true) (hy : okS y = true) : (setOf (twoB x y both)).length ≤ x.length + y.length := by
  have ox : okFrom (-1) x = true := by have := hx; simp [okS] at this; exact this.1
  have oy : okFrom (-1) y = true := by have := hy; simp [okS] at this; exact this.1
  have h0 : twoB x y both 0 = false := by unfold twoB; rw [bitsOf_zero ox, bitsOf_zero oy]; cases both <;> rfl
  have a := runs_count (twoB x y both) h0 9999 (Nat.le_refl _)
  have b := set_count ox
  have c := set_count oy
  have k : cntTo (startB (twoB x y both)) 9999 ≤ cntTo (startB (bitsOf x)) 9999 + cntTo (startB (bitsOf y)) 9999 := by
    refine cnt_two (fun n n1 n2 hs => ?_)
    unfold startB at hs ⊢
    rw [Bool.and_eq_true] at hs
    obtain ⟨s1, s2⟩ := hs
    have s2' : twoB x y both (n - 1) = false := by simpa using s2
    unfold twoB at s1 s2'
    cases both with
    | true =>
      simp only [if_true] at s1 s2'
      rw [Bool.and_eq_true] at s1
      cases hp : bitsOf x (n - 1) with
      | false => left; rw [s1.1]; rfl
      | true =>
        rw [hp, Bool.true_and] at s2'
        right; rw [s1.2, s2']; rfl
    | false =>
      simp only [Bool.false_eq_true, if_false] at s1 s2'
      rw [Bool.or_eq_false_iff] at s2'
      rw [Bool.or_eq_true] at s1
      rcases s1 with e | e
      · left; rw [e, s2'.1]; rfl
      · right; rw [e, s2'.2]; rfl
  show (runsTo _ 9999).length ≤ _
  omega
end Go.Proofs.YtjaohlnejkgkaaaGreatDoor.Plain

/- Sets of numbers cut into what lies ahead of a range, what it meets and what lies behind it; put together again. Nothing of the program stands here. -/
namespace Go.Proofs.YtjaohlnejkgkaaaGreatDoor.Plain
set_option linter.unusedVariables false

theorem okFrom_append {p : Int} {a b : List Rg} : okFrom p (a ++ b) = true ↔ okFrom p a = true ∧ okFrom (lastHi p a) b = true := by
  induction a generalizing p with
  | nil => simp [okFrom, lastHi_nil]
  | cons u t ih =>
    rw [List.cons_append, okFrom_cons, okFrom_cons, ih, lastHi_cons]
    simp only [and_assoc]
theorem okFrom_each {p : Int} {s : List Rg} (h : okFrom p s = true) : ∀ r ∈ s, p + 1 < r.lo ∧ 1 ≤ r.lo ∧ r.lo ≤ r.hi ∧ r.hi ≤ 9999 := by
  induction s generalizing p with
  | nil => intro r hr; simp at hr
  | cons u t ih =>
    rw [okFrom_cons] at h
    intro r hr
    rcases List.mem_cons.1 hr with rfl | hr
    · exact ⟨h.2.2.2.1, h.1, h.2.1, h.2.2.1⟩
    · have := ih h.2.2.2.2 r hr
      exact ⟨by omega, this.2⟩
theorem lastHi_le {p q : Int} {s : List Rg} (hp : p ≤ q) (h : ∀ r ∈ s, r.hi ≤ q) : lastHi p s ≤ q := by
  induction s generalizing p with
  | nil => exact hp
  | cons u t ih => rw [lastHi_cons]; exact ih (h u (by simp)) (fun r hr => h r (by simp [hr]))
theorem le_lastHi {p : Int} {s : List Rg} (h : okFrom p s = true) : p ≤ lastHi p s ∧ ∀ r ∈ s, r.hi ≤ lastHi p s := by
  induction s generalizing p with
  | nil => exact ⟨Int.le_refl _, fun r hr => by simp at hr⟩
  | cons u t ih =>
    rw [okFrom_cons] at h
    rw [lastHi_cons]
    have := ih h.2.2.2.2
    refine ⟨by omega, fun r hr => ?_⟩
    rcases List.mem_cons.1 hr with rfl | hr
    · exact this.1
    · exact this.2 r hr
/-- A row whose ranges all begin beyond q is right behind q. -/
theorem okFrom_from {p q : Int} {s : List Rg} (h : okFrom p s = true) (hq : ∀ r ∈ s, q + 1 < r.lo) : okFrom q s = true := by
  cases s with
  | nil => rfl
  | cons u t =>
    rw [okFrom_cons] at h ⊢
    exact ⟨h.1, h.2.1, h.2.2.1, hq u (by simp), h.2.2.2.2⟩
theorem hasB_iff {s : List Rg} {n : Int} : hasB s n = true ↔ ∃ r ∈ s, r.lo ≤ n ∧ n ≤ r.hi := by
  unfold hasB
  rw [List.any_eq_true]
  constructor
  · rintro ⟨r, hr, h⟩
    simp at h
    exact ⟨r, hr, h⟩
  · rintro ⟨r, hr, h⟩
    exact ⟨r, hr, by simpa using h⟩
theorem hasB_flat (f : Rg → List Rg) (l : List Rg) (n : Int) : hasB (l.flatMap f) n = l.any fun r => hasB (f r) n := by
  induction l with
  | nil => rfl
  | cons u t ih => rw [List.flatMap_cons, hasB_append, ih, List.any_cons]
theorem hasB_ext {s : List Rg} {n : Int} {P : Bool} (h : (∃ r ∈ s, r.lo ≤ n ∧ n ≤ r.hi) ↔ P = true) : hasB s n = P := by
  rw [← hasB_iff] at h
  cases hx : hasB s n <;> cases hy : P <;> simp_all

def aheadL (s : List Rg) (x : Int) : List Rg := s.takeWhile fun r => decide (r.hi < x)
def restL (s : List Rg) (x : Int) : List Rg := s.dropWhile fun r => decide (r.hi < x)
def metL (s : List Rg) (x y : Int) : List Rg := (restL s x).takeWhile fun r => decide (r.lo ≤ y)
def behindL (s : List Rg) (x y : Int) : List Rg := (restL s x).dropWhile fun r => decide (r.lo ≤ y)
theorem cut_all (s : List Rg) (x y : Int) : aheadL s x ++ (metL s x y ++ behindL s x y) = s := by
  unfold aheadL metL behindL
  rw [List.takeWhile_append_dropWhile]
  exact List.takeWhile_append_dropWhile
theorem mem_takeWhile {α : Type} {P : α → Bool} {l : List α} {r : α} (h : r ∈ l.takeWhile P) : P r = true := by
  induction l with
  | nil => simp at h
  | cons a t ih =>
    rw [List.takeWhile_cons] at h
    split at h
    · rename_i hp
      rcases List.mem_cons.1 h with rfl | h
      · exact hp
      · exact ih h
    · simp at h
theorem head_dropWhile {α : Type} {P : α → Bool} {l t : List α} {r : α} (h : l.dropWhile P = r :: t) : P r = false := by
  induction l with
  | nil => simp at h
  | cons a u ih =>
    rw [List.dropWhile_cons] at h
    split at h
    · exact ih h
    · rename_i hp
      cases h
      simpa using hp
theorem ahead_lt {s : List Rg} {x : Int} : ∀ r ∈ aheadL s x, r.hi < x := fun r hr => by simpa using mem_takeWhile hr
theorem cut_ok {p : Int} {s : List Rg} (x y : Int) (h : okFrom p s = true) : okFrom p (aheadL s x) = true ∧ okFrom (lastHi p (aheadL s x)) (metL s x y) = true ∧ okFrom (lastHi (lastHi p (aheadL s x)) (metL s x y)) (behindL s x y) = true := by
  rw [← cut_all s x y, okFrom_append, okFrom_append] at h
  exact h
theorem rest_ok {p : Int} {s : List Rg} (x : Int) (h : okFrom p s = true) : okFrom (lastHi p (aheadL s x)) (restL s x) = true := by
  have e : aheadL s x ++ restL s x = s := List.takeWhile_append_dropWhile
  rw [← e, okFrom_append] at h
  exact h.2
theorem rest_ge {p : Int} {s : List Rg} {x : Int} (h : okFrom p s = true) : ∀ r ∈ restL s x, x ≤ r.hi := by
  have hr := rest_ok x h
  cases e : restL s x with
  | nil => intro r hr; simp at hr
  | cons u t =>
    rw [e, okFrom_cons] at hr
    have hu : ¬ u.hi < x := by simpa using head_dropWhile (show s.dropWhile (fun r => decide (r.hi < x)) = u :: t from e)
    intro r hm
    rcases List.mem_cons.1 hm with rfl | hm
    · omega
    · have := okFrom_each hr.2.2.2.2 r hm
      omega
theorem met_in {p : Int} {s : List Rg} {x y : Int} (h : okFrom p s = true) : ∀ r ∈ metL s x y, r.lo ≤ y ∧ x ≤ r.hi := by
  intro r hr
  refine ⟨by simpa using mem_takeWhile hr, rest_ge h r ?_⟩
  exact (List.takeWhile_sublist _).subset hr
theorem behind_gt {p : Int} {s : List Rg} {x y : Int} (h : okFrom p s = true) : ∀ r ∈ behindL s x y, y < r.lo := by
  have hb := (cut_ok x y h).2.2
  cases e : behindL s x y with
  | nil => intro r hr; simp at hr
  | cons u t =>
    rw [e, okFrom_cons] at hb
    have hu : ¬ u.lo ≤ y := by simpa using head_dropWhile (show (restL s x).dropWhile (fun r => decide (r.lo ≤ y)) = u :: t from e)
    intro r hm
    rcases List.mem_cons.1 hm with rfl | hm
    · omega
    · have := okFrom_each hb.2.2.2.2 r hm
      omega

/- ADDED. -/
def spanTo (r : Rg) (m : Rg) : Rg := ⟨min r.lo m.lo, max r.hi m.hi⟩
def spanL (r : Rg) (l : List Rg) : Rg := l.foldl spanTo r
theorem span_in {r : Rg} {l : List Rg} : (spanL r l).lo ≤ r.lo ∧ r.hi ≤ (spanL r l).hi ∧ (∀ m ∈ l, (spanL r l).lo ≤ m.lo ∧ m.hi ≤ (spanL r l).hi) ∧
    ((spanL r l).lo = r.lo ∨ ∃ m ∈ l, (spanL r l).lo = m.lo) ∧ ((spanL r l).hi = r.hi ∨ ∃ m ∈ l, (spanL r l).hi = m.hi) := by
  induction l generalizing r with
  | nil => exact ⟨Int.le_refl _, Int.le_refl _, fun m hm => by simp at hm, .inl rfl, .inl rfl⟩
  | cons u t ih =>
    have h := @ih (spanTo r u)
    have e : spanL r (u :: t) = spanL (spanTo r u) t := rfl
    rw [e]
    generalize spanL (spanTo r u) t = s at *
    obtain ⟨h1, h2, h3, h4, h5⟩ := h
    have a1 : (spanTo r u).lo = min r.lo u.lo := rfl
    have a2 : (spanTo r u).hi = max r.hi u.hi := rfl
    rw [a1] at h1 h4
    rw [a2] at h2 h5
    clear a1 a2 e ih
    refine ⟨by clear h3 h4 h5; omega, by clear h3 h4 h5; omega, fun m hm => ?_, ?_, ?_⟩
    · rcases List.mem_cons.1 hm with rfl | hm
      · clear h3 h4 h5; omega
      · exact h3 m hm
    · clear h5 h3
      rcases h4 with h4 | ⟨m, hm, h4⟩
      · by_cases hl : r.lo ≤ u.lo
        · exact .inl (by omega)
        · exact .inr ⟨u, by simp, by omega⟩
      · exact .inr ⟨m, by simp [hm], h4⟩
    · clear h4 h3
      rcases h5 with h5 | ⟨m, hm, h5⟩
      · by_cases hl : u.hi ≤ r.hi
        · exact .inl (by omega)
        · exact .inr ⟨u, by simp, by omega⟩
      · exact .inr ⟨m, by simp [hm], h5⟩
def addedL (s : List Rg) (lo hi : Int) : List Rg := aheadL s (lo - 1) ++ ([spanL ⟨lo, hi⟩ (metL s (lo - 1) (hi + 1))] ++ behindL s (lo - 1) (hi + 1))
theorem added_ok {s : List Rg} {lo hi : Int} (h : okFrom (-1) s = true) (h1 : 1 ≤ lo) (h2 : lo ≤ hi) (h3 : hi ≤ 9999) : okFrom (-1) (addedL s lo hi) = true := by
  obtain ⟨o1, o2, o3⟩ := cut_ok (lo - 1) (hi + 1) h
  obtain ⟨s1, s2, s3, s4, s5⟩ := @span_in ⟨lo, hi⟩ (metL s (lo - 1) (hi + 1))
  have hA := lastHi_le (p := -1) (q := lo - 2) (by omega) (fun r hr => by have := ahead_lt (s := s) (x := lo - 1) r hr; omega)
  have hM := okFrom_each o2
  have hB := behind_gt (x := lo - 1) (y := hi + 1) h
  have hB2 := okFrom_each o3
  have hL := (le_lastHi o2).2
  unfold addedL
  rw [okFrom_append]
  refine ⟨o1, ?_⟩
  rw [List.singleton_append, okFrom_cons]
  generalize spanL ⟨lo, hi⟩ (metL s (lo - 1) (hi + 1)) = u at *
  simp only at s1 s2 s4 s5
  have hlo : 1 ≤ u.lo ∧ lastHi (-1) (aheadL s (lo - 1)) + 1 < u.lo := by
    rcases s4 with s4 | ⟨m, hm, s4⟩
    · omega
    · have := hM m hm; omega
  have hhi : u.hi ≤ 9999 ∧ ∀ r ∈ behindL s (lo - 1) (hi + 1), u.hi + 1 < r.lo := by
    rcases s5 with s5 | ⟨m, hm, s5⟩
    · exact ⟨by omega, fun r hr => by have := hB r hr; omega⟩
    · exact ⟨by have := hM m hm; omega, fun r hr => by have := hB2 r hr; have := hL m hm; omega⟩
  exact ⟨hlo.1, by omega, hhi.1, hlo.2, okFrom_from o3 hhi.2⟩
theorem added_has {s : List Rg} {lo hi : Int} (h : okFrom (-1) s = true) (h2 : lo ≤ hi) (n : Int) : hasB (addedL s lo hi) n = (decide (lo ≤ n ∧ n ≤ hi) || hasB s n) := by
  obtain ⟨s1, s2, s3, s4, s5⟩ := @span_in ⟨lo, hi⟩ (metL s (lo - 1) (hi + 1))
  have hI := met_in (x := lo - 1) (y := hi + 1) h
  have e : hasB s n = (hasB (aheadL s (lo - 1)) n || (hasB (metL s (lo - 1) (hi + 1)) n || hasB (behindL s (lo - 1) (hi + 1)) n)) := by
    rw [← hasB_append, ← hasB_append, cut_all]
  rw [e]
  unfold addedL
  rw [hasB_append, hasB_append]
  have k : hasB [spanL ⟨lo, hi⟩ (metL s (lo - 1) (hi + 1))] n = (decide (lo ≤ n ∧ n ≤ hi) || hasB (metL s (lo - 1) (hi + 1)) n) := by
    generalize spanL ⟨lo, hi⟩ (metL s (lo - 1) (hi + 1)) = u at *
    simp only at s1 s2 s4 s5
    apply hasB_ext
    rw [Bool.or_eq_true, hasB_iff, decide_eq_true_iff]
    constructor
    · rintro ⟨r, hr, a, b⟩
      rw [List.mem_singleton] at hr
      subst hr
      by_cases c1 : lo ≤ n
      · by_cases c2 : n ≤ hi
        · exact .inl ⟨c1, c2⟩
        · rcases s5 with s5 | ⟨m, hm, s5⟩
          · omega
          · exact .inr ⟨m, hm, by have := hI m hm; omega, by omega⟩
      · rcases s4 with s4 | ⟨m, hm, s4⟩
        · omega
        · exact .inr ⟨m, hm, by omega, by have := hI m hm; omega⟩
    · rintro (hx | ⟨m, hm, a, b⟩)
      · exact ⟨u, by simp, by omega, by omega⟩
      · exact ⟨u, by simp, by have := s3 m hm; omega, by have := s3 m hm; omega⟩
  rw [k]
  cases hasB (aheadL s (lo - 1)) n <;> cases hasB (metL s (lo - 1) (hi + 1)) n <;> cases hasB (behindL s (lo - 1) (hi + 1)) n <;> cases decide (lo ≤ n ∧ n ≤ hi) <;> rfl

/- A SET, EACH RANGE TURNED INTO SOME WITHIN IT. -/
theorem okFrom_flat (f : Rg → List Rg) : ∀ (l : List Rg) (p : Int), okFrom p l = true → (∀ r ∈ l, ∀ q, q + 1 < r.lo → okFrom q (f r) = true ∧ lastHi q (f r) ≤ r.hi) → okFrom p (l.flatMap f) = true := by
  intro l
  induction l with
  | nil => intro p _ _; rfl
  | cons u t ih =>
    intro p h hf
    rw [okFrom_cons] at h
    rw [List.flatMap_cons, okFrom_append]
    have hu := hf u (by simp) p h.2.2.2.1
    exact ⟨hu.1, okFrom_mono (ih u.hi h.2.2.2.2 (fun r hr => hf r (by simp [hr]))) hu.2⟩
def withR (l : List Rg) (r : Rg) : List Rg := if r.hi < r.lo then l else l ++ [r]
def piecesL (lo hi : Int) (m : Rg) : List Rg := withR (withR [] ⟨m.lo, lo - 1⟩) ⟨hi + 1, m.hi⟩
theorem withR_append (a b : List Rg) (r : Rg) : withR (a ++ b) r = a ++ withR b r := by unfold withR; split <;> simp
theorem pieces_step (l : List Rg) (lo hi : Int) (m : Rg) : withR (withR l ⟨m.lo, lo - 1⟩) ⟨hi + 1, m.hi⟩ = l ++ piecesL lo hi m := by
  unfold piecesL
  rw [← withR_append, ← withR_append, List.append_nil]
theorem withR_length (l : List Rg) (r : Rg) : (withR l r).length ≤ l.length + 1 := by unfold withR; split <;> simp
theorem pieces_length (lo hi : Int) (m : Rg) : (piecesL lo hi m).length ≤ 2 := by
  unfold piecesL
  have h1 := withR_length (withR [] ⟨m.lo, lo - 1⟩) ⟨hi + 1, m.hi⟩
  have h2 := withR_length [] ⟨m.lo, lo - 1⟩
  simp at h2
  omega
def cutR (lo hi : Int) (r : Rg) : List Rg := if r.hi < lo ∨ hi < r.lo then [r] else piecesL lo hi r
theorem flat_same {f : Rg → List Rg} : ∀ {l : List Rg}, (∀ r ∈ l, f r = [r]) → l.flatMap f = l := by
  intro l
  induction l with
  | nil => intro _; rfl
  | cons u t ih => intro h; rw [List.flatMap_cons, h u (by simp), ih (fun r hr => h r (by simp [hr]))]; rfl
theorem flat_eq {f g : Rg → List Rg} : ∀ {l : List Rg}, (∀ r ∈ l, f r = g r) → l.flatMap f = l.flatMap g := by
  intro l
  induction l with
  | nil => intro _; rfl
  | cons u t ih => intro h; rw [List.flatMap_cons, List.flatMap_cons, h u (by simp), ih (fun r hr => h r (by simp [hr]))]
def droppedL (s : List Rg) (lo hi : Int) : List Rg := aheadL s lo ++ ((metL s lo hi).flatMap (piecesL lo hi) ++ behindL s lo hi)
theorem dropped_is {s : List Rg} {lo hi : Int} (h : okFrom (-1) s = true) : droppedL s lo hi = s.flatMap (cutR lo hi) := by
  have e : s.flatMap (cutR lo hi) = (aheadL s lo ++ (metL s lo hi ++ behindL s lo hi)).flatMap (cutR lo hi) := by rw [cut_all]
  rw [e, List.flatMap_append, List.flatMap_append]
  unfold droppedL
  rw [flat_same (l := aheadL s lo) (fun r hr => by unfold cutR; rw [if_pos (.inl (ahead_lt r hr))]),
    flat_same (l := behindL s lo hi) (fun r hr => by unfold cutR; rw [if_pos (.inr (behind_gt h r hr))]),
    flat_eq (l := metL s lo hi) (g := cutR lo hi) (fun r hr => by unfold cutR; rw [if_neg (by have := met_in h r hr; omega)])]
theorem cutR_in {lo hi : Int} (h2 : lo ≤ hi) {r : Rg} (a : 1 ≤ r.lo) (b : r.lo ≤ r.hi) (c : r.hi ≤ 9999) (hl : 1 ≤ lo) (hh : hi ≤ 9999) (q : Int) (hq : q + 1 < r.lo) : okFrom q (cutR lo hi r) = true ∧ lastHi q (cutR lo hi r) ≤ r.hi := by
  unfold cutR
  split
  · exact ⟨by rw [okFrom_cons]; exact ⟨a, b, c, hq, rfl⟩, by rw [lastHi_cons, lastHi_nil]; exact Int.le_refl _⟩
  · rename_i hn
    unfold piecesL withR
    by_cases c1 : lo - 1 < r.lo
    · by_cases c2 : r.hi < hi + 1
      · simp only [if_pos c1, if_pos c2]
        exact ⟨rfl, by rw [lastHi_nil]; omega⟩
      · simp only [if_pos c1, if_neg c2, List.nil_append]
        exact ⟨by rw [okFrom_cons]; exact ⟨by simp only; omega, by simp only; omega, by simp only; omega, by simp only; omega, rfl⟩, by rw [lastHi_cons, lastHi_nil]; exact Int.le_refl _⟩
    · by_cases c2 : r.hi < hi + 1
      · simp only [if_neg c1, if_pos c2, List.nil_append]
        exact ⟨by rw [okFrom_cons]; exact ⟨by simp only; omega, by simp only; omega, by simp only; omega, by simp only; omega, rfl⟩, by rw [lastHi_cons, lastHi_nil]; simp only; omega⟩
      · simp only [if_neg c1, if_neg c2, List.nil_append, List.singleton_append]
        exact ⟨by rw [okFrom_cons, okFrom_cons]; exact ⟨by simp only; omega, by simp only; omega, by simp only; omega, by simp only; omega, by simp only; omega, by simp only; omega, by simp only; omega, by simp only; omega, rfl⟩, by rw [lastHi_cons, lastHi_cons, lastHi_nil]; exact Int.le_refl _⟩
theorem cutR_has {lo hi : Int} (h2 : lo ≤ hi) (r : Rg) (n : Int) : hasB (cutR lo hi r) n = ((decide (r.lo ≤ n) && decide (n ≤ r.hi)) && !decide (lo ≤ n ∧ n ≤ hi)) := by
  apply hasB_ext
  have hd : ((decide (r.lo ≤ n) && decide (n ≤ r.hi)) && !decide (lo ≤ n ∧ n ≤ hi)) = true ↔ (r.lo ≤ n ∧ n ≤ r.hi) ∧ ¬ (lo ≤ n ∧ n ≤ hi) := by simp only [Bool.and_eq_true, decide_eq_true_eq, Bool.not_eq_true', decide_eq_false_iff_not]
  rw [hd]
  unfold cutR
  split
  · rename_i hc
    constructor
    · rintro ⟨m, hm, a, b⟩
      rw [List.mem_singleton] at hm
      subst hm
      exact ⟨⟨a, b⟩, by omega⟩
    · rintro ⟨a, b⟩
      exact ⟨r, by simp, a⟩
  · rename_i hn
    unfold piecesL withR
    constructor
    · rintro ⟨m, hm, a, b⟩
      by_cases c1 : lo - 1 < r.lo
      · by_cases c2 : r.hi < hi + 1
        · simp only [if_pos c1, if_pos c2] at hm; simp at hm
        · simp only [if_pos c1, if_neg c2, List.nil_append, List.mem_singleton] at hm
          subst hm; simp only at a b; omega
      · by_cases c2 : r.hi < hi + 1
        · simp only [if_neg c1, if_pos c2, List.nil_append, List.mem_singleton] at hm
          subst hm; simp only at a b; omega
        · simp only [if_neg c1, if_neg c2, List.nil_append, List.singleton_append, List.mem_cons, List.not_mem_nil, or_false] at hm
          rcases hm with rfl | rfl <;> (simp only at a b; omega)
    · rintro ⟨⟨a, b⟩, c⟩
      by_cases c1 : n < lo
      · by_cases c2 : r.hi < hi + 1
        · simp only [if_neg (show ¬ lo - 1 < r.lo by omega), if_pos c2]
          exact ⟨⟨r.lo, lo - 1⟩, by simp, a, by simp only; omega⟩
        · simp only [if_neg (show ¬ lo - 1 < r.lo by omega), if_neg c2]
          exact ⟨⟨r.lo, lo - 1⟩, by simp, a, by simp only; omega⟩
      · simp only [if_neg (show ¬ r.hi < hi + 1 by omega)]
        exact ⟨⟨hi + 1, r.hi⟩, by simp, by simp only; omega, b⟩
theorem dropped_ok {s : List Rg} {lo hi : Int} (h : okFrom (-1) s = true) (h1 : 1 ≤ lo) (h2 : lo ≤ hi) (h3 : hi ≤ 9999) : okFrom (-1) (droppedL s lo hi) = true := by
  rw [dropped_is h]
  refine okFrom_flat _ s _ h (fun r hr q hq => ?_)
  have := okFrom_each h r hr
  exact cutR_in h2 this.2.1 this.2.2.1 this.2.2.2 h1 h3 q hq
theorem any_and {l : List Rg} {P Q : Rg → Bool} {c : Bool} (h : ∀ r, P r = (Q r && c)) : l.any P = (l.any Q && c) := by
  induction l with
  | nil => rfl
  | cons u t ih => rw [List.any_cons, List.any_cons, ih, h]; cases Q u <;> cases t.any Q <;> cases c <;> rfl
theorem dropped_has {s : List Rg} {lo hi : Int} (h : okFrom (-1) s = true) (h2 : lo ≤ hi) (n : Int) : hasB (droppedL s lo hi) n = (hasB s n && !decide (lo ≤ n ∧ n ≤ hi)) := by
  rw [dropped_is h, hasB_flat]
  exact any_and (fun r => cutR_has h2 r n)

/- MET. -/
def interR (x m : Rg) : Rg := ⟨max x.lo m.lo, min x.hi m.hi⟩
def meetL (a b : List Rg) : List Rg := a.flatMap fun x => (metL b x.lo x.hi).map (interR x)
theorem inter_ok (x : Rg) (hx : 1 ≤ x.lo) (hx2 : x.lo ≤ x.hi) (hx3 : x.hi ≤ 9999) : ∀ (l : List Rg) (p q : Int), okFrom q l = true → (∀ m ∈ l, m.lo ≤ x.hi ∧ x.lo ≤ m.hi) → (∀ m ∈ l, p + 1 < max x.lo m.lo) → okFrom p (l.map (interR x)) = true := by
  intro l
  induction l with
  | nil => intro p q _ _ _; rfl
  | cons u t ih =>
    intro p q h h1 h2
    rw [okFrom_cons] at h
    have hu := h1 u (by simp)
    have hp := h2 u (by simp)
    rw [List.map_cons, okFrom_cons]
    unfold interR
    simp only
    refine ⟨by omega, by omega, by omega, hp, ?_⟩
    refine ih _ u.hi h.2.2.2.2 (fun m hm => h1 m (by simp [hm])) (fun m hm => ?_)
    have := okFrom_each h.2.2.2.2 m hm
    omega
theorem meet_ok {a b : List Rg} (ha : okFrom (-1) a = true) (hb : okFrom (-1) b = true) : okFrom (-1) (meetL a b) = true := by
  refine okFrom_flat _ a _ ha (fun x hx q hq => ?_)
  have hr := okFrom_each ha x hx
  have hm := (cut_ok x.lo x.hi hb).2.1
  refine ⟨inter_ok x hr.2.1 hr.2.2.1 hr.2.2.2 _ _ _ hm (met_in hb) (fun m _ => by omega), lastHi_le (by omega) (fun r hr => ?_)⟩
  obtain ⟨m, _, rfl⟩ := List.mem_map.1 hr
  unfold interR
  simp only
  omega
theorem meet_each {b : List Rg} (hb : okFrom (-1) b = true) (x : Rg) (n : Int) : hasB ((metL b x.lo x.hi).map (interR x)) n = ((decide (x.lo ≤ n) && decide (n ≤ x.hi)) && hasB b n) := by
  apply hasB_ext
  have hd : ((decide (x.lo ≤ n) && decide (n ≤ x.hi)) && hasB b n) = true ↔ (x.lo ≤ n ∧ n ≤ x.hi) ∧ ∃ r ∈ b, r.lo ≤ n ∧ n ≤ r.hi := by rw [← hasB_iff]; simp
  rw [hd]
  constructor
  · rintro ⟨r, hr, h1, h2⟩
    obtain ⟨m, hm, rfl⟩ := List.mem_map.1 hr
    unfold interR at h1 h2
    simp only at h1 h2
    refine ⟨by omega, m, ?_, by omega, by omega⟩
    rw [← cut_all b x.lo x.hi]
    simp [hm]
  · rintro ⟨⟨h1, h2⟩, r, hr, h3, h4⟩
    rw [← cut_all b x.lo x.hi, List.mem_append, List.mem_append] at hr
    rcases hr with hr | hr | hr
    · have := ahead_lt r hr; omega
    · refine ⟨interR x r, List.mem_map.2 ⟨r, hr, rfl⟩, ?_, ?_⟩ <;> (unfold interR; simp only; omega)
    · have := behind_gt hb r hr; omega
theorem meet_has {a b : List Rg} (hb : okFrom (-1) b = true) (n : Int) : hasB (meetL a b) n = (hasB a n && hasB b n) := by
  unfold meetL
  rw [hasB_flat]
  exact any_and (fun x => meet_each hb x n)

/- UNITED. -/
def uniteTo (out : List Rg) (r : Rg) : List Rg :=
  match out.getLast? with
  | some u => if r.lo ≤ u.hi + 1 then out.dropLast ++ [⟨u.lo, max u.hi r.hi⟩] else out ++ [r]
  | none => out ++ [r]
theorem uniteTo_nil (r : Rg) : uniteTo [] r = [r] := rfl
theorem uniteTo_in {o : List Rg} {u r : Rg} (h : r.lo ≤ u.hi + 1) : uniteTo (o ++ [u]) r = o ++ [⟨u.lo, max u.hi r.hi⟩] := by unfold uniteTo; simp [h]
theorem uniteTo_new {o : List Rg} {u r : Rg} (h : ¬ r.lo ≤ u.hi + 1) : uniteTo (o ++ [u]) r = o ++ [u] ++ [r] := by unfold uniteTo; simp [h]
def unitedL (l : List Rg) : List Rg := l.foldl uniteTo []
def rightR (r : Rg) : Prop := 1 ≤ r.lo ∧ r.lo ≤ r.hi ∧ r.hi ≤ 9999
theorem snoc_cases (l : List Rg) : l = [] ∨ ∃ o u, l = o ++ [u] := by
  rcases List.eq_nil_or_concat l with h | ⟨o, u, h⟩
  · exact .inl h
  · exact .inr ⟨o, u, by simpa using h⟩
theorem united_inv : ∀ (l out : List Rg), okFrom (-1) out = true → (∀ r ∈ l, rightR r) → l.Pairwise (fun x y => x.lo ≤ y.lo) → (∀ u ∈ out, ∀ r ∈ l, u.lo ≤ r.lo) →
    okFrom (-1) (l.foldl uniteTo out) = true ∧ ∀ n, hasB (l.foldl uniteTo out) n = (hasB out n || hasB l n) := by
  intro l
  induction l with
  | nil => intro out h _ _ _; exact ⟨h, fun n => by rw [List.foldl_nil, hasB_nil, Bool.or_false]⟩
  | cons r t ih =>
    intro out h hr hp ho
    rw [List.foldl_cons]
    have hrr := hr r (by simp)
    obtain ⟨r1, r2, r3⟩ := hrr
    have hpt := List.pairwise_cons.1 hp
    rcases snoc_cases out with rfl | ⟨o, u, rfl⟩
    · rw [uniteTo_nil]
      have := ih [r] (by rw [okFrom_cons]; exact ⟨r1, r2, r3, by omega, rfl⟩) (fun x hx => hr x (by simp [hx])) hpt.2 (fun x hx y hy => by rw [List.mem_singleton] at hx; subst hx; exact hpt.1 y hy)
      refine ⟨this.1, fun n => ?_⟩
      rw [this.2 n, hasB_cons r t, hasB_cons r [], hasB_nil]
      simp
    · have hs := okFrom_snoc.1 h
      have hur := ho u (by simp) r (by simp)
      by_cases c : r.lo ≤ u.hi + 1
      · rw [uniteTo_in c]
        have := ih (o ++ [⟨u.lo, max u.hi r.hi⟩]) (okFrom_snoc.2 ⟨hs.1, hs.2.1, by simp only; omega, by simp only; omega, hs.2.2.2.2⟩) (fun x hx => hr x (by simp [hx])) hpt.2 (fun x hx y hy => ?_)
        · refine ⟨this.1, fun n => ?_⟩
          rw [this.2 n, hasB_cons r t, hasB_append, hasB_append, hasB_cons, hasB_cons u [], hasB_nil]
          simp only
          have : (decide (u.lo ≤ n) && decide (n ≤ max u.hi r.hi)) = ((decide (u.lo ≤ n) && decide (n ≤ u.hi)) || (decide (r.lo ≤ n) && decide (n ≤ r.hi))) := by
            rw [Bool.eq_iff_iff]
            simp only [Bool.and_eq_true, Bool.or_eq_true, decide_eq_true_eq]
            omega
          rw [this]
          cases hasB o n <;> cases hasB t n <;> cases (decide (u.lo ≤ n) && decide (n ≤ u.hi)) <;> cases (decide (r.lo ≤ n) && decide (n ≤ r.hi)) <;> rfl
        · rcases List.mem_append.1 hx with hx | hx
          · exact ho x (by simp [hx]) y (by simp [hy])
          · rw [List.mem_singleton] at hx
            subst hx
            exact ho u (by simp) y (by simp [hy])
      · rw [uniteTo_new c]
        have := ih (o ++ [u] ++ [r]) (okFrom_snoc.2 ⟨h, r1, r2, r3, by rw [lastHi_snoc]; omega⟩) (fun x hx => hr x (by simp [hx])) hpt.2 (fun x hx y hy => ?_)
        · refine ⟨this.1, fun n => ?_⟩
          rw [this.2 n, hasB_cons r t, hasB_append (o ++ [u]) [r], hasB_cons r [], hasB_nil, Bool.or_false, Bool.or_assoc]
        · rcases List.mem_append.1 hx with hx | hx
          · exact ho x hx y (by simp [hy])
          · rw [List.mem_singleton] at hx
            subst hx
            exact hpt.1 y hy
theorem united_ok {l : List Rg} (h : ∀ r ∈ l, rightR r) (hp : l.Pairwise (fun x y => x.lo ≤ y.lo)) : okFrom (-1) (unitedL l) = true ∧ ∀ n, hasB (unitedL l) n = hasB l n := by
  have := united_inv l [] rfl h hp (fun u hu => by simp at hu)
  exact ⟨this.1, fun n => by rw [show unitedL l = l.foldl uniteTo [] from rfl, this.2 n, hasB_nil, Bool.false_or]⟩
theorem hasB_perm {l m : List Rg} (h : l.Perm m) (n : Int) : hasB l n = hasB m n := by
  rw [Bool.eq_iff_iff, hasB_iff, hasB_iff]
  constructor
  · rintro ⟨r, hr, hx⟩; exact ⟨r, h.mem_iff.1 hr, hx⟩
  · rintro ⟨r, hr, hx⟩; exact ⟨r, h.mem_iff.2 hr, hx⟩

/- WHAT IS ANSWERED. -/
theorem okS_len {t : List Rg} (h : okFrom (-1) t = true) : okS t = decide (t.length ≤ 40) := by unfold okS; rw [h, Bool.true_and]
theorem putV_no {s : List Rg} {lo hi : Int} {c : Bool} (h : ¬ (okS s = true ∧ 1 ≤ lo ∧ lo ≤ hi ∧ hi ≤ 9999)) : putV s lo hi c = (s, false) := if_neg h
theorem putV_is {s t : List Rg} {lo hi : Int} {c : Bool} (h : okS s = true ∧ 1 ≤ lo ∧ lo ≤ hi ∧ hi ≤ 9999) (ht : okFrom (-1) t = true) (hb : ∀ n, hasB t n = if lo ≤ n ∧ n ≤ hi then c else hasB s n) :
    putV s lo hi c = if okS t = true then (t, true) else (s, false) := by
  have hs : okFrom (-1) s = true := by have h1 := h.1; unfold okS at h1; rw [Bool.and_eq_true] at h1; exact h1.1
  have h0 : putB s lo hi c 0 = false := by
    unfold putB
    rw [if_neg (by simp; omega)]
    exact bitsOf_zero hs
  have e : t = setOf (putB s lo hi c) := setOf_is h0 ht (fun m h1 h2 => by
    rw [hb m]
    unfold putB bitsOf
    rw [Int.toNat_of_nonneg (by omega)])
  unfold putV
  rw [if_pos h, ← e, okS_len ht]
  by_cases hl : t.length ≤ 40
  · rw [if_pos hl, if_pos (by simpa using hl)]
  · rw [if_neg hl, if_neg (by simpa using hl)]
theorem put_added {s : List Rg} {lo hi : Int} (h : okS s = true ∧ 1 ≤ lo ∧ lo ≤ hi ∧ hi ≤ 9999) : putV s lo hi true = if okS (addedL s lo hi) = true then (addedL s lo hi, true) else (s, false) := by
  have hs : okFrom (-1) s = true := by have h1 := h.1; unfold okS at h1; rw [Bool.and_eq_true] at h1; exact h1.1
  refine putV_is h (added_ok hs h.2.1 h.2.2.1 h.2.2.2) (fun n => ?_)
  rw [added_has hs h.2.2.1]
  split
  · rename_i hn; rw [decide_eq_true hn]; rfl
  · rename_i hn; rw [decide_eq_false hn]; rfl
theorem put_dropped {s : List Rg} {lo hi : Int} (h : okS s = true ∧ 1 ≤ lo ∧ lo ≤ hi ∧ hi ≤ 9999) : putV s lo hi false = if okS (droppedL s lo hi) = true then (droppedL s lo hi, true) else (s, false) := by
  have hs : okFrom (-1) s = true := by have h1 := h.1; unfold okS at h1; rw [Bool.and_eq_true] at h1; exact h1.1
  refine putV_is h (dropped_ok hs h.2.1 h.2.2.1 h.2.2.2) (fun n => ?_)
  rw [dropped_has hs h.2.2.1]
  split
  · rename_i hn; rw [decide_eq_true hn]; simp
  · rename_i hn; rw [decide_eq_false hn]; simp
/-- A right row, or nothing where it is too long. -/
def orNo (t : List Rg) : List Rg × Bool := if okS t = true then (t, true) else ([], false)
theorem setV_is {b : Nat → Bool} {t : List Rg} (h0 : b 0 = false) (ht : okFrom (-1) t = true) (hb : ∀ m : Int, 1 ≤ m → m ≤ 9999 → hasB t m = b m.toNat) : setV b = orNo t := by
  have e : t = setOf b := setOf_is h0 ht hb
  unfold setV orNo
  rw [← e, okS_len ht]
  by_cases hl : t.length ≤ 40
  · rw [if_pos hl, if_pos (by simpa using hl)]
  · rw [if_neg hl, if_neg (by simpa using hl)]
theorem two_no {a b : List Rg} {c : Bool} (h : ¬ (okS a = true ∧ okS b = true)) : twoV a b c = ([], false) := if_neg h
theorem okS_from {s : List Rg} (h : okS s = true) : okFrom (-1) s = true := by unfold okS at h; rw [Bool.and_eq_true] at h; exact h.1
theorem two_meet {a b : List Rg} (ha : okS a = true) (hb : okS b = true) : twoV a b true = orNo (meetL a b) := by
  have h1 := okS_from ha
  have h2 := okS_from hb
  unfold twoV
  rw [if_pos ⟨ha, hb⟩]
  refine setV_is ?_ (meet_ok h1 h2) (fun m hm _ => ?_)
  · unfold twoB; rw [if_pos rfl, bitsOf_zero h1]; rfl
  · rw [meet_has h2]; unfold twoB bitsOf; rw [if_pos rfl, Int.toNat_of_nonneg (by omega)]
theorem two_join {a b l : List Rg} (ha : okS a = true) (hb : okS b = true) (hl : l.Perm (a ++ b)) (hp : l.Pairwise (fun x y => x.lo ≤ y.lo)) : twoV a b false = orNo (unitedL l) := by
  have h1 := okS_from ha
  have h2 := okS_from hb
  have hr : ∀ r ∈ l, rightR r := fun r hr => by
    rcases List.mem_append.1 (hl.mem_iff.1 hr) with h | h
    · exact (okFrom_each h1 r h).2
    · exact (okFrom_each h2 r h).2
  have hu := united_ok hr hp
  unfold twoV
  rw [if_pos ⟨ha, hb⟩]
  refine setV_is ?_ hu.1 (fun m hm _ => ?_)
  · unfold twoB; rw [if_neg (by decide), bitsOf_zero h1, bitsOf_zero h2]; rfl
  · rw [hu.2, hasB_perm hl, hasB_append]; unfold twoB bitsOf; rw [if_neg (by decide), Int.toNat_of_nonneg (by omega)]
end Go.Proofs.YtjaohlnejkgkaaaGreatDoor.Plain

/- What the laws on sets say, plainly. Nothing of the program stands here. -/
namespace Go.Proofs.YtjaohlnejkgkaaaGreatDoor.Plain
open Go.RowKit
set_option linter.unusedVariables false

theorem okS_of {s : List Rg} (h : okFrom (-1) s = true) (h2 : s.length ≤ 40) : okS s = true := by rw [okS, h, decide_eq_true h2]; rfl
theorem okS_two {s : List Rg} (h : okS s = true) : okFrom (-1) s = true ∧ s.length ≤ 40 := by simpa [okS] using h
theorem bits_setOf {f : Nat → Bool} (h0 : f 0 = false) {n : Nat} (h : n ≤ 9999) : bitsOf (setOf f) n = f n := by
  unfold bitsOf
  rw [setOf_has f h0]
  by_cases hn : 1 ≤ n
  · rw [decide_eq_true (by omega), Int.toNat_natCast, Bool.true_and]
  · have e : n = 0 := by omega
    subst e
    rw [decide_eq_false (by omega), Bool.false_and, h0]
theorem cnt_setOf {f : Nat → Bool} (h0 : f 0 = false) : cntTo (bitsOf (setOf f)) 9999 = cntTo f 9999 := cnt_congr fun n _ h => bits_setOf h0 h
theorem put_zero {s : List Rg} {lo hi : Int} {c : Bool} (h : okS s = true) (h1 : 1 ≤ lo) : putB s lo hi c 0 = false := by
  unfold putB; rw [if_neg (by simp; omega)]; exact bitsOf_zero (okS_two h).1
/-- What is put in, or taken out, of a set that has room. -/
theorem put_room {s : List Rg} {lo hi : Int} {c : Bool} (h : okS s = true) (hr : s.length ≤ 39) (h1 : 1 ≤ lo) (h2 : lo ≤ hi) (h3 : hi ≤ 9999) : putV s lo hi c = (setOf (putB s lo hi c), true) ∧ okS (setOf (putB s lo hi c)) = true ∧ (setOf (putB s lo hi c)).length ≤ s.length + 1 := by
  have hl := put_len (c := c) (okS_two h).1 h1 h2 h3
  have h40 : (setOf (putB s lo hi c)).length ≤ 40 := by omega
  refine ⟨?_, okS_of (setOf_ok _ (put_zero h h1)) h40, hl⟩
  unfold putV
  rw [if_pos ⟨h, h1, h2, h3⟩, if_pos h40]
theorem put_has {s : List Rg} {lo hi : Int} {c : Bool} (h : okS s = true) (h1 : 1 ≤ lo) {n : Nat} (hn : n ≤ 9999) : hasB (setOf (putB s lo hi c)) (n : Int) = putB s lo hi c n := bits_setOf (put_zero h h1) hn
theorem put_size {s : List Rg} {lo hi : Int} (h : okS s = true) (hr : s.length ≤ 39) (h1 : 1 ≤ lo) (h2 : lo ≤ hi) (h3 : hi ≤ 9999) : sizeL (setOf (putB s lo hi true)) - sizeL (setOf (putB s lo hi false)) = hi - lo + 1 := by
  obtain ⟨_, a2, _⟩ := put_room (c := true) h hr h1 h2 h3
  obtain ⟨_, b2, _⟩ := put_room (c := false) h hr h1 h2 h3
  rw [size_cnt a2, size_cnt b2, cnt_setOf (put_zero h h1), cnt_setOf (put_zero h h1)]
  have e := cnt_or (f := putB s lo hi false) (g := fun n => decide (lo ≤ (n : Int)) && decide ((n : Int) ≤ hi)) (N := 9999)
  have e1 : cntTo (fun n => putB s lo hi false n || (decide (lo ≤ (n : Int)) && decide ((n : Int) ≤ hi))) 9999 = cntTo (putB s lo hi true) 9999 := cnt_congr fun n _ _ => by
    unfold putB
    by_cases hin : lo ≤ (n : Int) ∧ (n : Int) ≤ hi
    · rw [if_pos hin, if_pos hin, decide_eq_true hin.1, decide_eq_true hin.2]; rfl
    · rw [if_neg hin, if_neg hin]
      have : (decide (lo ≤ (n : Int)) && decide ((n : Int) ≤ hi)) = false := by
        rw [Bool.and_eq_false_iff]
        by_cases hx : lo ≤ (n : Int)
        · right; rw [decide_eq_false_iff_not]; omega
        · left; rw [decide_eq_false_iff_not]; exact hx
      rw [this, Bool.or_false]
  have e2 : cntTo (fun n => putB s lo hi false n && (decide (lo ≤ (n : Int)) && decide ((n : Int) ≤ hi))) 9999 = 0 := by
    rw [← cnt_none (N := 9999)]
    refine cnt_congr fun n _ _ => ?_
    unfold putB
    by_cases hin : lo ≤ (n : Int) ∧ (n : Int) ≤ hi
    · rw [if_pos hin]; rfl
    · have : (decide (lo ≤ (n : Int)) && decide ((n : Int) ≤ hi)) = false := by
        rw [Bool.and_eq_false_iff]
        by_cases hx : lo ≤ (n : Int)
        · right; rw [decide_eq_false_iff_not]; omega
        · left; rw [decide_eq_false_iff_not]; exact hx
      rw [this, Bool.and_false]
  have e3 := cnt_range (lo := lo) (hi := hi) h1 (by omega) 9999
  have e4 : cntTo (fun n => decide (lo ≤ (n : Int)) && decide ((n : Int) ≤ hi)) 9999 = hi - lo + 1 := by
    rw [e3, if_neg (by omega)]
    split <;> omega
  omega
theorem two_zero {x y : List Rg} {both : Bool} (hx : okS x = true) (hy : okS y = true) : twoB x y both 0 = false := by
  unfold twoB; rw [bitsOf_zero (okS_two hx).1, bitsOf_zero (okS_two hy).1]; cases both <;> rfl
theorem two_room {x y : List Rg} {both : Bool} (hx : okS x = true) (hy : okS y = true) (hr : x.length + y.length ≤ 40) : twoV x y both = (setOf (twoB x y both), true) ∧ okS (setOf (twoB x y both)) = true := by
  have hl := two_len (both := both) hx hy
  have h40 : (setOf (twoB x y both)).length ≤ 40 := by omega
  refine ⟨?_, okS_of (setOf_ok _ (two_zero hx hy)) h40⟩
  unfold twoV setV
  rw [if_pos ⟨hx, hy⟩, if_pos h40]
theorem two_has {x y : List Rg} {both : Bool} (hx : okS x = true) (hy : okS y = true) {n : Nat} (hn : n ≤ 9999) : hasB (setOf (twoB x y both)) (n : Int) = twoB x y both n := bits_setOf (two_zero hx hy) hn
theorem two_swap (x y : List Rg) (both : Bool) : twoB x y both = twoB y x both := by
  funext n
  unfold twoB
  cases both
  · simp [Bool.or_comm]
  · simp [Bool.and_comm]
theorem two_size {x y : List Rg} (hx : okS x = true) (hy : okS y = true) (hr : x.length + y.length ≤ 40) : sizeL (setOf (twoB x y false)) + sizeL (setOf (twoB x y true)) = sizeL x + sizeL y := by
  rw [size_cnt (two_room (both := false) hx hy hr).2, size_cnt (two_room (both := true) hx hy hr).2, cnt_setOf (two_zero hx hy), cnt_setOf (two_zero hx hy), size_cnt hx, size_cnt hy]
  exact cnt_or (f := bitsOf x) (g := bitsOf y) (N := 9999)
end Go.Proofs.YtjaohlnejkgkaaaGreatDoor.Plain
