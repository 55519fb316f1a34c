/- Several texts in one: Plain, HexPlain, DecPlain, StrPlain, RangePlain, SetPlain, ReadPlain, ReadSetPlain, FlagPlain, MailPlain, SetTextPlain, RunsCount, SetCut, SetFacts. Made by fuse_tl.py. -/
import Derived.Below
import Derived.WalkKit
import Derived.Lib.ItoaLen
import Derived.Lib.Strings
/- Plain facts on bytes and numbers: the bytes of a number, seven bits a byte, and their reading. Nothing of the program stands here. -/
namespace Go.Proofs.YtihdgfihdecalaaGreatDoor.Plain

/-- The bytes of a number, the lowest seven bits first, with fuel. -/
def varF : Nat → Nat → List UInt8
  | 0, n => [UInt8.ofNat n]
  | f + 1, n => if 127 < n then UInt8.ofNat (n % 128 + 128) :: varF f (n / 128) else [UInt8.ofNat n]

def varL (n : Nat) : List UInt8 := varF 10 n

/-- The number that bytes tell. -/
def valL : List UInt8 → Nat
  | [] => 0
  | b :: r => b.toNat % 128 + 128 * valL r

theorem varF_more (f n : Nat) (h : 127 < n) : varF (f + 1) n = UInt8.ofNat (n % 128 + 128) :: varF f (n / 128) := by
  simp [varF, h]
theorem varF_last (f n : Nat) (h : n ≤ 127) : varF f n = [UInt8.ofNat n] := by
  cases f with
  | zero => rfl
  | succ f => simp [varF]; omega

theorem valL_append (l : List UInt8) (b : UInt8) : valL (l ++ [b]) = valL l + b.toNat % 128 * 128 ^ l.length := by
  induction l with
  | nil => simp [valL]
  | cons a r ih =>
    simp only [List.cons_append, valL, ih, List.length_cons, Nat.pow_succ]
    rw [Nat.mul_add]
    have : 128 * (b.toNat % 128 * 128 ^ r.length) = b.toNat % 128 * (128 ^ r.length * 128) := by
      rw [← Nat.mul_assoc, Nat.mul_comm 128, Nat.mul_assoc, Nat.mul_comm 128]
    omega

/-- What is read: fuel, what was seen, what is ahead. -/
def rdL : Nat → List UInt8 → List UInt8 → Option (Nat × Nat)
  | 0, _, _ => none
  | _ + 1, _, [] => none
  | f + 1, pre, b :: r =>
    if b.toNat < 128 then
      if valL (pre ++ [b]) ≤ 1000000000 ∧ varL (valL (pre ++ [b])) = pre ++ [b] then some (valL (pre ++ [b]), pre.length + 1) else none
    else rdL f (pre ++ [b]) r

/-- Behind some rounds: what is written, and what is left to write. -/
def VarInv (N m : Nat) (pre : List UInt8) : Prop := ∃ f, m < 128 ^ f ∧ pre.length + f = 10 ∧ varL N = pre ++ varF f m

theorem VarInv.start (N : Nat) (h : N ≤ 34359738368) : VarInv N N [] := ⟨10, by omega, rfl, rfl⟩
theorem VarInv.step {N m : Nat} {pre : List UInt8} (h : VarInv N m pre) (hm : 127 < m) : VarInv N (m / 128) (pre ++ [UInt8.ofNat (m % 128 + 128)]) := by
  obtain ⟨f, h1, h2, h3⟩ := h
  match f, h1, h2, h3 with
  | 0, h1, _, _ => simp at h1; omega
  | f + 1, h1, h2, h3 =>
    refine ⟨f, ?_, by simp; omega, ?_⟩
    · rw [Nat.pow_succ] at h1; omega
    · rw [h3, varF_more f m hm]; simp
theorem VarInv.done {N m : Nat} {pre : List UInt8} (h : VarInv N m pre) (hm : m ≤ 127) : varL N = pre ++ [UInt8.ofNat m] := by
  obtain ⟨f, h1, h2, h3⟩ := h
  rw [h3, varF_last f m hm]
theorem VarInv.len {N m : Nat} {pre : List UInt8} (h : VarInv N m pre) : pre.length ≤ 10 := by
  obtain ⟨f, h1, h2, h3⟩ := h
  omega

theorem hide {p : Prop} (h : p) : RowKit.Hid p := h
theorem unhide {p : Prop} (h : RowKit.Hid p) : p := h
theorem below2 {w w1 w2 : World} (h1 : RowKit.Below w.heap.size w w1) (h2 : RowKit.Below w1.heap.size w1 w2) : RowKit.Below w.heap.size w w2 :=
  h1.trans (h2.mono h1.size)

end Go.Proofs.YtihdgfihdecalaaGreatDoor.Plain

/- Plain facts on figures: two for each byte. Nothing of the program stands here. -/
namespace Go.Proofs.YtihdgfihdecalaaGreatDoor.Plain
open Go.RowKit

/-- The figure of a number below 16. -/
def fig (x : Nat) : UInt8 := if x < 10 then UInt8.ofNat (48 + x) else UInt8.ofNat (87 + x)

theorem fig_low {x : Nat} (h : x < 10) : ((fig x).toNat : Int) = 48 + (x : Int) := by
  unfold fig; rw [if_pos h, UInt8.toNat_ofNat']; omega
end Go.Proofs.YtihdgfihdecalaaGreatDoor.Plain

/- Plain facts on decimal figures. Nothing of the program stands here. -/
namespace Go.Proofs.YtihdgfihdecalaaGreatDoor.Plain
open Go.RowKit

/-- The figures of a number; none of 0. -/
def dz (m : Nat) : List UInt8 := if m = 0 then [] else Lib.decDigits m

theorem dz_zero : dz 0 = [] := rfl
theorem dz_pos {m : Nat} (h : m ≠ 0) : dz m = Lib.decDigits m := if_neg h
theorem fig_dec {x : Nat} (h : x < 10) : fig x = UInt8.ofNat (48 + x) := if_pos h
theorem dz_step {m : Nat} (h : m ≠ 0) : dz m = dz (m / 10) ++ [fig (m % 10)] := by
  rw [dz_pos h, fig_dec (by omega)]
  by_cases h10 : m < 10
  · rw [Lib.decDigits, dif_pos h10, show m / 10 = 0 from by omega, dz_zero, show m % 10 = m from by omega]; rfl
  · rw [Lib.decDigits, dif_neg h10, dz_pos (by omega)]
theorem dz_len {m : Nat} (h : m ≤ 9223372036854775808) : (dz m).length ≤ 20 := by
  unfold dz
  split
  · simp
  · rw [Lib.decDigits_length]; exact Lib.nDigits_le20 m (by omega)

/-- Behind some rounds: what is left, and what is written. -/
def DecInv (N m : Nat) (suf : List UInt8) : Prop := dz N = dz m ++ suf ∧ suf.length ≤ 20
theorem DecInv.start (N : Nat) : DecInv N N [] := ⟨by simp, by simp⟩
theorem DecInv.step {N m : Nat} {suf : List UInt8} (hN : N ≤ 9223372036854775808) (h : DecInv N m suf) (hm : m ≠ 0) : DecInv N (m / 10) (fig (m % 10) :: suf) := by
  have e : dz N = dz (m / 10) ++ (fig (m % 10) :: suf) := by rw [h.1, dz_step hm]; simp
  refine ⟨e, ?_⟩
  have := dz_len hN
  rw [e] at this
  simp only [List.length_append] at this
  omega
theorem DecInv.done {N : Nat} {suf : List UInt8} (h : DecInv N 0 suf) (hN : N ≠ 0) : suf = Lib.decDigits N := by
  have := h.1
  rw [dz_pos hN, dz_zero] at this
  simpa using this.symm

end Go.Proofs.YtihdgfihdecalaaGreatDoor.Plain

/- Plain facts on rows of strings and on marks. Nothing of the program stands here. -/
namespace Go.Proofs.YtihdgfihdecalaaGreatDoor.Plain
open Go.RowKit

/-- Texts as values. -/
def strs (l : List (List UInt8)) : List Value := l.map fun x => Value.string ⟨x.toArray⟩
/-- The text of a mark. -/
def mkL (k : Nat) : List UInt8 := 109 :: dz k
theorem DecInv.mark {N : Nat} {suf : List UInt8} (h : DecInv N 0 suf) : suf = dz N := by
  have := h.1
  rw [dz_zero] at this
  simpa using this.symm
theorem fig_10 (m : Nat) : ((fig (m % 10)).toNat : Int) = 48 + (m : Int) % 10 := by
  rw [fig_low (by omega)]; omega
end Go.Proofs.YtihdgfihdecalaaGreatDoor.Plain

/- Rows of ranges, plainly: their cells; sets of numbers as ranges. Nothing of the program stands here. -/
namespace Go.Proofs.YtihdgfihdecalaaGreatDoor.Plain
set_option linter.unusedVariables false

structure Rg where
  lo : Int
  hi : Int

def rgl (r : Rg) : List Value := [.int .i64 r.lo, .int .i64 r.hi]
def rgs (l : List Rg) : List Value := l.flatMap rgl
theorem rgs_cons (r : Rg) (l : List Rg) : rgs (r :: l) = rgl r ++ rgs l := by simp [rgs]
theorem rgs_length (l : List Rg) : (rgs l).length = l.length * 2 := by
  induction l with
  | nil => rfl
  | cons f r ih => rw [rgs_cons, List.length_append, ih]; simp [rgl]; omega
theorem rgs_get (l : List Rg) (k : Nat) (f : Rg) (h : l[k]? = some f) (j : Nat) (hj : j < 2) : (rgs l)[k * 2 + j]? = (rgl f)[j]? := by
  induction l generalizing k with
  | nil => simp at h
  | cons g r ih =>
    rw [rgs_cons]
    cases k with
    | zero =>
      simp at h; subst h
      rw [Nat.zero_mul, Nat.zero_add, List.getElem?_append_left (by simpa [rgl] using hj)]
    | succ k =>
      simp at h
      rw [List.getElem?_append_right (by simp [rgl]; omega)]
      have : (k + 1) * 2 + j - (rgl g).length = k * 2 + j := by simp [rgl]; omega
      rw [this, ih k h]
theorem rgs_0 {l : List Rg} {k : Nat} {f : Rg} (h : l[k]? = some f) : (rgs l)[k * 2]? = some (.int .i64 f.lo) := by
  have := rgs_get l k f h 0 (by omega); simpa [rgl] using this
theorem rgs_1 {l : List Rg} {k : Nat} {f : Rg} (h : l[k]? = some f) : (rgs l)[k * 2 + 1]? = some (.int .i64 f.hi) := by
  have := rgs_get l k f h 1 (by omega); simpa [rgl] using this
/-- One range of a row laid anew, cell by cell. -/
theorem rgs_set (l : List Rg) (k : Nat) (f : Rg) (h : k < l.length) : ((rgs l).set (k * 2) (.int .i64 f.lo)).set (k * 2 + 1) (.int .i64 f.hi) = rgs (l.set k f) := by
  apply List.ext_getElem?
  intro i
  obtain ⟨q, j, rfl, hj⟩ : ∃ q j, i = q * 2 + j ∧ j < 2 := ⟨i / 2, i % 2, by omega, Nat.mod_lt _ (by omega)⟩
  by_cases hq : q < l.length
  · by_cases e : q = k
    · subst e
      rw [rgs_get (l.set q f) q f (by simp [hq]) j hj]
      have hl : (rgs l).length = l.length * 2 := rgs_length l
      match j, hj with
      | 0, _ => simp [List.getElem?_set, rgl]; omega
      | 1, _ => simp [List.getElem?_set, rgl]; omega
    · rw [rgs_get (l.set k f) q l[q] (by rw [List.getElem?_set_ne (by omega), List.getElem?_eq_getElem hq]) j hj, ← rgs_get l q l[q] (List.getElem?_eq_getElem hq) j hj]
      rw [List.getElem?_set_ne (by omega), List.getElem?_set_ne (by omega)]
  · rw [List.getElem?_eq_none (by simp [rgs_length]; omega), List.getElem?_eq_none (by simp [rgs_length]; omega)]
def rg0 : Rg := ⟨0, 0⟩
def laidR (l : List Rg) (k : Nat) : List Rg := l.take k ++ List.replicate (l.length - k) rg0
theorem laidR_zero (l : List Rg) : laidR l 0 = List.replicate l.length rg0 := by simp [laidR]
theorem laidR_all (l : List Rg) : laidR l l.length = l := by simp [laidR]
theorem laidR_length (l : List Rg) (k : Nat) (h : k ≤ l.length) : (laidR l k).length = l.length := by simp [laidR]; omega
theorem laidR_set (l : List Rg) (k : Nat) (h : k < l.length) : (laidR l k).set k l[k] = laidR l (k + 1) := by
  unfold laidR
  have e : l.length - k = (l.length - (k + 1)) + 1 := by omega
  rw [List.set_append_right _ _ (by simp; omega), e, List.replicate_succ]
  have : k - (l.take k).length = 0 := by simp; omega
  rw [this, List.set_cons_zero, List.take_succ_eq_append_getElem h, List.append_assoc]
  rfl

/-- Marks: k0, k0 + 1, .. in the cells of n ranges. -/
def mkR (k : Nat) : Rg := ⟨(k : Int), (k : Int) + 1⟩
def marksR (k0 n : Nat) : List Rg := (List.range n).map fun i => mkR (k0 + i * 2)
theorem marksR_length (k0 n : Nat) : (marksR k0 n).length = n := by simp [marksR]
def markedR (k0 : Nat) (l : List Rg) (i : Nat) : List Rg := marksR k0 i ++ l.drop i
theorem markedR_zero (k0 : Nat) (l : List Rg) : markedR k0 l 0 = l := by simp [markedR, marksR]
theorem markedR_all {k0 : Nat} {l : List Rg} : markedR k0 l l.length = marksR k0 l.length := by simp [markedR]
theorem markedR_length {k0 i : Nat} {l : List Rg} (h : i ≤ l.length) : (markedR k0 l i).length = l.length := by simp [markedR, marksR]; omega
theorem markedR_set {k0 i : Nat} {l : List Rg} (h : i < l.length) : (markedR k0 l i).set i (mkR (k0 + i * 2)) = markedR k0 l (i + 1) := by
  unfold markedR
  rw [List.set_append_right _ _ (by simp [marksR])]
  have e : i - (marksR k0 i).length = 0 := by simp [marksR]
  rw [e, List.drop_eq_getElem_cons h, List.set_cons_zero]
  simp [marksR, List.range_succ]

/- Sets of numbers. -/
def hasB (s : List Rg) (n : Int) : Bool := s.any fun r => decide (r.lo ≤ n) && decide (n ≤ r.hi)

theorem hasB_cons (r : Rg) (t : List Rg) (n : Int) : hasB (r :: t) n = ((decide (r.lo ≤ n) && decide (n ≤ r.hi)) || hasB t n) := by simp [hasB]
theorem hasB_append (a b : List Rg) (n : Int) : hasB (a ++ b) n = (hasB a n || hasB b n) := by simp [hasB]
theorem hasB_nil (n : Int) : hasB [] n = false := rfl
end Go.Proofs.YtihdgfihdecalaaGreatDoor.Plain

/- Sets of numbers as marks, and the ranges of what is marked. Nothing of the program stands here. -/
namespace Go.Proofs.YtihdgfihdecalaaGreatDoor.Plain
set_option linter.unusedVariables false

def bitsOf (s : List Rg) (n : Nat) : Bool := hasB s (n : Int)
def putB (s : List Rg) (lo hi : Int) (c : Bool) (n : Nat) : Bool := if lo ≤ (n : Int) ∧ (n : Int) ≤ hi then c else bitsOf s n
end Go.Proofs.YtihdgfihdecalaaGreatDoor.Plain

/- Plain facts on the reading of a number out of bytes. Nothing of the program stands here. -/
namespace Go.Proofs.YtihdgfihdecalaaGreatDoor.Plain
open Go.RowKit

/-- The bytes from A on, up to k. -/
def seg (l : List UInt8) (A k : Nat) : List UInt8 := (l.take k).drop A

theorem seg_length {l : List UInt8} {A k : Nat} (h2 : k ≤ l.length) : (seg l A k).length = k - A := by
  unfold seg; rw [List.length_drop, List.length_take]; omega

theorem seg_same (l : List UInt8) (A : Nat) : seg l A A = [] := by
  unfold seg; apply List.eq_nil_of_length_eq_zero; rw [List.length_drop, List.length_take]; omega

theorem seg_succ {l : List UInt8} {A k : Nat} {b : UInt8} (h1 : A ≤ k) (hb : l[k]? = some b) : seg l A (k + 1) = seg l A k ++ [b] := by
  have hk : k < l.length := (List.getElem?_eq_some_iff.1 hb).1
  have e : l[k] = b := (List.getElem?_eq_some_iff.1 hb).2
  unfold seg
  rw [List.take_succ_eq_append_getElem hk, List.drop_append_of_le_length (by rw [List.length_take]; omega), e]

theorem drop_eq {l : List UInt8} {k : Nat} {b : UInt8} (hb : l[k]? = some b) : l.drop k = b :: l.drop (k + 1) := by
  have hk : k < l.length := (List.getElem?_eq_some_iff.1 hb).1
  have e : l[k] = b := (List.getElem?_eq_some_iff.1 hb).2
  rw [List.drop_eq_getElem_cons hk, e]

/-- Behind some rounds of the reading. -/
def RdInv (l : List UInt8) (A k n sc : Nat) : Prop :=
  A ≤ k ∧ k ≤ l.length ∧ k ≤ A + 5 ∧ n = valL (seg l A k) ∧ sc = 128 ^ (k - A) ∧ (∀ x ∈ seg l A k, 128 ≤ x.toNat) ∧
    rdL 5 [] (l.drop A) = rdL (5 - (k - A)) (seg l A k) (l.drop k)

/-- The number, a byte later. -/
def rdn (m c x : Nat) : Nat := m + x % 128 * c

theorem RdInv.start (l : List UInt8) (A : Nat) (h : A ≤ l.length) : RdInv l A A 0 1 := by
  refine ⟨Nat.le_refl _, h, by omega, ?_, ?_, ?_, ?_⟩
  · rw [seg_same]; rfl
  · simp
  · rw [seg_same]; simp
  · rw [seg_same]; simp

theorem RdInv.step {l : List UInt8} {A k n sc : Nat} {b : UInt8} (h : RdInv l A k n sc) (hb : l[k]? = some b) (hk : k < A + 5) (h128 : 128 ≤ b.toNat) :
    RdInv l A (k + 1) (rdn n sc b.toNat) (sc * 128) := by
  obtain ⟨h1, h2, h3, h4, h5, h6, h7⟩ := h
  have hkl : k < l.length := (List.getElem?_eq_some_iff.1 hb).1
  refine ⟨by omega, by omega, by omega, ?_, ?_, ?_, ?_⟩
  · rw [seg_succ h1 hb, valL_append, seg_length h2, ← h4, ← h5]; rfl
  · rw [show k + 1 - A = (k - A) + 1 from by omega, Nat.pow_succ, h5]
  · rw [seg_succ h1 hb]
    intro x hx
    rcases List.mem_append.1 hx with hx | hx
    · exact h6 x hx
    · simp at hx; subst hx; exact h128
  · rw [h7, drop_eq hb, show 5 - (k - A) = (5 - (k + 1 - A)) + 1 from by omega, seg_succ h1 hb]
    rw [rdL, if_neg (by omega)]

theorem RdInv.last {l : List UInt8} {A k n sc : Nat} {b : UInt8} (h : RdInv l A k n sc) (hb : l[k]? = some b) (hk : k < A + 5) (h128 : b.toNat < 128) :
    rdL 5 [] (l.drop A) = if rdn n sc b.toNat ≤ 1000000000 ∧ varL (rdn n sc b.toNat) = seg l A (k + 1) then some (rdn n sc b.toNat, k + 1 - A) else none := by
  obtain ⟨h1, h2, h3, h4, h5, h6, h7⟩ := h
  have hn : rdn n sc b.toNat = valL (seg l A k ++ [b]) := by rw [valL_append, seg_length h2, ← h4, ← h5]; rfl
  rw [hn, seg_succ h1 hb, h7, drop_eq hb, show 5 - (k - A) = (5 - (k + 1 - A)) + 1 from by omega, rdL, if_pos h128, seg_length h2, show k - A + 1 = k + 1 - A from by omega]

theorem RdInv.stop {l : List UInt8} {A k n sc : Nat} (h : RdInv l A k n sc) (hk : k = l.length ∨ k = A + 5) : rdL 5 [] (l.drop A) = none := by
  obtain ⟨h1, h2, h3, h4, h5, h6, h7⟩ := h
  rw [h7]
  rcases hk with e | e
  · rw [e, List.drop_length]
    cases 5 - (l.length - A) <;> rfl
  · rw [e, show 5 - (A + 5 - A) = 0 from by omega]; rfl

theorem byte_at {s : ByteArray} {k : Nat} (h : k < s.size) : s.data.toList[k]? = some s[k] := by
  rw [Array.getElem?_toList]; exact Array.getElem?_eq_getElem h

end Go.Proofs.YtihdgfihdecalaaGreatDoor.Plain

/- The set that a text tells, plainly. Nothing of the program stands here. -/
namespace Go.Proofs.YtihdgfihdecalaaGreatDoor.Plain
open Go.RowKit
set_option linter.unusedVariables false

/-- Pieces with c between. -/
def cutsL (c : UInt8) : List UInt8 → List (List UInt8)
  | [] => [[]]
  | b :: r => if b = c then [] :: cutsL c r else match cutsL c r with
    | h :: t => (b :: h) :: t
    | [] => [[b]]
theorem cuts_one {c : UInt8} : ∀ (p : List UInt8), (∀ b ∈ p, b ≠ c) → cutsL c p = [p] := by
  intro p
  induction p with
  | nil => intro _; rfl
  | cons b r ih =>
    intro h
    rw [cutsL, if_neg (h b (by simp)), ih (fun x hx => h x (by simp [hx]))]
theorem cuts_at {c : UInt8} : ∀ (p r : List UInt8), (∀ b ∈ p, b ≠ c) → cutsL c (p ++ c :: r) = p :: cutsL c r := by
  intro p
  induction p with
  | nil => intro r _; rw [List.nil_append, cutsL, if_pos rfl]
  | cons b q ih =>
    intro r h
    rw [List.cons_append, cutsL, if_neg (h b (by simp)), ih r (fun x hx => h x (by simp [hx]))]

def figOk (b : UInt8) : Bool := decide (48 ≤ b.toNat) && decide (b.toNat ≤ 57)
def figsV (t : List UInt8) : Int := t.foldl (fun n b => 10 * n + (b.toNat : Int) - 48) 0
/-- The number of a part. -/
def numV (t : List UInt8) (last : Int) : Int × Bool :=
  if t = [42] then (last, true)
  else if 1 ≤ t.length ∧ t.length ≤ 4 then (if t.all figOk then (figsV t, decide (1 ≤ figsV t)) else (0, false))
  else (0, false)
def upV (x y : Int × Bool) : Int × Int × Bool := if y.1 < x.1 then (y.1, x.1, x.2 && y.2) else (x.1, y.1, x.2 && y.2)
/-- What a part tells: i is the place of its first ':'. -/
def partV (t : List UInt8) (last : Int) : Int × Int × Bool :=
  match t.idxOf? 58 with
  | some i => upV (numV (t.take i) last) (numV (t.drop (i + 1)) last)
  | none => ((numV t last).1, (numV t last).1, (numV t last).2)
def okParts (ps : List (List UInt8)) (last : Int) : Bool := ps.all fun p => (partV p last).2.2
/-- Behind some rounds of the reading. -/
def CutInv (l : List UInt8) (i b : Nat) (done : List (List UInt8)) : Prop :=
  (i ≤ l.length ∧ b ≤ i ∧ done ++ cutsL 44 (l.drop b) = cutsL 44 l ∧ ∀ x ∈ seg l b i, x ≠ 44) ∨ (i = l.length + 1 ∧ done = cutsL 44 l)
theorem CutInv.start (l : List UInt8) : CutInv l 0 0 [] := .inl ⟨Nat.zero_le _, Nat.le_refl _, by simp, by simp [seg]⟩
theorem CutInv.on {l : List UInt8} {i b : Nat} {done : List (List UInt8)} {x : UInt8} (h : CutInv l i b done) (hx : l[i]? = some x) (hn : x ≠ 44) : CutInv l (i + 1) b done := by
  have hi : i < l.length := (List.getElem?_eq_some_iff.1 hx).1
  rcases h with ⟨h1, h2, h3, h4⟩ | ⟨h1, _⟩
  · refine .inl ⟨by omega, by omega, h3, fun y hy => ?_⟩
    rw [seg_succ h2 hx] at hy
    rcases List.mem_append.1 hy with hy | hy
    · exact h4 y hy
    · simp at hy; rw [hy]; exact hn
  · omega
theorem drop_seg {l : List UInt8} {b i : Nat} (h : b ≤ i) : l.drop b = seg l b i ++ l.drop i := by
  unfold seg
  rw [List.drop_take]
  have : l.drop i = (l.drop b).drop (i - b) := by rw [List.drop_drop]; congr 1; omega
  rw [this, List.take_append_drop]
theorem CutInv.cut {l : List UInt8} {i b : Nat} {done : List (List UInt8)} (h : CutInv l i b done) (hi : i ≤ l.length) (hx : i = l.length ∨ l[i]? = some 44) : CutInv l (i + 1) (i + 1) (done ++ [seg l b i]) ∧ b ≤ i := by
  rcases h with ⟨h1, h2, h3, h4⟩ | ⟨h1, _⟩
  · refine ⟨?_, h2⟩
    rcases hx with e | e
    · refine .inr ⟨by omega, ?_⟩
      rw [← h3]
      congr 1
      rw [drop_seg h2, e, List.drop_length, List.append_nil, ← e]
      exact (cuts_one _ h4).symm
    · have hl : i < l.length := (List.getElem?_eq_some_iff.1 e).1
      refine .inl ⟨by omega, Nat.le_refl _, ?_, by rw [seg_same]; intro x hx; cases hx⟩
      rw [← h3, drop_seg h2, drop_eq e, cuts_at _ _ h4]
      simp
  · omega
theorem CutInv.parts {l : List UInt8} {i b : Nat} {done : List (List UInt8)} (h : CutInv l i b done) : ∃ r, done ++ r = cutsL 44 l := by
  rcases h with ⟨_, _, h3, _⟩ | ⟨_, h2⟩
  · exact ⟨_, h3⟩
  · exact ⟨[], by simpa using h2⟩
theorem CutInv.stop {l : List UInt8} {i b : Nat} {done : List (List UInt8)} (h : CutInv l i b done) {last : Int} (hno : okParts done last = false) : okParts (cutsL 44 l) last = false := by
  obtain ⟨r, hr⟩ := h.parts
  rw [← hr]
  unfold okParts at hno ⊢
  rw [List.all_append, hno]; rfl
theorem CutInv.done {l : List UInt8} {i b : Nat} {done : List (List UInt8)} (h : CutInv l i b done) (hi : ¬ i ≤ l.length) : done = cutsL 44 l := by
  rcases h with ⟨h1, _⟩ | ⟨_, h2⟩
  · exact absurd h1 hi
  · exact h2
theorem CutInv.le {l : List UInt8} {i b : Nat} {done : List (List UInt8)} (h : CutInv l i b done) : i ≤ l.length + 1 := by
  rcases h with ⟨h1, _⟩ | ⟨h1, _⟩ <;> omega
end Go.Proofs.YtihdgfihdecalaaGreatDoor.Plain

/- Flags and their texts, plainly. Nothing of the program stands here. -/
namespace Go.Proofs.YtihdgfihdecalaaGreatDoor.Plain
open Go.RowKit
set_option linter.unusedVariables false

def seenL : List UInt8 := [115, 101, 101, 110]
def answL : List UInt8 := [97, 110, 115, 119, 101, 114, 101, 100]
def flagL : List UInt8 := [102, 108, 97, 103, 103, 101, 100]
def deleL : List UInt8 := [100, 101, 108, 101, 116, 101, 100]
def drafL : List UInt8 := [100, 114, 97, 102, 116]
def flOk (b : Int) : Bool := decide (0 ≤ b) && decide (b ≤ 31)
theorem flOk_in {b : Int} (h0 : 0 ≤ b) (h1 : b ≤ 31) : flOk b = true := by unfold flOk; rw [decide_eq_true h0, decide_eq_true h1]; rfl
theorem flOk_no {b : Int} (h : ¬ (0 ≤ b ∧ b ≤ 31)) : flOk b = false := by
  unfold flOk
  by_cases h0 : 0 ≤ b
  · rw [decide_eq_false (show ¬ b ≤ 31 by omega), Bool.and_false]
  · rw [decide_eq_false h0, Bool.false_and]
/-- A letter made small. -/
def lowB (b : UInt8) : UInt8 := if 65 ≤ b.toNat ∧ b.toNat ≤ 90 then UInt8.ofNat (b.toNat + 32) else b
theorem lowB_in {b : UInt8} (h0 : 65 ≤ b.toNat) (h1 : b.toNat ≤ 90) : lowB b = UInt8.ofNat (b.toNat + 32) := if_pos ⟨h0, h1⟩
theorem lowB_no {b : UInt8} (h : ¬ (65 ≤ b.toNat ∧ b.toNat ≤ 90)) : lowB b = b := if_neg h
/-- The bit of a word; 0 of none. -/
def bitV (t : List UInt8) : Int := if t = seenL then 1 else if t = answL then 2 else if t = flagL then 4 else if t = deleL then 8 else if t = drafL then 16 else 0
/-- What words tell, one behind the other: none where a word is none, or is told twice. -/
def foldF : Option Int → List (List UInt8) → Option Int
  | x, [] => x
  | none, _ :: _ => none
  | some n, p :: r => foldF (if bitV p = 0 ∨ n / bitV p % 2 = 1 then none else some (n + bitV p)) r
theorem foldF_none (r : List (List UInt8)) : foldF none r = none := by cases r <;> rfl
theorem foldF_append (a b : List (List UInt8)) : ∀ x, foldF x (a ++ b) = foldF (foldF x a) b := by
  induction a with
  | nil => intro x; rfl
  | cons p a ih =>
    intro x
    cases x with
    | none => rw [foldF_none, foldF_none, foldF_none]
    | some n => rw [List.cons_append, foldF, foldF, ih]
/-- Behind some rounds of a cutting at c. -/
def CutC (c : UInt8) (l : List UInt8) (i b : Nat) (done : List (List UInt8)) : Prop :=
  (i ≤ l.length ∧ b ≤ i ∧ done ++ cutsL c (l.drop b) = cutsL c l ∧ ∀ x ∈ seg l b i, x ≠ c) ∨ (i = l.length + 1 ∧ done = cutsL c l)
theorem CutC.start (c : UInt8) (l : List UInt8) : CutC c l 0 0 [] := .inl ⟨Nat.zero_le _, Nat.le_refl _, by simp, by simp [seg]⟩
theorem CutC.on {c : UInt8} {l : List UInt8} {i b : Nat} {done : List (List UInt8)} {x : UInt8} (h : CutC c l i b done) (hx : l[i]? = some x) (hn : x ≠ c) : CutC c l (i + 1) b done := by
  have hi : i < l.length := (List.getElem?_eq_some_iff.1 hx).1
  rcases h with ⟨h1, h2, h3, h4⟩ | ⟨h1, _⟩
  · refine .inl ⟨by omega, by omega, h3, fun y hy => ?_⟩
    rw [seg_succ h2 hx] at hy
    rcases List.mem_append.1 hy with hy | hy
    · exact h4 y hy
    · simp at hy; rw [hy]; exact hn
  · omega
theorem CutC.cut {c : UInt8} {l : List UInt8} {i b : Nat} {done : List (List UInt8)} (h : CutC c l i b done) (hi : i ≤ l.length) (hx : i = l.length ∨ l[i]? = some c) : CutC c l (i + 1) (i + 1) (done ++ [seg l b i]) ∧ b ≤ i := by
  rcases h with ⟨h1, h2, h3, h4⟩ | ⟨h1, _⟩
  · refine ⟨?_, h2⟩
    rcases hx with e | e
    · refine .inr ⟨by omega, ?_⟩
      rw [← h3]
      congr 1
      rw [drop_seg h2, e, List.drop_length, List.append_nil, ← e]
      exact (cuts_one _ h4).symm
    · have hl : i < l.length := (List.getElem?_eq_some_iff.1 e).1
      refine .inl ⟨by omega, Nat.le_refl _, ?_, by rw [seg_same]; intro x hx; cases hx⟩
      rw [← h3, drop_seg h2, drop_eq e, cuts_at _ _ h4]
      simp
  · omega
theorem CutC.parts {c : UInt8} {l : List UInt8} {i b : Nat} {done : List (List UInt8)} (h : CutC c l i b done) : ∃ r, done ++ r = cutsL c l := by
  rcases h with ⟨_, _, h3, _⟩ | ⟨_, h2⟩
  · exact ⟨_, h3⟩
  · exact ⟨[], by simpa using h2⟩
theorem CutC.done {c : UInt8} {l : List UInt8} {i b : Nat} {done : List (List UInt8)} (h : CutC c l i b done) (hi : ¬ i ≤ l.length) : done = cutsL c l := by
  rcases h with ⟨h1, _⟩ | ⟨_, h2⟩
  · exact absurd h1 hi
  · exact h2
theorem CutC.le {c : UInt8} {l : List UInt8} {i b : Nat} {done : List (List UInt8)} (h : CutC c l i b done) : i ≤ l.length + 1 := by
  rcases h with ⟨h1, _⟩ | ⟨h1, _⟩ <;> omega
theorem CutC.stop {c : UInt8} {l : List UInt8} {i b : Nat} {done : List (List UInt8)} (h : CutC c l i b done) (hno : foldF (some 0) done = none) : foldF (some 0) (cutsL c l) = none := by
  obtain ⟨r, hr⟩ := h.parts
  rw [← hr, foldF_append, hno, foldF_none]

end Go.Proofs.YtihdgfihdecalaaGreatDoor.Plain

/- Mails, plainly: heads, bodies, subjects, parts. Nothing of the program stands here. -/
namespace Go.Proofs.YtihdgfihdecalaaGreatDoor.Plain
open Go.RowKit
set_option linter.unusedVariables false

def mailOkL (l : List UInt8) : Bool := l.all (fun b => b != 0) && (decide (1 ≤ l.length) && decide (l.length ≤ 200))
def isBlank (b : UInt8) : Bool := b == 32
/-- Without blanks ahead; without blanks behind. -/
def trimA (l : List UInt8) : List UInt8 := l.dropWhile isBlank
def trimZ (l : List UInt8) : List UInt8 := (l.reverse.dropWhile isBlank).reverse
def trimL (l : List UInt8) : List UInt8 := trimZ (trimA l)
theorem trimA_cons (r : List UInt8) : trimA (32 :: r) = trimA r := rfl
theorem trimA_no {b : UInt8} (r : List UInt8) (h : b ≠ 32) : trimA (b :: r) = b :: r := by
  unfold trimA
  rw [List.dropWhile_cons, if_neg (by simpa [isBlank] using h)]
theorem trimZ_snoc (r : List UInt8) : trimZ (r ++ [32]) = trimZ r := by
  unfold trimZ
  rw [List.reverse_append]
  rfl
theorem trimZ_no {b : UInt8} (r : List UInt8) (h : b ≠ 32) : trimZ (r ++ [b]) = r ++ [b] := by
  unfold trimZ
  rw [List.reverse_append, show [b].reverse ++ r.reverse = b :: r.reverse from rfl, List.dropWhile_cons, if_neg (by simpa [isBlank] using h)]
  simp
theorem trimA_len (l : List UInt8) : (trimA l).length ≤ l.length := by
  unfold trimA
  exact (List.dropWhile_suffix _).length_le
theorem trimZ_len (l : List UInt8) : (trimZ l).length ≤ l.length := by
  unfold trimZ
  rw [List.length_reverse]
  have := (List.dropWhile_suffix (l := l.reverse) isBlank).length_le
  rwa [List.length_reverse] at this
theorem trimL_len (l : List UInt8) : (trimL l).length ≤ l.length := Nat.le_trans (trimZ_len _) (trimA_len _)
/-- What is behind the first line without anything. -/
def bodyFrom : Bool → List UInt8 → List UInt8
  | _, [] => []
  | s, b :: r => if b = 10 then (if s then r else bodyFrom true r) else bodyFrom false r
def bodyL (l : List UInt8) : List UInt8 := bodyFrom true l
/-- The head of a name among lines. -/
def headIn (name : List UInt8) : List (List UInt8) → List UInt8 × Bool
  | [] => ([], false)
  | p :: r => if p = [] then ([], false)
    else if name.length < p.length ∧ (p.take name.length).map lowB = name.map lowB ∧ p[name.length]? = some 58 then (trimL (p.drop (name.length + 1)), true)
    else headIn name r
def headL (t name : List UInt8) : List UInt8 × Bool := headIn name (cutsL 10 t)
/-- A subject without what answers and what is handed on. -/
def baseF : Nat → List UInt8 → List UInt8
  | 0, s => s
  | f + 1, s => if s.take 3 = [114, 101, 58] then baseF f (trimL (s.drop 3)) else if s.take 4 = [102, 119, 100, 58] then baseF f (trimL (s.drop 4)) else s
def baseL (s : List UInt8) : List UInt8 := baseF s.length ((trimL s).map lowB)
end Go.Proofs.YtihdgfihdecalaaGreatDoor.Plain

/- The text of a set read back; how many a set has. Nothing of the program stands here. -/
namespace Go.Proofs.YtihdgfihdecalaaGreatDoor.Plain
open Go.RowKit
set_option linter.unusedVariables false

/- How many. -/
/- The text of a number read back. -/
end Go.Proofs.YtihdgfihdecalaaGreatDoor.Plain

/- How many ranges what is marked has: one for each beginning. Nothing of the program stands here. -/
namespace Go.Proofs.YtihdgfihdecalaaGreatDoor.Plain
open Go.RowKit
set_option linter.unusedVariables false

end Go.Proofs.YtihdgfihdecalaaGreatDoor.Plain

/- Sets of numbers cut into what lies ahead of a range, what it meets and what lies behind it; put together again. Nothing of the program stands here. -/
namespace Go.Proofs.YtihdgfihdecalaaGreatDoor.Plain
set_option linter.unusedVariables false

/- ADDED. -/
/- A SET, EACH RANGE TURNED INTO SOME WITHIN IT. -/
/- MET. -/
/- UNITED. -/
/- WHAT IS ANSWERED. -/
end Go.Proofs.YtihdgfihdecalaaGreatDoor.Plain

/- What the laws on sets say, plainly. Nothing of the program stands here. -/
namespace Go.Proofs.YtihdgfihdecalaaGreatDoor.Plain
open Go.RowKit
set_option linter.unusedVariables false

end Go.Proofs.YtihdgfihdecalaaGreatDoor.Plain
