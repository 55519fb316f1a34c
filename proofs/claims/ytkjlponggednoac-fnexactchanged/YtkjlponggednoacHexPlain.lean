/- Plain facts on figures: two for each byte. Nothing of the program stands here. -/
import Derived.Test.YtkjlponggednoacPlain
import Derived.WalkKit
namespace Go.Proofs.Ytkjlponggednoac.Plain
open Go.RowKit

/-- The figure of a number below 16. -/
def fig (x : Nat) : UInt8 := if x < 10 then UInt8.ofNat (48 + x) else UInt8.ofNat (87 + x)

theorem fig_low {x : Nat} (h : x < 10) : ((fig x).toNat : Int) = 48 + (x : Int) := by
  unfold fig; rw [if_pos h, UInt8.toNat_ofNat']; omega
theorem fig_high {x : Nat} (h : ¬ x < 10) (h2 : x < 16) : ((fig x).toNat : Int) = 87 + (x : Int) := by
  unfold fig; rw [if_neg h, UInt8.toNat_ofNat']; omega

def hexL (l : List UInt8) : List UInt8 := l.flatMap fun b => [fig (b.toNat / 16), fig (b.toNat % 16)]

theorem hexL_snoc (l : List UInt8) (b : UInt8) : hexL (l ++ [b]) = hexL l ++ [fig (b.toNat / 16), fig (b.toNat % 16)] := by
  simp [hexL]
theorem hexL_length (l : List UInt8) : (hexL l).length = 2 * l.length := by
  induction l with
  | nil => rfl
  | cons a r ih => simp [hexL] at ih ⊢; omega

theorem take_snoc' {s : ByteArray} {k : Nat} (h : k < s.size) : s.data.toList.take (k + 1) = s.data.toList.take k ++ [s[k]] := by
  rw [List.take_succ_eq_append_getElem (by simpa using h)]; rfl

theorem hex_step {s : ByteArray} {k : Nat} (h : k < s.size) : hexL (s.data.toList.take (k + 1)) = hexL (s.data.toList.take k) ++ [fig (s[k].toNat / 16), fig (s[k].toNat % 16)] := by
  rw [take_snoc' h, hexL_snoc]
theorem hex_len {s : ByteArray} {k : Nat} (h : k ≤ s.size) : (hexL (s.data.toList.take k)).length = 2 * k := by
  rw [hexL_length, List.length_take, Nat.min_eq_left (by simpa using h)]
theorem take_all {s : ByteArray} {k : Nat} (h : s.size ≤ k) : s.data.toList.take k = s.data.toList := List.take_of_length_le (by simpa using h)

/-- A figure, as a number, of a number. -/
def figI (x : Int) : Int := ((fig x.toNat).toNat : Int)
/-- The two figures of a byte, as values. -/
def figs (x : Nat) : List Value := [.int .u8 (figI ((x : Int) / 16)), .int .u8 (figI ((x : Int) % 16))]
theorem bv_figs (x : Nat) : bv [fig (x / 16), fig (x % 16)] = figs x := rfl
theorem figs_one (x : Nat) : ∀ u ∈ figs x, u.oneCell' = true := by
  intro u hu
  simp only [figs, List.mem_cons, List.not_mem_nil, or_false] at hu
  rcases hu with rfl | rfl <;> rfl
end Go.Proofs.Ytkjlponggednoac.Plain
