/- The text of a set: the specification's SetText. -/
import Derived.Test.YtgdihceikhkddaaDoorSetA
import Derived.Test.YtgdihceikhkddaaDoorDecS
namespace Go.Proofs.YtgdihceikhkddaaDoor
open Go.RowKit
open Plain
set_option linter.unusedVariables false

namespace Plain
def piece (r : Rg) : List UInt8 := Lib.itoa r.lo ++ (if r.lo < r.hi then 58 :: Lib.itoa r.hi else [])
def textTo (s : List Rg) : Nat → List UInt8
 | 0 => []
 | k + 1 => textTo s k ++ (if 0 < k then [44] else []) ++ piece (s[k]?.getD rg0)
def setTextL (s : List Rg) : List UInt8 := if okS s = true then textTo s s.length else []
theorem setTextL_no {s : List Rg} (h : okS s = false) : setTextL s = [] := if_neg (by rw [h]; decide)
theorem setTextL_in {s : List Rg} (h : okS s = true) : setTextL s = textTo s s.length := if_pos h
theorem textTo_succ {s : List Rg} {k : Nat} {r : Rg} (hr : s[k]? = some r) : textTo s (k + 1) = textTo s k ++ (if 0 < k then [44] else []) ++ piece r := by rw [textTo, hr]; rfl
theorem itoa_len {n : Int} (h0 : 0 ≤ n) (h1 : n ≤ 9999) : (Lib.itoa n).length ≤ 20 := by
 obtain ⟨N, rfl⟩ := Int.eq_ofNat_of_zero_le h0
 rw [itoa_nat, Lib.decDigits_length]
 exact Lib.nDigits_le20 N (by omega)
theorem textTo_len {s : List Rg} (h : okFrom (-1) s = true) : ∀ k, k ≤ s.length → (textTo s k).length ≤ 42 * k := by
 intro k
 induction k with
 | zero => intro _; simp [textTo]
 | succ k ih =>
  intro hk
  have hr : s[k]? = some s[k] := List.getElem?_eq_getElem (by omega)
  obtain ⟨o1, o2, o3⟩ := ok_at h hr
  have i := ih (by omega)
  have e1 := itoa_len (n := s[k].lo) (by omega) (by omega)
  have e2 := itoa_len (n := s[k].hi) (by omega) (by omega)
  rw [textTo_succ hr]
  unfold piece
  simp only [List.length_append]
  have a : (if 0 < k then ([44] : List UInt8) else []).length ≤ 1 := by split <;> simp
  have b : (if s[k].lo < s[k].hi then 58 :: Lib.itoa s[k].hi else []).length ≤ 21 := by split <;> simp <;> omega
  omega
theorem bcat (a b : List UInt8) : (⟨a.toArray⟩ : ByteArray) ++ ⟨b.toArray⟩ = ⟨(a ++ b).toArray⟩ := ByteArray.mk_append_mk a b
theorem cat11 (T a b : List UInt8) : (⟨T.toArray⟩ : ByteArray) ++ ⟨#[44]⟩ ++ ⟨a.toArray⟩ ++ ⟨#[58]⟩ ++ ⟨b.toArray⟩ = ⟨(T ++ [44] ++ (a ++ 58 :: b)).toArray⟩ := by
 rw [show (⟨#[44]⟩ : ByteArray) = ⟨([44] : List UInt8).toArray⟩ from rfl, show (⟨#[58]⟩ : ByteArray) = ⟨([58] : List UInt8).toArray⟩ from rfl, bcat, bcat, bcat, bcat]
 congr 2
 simp
theorem cat10 (T a : List UInt8) : (⟨T.toArray⟩ : ByteArray) ++ ⟨#[44]⟩ ++ ⟨a.toArray⟩ = ⟨(T ++ [44] ++ (a ++ [])).toArray⟩ := by
 rw [show (⟨#[44]⟩ : ByteArray) = ⟨([44] : List UInt8).toArray⟩ from rfl, bcat, bcat, List.append_nil]
theorem cat01 (T a b : List UInt8) : (⟨T.toArray⟩ : ByteArray) ++ ⟨a.toArray⟩ ++ ⟨#[58]⟩ ++ ⟨b.toArray⟩ = ⟨(T ++ [] ++ (a ++ 58 :: b)).toArray⟩ := by
 rw [show (⟨#[58]⟩ : ByteArray) = ⟨([58] : List UInt8).toArray⟩ from rfl, bcat, bcat, bcat]
 congr 2
 simp
theorem cat00 (T a : List UInt8) : (⟨T.toArray⟩ : ByteArray) ++ ⟨a.toArray⟩ = ⟨(T ++ [] ++ (a ++ [])).toArray⟩ := by
 rw [bcat, List.append_nil, List.append_nil]
end Plain

set_option maxHeartbeats 4000000 in
set_option maxRecDepth 100000 in
theorem spec_SetText_any (s : List Rg) (v : Value) (w : World) (hs : s.length ≤ 1048576) (h : ReadR w v s) :
  Calls Tryd.prog 13 #[v] w fun e w' => e = .returned (.string ⟨(setTextL s).toArray⟩) ∧ Below w.heap.size w w' := by
 have q0 := hide (spec_SetOk_any s v w hs h)
 obtain ⟨a, c, rfl, hc⟩ := h
 have C := hide hc; clear hc
 cases hb : okS s with
 | false =>
  rw [hb] at q0
  have Z := hide (setTextL_no hb); clear hb
  go_enter Tryd.func13, Tryd.ntmps13
  go_wp2_with (go_at_call 19; refine (uh q0).mono ?_; rintro e w1 ⟨rfl, q1, rfl⟩)
  go_ret
  exact ⟨by rw [uh Z]; rfl, below_drewN (Below.refl _ _) q1⟩
 | true =>
  rw [hb] at q0
  obtain ⟨hok, h40⟩ := okS_parts hb
  have ALL := hide (setTextL_in hb)
  have LEN := hide (fun k hk => textTo_len hok k hk)
  have AT := hide (fun (k : Nat) (r : Rg) hr => ok_at (k := k) (r := r) hok hr)
  clear hb hok
  go_enter Tryd.func13, Tryd.ntmps13
  go_wp2_with (go_at_call 19; refine (uh q0).mono ?_; rintro e w1 ⟨rfl, q1, rfl⟩)
  have BW := hide (below_drewN (Below.refl w.heap.size w) q1)
  go_loopw [3, 4] (fun t i wr => ∃ k : Nat, k ≤ s.length ∧ i = .int .i64 k ∧ t = .string ⟨(textTo s k).toArray⟩ ∧ Below w.heap.size w wr) (fun _ i _ => s.length - (intOf i).toNat)
  case atStart => exact ⟨0, Nat.zero_le _, rfl, rfl, uh BW⟩
  case round =>
   obtain ⟨k, hk, rfl, rfl, hbel⟩ := hrel
   by_cases hlt : k < s.length
   ·have hgk : s[k]? = some s[k] := List.getElem?_eq_getElem hlt
    obtain ⟨g, hga, hgl, c0, c1⟩ := uh C k s[k] hgk
    subst hga
    have ST := hide (textTo_succ hgk)
    obtain ⟨o1, o2, o3⟩ := uh AT k s[k] hgk
    have lt := uh LEN k hk
    generalize s[k] = r at *
    obtain ⟨rl, rh⟩ := r
    simp only at c0 c1 ST o1 o2 o3
    have E0 := hide c0
    have E1 := hide (fun W (hb : Below w.heap.size w W) => (hb.cell (p := ⟨g, k * 2 + 1, none⟩) hgl).trans c1)
    have d0 := (hbel.cell (p := ⟨g, k * 2, none⟩) hgl).trans c0
    have DL := hide (fun W => spec_Decimal_any rl W (by omega) (by omega))
    have DH := hide (fun W => spec_Decimal_any rh W (by omega) (by omega))
    have l1 : (⟨(Lib.itoa rl).toArray⟩ : ByteArray).size ≤ 20 := itoa_len (by omega) (by omega)
    have l2 : (⟨(Lib.itoa rh).toArray⟩ : ByteArray).size ≤ 20 := itoa_len (by omega) (by omega)
    have l3 : (⟨(textTo s k).toArray⟩ : ByteArray).size ≤ 2000 := by show (textTo s k).length ≤ 2000; omega
    have l4 : (Lib.itoa rl).length ≤ 20 := l1
    have l5 : (Lib.itoa rh).length ≤ 20 := l2
    have l6 : (textTo s k).length ≤ 2000 := l3
    unfold piece at ST
    generalize textTo s k = T at *
    clear c0 c1 hgk
    have hik : (0 : Int) ≤ (k : Int) := by omega
    have hil : (k : Int) < (s.length : Int) := by omega
    by_cases hk0 : 0 < k
    ·have dk : decide ((0 : Int) < (k : Int)) = true := by rw [decide_eq_true_eq]; omega
     rw [if_pos hk0] at ST
     by_cases hh : rl < rh
     ·have dh : decide (rl < rh) = true := by simpa using hh
      rw [if_pos hh] at ST
      go_wp2_with fail
      refine (uh DL _).mono ?_
      rintro e w1 ⟨rfl, hb1⟩
      have hb := hbel.trans (hb1.mono hbel.size)
      have f0 := (hb.cell (p := ⟨g, k * 2, none⟩) hgl).trans (uh E0)
      have f1 := uh E1 _ hb; have BB := hide hb; clear hb hb1 hbel
      go_wp2
      go_quiet (fail)
      go_wp2_with fail
      refine (uh DH _).mono ?_
      rintro e w2 ⟨rfl, hb2⟩
      go_wp2
      go_roundw
      case rel => exact ⟨k + 1, by omega, by go_num, by rw [uh ST]; exact congrArg Value.string (cat11 _ _ _), (below_drewN (uh BB) _).trans (hb2.mono (uh BB).size)⟩
      case measure => simp [intOf]; omega
     ·have dh : decide (rl < rh) = false := by simpa using hh
      rw [if_neg hh] at ST
      go_wp2_with fail
      refine (uh DL _).mono ?_
      rintro e w1 ⟨rfl, hb1⟩
      have hb := hbel.trans (hb1.mono hbel.size)
      have f0 := (hb.cell (p := ⟨g, k * 2, none⟩) hgl).trans (uh E0)
      have f1 := uh E1 _ hb; have BB := hide hb; clear hb hb1 hbel
      go_wp2
      go_quiet (fail)
      go_wp2
      go_roundw
      case rel => exact ⟨k + 1, by omega, by go_num, by rw [uh ST]; exact congrArg Value.string (cat10 _ _), below_drewN (uh BB) _⟩
      case measure => simp [intOf]; omega
    ·have dk : decide ((0 : Int) < (k : Int)) = false := by rw [decide_eq_false_iff_not]; omega
     rw [if_neg hk0] at ST
     by_cases hh : rl < rh
     ·have dh : decide (rl < rh) = true := by simpa using hh
      rw [if_pos hh] at ST
      go_wp2_with fail
      refine (uh DL _).mono ?_
      rintro e w1 ⟨rfl, hb1⟩
      have hb := hbel.trans (hb1.mono hbel.size)
      have f0 := (hb.cell (p := ⟨g, k * 2, none⟩) hgl).trans (uh E0)
      have f1 := uh E1 _ hb; have BB := hide hb; clear hb hb1 hbel
      go_wp2
      go_quiet (fail)
      go_wp2_with fail
      refine (uh DH _).mono ?_
      rintro e w2 ⟨rfl, hb2⟩
      go_wp2
      go_roundw
      case rel => exact ⟨k + 1, by omega, by go_num, by rw [uh ST]; exact congrArg Value.string (cat01 _ _ _), (below_drewN (uh BB) _).trans (hb2.mono (uh BB).size)⟩
      case measure => simp [intOf]; omega
     ·have dh : decide (rl < rh) = false := by simpa using hh
      rw [if_neg hh] at ST
      go_wp2_with fail
      refine (uh DL _).mono ?_
      rintro e w1 ⟨rfl, hb1⟩
      have hb := hbel.trans (hb1.mono hbel.size)
      have f0 := (hb.cell (p := ⟨g, k * 2, none⟩) hgl).trans (uh E0)
      have f1 := uh E1 _ hb; have BB := hide hb; clear hb hb1 hbel
      go_wp2
      go_quiet (fail)
      go_wp2
      go_roundw
      case rel => exact ⟨k + 1, by omega, by go_num, by rw [uh ST]; exact congrArg Value.string (cat00 _ _), below_drewN (uh BB) _⟩
      case measure => simp [intOf]; omega
   ·have e : k = s.length := by omega
    rw [e, ← uh ALL]
    go_wp2
    go_ret
    exact ⟨rfl, hbel⟩
end Go.Proofs.YtgdihceikhkddaaDoor
