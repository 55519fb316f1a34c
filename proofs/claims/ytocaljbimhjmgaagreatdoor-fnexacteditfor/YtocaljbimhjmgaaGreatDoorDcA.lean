/- Several texts in one. -/
import Derived.Test.YtocaljbimhjmgaaGreatDoorPlainA
import Derived.Test.YtocaljbimhjmgaaGreatDoorBmA
import Derived.Test.YtocaljbimhjmgaaGreatDoorShelf
import Derived.WalkMore
import Derived.Deep.LoopGhost
namespace Go.Proofs.YtocaljbimhjmgaaGreatDoor.Plain
open Go.RowKit

def decVal (l : List UInt8) : Nat := l.foldl (fun n b => 10 * n + (b.toNat - 48)) 0

theorem decVal_snoc (l : List UInt8) (b : UInt8) : decVal (l ++ [b]) = 10 * decVal l + (b.toNat - 48) := by simp [decVal]
theorem decVal_mono (l r : List UInt8) : decVal l ≤ decVal (l ++ r) := by
  induction r generalizing l with
  | nil => simp
  | cons b r ih =>
    have h1 := ih (l ++ [b])
    rw [decVal_snoc, List.append_assoc] at h1
    have : l ++ ([b] ++ r) = l ++ b :: r := by simp
    rw [this] at h1
    omega
def isD (x : Nat) : Bool := decide (48 ≤ x ∧ x ≤ 57)
theorem isD_iff (x : Nat) : isD x = true ↔ 48 ≤ x ∧ x ≤ 57 := by simp [isD]

theorem dig_nat {x : Nat} (h : x < 10) : (UInt8.ofNat (48 + x)).toNat = 48 + x := by rw [UInt8.toNat_ofNat']; omega
theorem val_dec (n : Nat) : decVal (Lib.decDigits n) = n ∧ ∀ b ∈ Lib.decDigits n, isD b.toNat = true := by
  induction n using Nat.strongRecOn with
  | _ n ih =>
    by_cases h : n < 10
    · rw [Lib.decDigits, dif_pos h]
      refine ⟨?_, ?_⟩
      · show 10 * 0 + ((UInt8.ofNat (48 + n)).toNat - 48) = n
        rw [dig_nat h]; omega
      · intro b hb
        simp only [List.mem_cons, List.not_mem_nil, or_false] at hb
        subst hb
        rw [dig_nat h, isD_iff]; omega
    · have h2 := ih (n / 10) (by omega)
      rw [Lib.decDigits, dif_neg h]
      refine ⟨?_, ?_⟩
      · rw [decVal_snoc, h2.1, dig_nat (by omega)]; omega
      · intro b hb
        rcases List.mem_append.1 hb with hb | hb
        · exact h2.2 b hb
        · simp only [List.mem_cons, List.not_mem_nil, or_false] at hb
          subst hb
          rw [dig_nat (by omega), isD_iff]; omega

/-- The answer. -/
def ansD (l : List UInt8) : Value := if decVal l ≤ 1000000000 ∧ Lib.decDigits (decVal l) = l then .tuple #[.int .i64 (decVal l : Int), .bool true] else .tuple #[.int .i64 0, .bool false]

theorem ans_yes {l : List UInt8} {n : Nat} (h1 : decVal l = n) (h2 : ¬ 1000000000 < n) (h3 : Lib.itoa (n : Int) = l) : ansD l = .tuple #[.int .i64 (n : Int), .bool true] := by
  subst h1
  rw [itoa_nat] at h3
  exact if_pos ⟨by omega, h3⟩
theorem ans_no {l : List UInt8} {n : Nat} (h1 : decVal l = n) (h2 : 1000000000 < n ∨ Lib.itoa (n : Int) ≠ l) : ansD l = .tuple #[.int .i64 0, .bool false] := by
  subst h1
  rw [itoa_nat] at h2
  exact if_neg (fun h => by rcases h2 with h2 | h2; omega; exact h2 h.2)
theorem ans_bad {l : List UInt8} {k : Nat} {b : UInt8} (hb : l[k]? = some b) (h : isD b.toNat = false) : ansD l = .tuple #[.int .i64 0, .bool false] :=
  if_neg (fun hh => by
    have hm : b ∈ Lib.decDigits (decVal l) := by rw [hh.2]; exact List.mem_of_getElem? hb
    rw [(val_dec _).2 b hm] at h; cases h)
theorem itoa_bad {l : List UInt8} {k n : Nat} {b : UInt8} (hb : l[k]? = some b) (h : isD b.toNat = false) : Lib.itoa (n : Int) ≠ l := by
  intro e
  rw [itoa_nat] at e
  have hm : b ∈ Lib.decDigits n := by rw [e]; exact List.mem_of_getElem? hb
  rw [(val_dec _).2 b hm] at h; cases h
theorem ans_big {l : List UInt8} {k : Nat} (h : 1000000000 < decVal (l.take k)) : ansD l = .tuple #[.int .i64 0, .bool false] :=
  if_neg (fun hh => by
    have := decVal_mono (l.take k) (l.drop k)
    rw [List.take_append_drop] at this
    omega)
theorem ans_long {l : List UInt8} (h : 10 < l.length) : ansD l = .tuple #[.int .i64 0, .bool false] :=
  if_neg (fun hh => by
    have h1 : l.length = Lib.nDigits (decVal l) := by rw [← Lib.decDigits_length, hh.2]
    have h2 : Lib.nDigits (decVal l) ≤ 10 := by
      by_cases e : decVal l < 1000000000
      · rcases Nat.lt_or_ge 10 (Lib.nDigits (decVal l)) with hc | hc
        · exfalso
          have : ∀ k u : Nat, u < 10 ^ (k + 1) → Lib.nDigits u ≤ k + 1 := by
            intro k
            induction k with
            | zero => intro u hu; rw [Lib.nDigits_small (by simpa using hu)]; omega
            | succ k ih =>
              intro u hu
              by_cases h10 : u < 10
              · rw [Lib.nDigits_small h10]; omega
              · rw [Lib.nDigits_big h10]
                have := ih (u / 10) (by rw [Nat.pow_succ] at hu; omega)
                omega
          have := this 8 (decVal l) (by omega)
          omega
        · exact hc
      · have e2 : decVal l = 1000000000 := by omega
        rw [e2, Lib.nDigits_unique 9 1000000000 (by omega) (by omega)]
        omega
    omega)

/-- Behind some rounds: the number so far; all so far are figures. -/
def DvInv (l : List UInt8) (k n : Nat) : Prop := decVal (l.take k) = n ∧ n < 10 ^ k
theorem DvInv.start (l : List UInt8) : DvInv l 0 0 := ⟨rfl, by simp⟩
theorem DvInv.step {l : List UInt8} {k n : Nat} {b : UInt8} (h : DvInv l k n) (hb : l[k]? = some b) (hd : isD b.toNat = true) : DvInv l (k + 1) (10 * n + (b.toNat - 48)) := by
  have hk : k < l.length := (List.getElem?_eq_some_iff.1 hb).1
  have e : l[k] = b := (List.getElem?_eq_some_iff.1 hb).2
  rw [isD_iff] at hd
  refine ⟨?_, ?_⟩
  · rw [List.take_succ_eq_append_getElem hk, decVal_snoc, h.1, e]
  · have := h.2
    rw [Nat.pow_succ]
    omega
theorem DvInv.small {l : List UInt8} {k n : Nat} (h : DvInv l k n) (hk : k ≤ 10) : n ≤ 10000000000 := by
  have h1 := h.2
  have h2 : 10 ^ k ≤ 10 ^ 10 := Nat.pow_le_pow_right (by omega) hk
  omega
theorem DvInv.all {l : List UInt8} {k n : Nat} (h : DvInv l k n) (hk : l.length ≤ k) : decVal l = n := by
  have := h.1
  rwa [List.take_of_length_le hk] at this

theorem byteGet {s : ByteArray} {k : Nat} (h : k < s.size) : s.data.toList[k]? = some s[k] := by
  rw [Array.getElem?_toList]; exact Array.getElem?_eq_getElem h
end Go.Proofs.YtocaljbimhjmgaaGreatDoor.Plain

namespace Go.Proofs.YtocaljbimhjmgaaGreatDoor
open Go.RowKit
open Plain
set_option linter.unusedVariables false

theorem l01Figure_any (x : Int) (w : World) (h0 : 0 ≤ x) (h1 : x < 16) :
    Calls Tryz.prog 73 #[.int .i64 x] w fun e w' => e = .returned (.int .u8 (figI x)) ∧ w = w' := by
  unfold figI
  obtain ⟨n, rfl⟩ := Int.eq_ofNat_of_zero_le h0
  rw [Int.toNat_natCast]
  by_cases h : n < 10
  · rw [fig_low h]
    go_enter Tryz.func73, Tryz.ntmps73
    go_wp2
    go_ret
    exact ⟨rfl, rfl⟩
  · rw [fig_high h (by omega)]
    go_enter Tryz.func73, Tryz.ntmps73
    go_wp2
    go_ret
    exact ⟨by go_num, rfl⟩

end Go.Proofs.YtocaljbimhjmgaaGreatDoor

namespace Go.Proofs.YtocaljbimhjmgaaGreatDoor
open Go.RowKit
open Plain
set_option linter.unusedVariables false

theorem spec_Decimal_zero (w : World) :
    Calls Tryz.prog 65 #[.int .i64 0] w fun e w' => e = .returned (.string ⟨(Lib.itoa 0).toArray⟩) ∧ Below w.heap.size w w' := by
  rw [show Lib.itoa 0 = [48] from by rw [show (0 : Int) = ((0 : Nat) : Int) from rfl, itoa_nat, Lib.decDigits, dif_pos (by omega)]; rfl]
  go_enter Tryz.func65, Tryz.ntmps65
  go_wp2
  go_ret
  exact ⟨rfl, Below.refl _ _⟩

set_option maxHeartbeats 1000000 in
set_option maxRecDepth 100000 in
theorem spec_Decimal_pos (N : Nat) (w : World) (h0 : N ≠ 0) (h1 : N ≤ 9223372036854775807) :
    Calls Tryz.prog 65 #[.int .i64 N] w fun e w' => e = .returned (.string ⟨(Lib.itoa N).toArray⟩) ∧ Below w.heap.size w w' := by
  rw [itoa_nat]
  have d0 : ((N : Int) == 0) = false := by simp; omega
  have d1 : decide ((N : Int) < 0) = false := by simp
  have H0 := hide h0
  clear h0
  go_enter Tryz.func65, Tryz.ntmps65
  go_wp2
  go_loopw [0, 4] (fun n v wr => ∃ (m : Nat) (suf : List UInt8), n = .int .i64 m ∧ m ≤ 9223372036854775807 ∧ v = .string ⟨suf.toArray⟩ ∧ DecInv N m suf ∧ Below w.heap.size w wr)
    (fun n _ _ => (intOf n).toNat)
  case atStart => exact ⟨N, [], rfl, h1, rfl, DecInv.start N, Below.refl _ _⟩
  case round =>
    obtain ⟨m, suf, rfl, hm, rfl, hinv, hbel⟩ := hrel
    have hsl := hinv.2
    have hsl' : (⟨suf.toArray⟩ : ByteArray).size ≤ 20 := hsl
    by_cases hz : m = 0
    · subst hz
      have hd := hide (hinv.done (unhide H0))
      clear hinv
      go_wp2
      go_ret
      exact ⟨by rw [unhide hd]; rfl, hbel⟩
    · have dz1 : ((m : Int) != 0) = true := by simp; omega
      have dz2 : decide ((m : Int) % 10 < 0) = false := by simp; omega
      have hst := hinv.step (by omega) hz
      have hcv : ∀ W : World, (convert 89 9 (.slice (some ⟨W.heap.size, 0, none⟩) 1 1)).run Tryz.prog (W.alloc (.cells #[.int .u8 (figI ((m : Int) % 10))] 5)) = .ok (.string ⟨[fig (m % 10)].toArray⟩) (W.alloc (.cells #[.int .u8 (figI ((m : Int) % 10))] 5)) := fun W => one_str W (fig (m % 10))
      have HZ := hide hz
      clear hinv hz
      go_wp2_with (go_at_call 73; refine (l01Figure_any _ _ ?_ ?_).mono ?_; omega; omega; rintro e w1 ⟨rfl, rfl⟩)
      go_roundw
      case rel => exact ⟨m / 10, fig (m % 10) :: suf, by go_num, by omega, congrArg Value.string (ByteArray.mk_append_mk [fig (m % 10)] suf), hst, hbel.alloc hbel.size _⟩
      case measure => have := unhide HZ; simp [intOf]; omega

set_option maxHeartbeats 1000000 in
set_option maxRecDepth 100000 in
theorem spec_Decimal_neg (N : Nat) (w : World) (h0 : N ≠ 0) (h1 : N ≤ 9223372036854775808) :
    Calls Tryz.prog 65 #[.int .i64 (-(N : Int))] w fun e w' => e = .returned (.string ⟨(Lib.itoa (-(N : Int))).toArray⟩) ∧ Below w.heap.size w w' := by
  rw [itoa_neg h0]
  have d0 : (-(N : Int) == 0) = false := by simp; omega
  have d1 : decide (-(N : Int) < 0) = true := by simp; omega
  have d2 : decide (0 < N) = true := by simp; omega
  have H0 := hide h0
  clear h0
  go_enter Tryz.func65, Tryz.ntmps65
  go_wp2
  go_loopw [0, 4] (fun n v wr => ∃ (m : Nat) (suf : List UInt8), n = .int .i64 (-(m : Int)) ∧ m ≤ 9223372036854775808 ∧ v = .string ⟨suf.toArray⟩ ∧ DecInv N m suf ∧ Below w.heap.size w wr)
    (fun n _ _ => (intOf n).natAbs)
  case atStart => exact ⟨N, [], rfl, h1, rfl, DecInv.start N, Below.refl _ _⟩
  case round =>
    obtain ⟨m, suf, rfl, hm, rfl, hinv, hbel⟩ := hrel
    have hsl := hinv.2
    have hsl' : (⟨suf.toArray⟩ : ByteArray).size ≤ 20 := hsl
    by_cases hz : m = 0
    · subst hz
      have hd := hide (hinv.done (unhide H0))
      clear hinv
      go_wp2
      go_ret
      exact ⟨by rw [← unhide hd]; exact congrArg (fun b => Ending.returned (Value.string b)) (ByteArray.mk_append_mk [45] suf), hbel⟩
    · have dz1 : (-(m : Int) != 0) = true := by simp; omega
      have hst := hinv.step (by omega) hz
      obtain ⟨r, hr⟩ : ∃ r, r = m % 10 := ⟨_, rfl⟩
      obtain ⟨q, hq⟩ : ∃ q, q = m / 10 := ⟨_, rfl⟩
      have t1 := tmod_neg m
      have t2 := tdiv_neg m
      rw [← hr] at hst t1
      rw [← hq] at hst t2
      have hr9 : r ≤ 9 := by omega
      have hq9 : q ≤ 922337203685477580 := by omega
      have hqm : q < m := by omega
      have HQ := hide hqm
      have hcv : ∀ W : World, (convert 89 9 (.slice (some ⟨W.heap.size, 0, none⟩) 1 1)).run Tryz.prog (W.alloc (.cells #[.int .u8 (figI (r : Int))] 5)) = .ok (.string ⟨[fig r].toArray⟩) (W.alloc (.cells #[.int .u8 (figI (r : Int))] 5)) := fun W => one_str W (fig r)
      clear hinv hr hq hqm hz
      by_cases hr0 : r = 0
      · subst hr0
        have hcv0 : ∀ W : World, (convert 89 9 (.slice (some ⟨W.heap.size, 0, none⟩) 1 1)).run Tryz.prog (W.alloc (.cells #[.int .u8 (figI 0)] 5)) = .ok (.string ⟨[fig 0].toArray⟩) (W.alloc (.cells #[.int .u8 (figI 0)] 5)) := fun W => one_str W (fig 0)
        clear hcv
        go_wp2_with (go_at_call 73; refine (l01Figure_any _ _ ?_ ?_).mono ?_; omega; omega; rintro e w1 ⟨rfl, rfl⟩)
        go_roundw
        case rel => exact ⟨q, _ :: suf, rfl, by omega, congrArg Value.string (ByteArray.mk_append_mk [_] suf), hst, hbel.alloc hbel.size _⟩
        case measure => have := unhide HQ; simp [intOf]; omega
      · have dr : decide (-(r : Int) < 0) = true := by simp; omega
        go_wp2_with (go_at_call 73; refine (l01Figure_any _ _ ?_ ?_).mono ?_; omega; omega; rintro e w1 ⟨rfl, rfl⟩)
        go_roundw
        case rel => exact ⟨q, _ :: suf, rfl, by omega, congrArg Value.string (ByteArray.mk_append_mk [_] suf), hst, hbel.alloc hbel.size _⟩
        case measure => have := unhide HQ; simp [intOf]; omega

theorem spec_Decimal_any (n : Int) (w : World) (h0 : -9223372036854775808 ≤ n) (h1 : n ≤ 9223372036854775807) :
    Calls Tryz.prog 65 #[.int .i64 n] w fun e w' => e = .returned (.string ⟨(Lib.itoa n).toArray⟩) ∧ Below w.heap.size w w' := by
  by_cases hz : n = 0
  · subst hz; exact spec_Decimal_zero w
  · by_cases hp : 0 ≤ n
    · obtain ⟨N, rfl⟩ := Int.eq_ofNat_of_zero_le hp
      exact spec_Decimal_pos N w (by omega) (by omega)
    · obtain ⟨N, hN⟩ := Int.eq_ofNat_of_zero_le (show 0 ≤ -n by omega)
      obtain rfl : n = -(N : Int) := by omega
      exact spec_Decimal_neg N w (by omega) (by omega)
end Go.Proofs.YtocaljbimhjmgaaGreatDoor

namespace Go.Proofs.YtocaljbimhjmgaaGreatDoor
open Go.RowKit
open Plain
set_option linter.unusedVariables false

theorem below_grow (w : World) (k : Nat) (os : Array Obj) : Below w.heap.size w (Sort.grow (w.drewN k) os) :=
  ⟨rfl, rfl, rfl, by simp [Sort.grow], fun j hj => by
    show (w.heap ++ os)[j]? = _
    rw [Array.getElem?_append_left hj]⟩

theorem impl_Decimal_any (n : Int) (w : World) (h0 : -9223372036854775808 ≤ n) (h1 : n ≤ 9223372036854775807) (htab : Lib.TabIs Tryz.prog w "internal/strconv.uint64pow10" .u64 Lib.pow10Tab) :
    Calls Tryz.prog 94 #[.int .i64 n] w fun e w' => e = .returned (.string ⟨(Lib.itoa n).toArray⟩) ∧ Below w.heap.size w w' := by
  have HT := hide htab
  clear htab
  go_enter Tryz.func94, Tryz.ntmps94
  go_wp2_with (go_at_call 106; refine (Tryz.strconv_Itoa n h0 h1 _ (unhide HT)).mono ?_; rintro e w1 ⟨rfl, k, os, rfl⟩)
  go_ret
  exact ⟨rfl, below_grow _ _ _⟩
end Go.Proofs.YtocaljbimhjmgaaGreatDoor

namespace Go.Proofs.YtocaljbimhjmgaaGreatDoor
open Go.RowKit
open Plain
set_option linter.unusedVariables false

theorem spec_ReadDecimal_long (s : ByteArray) (w : World) (h : 10 < s.size) :
    Calls Tryz.prog 39 #[.string s] w fun e w' => e = .returned (ansD s.data.toList) ∧ Below w.heap.size w w' := by
  rw [ans_long (by simpa using h)]
  go_enter Tryz.func39, Tryz.ntmps39
  go_wp2
  go_ret2
  exact ⟨rfl, Below.refl _ _⟩

set_option maxHeartbeats 1000000 in
set_option maxRecDepth 100000 in
theorem spec_ReadDecimal_in (s : ByteArray) (w : World) (hs : s.size ≤ 10) :
    Calls Tryz.prog 39 #[.string s] w fun e w' => e = .returned (ansD s.data.toList) ∧ Below w.heap.size w w' := by
  have hl' := hide (show s.data.toList.length = s.size by simp)
  go_enter Tryz.func39, Tryz.ntmps39
  go_wp2
  go_loop [4, 5] (fun n i => ∃ k m : Nat, k ≤ s.size ∧ i = .int .i64 k ∧ n = .int .i64 m ∧ DvInv s.data.toList k m) (fun _ i => s.size - (intOf i).toNat)
  case atStart => exact ⟨0, 0, Nat.zero_le _, rfl, rfl, DvInv.start _⟩
  case round =>
    obtain ⟨k, m, hk, rfl, rfl, hinv⟩ := hrel
    have hsm := hinv.small (by omega)
    by_cases hlt : k < s.size
    · have hx : s[k].toNat < 256 := s[k].toNat_lt
      cases hd : isD s[k].toNat with
      | false =>
        have hb := hide (ans_bad (byteGet hlt) hd)
        have hd2 : s[k].toNat < 48 ∨ 57 < s[k].toNat := by
          have := (Bool.eq_false_iff.1 hd)
          rw [ne_eq, isD_iff] at this; omega
        clear hinv hd
        by_cases h48 : s[k].toNat < 48
        · have d1 : decide ((s[k].toNat : Int) < 48) = true := by simp; omega
          go_wp2
          go_ret2
          exact ⟨by rw [unhide hb]; rfl, Below.refl _ _⟩
        · have d1 : decide ((s[k].toNat : Int) < 48) = false := by simp; omega
          have d2 : decide ((57 : Int) < s[k].toNat) = true := by simp; omega
          go_wp2
          go_ret2
          exact ⟨by rw [unhide hb]; rfl, Below.refl _ _⟩
      | true =>
        have hst := hinv.step (byteGet hlt) hd
        rw [isD_iff] at hd
        have d1 : decide ((s[k].toNat : Int) < 48) = false := by simp; omega
        have d2 : decide ((57 : Int) < s[k].toNat) = false := by simp; omega
        clear hinv
        go_wp2
        go_round
        case rel => exact ⟨k + 1, _, by omega, by go_num, by go_num, hst⟩
        case measure => simp [intOf]; omega
    · have hall := hide (hinv.all (by rw [unhide hl']; omega))
      clear hinv
      by_cases hbig : 1000000000 < m
      · have d1 : decide ((1000000000 : Int) < m) = true := by simp; omega
        go_wp2
        go_ret2
        exact ⟨by rw [ans_no (unhide hall) (.inl hbig)]; rfl, Below.refl _ _⟩
      · have d1 : decide ((1000000000 : Int) < m) = false := by simp; omega
        go_wp2_with (go_at_call 65; refine (spec_Decimal_any _ _ ?_ ?_).mono ?_; omega; omega; rintro e w1 ⟨rfl, hb1⟩)
        · have hq : (!Lib.itoa (m : Int) == s.toList) = true := by assumption
          rw [ByteArray.toList_eq] at hq
          go_ret2
          exact ⟨by rw [ans_no (unhide hall) (.inr (by simpa using hq))]; rfl, by assumption⟩
        · have hq : (!Lib.itoa (m : Int) == s.toList) = false := by assumption
          rw [ByteArray.toList_eq] at hq
          go_ret2
          exact ⟨by rw [ans_yes (unhide hall) hbig (by simpa using hq)]; rfl, by assumption⟩

set_option maxHeartbeats 1000000 in
set_option maxRecDepth 100000 in
theorem impl_ReadDecimal_any (s : ByteArray) (w : World) (hs : s.size ≤ 1048576) (htab : Lib.TabIs Tryz.prog w "internal/strconv.uint64pow10" .u64 Lib.pow10Tab) :
    Calls Tryz.prog 84 #[.string s] w fun e w' => e = .returned (ansD s.data.toList) ∧ Below w.heap.size w w' := by
  have hl' := hide (show s.data.toList.length = s.size by simp)
  have cD := fun (n : Int) (h0 : -9223372036854775808 ≤ n) (h1 : n ≤ 9223372036854775807) => hide (impl_Decimal_any n w h0 h1 htab)
  have CD := hide cD
  clear htab cD
  go_enter Tryz.func84, Tryz.ntmps84
  go_wp2
  go_step3
  go_wp2
  go_step3
  go_wp2
  go_loop [4, 9] (fun n i => ∃ k m : Nat, k ≤ s.size ∧ m ≤ 10000000009 ∧ i = .int .i64 k ∧ n = .int .i64 m ∧ DvInv s.data.toList k m) (fun _ i => s.size - (intOf i).toNat)
  case atStart => exact ⟨0, 0, Nat.zero_le _, by omega, rfl, rfl, DvInv.start _⟩
  case round =>
    obtain ⟨k, m, hk, hm, rfl, rfl, hinv⟩ := hrel
    have cM := unhide CD m (by omega) (by omega)
    by_cases hlt : k < s.size
    · have hx : s[k].toNat < 256 := s[k].toNat_lt
      cases hd : isD s[k].toNat with
      | false =>
        have hb := hide (ans_bad (byteGet hlt) hd)
        have hi := hide (itoa_bad (n := m) (byteGet hlt) hd)
        have hd2 : s[k].toNat < 48 ∨ 57 < s[k].toNat := by
          have := (Bool.eq_false_iff.1 hd)
          rw [ne_eq, isD_iff] at this; omega
        clear hinv hd
        by_cases hbig : 1000000000 < m
        · have d3 : decide ((1000000000 : Int) < m) = true := by simp; omega
          by_cases h48 : s[k].toNat < 48
          · have d1 : decide ((s[k].toNat : Int) < 48) = true := by simp; omega
            go_wp2
            try rw [Exit.noGoto_ret]
            go_ret2
            exact ⟨by rw [unhide hb]; rfl, Below.refl _ _⟩
          · have d1 : decide ((s[k].toNat : Int) < 48) = false := by simp; omega
            have d2 : decide ((57 : Int) < s[k].toNat) = true := by simp; omega
            go_wp2
            try rw [Exit.noGoto_ret]
            go_ret2
            exact ⟨by rw [unhide hb]; rfl, Below.refl _ _⟩
        · have d3 : decide ((1000000000 : Int) < m) = false := by simp; omega
          by_cases h48 : s[k].toNat < 48
          · have d1 : decide ((s[k].toNat : Int) < 48) = true := by simp; omega
            go_wp2_with (go_at_call 94; refine (unhide cM).mono ?_; rintro e w1 ⟨rfl, hb1⟩)
            · try rw [Exit.noGoto_ret]
              go_ret2
              exact ⟨by rw [unhide hb]; rfl, by assumption⟩
            · have hq : (!Lib.itoa (m : Int) == s.toList) = false := by assumption
              rw [ByteArray.toList_eq] at hq
              exact absurd (by simpa using hq) (unhide hi)
          · have d1 : decide ((s[k].toNat : Int) < 48) = false := by simp; omega
            have d2 : decide ((57 : Int) < s[k].toNat) = true := by simp; omega
            go_wp2_with (go_at_call 94; refine (unhide cM).mono ?_; rintro e w1 ⟨rfl, hb1⟩)
            · try rw [Exit.noGoto_ret]
              go_ret2
              exact ⟨by rw [unhide hb]; rfl, by assumption⟩
            · have hq : (!Lib.itoa (m : Int) == s.toList) = false := by assumption
              rw [ByteArray.toList_eq] at hq
              exact absurd (by simpa using hq) (unhide hi)
      | true =>
        have hst := hinv.step (byteGet hlt) hd
        have hbg := hide (fun h : 1000000000 < m => ans_big (l := s.data.toList) (k := k) (by rw [hinv.1]; exact h))
        rw [isD_iff] at hd
        have d1 : decide ((s[k].toNat : Int) < 48) = false := by simp; omega
        have d2 : decide ((57 : Int) < s[k].toNat) = false := by simp; omega
        clear hinv
        by_cases hbig : 1000000000 < m
        · have d3 : decide ((1000000000 : Int) < m) = true := by simp; omega
          go_wp2
          try rw [Exit.noGoto_ret]
          go_ret2
          exact ⟨by rw [unhide hbg hbig]; rfl, Below.refl _ _⟩
        · have d3 : decide ((1000000000 : Int) < m) = false := by simp; omega
          go_wp2
          go_round
          case rel => exact ⟨k + 1, _, by omega, by omega, by go_num, by go_num, hst⟩
          case measure => simp [intOf]; omega
    · have hall := hide (hinv.all (by rw [unhide hl']; omega))
      clear hinv
      by_cases hbig : 1000000000 < m
      · have d1 : decide ((1000000000 : Int) < m) = true := by simp; omega
        go_wp2
        try rw [Exit.noGoto_ret]
        go_ret2
        exact ⟨by rw [ans_no (unhide hall) (.inl hbig)]; rfl, Below.refl _ _⟩
      · have d1 : decide ((1000000000 : Int) < m) = false := by simp; omega
        go_wp2_with (go_at_call 94; refine (unhide cM).mono ?_; rintro e w1 ⟨rfl, hb1⟩)
        · have hq : (!Lib.itoa (m : Int) == s.toList) = true := by assumption
          rw [ByteArray.toList_eq] at hq
          try rw [Exit.noGoto_ret]
          go_ret2
          exact ⟨by rw [ans_no (unhide hall) (.inr (by simpa using hq))]; rfl, by assumption⟩
        · have hq : (!Lib.itoa (m : Int) == s.toList) = false := by assumption
          rw [ByteArray.toList_eq] at hq
          try rw [Exit.noGoto_ret]
          go_ret2
          exact ⟨by rw [ans_yes (unhide hall) hbig (by simpa using hq)]; rfl, by assumption⟩
end Go.Proofs.YtocaljbimhjmgaaGreatDoor
