/- Commands: the program's bytes and words as they are. -/
import Derived.Test.YtjaohlnejkgkaaaDoorCmS3
import Derived.Test.YtjaohlnejkgkaaaDoorCmList
import Derived.Test.YtjaohlnejkgkaaaDoorBoxNameI
import Derived.Test.YtjaohlnejkgkaaaDoorShelf
import Derived.Lib.IndexBytes
import Derived.Lib.Replace
import Derived.Lib.CountLaws
namespace Go.Proofs.YtjaohlnejkgkaaaDoor
open Go.RowKit Go.Shelf
open Plain
set_option linter.unusedVariables false
set_option linter.unusedSimpArgs false

namespace Plain
def notB (b : UInt8) : Bool := decide (Lib.indexByte [34, 92, 40, 41, 123] b < 0)
theorem plB_fin : ∀ x : Fin 256, plB (UInt8.ofNat x.val) = (prB (UInt8.ofNat x.val) && (!(UInt8.ofNat x.val == 32) && notB (UInt8.ofNat x.val))) := by decide +kernel
theorem plB_split (b : UInt8) : plB b = (prB b && (!(b == 32) && notB b)) := by
  have := plB_fin ⟨b.toNat, b.toNat_lt⟩
  rwa [show UInt8.ofNat b.toNat = b by simp] at this
/-- Where one byte is replaced. -/
def repB (c : UInt8) (new : List UInt8) (b : UInt8) : List UInt8 := if b = c then new else [b]
theorem repK_one (c : UInt8) (new : List UInt8) (l : List UInt8) : Lib.replaceK [c] new (Lib.count l [c]) l = l.flatMap (repB c new) := by
  induction l with
  | nil => rw [Lib.count_miss (by rfl)]; rfl
  | cons b r ih =>
    rw [List.flatMap_cons]
    have hi : Lib.index (b :: r) [c] = if b == c then 0 else if Lib.indexByte r c == -1 then -1 else Lib.indexByte r c + 1 := by rw [Lib.index_one]; rfl
    by_cases hb : b = c
    · subst hb
      rw [if_pos (by simp)] at hi
      rw [Lib.count_hit (i := 0) (by simp) hi, Nat.add_comm 1, Lib.replaceK_hit (i := 0) _ _ _ _ hi]
      unfold repB at ih ⊢
      rw [if_pos rfl, ← ih]
      simp
    · rw [if_neg (by simpa using hb)] at hi
      have e : repB c new b = [b] := if_neg hb
      rw [e]
      by_cases hm : Lib.indexByte r c = -1
      · rw [if_pos (by rw [hm]; rfl)] at hi
        rw [Lib.count_miss hi]
        rw [Lib.count_miss (by rw [Lib.index_one]; exact hm)] at ih
        rw [← ih]; rfl
      · rw [if_neg (by simpa using hm)] at hi
        obtain ⟨i, hn⟩ : ∃ i : Nat, Lib.indexByte r c = i := ⟨(Lib.indexByte r c).toNat, by have := Lib.indexByte_ge r c; omega⟩
        have h1 : Lib.index r [c] = (i : Int) := by rw [Lib.index_one]; exact hn
        have h2 : Lib.index (b :: r) [c] = ((i + 1 : Nat) : Int) := by rw [hi, hn]; rfl
        have hc := Lib.count_hit (by simp) h1
        rw [Lib.count_hit (by simp) h2]
        rw [hc, Nat.add_comm 1, Lib.replaceK_hit _ _ _ _ _ h1] at ih
        rw [show i + 1 + [c].length = (i + [c].length) + 1 by omega, List.drop_succ_cons, Nat.add_comm 1, Lib.replaceK_hit _ _ _ _ _ h2, ← ih]
        rw [show i + 1 + [c].length = (i + [c].length) + 1 by omega, List.drop_succ_cons, List.take_succ_cons]
        simp
theorem repAll_one (c : UInt8) (new l : List UInt8) (h : ([c] == new) = false) : Lib.replaceAll l [c] new = l.flatMap (repB c new) := by
  unfold Lib.replaceAll Lib.replace Lib.replaceNum
  rw [if_neg (by rw [h]; decide), if_pos (Or.inl (by decide))]
  exact repK_one c new l
theorem rep_both (l : List UInt8) : Lib.replaceAll (Lib.replaceAll l [92] [92, 92]) [34] [92, 34] = l.flatMap quB := by
  rw [repAll_one _ _ _ (by decide), repAll_one _ _ _ (by decide), List.flatMap_assoc]
  congr 1
  funext b
  unfold repB quB
  by_cases h1 : b = 92
  · subst h1; decide
  · rw [if_neg h1]
    by_cases h2 : b = 34
    · subst h2; decide
    · rw [if_neg (by simp [h1, h2])]
      simp [h2]
theorem rep_len (c : UInt8) (d : List UInt8) (l : List UInt8) (hd : d.length = 2) (h : ([c] == d) = false) : (Lib.replaceAll l [c] d).length ≤ 2 * l.length := by
  rw [repAll_one _ _ _ h]
  clear h
  induction l with
  | nil => simp
  | cons b r ih =>
    rw [List.flatMap_cons, List.length_append, List.length_cons]
    have : (repB c d b).length ≤ 2 := by unfold repB; split <;> simp [hd]
    omega
end Plain

set_option maxHeartbeats 4000000 in
set_option maxRecDepth 100000 in
theorem impl_print (b : UInt8) (w : World) : Calls Tryd.prog 49 #[.int .u8 (b.toNat : Int)] w fun e w' => e = .returned (.bool (prB b)) ∧ w' = w := by
  unfold prB
  generalize b.toNat = n
  go_enter Tryd.func49, Tryd.ntmps49
  go_wp2
  all_goals go_ret
  all_goals first
    | (refine ⟨bool_ret (x := true) ?_, rfl⟩; rw [Bool.eq_iff_iff]; simp only [Bool.and_eq_true, decide_eq_true_eq, Bool.false_eq_true, true_iff, false_iff]; omega)
    | (refine ⟨bool_ret (x := false) ?_, rfl⟩; rw [Bool.eq_iff_iff]; simp only [Bool.and_eq_true, decide_eq_true_eq, Bool.false_eq_true, true_iff, false_iff]; omega)
    | (refine ⟨bool_ret (x := decide ((n : Int) ≤ 126)) ?_, rfl⟩; rw [Bool.eq_iff_iff]; simp only [Bool.and_eq_true, decide_eq_true_eq]; omega)
set_option maxHeartbeats 4000000 in
set_option maxRecDepth 100000 in
theorem impl_byte (b : UInt8) (w : World) : Calls Tryd.prog 45 #[.int .u8 (b.toNat : Int)] w fun e w' => e = .returned (.bool (plB b)) ∧ w' = w := by
  rw [plB_split]
  have Q := hide (impl_print b w)
  have Q2 : Hid (Calls Tryd.prog 63 #[.string ⟨#[34, 92, 40, 41, 123]⟩, .int .u8 (b.toNat : Int)] w fun e w' => e = .returned (.int .i64 (Lib.indexByte [34, 92, 40, 41, 123] b)) ∧ w' = w) := by
    have := Tryd.strings_IndexByte ⟨#[34, 92, 40, 41, 123]⟩ (b.toNat : Int) w
    rw [Lib.byte_back] at this
    exact this
  unfold notB
  generalize Lib.indexByte [34, 92, 40, 41, 123] b = i at *
  have hb : (b == 32) = ((b.toNat : Int) == 32) := by
    by_cases h : b = 32
    · subst h; decide
    · rw [show (b == 32) = false by simpa using h]; exact (byte_ne h).symm
  rw [hb]
  clear hb
  cases h1 : prB b with
  | false =>
    rw [h1] at Q
    go_enter Tryd.func45, Tryd.ntmps45
    go_wp2_with (go_at_call 49; refine (unhide Q).mono ?_; rintro e w1 ⟨rfl, hw⟩; subst w1)
    go_ret
    exact ⟨rfl, rfl⟩
  | true =>
    rw [h1] at Q
    generalize b.toNat = n at *
    go_enter Tryd.func45, Tryd.ntmps45
    go_wp2_with (first | (go_at_call 49; refine (unhide Q).mono ?_; rintro e w1 ⟨rfl, hw⟩; subst w1) | (go_at_call 63; refine (unhide Q2).mono ?_; rintro e w1 ⟨rfl, hw⟩; subst w1))
    all_goals go_ret
    all_goals first
      | (refine ⟨bool_ret (x := (n : Int) != 32 && decide (i < 0)) ?_, rfl⟩; rw [Bool.eq_iff_iff]; simp; done)
      | (refine ⟨bool_ret (x := false) ?_, rfl⟩; rw [Bool.eq_iff_iff]; simp; omega)
      | (refine ⟨bool_ret (x := (n : Int) != 32) ?_, rfl⟩; rw [Bool.eq_iff_iff]; simp; omega)

set_option maxHeartbeats 4000000 in
set_option maxRecDepth 100000 in
theorem impl_plain (s : ByteArray) (w : World) (hs : s.size ≤ 4194304) :
    Calls Tryd.prog 30 #[.string s] w fun e w' => e = .returned (.bool (plainW s.data.toList)) ∧ w' = w := by
  have hls : Hid (s.data.toList.length = s.size) := rfl
  have Q := hide (impl_within_any (s.size : Int) 1 60 w)
  go_enter Tryd.func30, Tryd.ntmps30
  go_wp2
  go_loop [6] (fun i => ∃ k : Nat, k ≤ s.size ∧ i = .int .i64 k ∧ ∀ j c, j < k → s.data.toList[j]? = some c → plB c = true) (fun i => s.size - (intOf i).toNat)
  case atStart => exact ⟨0, Nat.zero_le _, rfl, fun j c hj => by omega⟩
  case round =>
    obtain ⟨k, hk, rfl, hall⟩ := hrel
    have HC := hide hall
    clear hall
    by_cases hlt : k < s.size
    · have hx : s.data.toList[k]? = some s[k] := List.getElem?_eq_getElem (l := s.data.toList) (i := k) hlt
      have NO := hide (fun h => plain_no hx h)
      have ON : Hid (plB s[k] = true → ∀ j c, j < k + 1 → s.data.toList[j]? = some c → plB c = true) := fun h j c hj hc => by
        by_cases e : j = k
        · subst e
          rw [hx] at hc
          cases hc
          exact h
        · exact unhide HC j c (by omega) hc
      clear hx HC
      have i1 : (0 : Int) ≤ (k : Int) := by omega
      have i2 : (k : Int) < (s.size : Int) := by omega
      go_wp2_with fail
      refine (impl_byte s[k] _).mono ?_
      rintro e w1 ⟨rfl, hw⟩
      subst w1
      cases h1 : plB s[k] with
      | true =>
        have ok := hide (unhide ON h1)
        go_wp2
        exact ⟨⟨k + 1, by omega, by go_num, unhide ok⟩, by simp [intOf]; omega⟩
      | false =>
        have no := hide (unhide NO h1)
        go_wp2
        go_ret
        exact ⟨by rw [unhide no]; rfl, rfl⟩
    · have e : k = s.size := by omega
      subst e
      have V : Hid (plainW s.data.toList = inI (s.size : Int) 1 60) := plain_yes (fun i c hc => unhide HC i c (by have := (List.getElem?_eq_some_iff.1 hc).1; have h2 := unhide hls; omega) hc)
      clear HC
      go_wp2_with (go_at_call 18; refine (unhide Q).mono ?_; rintro e w1 ⟨rfl, hw⟩; subst w1)
      go_ret
      exact ⟨by rw [unhide V]; rfl, rfl⟩
set_option maxHeartbeats 4000000 in
set_option maxRecDepth 100000 in
theorem impl_prints_a (s : ByteArray) (w : World) (hs : s.size ≤ 4194304) (A : Bool) (hA : A = s.data.toList.all prB) :
    Calls Tryd.prog 32 #[.string s] w fun e w' => e = .returned (.bool A) ∧ w' = w := by
  have hls : Hid (s.data.toList.length = s.size) := rfl
  have HA := hide hA
  clear hA
  go_enter Tryd.func32, Tryd.ntmps32
  go_wp2
  go_loop [6] (fun i => ∃ k : Nat, k ≤ s.size ∧ i = .int .i64 k ∧ ∀ j c, j < k → s.data.toList[j]? = some c → prB c = true) (fun i => s.size - (intOf i).toNat)
  case atStart => exact ⟨0, Nat.zero_le _, rfl, fun j c hj => by omega⟩
  case round =>
    obtain ⟨k, hk, rfl, hall⟩ := hrel
    have HC := hide hall
    clear hall
    by_cases hlt : k < s.size
    · have hx : s.data.toList[k]? = some s[k] := List.getElem?_eq_getElem (l := s.data.toList) (i := k) hlt
      have NO : Hid (prB s[k] = false → A = false) := fun h => (unhide HA).trans (print_no hx h)
      have ON : Hid (prB s[k] = true → ∀ j c, j < k + 1 → s.data.toList[j]? = some c → prB c = true) := fun h j c hj hc => by
        by_cases e : j = k
        · subst e
          rw [hx] at hc
          cases hc
          exact h
        · exact unhide HC j c (by omega) hc
      clear hx HC
      have i1 : (0 : Int) ≤ (k : Int) := by omega
      have i2 : (k : Int) < (s.size : Int) := by omega
      go_wp2_with fail
      refine (impl_print s[k] _).mono ?_
      rintro e w1 ⟨rfl, hw⟩
      subst w1
      cases h1 : prB s[k] with
      | true =>
        have ok := hide (unhide ON h1)
        go_wp2
        exact ⟨⟨k + 1, by omega, by go_num, unhide ok⟩, by simp [intOf]; omega⟩
      | false =>
        have no := hide (unhide NO h1)
        go_wp2
        go_ret
        exact ⟨by rw [unhide no]; rfl, rfl⟩
    · have e : k = s.size := by omega
      subst e
      have V : Hid (A = true) := (unhide HA).trans (print_yes (fun i c hc => unhide HC i c (by have := (List.getElem?_eq_some_iff.1 hc).1; have h2 := unhide hls; omega) hc))
      clear HC
      go_wp2
      go_ret
      exact ⟨by rw [unhide V]; rfl, rfl⟩
theorem impl_prints (s : ByteArray) (w : World) (hs : s.size ≤ 4194304) :
    Calls Tryd.prog 32 #[.string s] w fun e w' => e = .returned (.bool (s.data.toList.all prB)) ∧ w' = w := impl_prints_a s w hs _ rfl
end Go.Proofs.YtjaohlnejkgkaaaDoor
