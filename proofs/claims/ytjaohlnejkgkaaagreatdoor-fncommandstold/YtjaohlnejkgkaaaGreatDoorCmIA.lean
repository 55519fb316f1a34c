/- Commands: CmI, CmIL, CmIW, CmIC in one text. -/
import Derived.Test.YtjaohlnejkgkaaaGreatDoorCmSA
import Derived.Test.YtjaohlnejkgkaaaGreatDoorCmList
import Derived.Test.YtjaohlnejkgkaaaGreatDoorBoxNameI
import Derived.Test.YtjaohlnejkgkaaaGreatDoorShelf
import Derived.Lib.IndexBytes
import Derived.Lib.Replace
import Derived.Lib.CountLaws
import Derived.Test.YtjaohlnejkgkaaaGreatDoorSplitC
import Derived.Test.YtjaohlnejkgkaaaGreatDoorDec
import Derived.Test.YtjaohlnejkgkaaaGreatDoorMemR
namespace Go.Proofs.YtjaohlnejkgkaaaGreatDoor
open Go.RowKit Go.Shelf
open Plain
set_option linter.unusedVariables false
set_option linter.unusedSimpArgs false

namespace Plain
def notB (b : UInt8) : Bool := decide (Lib.indexByte [34, 92, 40, 41, 123] b < 0)
theorem plB_fin : ∀ x : Fin 256, plB (UInt8.ofNat x.val) = (prB (UInt8.ofNat x.val) && (!(UInt8.ofNat x.val == 32) && notB (UInt8.ofNat x.val))) := by decide +kernel
theorem plB_split (b : UInt8) : plB b = (prB b && (!(b == 32) && notB b)) := by
  have := plB_fin ⟨b.toNat, b.toNat_lt⟩
  rwa [show UInt8.ofNat b.toNat = b by simp] at this
/-- Where one byte is replaced. -/
def repB (c : UInt8) (new : List UInt8) (b : UInt8) : List UInt8 := if b = c then new else [b]
theorem repK_one (c : UInt8) (new : List UInt8) (l : List UInt8) : Lib.replaceK [c] new (Lib.count l [c]) l = l.flatMap (repB c new) := by
  induction l with
  | nil => rw [Lib.count_miss (by rfl)]; rfl
  | cons b r ih =>
    rw [List.flatMap_cons]
    have hi : Lib.index (b :: r) [c] = if b == c then 0 else if Lib.indexByte r c == -1 then -1 else Lib.indexByte r c + 1 := by rw [Lib.index_one]; rfl
    by_cases hb : b = c
    · subst hb
      rw [if_pos (by simp)] at hi
      rw [Lib.count_hit (i := 0) (by simp) hi, Nat.add_comm 1, Lib.replaceK_hit (i := 0) _ _ _ _ hi]
      unfold repB at ih ⊢
      rw [if_pos rfl, ← ih]
      simp
    · rw [if_neg (by simpa using hb)] at hi
      have e : repB c new b = [b] := if_neg hb
      rw [e]
      by_cases hm : Lib.indexByte r c = -1
      · rw [if_pos (by rw [hm]; rfl)] at hi
        rw [Lib.count_miss hi]
        rw [Lib.count_miss (by rw [Lib.index_one]; exact hm)] at ih
        rw [← ih]; rfl
      · rw [if_neg (by simpa using hm)] at hi
        obtain ⟨i, hn⟩ : ∃ i : Nat, Lib.indexByte r c = i := ⟨(Lib.indexByte r c).toNat, by have := Lib.indexByte_ge r c; omega⟩
        have h1 : Lib.index r [c] = (i : Int) := by rw [Lib.index_one]; exact hn
        have h2 : Lib.index (b :: r) [c] = ((i + 1 : Nat) : Int) := by rw [hi, hn]; rfl
        have hc := Lib.count_hit (by simp) h1
        rw [Lib.count_hit (by simp) h2]
        rw [hc, Nat.add_comm 1, Lib.replaceK_hit _ _ _ _ _ h1] at ih
        rw [show i + 1 + [c].length = (i + [c].length) + 1 by omega, List.drop_succ_cons, Nat.add_comm 1, Lib.replaceK_hit _ _ _ _ _ h2, ← ih]
        rw [show i + 1 + [c].length = (i + [c].length) + 1 by omega, List.drop_succ_cons, List.take_succ_cons]
        simp
theorem repAll_one (c : UInt8) (new l : List UInt8) (h : ([c] == new) = false) : Lib.replaceAll l [c] new = l.flatMap (repB c new) := by
  unfold Lib.replaceAll Lib.replace Lib.replaceNum
  rw [if_neg (by rw [h]; decide), if_pos (Or.inl (by decide))]
  exact repK_one c new l
theorem rep_both (l : List UInt8) : Lib.replaceAll (Lib.replaceAll l [92] [92, 92]) [34] [92, 34] = l.flatMap quB := by
  rw [repAll_one _ _ _ (by decide), repAll_one _ _ _ (by decide), List.flatMap_assoc]
  congr 1
  funext b
  unfold repB quB
  by_cases h1 : b = 92
  · subst h1; decide
  · rw [if_neg h1]
    by_cases h2 : b = 34
    · subst h2; decide
    · rw [if_neg (by simp [h1, h2])]
      simp [h2]
theorem rep_len (c : UInt8) (d : List UInt8) (l : List UInt8) (hd : d.length = 2) (h : ([c] == d) = false) : (Lib.replaceAll l [c] d).length ≤ 2 * l.length := by
  rw [repAll_one _ _ _ h]
  clear h
  induction l with
  | nil => simp
  | cons b r ih =>
    rw [List.flatMap_cons, List.length_append, List.length_cons]
    have : (repB c d b).length ≤ 2 := by unfold repB; split <;> simp [hd]
    omega
end Plain

set_option maxHeartbeats 4000000 in
set_option maxRecDepth 100000 in
theorem impl_print (b : UInt8) (w : World) : Calls Tryz.prog 60 #[.int .u8 (b.toNat : Int)] w fun e w' => e = .returned (.bool (prB b)) ∧ w' = w := by
  unfold prB
  generalize b.toNat = n
  go_enter Tryz.func60, Tryz.ntmps60
  go_wp2
  all_goals go_ret
  all_goals first
    | (refine ⟨bool_ret (x := true) ?_, rfl⟩; rw [Bool.eq_iff_iff]; simp only [Bool.and_eq_true, decide_eq_true_eq, Bool.false_eq_true, true_iff, false_iff]; omega)
    | (refine ⟨bool_ret (x := false) ?_, rfl⟩; rw [Bool.eq_iff_iff]; simp only [Bool.and_eq_true, decide_eq_true_eq, Bool.false_eq_true, true_iff, false_iff]; omega)
    | (refine ⟨bool_ret (x := decide ((n : Int) ≤ 126)) ?_, rfl⟩; rw [Bool.eq_iff_iff]; simp only [Bool.and_eq_true, decide_eq_true_eq]; omega)
set_option maxHeartbeats 4000000 in
set_option maxRecDepth 100000 in
theorem impl_byte (b : UInt8) (w : World) : Calls Tryz.prog 51 #[.int .u8 (b.toNat : Int)] w fun e w' => e = .returned (.bool (plB b)) ∧ w' = w := by
  rw [plB_split]
  have Q := hide (impl_print b w)
  have Q2 : Hid (Calls Tryz.prog 67 #[.string ⟨#[34, 92, 40, 41, 123]⟩, .int .u8 (b.toNat : Int)] w fun e w' => e = .returned (.int .i64 (Lib.indexByte [34, 92, 40, 41, 123] b)) ∧ w' = w) := by
    have := Tryz.strings_IndexByte ⟨#[34, 92, 40, 41, 123]⟩ (b.toNat : Int) w
    rw [Lib.byte_back] at this
    exact this
  unfold notB
  generalize Lib.indexByte [34, 92, 40, 41, 123] b = i at *
  have hb : (b == 32) = ((b.toNat : Int) == 32) := by
    by_cases h : b = 32
    · subst h; decide
    · rw [show (b == 32) = false by simpa using h]; exact (byte_ne h).symm
  rw [hb]
  clear hb
  cases h1 : prB b with
  | false =>
    rw [h1] at Q
    go_enter Tryz.func51, Tryz.ntmps51
    go_wp2_with (go_at_call 60; refine (unhide Q).mono ?_; rintro e w1 ⟨rfl, hw⟩; subst w1)
    go_ret
    exact ⟨rfl, rfl⟩
  | true =>
    rw [h1] at Q
    generalize b.toNat = n at *
    go_enter Tryz.func51, Tryz.ntmps51
    go_wp2_with (first | (go_at_call 60; refine (unhide Q).mono ?_; rintro e w1 ⟨rfl, hw⟩; subst w1) | (go_at_call 67; refine (unhide Q2).mono ?_; rintro e w1 ⟨rfl, hw⟩; subst w1))
    all_goals go_ret
    all_goals first
      | (refine ⟨bool_ret (x := (n : Int) != 32 && decide (i < 0)) ?_, rfl⟩; rw [Bool.eq_iff_iff]; simp; done)
      | (refine ⟨bool_ret (x := false) ?_, rfl⟩; rw [Bool.eq_iff_iff]; simp; omega)
      | (refine ⟨bool_ret (x := (n : Int) != 32) ?_, rfl⟩; rw [Bool.eq_iff_iff]; simp; omega)

set_option maxHeartbeats 4000000 in
set_option maxRecDepth 100000 in
theorem impl_plain (s : ByteArray) (w : World) (hs : s.size ≤ 4194304) :
    Calls Tryz.prog 30 #[.string s] w fun e w' => e = .returned (.bool (plainW s.data.toList)) ∧ w' = w := by
  have hls : Hid (s.data.toList.length = s.size) := rfl
  have Q := hide (impl_within_any (s.size : Int) 1 60 w)
  go_enter Tryz.func30, Tryz.ntmps30
  go_wp2
  go_loop [6] (fun i => ∃ k : Nat, k ≤ s.size ∧ i = .int .i64 k ∧ ∀ j c, j < k → s.data.toList[j]? = some c → plB c = true) (fun i => s.size - (intOf i).toNat)
  case atStart => exact ⟨0, Nat.zero_le _, rfl, fun j c hj => by omega⟩
  case round =>
    obtain ⟨k, hk, rfl, hall⟩ := hrel
    have HC := hide hall
    clear hall
    by_cases hlt : k < s.size
    · have hx : s.data.toList[k]? = some s[k] := List.getElem?_eq_getElem (l := s.data.toList) (i := k) hlt
      have NO := hide (fun h => plain_no hx h)
      have ON : Hid (plB s[k] = true → ∀ j c, j < k + 1 → s.data.toList[j]? = some c → plB c = true) := fun h j c hj hc => by
        by_cases e : j = k
        · subst e
          rw [hx] at hc
          cases hc
          exact h
        · exact unhide HC j c (by omega) hc
      clear hx HC
      have i1 : (0 : Int) ≤ (k : Int) := by omega
      have i2 : (k : Int) < (s.size : Int) := by omega
      go_wp2_with fail
      refine (impl_byte s[k] _).mono ?_
      rintro e w1 ⟨rfl, hw⟩
      subst w1
      cases h1 : plB s[k] with
      | true =>
        have ok := hide (unhide ON h1)
        go_wp2
        exact ⟨⟨k + 1, by omega, by go_num, unhide ok⟩, by simp [intOf]; omega⟩
      | false =>
        have no := hide (unhide NO h1)
        go_wp2
        go_ret
        exact ⟨by rw [unhide no]; rfl, rfl⟩
    · have e : k = s.size := by omega
      subst e
      have V : Hid (plainW s.data.toList = inI (s.size : Int) 1 60) := plain_yes (fun i c hc => unhide HC i c (by have := (List.getElem?_eq_some_iff.1 hc).1; have h2 := unhide hls; omega) hc)
      clear HC
      go_wp2_with (go_at_call 20; refine (unhide Q).mono ?_; rintro e w1 ⟨rfl, hw⟩; subst w1)
      go_ret
      exact ⟨by rw [unhide V]; rfl, rfl⟩
set_option maxHeartbeats 4000000 in
set_option maxRecDepth 100000 in
theorem impl_prints_a (s : ByteArray) (w : World) (hs : s.size ≤ 4194304) (A : Bool) (hA : A = s.data.toList.all prB) :
    Calls Tryz.prog 32 #[.string s] w fun e w' => e = .returned (.bool A) ∧ w' = w := by
  have hls : Hid (s.data.toList.length = s.size) := rfl
  have HA := hide hA
  clear hA
  go_enter Tryz.func32, Tryz.ntmps32
  go_wp2
  go_loop [6] (fun i => ∃ k : Nat, k ≤ s.size ∧ i = .int .i64 k ∧ ∀ j c, j < k → s.data.toList[j]? = some c → prB c = true) (fun i => s.size - (intOf i).toNat)
  case atStart => exact ⟨0, Nat.zero_le _, rfl, fun j c hj => by omega⟩
  case round =>
    obtain ⟨k, hk, rfl, hall⟩ := hrel
    have HC := hide hall
    clear hall
    by_cases hlt : k < s.size
    · have hx : s.data.toList[k]? = some s[k] := List.getElem?_eq_getElem (l := s.data.toList) (i := k) hlt
      have NO : Hid (prB s[k] = false → A = false) := fun h => (unhide HA).trans (print_no hx h)
      have ON : Hid (prB s[k] = true → ∀ j c, j < k + 1 → s.data.toList[j]? = some c → prB c = true) := fun h j c hj hc => by
        by_cases e : j = k
        · subst e
          rw [hx] at hc
          cases hc
          exact h
        · exact unhide HC j c (by omega) hc
      clear hx HC
      have i1 : (0 : Int) ≤ (k : Int) := by omega
      have i2 : (k : Int) < (s.size : Int) := by omega
      go_wp2_with fail
      refine (impl_print s[k] _).mono ?_
      rintro e w1 ⟨rfl, hw⟩
      subst w1
      cases h1 : prB s[k] with
      | true =>
        have ok := hide (unhide ON h1)
        go_wp2
        exact ⟨⟨k + 1, by omega, by go_num, unhide ok⟩, by simp [intOf]; omega⟩
      | false =>
        have no := hide (unhide NO h1)
        go_wp2
        go_ret
        exact ⟨by rw [unhide no]; rfl, rfl⟩
    · have e : k = s.size := by omega
      subst e
      have V : Hid (A = true) := (unhide HA).trans (print_yes (fun i c hc => unhide HC i c (by have := (List.getElem?_eq_some_iff.1 hc).1; have h2 := unhide hls; omega) hc))
      clear HC
      go_wp2
      go_ret
      exact ⟨by rw [unhide V]; rfl, rfl⟩
theorem impl_prints (s : ByteArray) (w : World) (hs : s.size ≤ 4194304) :
    Calls Tryz.prog 32 #[.string s] w fun e w' => e = .returned (.bool (s.data.toList.all prB)) ∧ w' = w := impl_prints_a s w hs _ rfl
end Go.Proofs.YtjaohlnejkgkaaaGreatDoor
namespace Go.Proofs.YtjaohlnejkgkaaaGreatDoor
open Go.RowKit Go.Shelf
open Plain
set_option linter.unusedVariables false
set_option linter.unusedSimpArgs false

attribute [local go_sem] Oper.semAt_some

theorem keepsC_below {W W' : World} (h : Below W.heap.size W W') : KeepsOthers W W' :=
  ⟨h.size, fun k o hk _ => (h.block k (Array.getElem?_eq_some_iff.1 hk).1).trans hk⟩
theorem boxedC_below {W W' : World} {B : Nat} {t : TypeId} {v : Value} (h : Below W.heap.size W W') (b : Boxed W B t v) : Boxed W' B t v := (h.block B b.lt).trans b
theorem cutPC (s : ByteArray) (w : World) : Calls Tryz.prog 57 #[.string s, .string ⟨#[40]⟩] w fun e w' => e = .returned (.tuple #[.string ⟨(restF s.data.toList).toArray⟩, .bool (openB s.data.toList)]) ∧ w' = w := Tryz.strings_CutPrefix s ⟨#[40]⟩ w
namespace Plain
theorem rest_len (l : List UInt8) : (restF l).length ≤ l.length := by
  unfold restF Lib.trimPrefix
  split
  · simp
  · exact Nat.le_refl _
theorem innerC_len (l : List UInt8) : (innerF l).length ≤ l.length := by
  have h1 := rest_len l
  unfold innerF Lib.trimSuffix
  split
  · simp; omega
  · exact h1
theorem all_pre {a b : List (List UInt8)} (h : a <+: b) (ha : a.all plainW = false) : b.all plainW = false := by
  obtain ⟨c, rfl⟩ := h
  rw [List.all_append, ha]; rfl
end Plain
theorem cutSC (s : ByteArray) (w : World) (hs : s.size ≤ 1048576) : Calls Tryz.prog 58 #[.string ⟨(restF s.data.toList).toArray⟩, .string ⟨#[41]⟩] w fun e w' => e = .returned (.tuple #[.string ⟨(innerF s.data.toList).toArray⟩, .bool (shutB s.data.toList)]) ∧ w' = w := by
  refine Tryz.strings_CutSuffix ⟨(restF s.data.toList).toArray⟩ ⟨#[41]⟩ w ?_
  show (restF s.data.toList).length ≤ _
  have := rest_len s.data.toList
  have h2 : s.data.toList.length = s.size := rfl
  omega
set_option maxRecDepth 100000 in
set_option maxHeartbeats 2000000 in
theorem impl_isList_out (t : ByteArray) (w : World) (ht : t.size ≤ 1048576) (h : (openB t.data.toList && shutB t.data.toList) = false) :
    Calls Tryz.prog 31 #[.string t] w fun e w' => e = .returned (.bool (listW t.data.toList)) ∧ Below w.heap.size w w' := by
  have V := hide (listW_cut t.data.toList)
  rw [h, Bool.false_and] at V
  have Q1 := hide (cutPC t)
  have Q2 := hide (fun W => cutSC t W ht)
  generalize openB t.data.toList = ob at *
  generalize shutB t.data.toList = sb at *
  cases ob with
  | false =>
    clear h
    go_enter Tryz.func31, Tryz.ntmps31
    go_wp2_with (first | (go_at_call 57; refine (unhide Q1 _).mono ?_; rintro e w1 ⟨rfl, hw1⟩; subst w1) | (go_at_call 58; refine (unhide Q2 _).mono ?_; rintro e w1 ⟨rfl, hw1⟩; subst w1))
    refine bodyPost_ret (by simp [results, Tryz.results31, go_sem]; try rfl) rfl ?_
    exact ⟨by rw [unhide V], (Below.refl _ _).alloc (Nat.le_refl _) _⟩
  | true =>
    have hsb : sb = false := by simpa using h
    subst hsb
    clear h
    go_enter Tryz.func31, Tryz.ntmps31
    go_wp2_with (first | (go_at_call 57; refine (unhide Q1 _).mono ?_; rintro e w1 ⟨rfl, hw1⟩; subst w1) | (go_at_call 58; refine (unhide Q2 _).mono ?_; rintro e w1 ⟨rfl, hw1⟩; subst w1))
    refine bodyPost_ret (by simp [results, Tryz.results31, go_sem]; try rfl) rfl ?_
    exact ⟨by rw [unhide V], (Below.refl _ _).alloc (Nat.le_refl _) _⟩
set_option maxRecDepth 100000 in
set_option maxHeartbeats 2000000 in
theorem impl_isList_none (t : ByteArray) (w : World) (ht : t.size ≤ 1048576) (h1 : openB t.data.toList = true) (h2 : shutB t.data.toList = true) (h3 : innerF t.data.toList = []) :
    Calls Tryz.prog 31 #[.string t] w fun e w' => e = .returned (.bool (listW t.data.toList)) ∧ Below w.heap.size w w' := by
  have V := hide (listW_cut t.data.toList)
  have Q1 := hide (cutPC t)
  have Q2 := hide (fun W => cutSC t W ht)
  rw [h1] at Q1
  rw [h2, h3] at Q2
  rw [h1, h2, h3] at V
  clear h1 h2 h3
  go_enter Tryz.func31, Tryz.ntmps31
  go_wp2_with (first | (go_at_call 57; refine (unhide Q1 _).mono ?_; rintro e w1 ⟨rfl, hw1⟩; subst w1) | (go_at_call 58; refine (unhide Q2 _).mono ?_; rintro e w1 ⟨rfl, hw1⟩; subst w1))
  refine bodyPost_ret (by simp [results, Tryz.results31, go_sem]; try rfl) rfl ?_
  exact ⟨by rw [unhide V]; rfl, (Below.refl _ _).alloc (Nat.le_refl _) _⟩

/-- What the loop holds on to. -/
def wordsC (pre : List Pt) : List (List UInt8) := pre.map ptOf
def InvL (v : Bool) (w : World) (pre : List Pt) (W : World) : Prop :=
  Boxed W w.heap.size 4 (.bool false) ∧ (wordsC pre).all plainW = v ∧ Below w.heap.size w W ∧ w.heap.size + 4 ≤ W.heap.size
theorem InvL.own (v : Bool) (w : World) (B : Nat) (hB : w.heap.size ≤ B) : OwnFrom B (InvL v w) :=
  OwnFrom.and (Own.from (boxed_own w.heap.size 4 (fun _ => .bool false)) _)
    (OwnFrom.and (ownFrom_pure _ (fun (pre : List Pt) => (wordsC pre).all plainW = v)) (OwnFrom.and (ownFrom_below (Nat.le_refl _) hB) (fun _ _ _ _ hs hg _ => Nat.le_trans hs hg.size)))
theorem InvL.moved (v : Bool) (w : World) (s : List Pt) (A : World) (x : Value) (h : InvL v w s A) : InvL v w s (A.setCell ⟨w.heap.size + 1, 0, none⟩ x) := by
  obtain ⟨h1, h4, h5, h6⟩ := h
  exact ⟨h1.other (by omega) _, h4, h5.setCell (p := ⟨w.heap.size + 1, 0, none⟩) (by show w.heap.size ≤ w.heap.size + 1; omega) x, by simpa using h6⟩

set_option maxRecDepth 100000 in
set_option maxHeartbeats 2000000 in
theorem impl_isList_in (t : ByteArray) (w : World) (ht : t.size ≤ 1048576) (h1 : openB t.data.toList = true) (h2 : shutB t.data.toList = true) (h3 : innerF t.data.toList ≠ []) :
    Calls Tryz.prog 31 #[.string t] w fun e w' => e = .returned (.bool (listW t.data.toList)) ∧ Below w.heap.size w w' := by
  have V : Hid (listW t.data.toList = (cutsL 32 (innerF t.data.toList)).all plainW) := by show _ = _; rw [listW_cut, h1, h2, show (innerF t.data.toList).isEmpty = false by simpa using h3]; rfl
  have Q1 := hide (cutPC t)
  have Q2 := hide (fun W => cutSC t W ht)
  rw [h1] at Q1
  rw [h2] at Q2
  have IL : Hid ((innerF t.data.toList).length ≤ 1048576) := Nat.le_trans (innerC_len _) ht
  generalize innerF t.data.toList = L at *
  have tE : L.isEmpty = false := by simpa using h3
  have tE2 : (⟨L.toArray⟩ : ByteArray).toList.isEmpty = false := by rw [ByteArray.toList_eq]; simpa using h3
  refine (callsIn_wide (n := 6)).1 ?_
  refine callsIn_of_wp_marks Tryz.func31 rfl trivial ?_ rfl
  simp only [Tryz.ntmps31, List.size_toArray, List.length_cons, List.length_nil, Nat.reduceAdd, Nat.reduceSub, Array.replicate_succ, Array.replicate_zero, List.push_toArray, List.append_toArray, List.nil_append, List.cons_append]
  gi_wp2_with (refine ⟨trivial, ?_⟩; gi_at_call 57; refine (callsIn_wide.2 (unhide Q1 _)).mono ?_; rintro e w1 ⟨rfl, hw1⟩; subst w1)
  gi_wp2_with (refine ⟨trivial, ?_⟩; gi_at_call 58; refine (callsIn_wide.2 (unhide Q2 _)).mono ?_; rintro e w1 ⟨rfl, hw1⟩; subst w1)
  gi_wp2_with (refine ⟨trivial, ?_⟩; gi_at_call 59; refine (SplitSeq_in 32 _ ⟨L.toArray⟩ _).mono ?_; rintro e w1 ⟨rfl, q1, q2, q3, q4⟩)
  have tS : (⟨L.toArray⟩ : ByteArray).size ≤ 1048576 := unhide IL
  have b0 := Boxed.new w 4 (.bool false)
  obtain ⟨WA, hWA⟩ : ∃ WA, WA = w.alloc (.cells #[.bool false] 4) := ⟨_, rfl⟩
  have d0 : Boxed WA w.heap.size 4 (.bool false) := by rw [hWA]; exact b0
  have hbA : Below w.heap.size w WA := by rw [hWA]; exact (Below.refl _ w).alloc (Nat.le_refl _) _
  have hsA : WA.heap.size = w.heap.size + 1 := by rw [hWA]; simp
  rw [← hWA] at q1 q2 q3 q4
  clear b0 hWA
  have hs1 : w1.heap.size = w.heap.size + 4 := by omega
  have q1' : SpBox 32 (w.heap.size + 1) w1 ⟨L.toArray⟩ := by rw [hsA] at q1; exact q1
  have hB1 : Below w.heap.size w w1 := hbA.trans (q3.mono (by omega))
  have k0 := boxedC_below q3 d0
  have HS1 := hide hs1
  clear q1 q2 q3 q4 d0 hbA hsA h1 h2 h3
  refine wpIn_range_moves (by omega) (gf := 78) (lb := #[.pointer (some ⟨w.heap.size + 1 + 1, 0, none⟩), .pointer (some ⟨w.heap.size + 1, 0, none⟩), .pointer (some ⟨w.heap.size + 1 + 2, 0, none⟩)]) rfl (enters_of Tryz.func78 (by kernel_rfl) rfl)
    (split_moves 32 5 (by omega) (w.heap.size + 1) w.heap.size ⟨L.toArray⟩ tS w1 q1' (by omega)) KpS.t (KpS.b (by omega) (by omega)) (fun _ => rfl)
    (InvL true w) (InvL false w) (InvL.own true w _ (by omega)) (InvL.own false w _ (by omega)) (InvL.moved true w) ⟨k0, rfl, hB1, by omega⟩
    (fun x => { tmps := #[.string t, undef, .pointer (some ⟨w.heap.size, 0, none⟩), .string ⟨L.toArray⟩, .bool true, .bool true, .string x.1, .tuple #[.string ⟨(restF t.data.toList).toArray⟩, .bool true], .string t, .tuple #[.string ⟨(restF t.data.toList).toArray⟩, .bool true], .string ⟨(restF t.data.toList).toArray⟩, .bool true, .tuple #[.string ⟨L.toArray⟩, .bool true], .string ⟨(restF t.data.toList).toArray⟩, .tuple #[.string ⟨L.toArray⟩, .bool true], .string ⟨L.toArray⟩, .bool true, .bool true, .bool false, .bool false, .bool true, .bool false, .bool false, .bool false, .string ⟨L.toArray⟩, .bool false, .bool false, undef, undef, undef, undef, .string ⟨L.toArray⟩, .func (.func 78) #[] #[.pointer (some ⟨w.heap.size + 1 + 1, 0, none⟩), .pointer (some ⟨w.heap.size + 1, 0, none⟩), .pointer (some ⟨w.heap.size + 1 + 2, 0, none⟩)], .string x.1, undef, undef, undef], defers := [] }) ?assign ?body ?done ?stop
  case assign =>
    intro l x W K hK
    gi_wp2
    exact hK
  case body =>
    rintro l pre x W ⟨hv, hok, hB, hsz⟩ hlt
    have RS := hide (impl_plain x.1 W (Nat.le_trans x.2 (by decide)))
    have LS : Hid ((wordsC (pre ++ [x])).all plainW = plainW x.1.data.toList) := by
      show _ = _
      unfold wordsC at hok ⊢
      rw [List.map_append, List.all_append, hok]
      show (true && (plainW (ptOf x) && true)) = _
      rw [Bool.true_and, Bool.and_true]; rfl
    generalize plainW x.1.data.toList = v at *
    clear hok
    have f0 := hv.cell
    have g0 := hv.frozen
    gi_wp2
    refine ⟨trivial, (CallsIn.inRound l (callsIn_wide.2 (unhide RS))).mono ?_⟩
    rintro e w3 ⟨rfl, hw3⟩
    subst w3
    cases v with
    | true =>
      gi_wp2
      exact ⟨(KeepsOthers.refl _).from _, ⟨Below.refl _ _, fun k _ _ => rfl⟩, hv, unhide LS, hB, hsz⟩
    | false =>
      gi_wp2
      exact ⟨(KeepsOthers.setCell _ _ _).from _, hv.set (.bool false), unhide LS, hB.setCell (p := ⟨w.heap.size, 0, none⟩) (Nat.le_refl _) _, by simpa using hsz⟩
  case done =>
    rintro D ys W hD hS0 ⟨hv, hok, hB, hsz⟩ hK
    have hDs : w.heap.size + 4 ≤ D := by have := unhide HS1; omega
    have FV : Hid ((cutsL 32 L).all plainW = true) := by
      show _ = _
      rw [← hok, show wordsC ys = cutsL 32 L from hS0]
    clear hok hS0
    have c0 := hv.cell
    have z0 := hv.frozen
    gi_wp2
    have r0 := hv.set (.bool true)
    have hK6 : (W.setCell ⟨w.heap.size, 0, none⟩ (.bool true)).heap[D]? = some (.deferred (some [])) := (KeepsOthers.setCell _ _ _).same D _ hK rfl
    have hB6 : Below w.heap.size w (W.setCell ⟨w.heap.size, 0, none⟩ (.bool true)) := hB.setCell (p := ⟨w.heap.size, 0, none⟩) (Nat.le_refl _) _
    generalize W.setCell ⟨w.heap.size, 0, none⟩ (.bool true) = W6 at *
    refine ⟨by simp, .inl ⟨_, _, rfl, run_takeDeferred hK6, ?_⟩⟩
    have g1 := (r0.kept (grownBy_putObj' W6 D (.deferred none)) (by simp; omega)).cell
    refine ⟨_, by simp [results, Tryz.results31, go_sem, g1]; try rfl, ?_, ?_⟩
    · rw [unhide V, unhide FV]
    · exact hB6.trans (belowK_b (w := w) (Nat.le_refl _) W6 D _ _ (by omega) hK6 rfl rfl)
  case stop =>
    rintro D pre W hD hSp ⟨hR1, hok, hB, hsz⟩ hK
    have NO := hide (all_pre hSp hok)
    gi_wp2
    refine ⟨by simp, .inl ⟨_, _, rfl, run_takeDeferred hK, ?_⟩⟩
    have hDs : w.heap.size + 4 ≤ D := by have := unhide HS1; omega
    have g1 := (hR1.kept (grownBy_putObj' W D (.deferred none)) (by simp; omega)).cell
    refine ⟨_, by simp [results, Tryz.results31, go_sem, g1]; try rfl, ?_, ?_⟩
    · rw [unhide V, unhide NO]
    · exact hB.trans (belowK_b (w := w) (Nat.le_refl _) W D _ _ (by omega) hK rfl rfl)
theorem impl_isList_any (t : ByteArray) (w : World) (ht : t.size ≤ 1048576) :
    Calls Tryz.prog 31 #[.string t] w fun e w' => e = .returned (.bool (listW t.data.toList)) ∧ Below w.heap.size w w' := by
  cases h1 : openB t.data.toList with
  | false => exact impl_isList_out t w ht (by rw [h1]; rfl)
  | true =>
    cases h2 : shutB t.data.toList with
    | false => exact impl_isList_out t w ht (by rw [h1, h2]; rfl)
    | true =>
      by_cases h3 : innerF t.data.toList = []
      · exact impl_isList_none t w ht h1 h2 h3
      · exact impl_isList_in t w ht h1 h2 h3
end Go.Proofs.YtjaohlnejkgkaaaGreatDoor
namespace Go.Proofs.YtjaohlnejkgkaaaGreatDoor
open Go.RowKit Go.Shelf
open Plain
set_option linter.unusedVariables false
set_option linter.unusedSimpArgs false

/-- The library's bound on what it looks for at once is laid. -/
def HasMax (w : World) : Prop := 0 < w.heap.size ∧ ∃ m, w.cell? ⟨0, 0, none⟩ = some (.int .i64 m)
theorem HasMax.below {w W : World} (h : HasMax w) (hb : Below w.heap.size w W) : HasMax W := by
  obtain ⟨h0, m, hm⟩ := h
  exact ⟨Nat.lt_of_lt_of_le h0 hb.size, m, (hb.cell h0).trans hm⟩
theorem gPowC : Tryz.prog.globalNamed "internal/strconv.uint64pow10" = some 3 := by kernel_rfl
theorem tabC_below {w w1 : World} (h : Below w.heap.size w w1) (ht : Lib.TabIs Tryz.prog w "internal/strconv.uint64pow10" .u64 Lib.pow10Tab) : Lib.TabIs Tryz.prog w1 "internal/strconv.uint64pow10" .u64 Lib.pow10Tab :=
  var?_below h gPowC (World.block_lt_of_cell? w _ (Lib.TabIs.cell ht gPowC 0 (by decide))) ht
namespace Plain
theorem count_len (c : UInt8) (l : List UInt8) : Lib.count l [c] ≤ l.length + 1 := Lib.count_le l [c]
theorem repF_len (c d : UInt8) (l : List UInt8) (h : ([c] == [92, d]) = false) : (Lib.replaceAll l [c] [92, d]).length ≤ 2 * l.length := rep_len c _ l rfl h
theorem quote_text (l : List UInt8) : (⟨#[34]⟩ : ByteArray) ++ ⟨(Lib.replaceAll (Lib.replaceAll l [92] [92, 92]) [34] [92, 34]).toArray⟩ ++ ⟨#[34]⟩ = ⟨(quoteL l).toArray⟩ := by
  rw [rep_both]
  apply ByteArray.ext
  apply Array.ext'
  simp [quoteL]
end Plain
set_option maxHeartbeats 4000000 in
set_option maxRecDepth 100000 in
theorem impl_quoted (s : ByteArray) (w : World) (hs : s.size ≤ 1048576) (hm : HasMax w) :
    Calls Tryz.prog 33 #[.string s] w fun e w' => e = .returned (.string ⟨(quoteL s.data.toList).toArray⟩) ∧ Below w.heap.size w w' := by
  have hl : s.data.toList.length = s.size := rfl
  have c1 := count_len 92 s.data.toList
  have l1 := repF_len 92 92 s.data.toList (by decide)
  have V := hide (quote_text s.data.toList)
  obtain ⟨h0, m, hm1⟩ := id hm
  have Q1 := hide (Tryz.strings_ReplaceAll s ⟨#[92]⟩ ⟨#[92, 92]⟩ m w (by omega) hm1 (by decide) (by show s.size + Lib.count s.data.toList [92] * 2 ≤ _; omega))
  change Hid (Calls _ _ _ _ fun e w' => e = .returned (.string ⟨(Lib.replaceAll s.data.toList [92] [92, 92]).toArray⟩) ∧ Below w.heap.size w w') at Q1
  generalize Lib.replaceAll s.data.toList [92] [92, 92] = r at *
  have c2 := count_len 34 r
  have l2 := repF_len 34 34 r (by decide)
  have Q2 : Hid (∀ W, HasMax W → Calls Tryz.prog 61 #[.string ⟨r.toArray⟩, .string ⟨#[34]⟩, .string ⟨#[92, 34]⟩] W fun e w' => e = .returned (.string ⟨(Lib.replaceAll r [34] [92, 34]).toArray⟩) ∧ Below W.heap.size W w') := by
    intro W hW
    obtain ⟨_, m2, hm2⟩ := hW
    exact Tryz.strings_ReplaceAll ⟨r.toArray⟩ ⟨#[34]⟩ ⟨#[92, 34]⟩ m2 W (by show r.length < _; omega) hm2 (by decide) (by show r.length + Lib.count r [34] * 2 ≤ _; omega)
  generalize Lib.replaceAll r [34] [92, 34] = y at *
  have HM := hide hm
  have iy1 : ¬ 9223372036854775807 < 1 + y.length := by omega
  have iy2 : ¬ 9223372036854775807 < 1 + y.length + 1 := by omega
  clear hm hm1 c1 c2
  go_enter Tryz.func33, Tryz.ntmps33
  go_wp2_with fail
  refine (unhide Q1).mono ?_
  rintro e w1 ⟨rfl, hb1⟩
  have HM1 := hide ((unhide HM).below hb1)
  go_wp2_with fail
  refine (unhide Q2 _ (unhide HM1)).mono ?_
  rintro e w2 ⟨rfl, hb2⟩
  go_wp2
  go_ret
  exact ⟨congrArg (fun x => Ending.returned (Value.string x)) (unhide V), hb1.trans (hb2.mono hb1.size)⟩
set_option maxHeartbeats 4000000 in
set_option maxRecDepth 100000 in
theorem impl_word (s : ByteArray) (w : World) (hs : s.size ≤ 1048576) (hm : HasMax w) (ht : Lib.TabIs Tryz.prog w "internal/strconv.uint64pow10" .u64 Lib.pow10Tab) :
    Calls Tryz.prog 21 #[.string s] w fun e w' => e = .returned (.string ⟨(wordT s.data.toList).toArray⟩) ∧ Below w.heap.size w w' := by
  have Q1 := hide (fun W => impl_plain s W (Nat.le_trans hs (by decide)))
  have Q2 := hide (fun W => impl_isList_any s W hs)
  have Q3 := hide (fun W => impl_prints s W (Nat.le_trans hs (by decide)))
  have Q4 := hide (fun W hW => impl_quoted s W hs hW)
  have Q5 := hide (fun W hW => impl_Decimal_any (s.size : Int) W (by omega) (by omega) hW)
  have HI : Hid ((Lib.itoa (s.size : Int)).length ≤ 20) := itoa_len (by omega)
  have HW : Hid (wordT s.data.toList = if plainW s.data.toList || listW s.data.toList then s.data.toList else if s.data.toList.all prB then quoteL s.data.toList else 123 :: (Lib.itoa (s.size : Int) ++ (125 :: 13 :: 10 :: s.data.toList))) := rfl
  have HM := hide hm
  have HT := hide ht
  clear hm ht
  cases h1 : plainW s.data.toList with
  | true =>
    rw [h1] at Q1
    have V : Hid (wordT s.data.toList = s.data.toList) := by show _ = _; rw [unhide HW, h1]; rfl
    go_enter Tryz.func21, Tryz.ntmps21
    go_wp2_with (go_at_call 30; refine (unhide Q1 _).mono ?_; rintro e w1 ⟨rfl, hw⟩; subst w1)
    go_ret
    exact ⟨by rw [unhide V]; rfl, Below.refl _ _⟩
  | false =>
    rw [h1] at Q1 HW
    cases h2 : listW s.data.toList with
    | true =>
      rw [h2] at Q2
      have V : Hid (wordT s.data.toList = s.data.toList) := by show _ = _; rw [unhide HW, h2]; rfl
      go_enter Tryz.func21, Tryz.ntmps21
      go_wp2_with (first | (go_at_call 30; refine (unhide Q1 _).mono ?_; rintro e w1 ⟨rfl, hw⟩; subst w1) | (go_at_call 31; refine (unhide Q2 _).mono ?_; rintro e w2 ⟨rfl, hb2⟩))
      go_ret
      exact ⟨by rw [unhide V]; rfl, hb2⟩
    | false =>
      rw [h2] at Q2 HW
      have d : ∀ b : Bool, b.toNat = b.toNat := fun _ => rfl
      cases h3 : s.data.toList.all prB with
      | true =>
        rw [h3] at Q3
        have V : Hid (wordT s.data.toList = quoteL s.data.toList) := by show _ = _; rw [unhide HW, h3]; rfl
        generalize quoteL s.data.toList = y at *
        go_enter Tryz.func21, Tryz.ntmps21
        go_wp2_with (first | (go_at_call 30; refine (unhide Q1 _).mono ?_; rintro e w1 ⟨rfl, hw⟩; subst w1) | (go_at_call 31; refine (unhide Q2 _).mono ?_; rintro e w2 ⟨rfl, hb2⟩; have HM2 := hide ((unhide HM).below hb2)) | (go_at_call 32; refine (unhide Q3 _).mono ?_; rintro e w1 ⟨rfl, hw⟩; subst w1) | (go_at_call 33; refine (unhide Q4 _ (unhide HM2)).mono ?_; rintro e w3 ⟨rfl, hb3⟩))
        go_ret
        exact ⟨by rw [unhide V]; rfl, hb2.trans (hb3.mono hb2.size)⟩
      | false =>
        rw [h3] at Q3
        have V : Hid (wordT s.data.toList = 123 :: (Lib.itoa (s.size : Int) ++ (125 :: 13 :: 10 :: s.data.toList))) := by show _ = _; rw [unhide HW, h3]; rfl
        generalize Lib.itoa (s.size : Int) = y at *
        have hy : y.length ≤ 20 := unhide HI
        have iy1 : ¬ 9223372036854775807 < 1 + y.length := by omega
        have iy2 : ¬ 9223372036854775807 < 1 + y.length + 1 := by omega
        have iy3 : ¬ 9223372036854775807 < 1 + y.length + 1 + 2 := by omega
        have iy4 : ¬ 9223372036854775807 < 1 + y.length + 1 + 2 + s.size := by omega
        go_enter Tryz.func21, Tryz.ntmps21
        go_wp2_with (first | (go_at_call 30; refine (unhide Q1 _).mono ?_; rintro e w1 ⟨rfl, hw⟩; subst w1) | (go_at_call 31; refine (unhide Q2 _).mono ?_; rintro e w2 ⟨rfl, hb2⟩; have HT2 := hide (tabC_below hb2 (unhide HT))) | (go_at_call 32; refine (unhide Q3 _).mono ?_; rintro e w1 ⟨rfl, hw⟩; subst w1) | (go_at_call 34; refine (unhide Q5 _ (unhide HT2)).mono ?_; rintro e w3 ⟨rfl, hb3⟩))
        go_ret
        refine ⟨?_, hb2.trans (hb3.mono hb2.size)⟩
        rw [unhide V]
        refine congrArg (fun x => Ending.returned (Value.string x)) ?_
        apply ByteArray.ext
        apply Array.ext'
        simp
end Go.Proofs.YtjaohlnejkgkaaaGreatDoor
namespace Go.Proofs.YtjaohlnejkgkaaaGreatDoor
open Go.RowKit Go.Shelf
open Plain
set_option linter.unusedVariables false
set_option linter.unusedSimpArgs false
attribute [local go_sem] cell_of frozen_of

theorem Tryz.infoStrC : (Tryz.prog.info? 9).map (fun i => (i.zero, i.size, i.bytes)) = some (some (.string ByteArray.empty), 1, 16) := by kernel_rfl
namespace Plain
/-- The texts of the first k words, then empty ones. -/
def laidS (l : List (List UInt8)) (k : Nat) : List (List UInt8) := (l.take k).map wordT ++ List.replicate (l.length - k) []
theorem laidS_zero (l : List (List UInt8)) : laidS l 0 = List.replicate l.length [] := by simp [laidS]
theorem laidS_all (l : List (List UInt8)) : laidS l l.length = l.map wordT := by simp [laidS]
theorem laidS_length (l : List (List UInt8)) (k : Nat) (h : k ≤ l.length) : (laidS l k).length = l.length := by simp [laidS]; omega
theorem laidS_set (l : List (List UInt8)) (k : Nat) (h : k < l.length) : (laidS l k).set k (wordT l[k]) = laidS l (k + 1) := by
  have hk : ((l.take k).map wordT).length = k := by simp; omega
  unfold laidS
  rw [List.set_append_right _ _ (by omega), hk, Nat.sub_self, show l.length - k = (l.length - (k + 1)) + 1 by omega, List.replicate_succ, List.set_cons_zero, List.take_add_one, List.getElem?_eq_getElem h, List.map_append]
  simp
theorem strs_set (l : List (List UInt8)) (k : Nat) (x : List UInt8) : (strs l).set k (.string ⟨x.toArray⟩) = strs (l.set k x) := by simp [strs, List.map_set]
theorem joinT_len : ∀ (l : List (List UInt8)), (∀ x ∈ l, x.length ≤ 1048576) → (joinT l).length ≤ l.length * 2097184 := by
  intro l
  induction l with
  | nil => intro _; simp [joinT]
  | cons a r ih =>
    intro h
    have ha := wordT_len (h a (by simp))
    have h1 := h a (by simp)
    cases r with
    | nil => show (wordT a).length ≤ _; simp; omega
    | cons b r =>
      have := ih (fun x hx => h x (by simp only [List.mem_cons] at hx ⊢; exact .inr hx))
      show (wordT a ++ (32 :: joinT (b :: r))).length ≤ _
      simp only [List.length_append, List.length_cons] at this ⊢
      omega
end Plain
/-- Texts of one's own, joined by blanks. -/
theorem joinC (xs : List (List UInt8)) (a : Option Addr) (n c B : Nat) (W : World) (hl : xs.length ≤ 12) (h : W.ownsRow B 9 1 (.slice a n c) n (strs xs)) (hn : n = xs.length) (hj : (Lib.join xs [32]).length ≤ 140737488355328) :
    Calls Tryz.prog 22 #[.slice a n c, .string ⟨#[32]⟩] W fun e w' => e = .returned (.string ⟨(Lib.join xs [32]).toArray⟩) ∧ Below W.heap.size W w' := by
  subst hn
  have hm : (xs.map (fun x => (⟨x.toArray⟩ : ByteArray))).map (·.data.toList) = xs := by
    rw [List.map_map]
    conv => rhs; rw [← List.map_id xs]
    exact List.map_congr_left fun x _ => rfl
  rcases h.2 with ⟨h1, h2⟩ | ⟨g, pc, cur, h1, hg, hh, hnc, hcp, hcs, htake⟩
  · have e : xs = [] := List.eq_nil_of_length_eq_zero h2
    subst e
    cases h1
    exact (Tryz.strings_Join_none none 0 _ W).mono fun e w' he => ⟨he.1, by rw [he.2]; exact Below.refl _ _⟩
  · cases h1
    have := Tryz.strings_Join g 0 c (xs.map (fun x => (⟨x.toArray⟩ : ByteArray))) ⟨#[32]⟩ W (fun j x hx => by
      have hj2 : j < xs.length := by have := (List.getElem?_eq_some_iff.1 hx).1; simpa using this
      have := h.cellAt j (by simpa using hj2)
      rw [Nat.zero_add, this]
      rw [List.getElem?_map] at hx
      unfold strs
      rw [List.getElem?_map]
      cases hq : xs[j]? with
      | none => rw [hq] at hx; cases hx
      | some y => rw [hq] at hx; cases hx; rfl) (by have := Array.getElem?_eq_some_iff.1 hh; exact this.1) (by simp; omega) (by simp; omega) (by rw [hm]; exact hj)
    rw [hm, List.length_map] at this
    exact this
set_option maxHeartbeats 8000000 in
set_option maxRecDepth 100000 in
theorem impl_CommandText_any (l : List (List UInt8)) (a : Option Addr) (c : Nat) (w : World) (hn : l.length ≤ 1048576) (hsz : ∀ x ∈ l, x.length ≤ 1048576) (h : SeeW w a l) (hm : HasMax w) (ht : Lib.TabIs Tryz.prog w "internal/strconv.uint64pow10" .u64 Lib.pow10Tab) :
    Calls Tryz.prog 9 #[.slice a l.length c] w fun e w' => e = .returned (cmdT (cmdV l)) ∧ Below w.heap.size w w' := by
  have H := hide h
  have HZ := hide hsz
  have HM := hide hm
  have HT := hide ht
  have M := Mem.start w
  obtain ⟨i0, hi, hz0, hz1, hz2⟩ := info_parts Tryz.infoStrC
  clear h hsz hm ht
  have Q1 := hide (impl_within_any (l.length : Int) 1 12 w)
  have V1 := hide (cmdV_out (l := l))
  have V2 := hide (cmdV_in (l := l))
  have HJ := hide (joinT_lib l)
  obtain ⟨V, hV⟩ : ∃ V, cmdV l = V := ⟨_, rfl⟩
  rw [hV] at V1 V2 ⊢
  clear hV
  go_enter Tryz.func9, Tryz.ntmps9
  go_wp2_with fail
  refine (unhide Q1).mono ?_
  rintro e w1 ⟨rfl, hw⟩
  subst w1
  cases h1 : inI (l.length : Int) 1 12 with
  | false =>
    have hx := unhide V1 h1
    subst hx
    go_wp2
    refine bodyPost_ret (by simp [results, Tryz.results9, go_sem]; try rfl) rfl ?_
    exact ⟨rfl, Below.refl _ _⟩
  | true =>
  have V2 := hide (unhide V2 h1)
  have HN : Hid (l.length ≤ 12) := by have := inI_iff.1 h1; show l.length ≤ 12; omega
  have hN := unhide HN
  clear h1 V1 Q1
  go_wp2_with (refine wpList_make_full _ rfl _ _ 25 rfl _ 9 i0 _ 1 Tryz.underlying25 hi hz0 hz1 .i64 .i64 _ _ l.length rfl rfl rfl rfl (by rw [hz2]; omega) (by unfold maxLen; omega) (Nat.le_refl _) ?_; intro wm hown hgm; have M := Mem.then (Mem.of_row hown (g_below hgm)))
  have hmade : (madeCells (Value.string ByteArray.empty).cells (l.length * 1)).toList = strs (laidS l 0) := by
    rw [Nat.mul_one]
    show (madeCells #[.string ByteArray.empty] l.length).toList = _
    rw [toList_madeCells_one, laidS_zero]
    unfold strs
    rw [List.map_replicate]; rfl
  rw [hmade] at M
  clear hmade hown hgm hi hz0 hz1 hz2
  try rw [show w.heap.size = w.heap.size from rfl] at M
  go_wp2
  go_loopw [17] (fun i W => ∃ k : Nat, k ≤ l.length ∧ i = .int .i64 k ∧ Mem w W [.row (some ⟨w.heap.size, 0, none⟩) l.length l.length 9 1 (strs (laidS l k))]) (fun i _ => l.length - (intOf i).toNat)
  case atStart => exact ⟨0, Nat.zero_le _, rfl, Mem.end⟩
  case round =>
    obtain ⟨k, hk, rfl, M⟩ := hrel
    by_cases hlt : k < l.length
    · have hx := List.getElem?_eq_getElem hlt
      obtain ⟨g, rfl, c0⟩ := unhide H k _ hx
      have hz := unhide HZ _ (List.getElem_mem hlt)
      have HS : Hid ((strs (laidS l k)).set k (.string ⟨(wordT l[k]).toArray⟩) = strs (laidS l (k + 1))) := by
        show _ = _
        rw [strs_set, laidS_set l k hlt]
      generalize l[k] = y at *
      obtain ⟨y0, el⟩ := Elt.some (xs := strs (laidS l k)) (j := k) (by rw [strs_length, laidS_length _ _ hk]; exact hlt)
      have QW := hide (fun W h1 h2 => impl_word ⟨y.toArray⟩ W hz h1 h2)
      change Hid (∀ W, _ → _ → Calls _ _ _ W fun e w' => e = .returned (.string ⟨(wordT y).toArray⟩) ∧ Below W.heap.size W w') at QW
      generalize wordT y = z at *
      have HM1 := hide ((unhide HM).below M.below)
      have HT1 := hide (tabC_below M.below (unhide HT))
      go_wp2_with (refine (unhide QW _ (unhide HM1) (unhide HT1)).mono ?_; rintro e w2 ⟨rfl, hb⟩; have M := Mem.go hb; clear hb)
      go_roundw
      case rel => exact ⟨k + 1, by omega, by go_num, by rw [← unhide HS]; exact Mem.end⟩
      case measure => simp [intOf]; omega
    · obtain rfl : k = l.length := by omega
      rw [laidS_all] at M
      have hjl := joinT_len l (unhide HZ)
      have JJ := hide (joinC (l.map wordT) _ _ _ _ _ (by simp; omega) (Mem.row (W := wr) w.heap.size) (by simp) (by rw [← unhide HJ]; omega))
      rw [← unhide HJ] at JJ
      generalize joinT l = x at *
      have iz : ¬ 9223372036854775807 < x.length + 2 := by omega
      have V2 := unhide V2
      by_cases h3 : x.length + 2 ≤ 300
      · rw [if_pos h3] at V2
        have d3 : decide ((300 : Int) < ((x.length : Int) + 2)) = false := by rw [decide_eq_false_iff_not]; omega
        subst V2
        go_wp2_with (refine (unhide JJ).mono ?_; rintro e w2 ⟨rfl, hb⟩; have M := Mem.go hb; clear hb)
        refine bodyPost_ret (by simp [results, Tryz.results9, go_sem]; try rfl) rfl ?_
        exact ⟨by unfold cmdT; rw [ByteArray.mk_append_mk x [13, 10]], M.below⟩
      · rw [if_neg h3] at V2
        have d3 : decide ((300 : Int) < ((x.length : Int) + 2)) = true := by rw [decide_eq_true_eq]; omega
        subst V2
        go_wp2_with (refine (unhide JJ).mono ?_; rintro e w2 ⟨rfl, hb⟩; have M := Mem.go hb; clear hb)
        refine bodyPost_ret (by simp [results, Tryz.results9, go_sem]; try rfl) rfl ?_
        exact ⟨rfl, M.below⟩
end Go.Proofs.YtjaohlnejkgkaaaGreatDoor
