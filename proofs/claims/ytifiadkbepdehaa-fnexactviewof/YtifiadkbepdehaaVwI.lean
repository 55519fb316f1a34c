/- Views: the program's PlaceIn, ViewOk. Made by gen_vwi.py. -/
import Derived.Test.YtifiadkbepdehaaVwS
import Derived.Test.YtifiadkbepdehaaBoxNameI
namespace Go.Proofs.Ytifiadkbepdehaa
open Go.RowKit
open Plain
set_option linter.unusedVariables false
set_option linter.unusedSimpArgs false
attribute [local go_sem] cell_of frozen_of

theorem SeeI.up {w W : World} {L : List Pc} {a : Option Addr} {l : List Int} (h : SeeI w a l) [M : Mem w W L] : SeeI W a l := fun k hk => by
  obtain ⟨g, e, c⟩ := h k hk
  exact ⟨g, e, inferInstance⟩
set_option maxHeartbeats 4000000 in
set_option maxRecDepth 100000 in
theorem index_any (l : List Int) (u : Int) (a : Option Addr) (c : Nat) (w : World) (hs : l.length ≤ 1048576) (h : SeeI w a l) :
    Calls Try.prog 55 #[.slice a l.length c, .int .i64 u] w fun e w' => e = .returned (.int .i64 (placeIn l u - 1)) ∧ w' = w := by
  have H := hide h
  clear h
  go_enter Try.func55, Try.ntmps55
  go_wp2
  go_loopw [8] (fun i W => ∃ k : Nat, k ≤ l.length ∧ i = .int .i64 k ∧ (∀ j, j < k → l[j]? ≠ some u) ∧ W = w) (fun i _ => l.length - (intOf i).toNat)
  case atStart => exact ⟨0, Nat.zero_le _, rfl, fun j hj => absurd hj (Nat.not_lt_zero j), rfl⟩
  case round =>
    obtain ⟨k, hk, rfl, hb, rfl⟩ := hrel
    have HB := hide hb
    clear hb
    by_cases hlt : k < l.length
    · obtain ⟨g, rfl, c0⟩ := unhide H k hlt
      have hv : Hid (l[k]? = some (l.getD k 0)) := by show _ = _; rw [List.getD_eq_getElem?_getD, List.getElem?_eq_getElem hlt]; rfl
      generalize l.getD k 0 = y at *
      by_cases e : u = y
      · subst e
        have hp := hide (placeIn_at (unhide hv) (unhide HB))
        go_wp2
        go_ret
        rw [unhide hp]
        exact ⟨by simp, rfl⟩
      · go_wp2
        go_roundw
        case rel => exact ⟨k + 1, by omega, by go_num, fun j hj => (by by_cases e2 : j = k; subst e2; rw [unhide hv]; exact fun h => e (Option.some.inj h).symm; exact unhide HB j (by omega)), trivial⟩
        case measure => simp [intOf]; omega
    · have hp := hide (placeIn_no (l := l) (u := u) (fun j hj => unhide HB j (by omega)))
      go_wp2
      go_ret
      rw [unhide hp]
      exact ⟨rfl, rfl⟩
namespace Plain
theorem placeIn_in (l : List Int) (u : Int) : 0 ≤ placeIn l u ∧ placeIn l u ≤ l.length := by
  unfold placeIn
  cases h : l.findIdx? (· == u) with
  | none => simp
  | some k =>
    have := (List.findIdx?_eq_some_iff_getElem.1 h).1
    simp; omega
end Plain
set_option maxHeartbeats 4000000 in
set_option maxRecDepth 100000 in
theorem impl_PlaceIn_any (x : Vw) (u : Int) (a : Option Addr) (c : Nat) (w : World) (hs : x.uids.length ≤ 1048576) (h : SeeI w a x.uids) :
    Calls Try.prog 22 #[vwV x (.slice a x.uids.length c), .int .i64 u] w fun e w' => e = .returned (.int .i64 (placeIn x.uids u)) ∧ Mem w w' [] := by
  have H := hide h
  have M := Mem.start w
  clear h
  have hp := placeIn_in x.uids u
  go_enter Try.func22, Try.ntmps22
  go_wp2_with fail
  refine (index_any x.uids u a c _ hs (unhide H).up).mono ?_
  rintro e w2 ⟨rfl, rfl⟩
  have i0 : IntKind.i64.wrap (placeIn x.uids u) = placeIn x.uids u := by rw [IntKind.wrap_i64]; omega
  go_wp2
  go_ret
  exact ⟨by first | rfl | simp, Mem.end⟩

set_option maxHeartbeats 8000000 in
set_option maxRecDepth 100000 in
theorem viewUidsOk_any (l : List Int) (a : Option Addr) (c : Nat) (w : World) (hs : l.length ≤ 1048576) (h : SeeI w a l) :
    Calls Try.prog 54 #[.slice a l.length c] w fun e w' => e = .returned (.bool (decide (l.length ≤ 30) && uidsTo l l.length)) ∧ w' = w := by
  have H := hide h
  clear h
  by_cases hm : l.length ≤ 30
  rotate_left
  · have d0 : decide ((30 : Int) < (l.length : Int)) = true := by rw [decide_eq_true_eq]; omega
    go_enter Try.func54, Try.ntmps54
    go_wp2
    go_ret
    exact ⟨by simp [hm], rfl⟩
  have d0 : decide ((30 : Int) < (l.length : Int)) = false := by rw [decide_eq_false_iff_not]; omega
  obtain ⟨Z, hZ⟩ : ∃ Z, Z = (decide (l.length ≤ 30) && uidsTo l l.length) := ⟨_, rfl⟩
  rw [← hZ]
  have HZ : Hid (Z = uidsTo l l.length) := by rw [hZ]; simp [hm, hide]
  clear hZ
  have HM := hide hm
  clear hm
  go_enter Try.func54, Try.ntmps54
  go_wp2
  clear d0
  go_loopw [10] (fun i W => ∃ k : Nat, k ≤ l.length ∧ i = .int .i64 k ∧ uidsTo l k = true ∧ W = w) (fun i _ => l.length - (intOf i).toNat)
  case atStart => exact ⟨0, Nat.zero_le _, rfl, rfl, rfl⟩
  case round =>
    obtain ⟨k, hk, rfl, hb, rfl⟩ := hrel
    have HB := hide hb
    clear hb
    by_cases hlt : k < l.length
    · obtain ⟨g, rfl, c0⟩ := unhide H k hlt
      have HU : Hid (uidAt l k = (inI (l.getD k 0) 1 9999 && (decide (k = 0) || decide (l.getD (k - 1) 0 < l.getD k 0)))) := rfl
      generalize hy : l.getD k 0 = y at *
      have NO : Hid (uidAt l k = false → Z = false) := by
        intro h0
        have h1 : uidsTo l (k + 1) = false := by rw [uidsTo, h0, Bool.and_false]
        rw [unhide HZ]
        exact uidsTo_mono h1 _ hlt
      cases h1 : inI y 1 9999 with
      | false =>
        have hp := hide (unhide NO (by rw [unhide HU, h1]; rfl))
        clear hy
        go_wp2_with fail
        refine (impl_within_any y 1 9999 _).mono ?_
        rintro e w2 ⟨rfl, rfl⟩
        rw [h1]
        go_wp2
        go_ret
        rw [unhide hp]
        exact ⟨rfl, rfl⟩
      | true =>
        rcases Nat.eq_zero_or_pos k with rfl | hpos
        · have ht : Hid (uidsTo l (0 + 1) = true) := by show _ = _; rw [uidsTo, unhide HB, unhide HU, h1]; rfl
          clear hy
          go_wp2_with fail
          refine (impl_within_any y 1 9999 _).mono ?_
          rintro e w2 ⟨rfl, rfl⟩
          rw [h1]
          go_wp2
          go_roundw
          case rel => exact ⟨0 + 1, by omega, by go_num, unhide ht, trivial⟩
          case measure => simp [intOf]; omega
        · obtain ⟨j, rfl⟩ : ∃ j, k = j + 1 := ⟨k - 1, by omega⟩
          obtain ⟨g2, e2, c1⟩ := unhide H j (by omega)
          cases e2
          simp only [Nat.add_sub_cancel] at HU
          generalize l.getD j 0 = y0 at *
          clear hy
          have STEP : ∀ b : Bool, decide (y ≤ y0) = b → Hid (uidAt l (j + 1) = !b) := by
            intro b hb
            show _ = _
            rw [unhide HU, h1, ← hb]
            have e3 : decide (y0 < y) = !decide (y ≤ y0) := by by_cases hh : y ≤ y0 <;> simp [hh] <;> omega
            simp [e3]
          have iw : IntKind.i64.wrap (j : Int) = (j : Int) := by rw [IntKind.wrap_i64]; omega
          have i0 : (0 : Int) ≤ (j : Int) + 1 := by omega
          have i1 : (j : Int) < (l.length : Int) := by omega
          have i2 : (0 : Int) ≤ (j : Int) := by omega
          have i3 : (0 : Int) < (j : Int) + 1 := by omega
          cases h2 : decide (y ≤ y0) with
          | true =>
            have hp := hide (unhide NO (unhide (STEP true h2)))
            clear STEP
            go_wp2_with fail
            refine (impl_within_any y 1 9999 _).mono ?_
            rintro e w2 ⟨rfl, rfl⟩
            rw [h1]
            go_wp2
            go_ret
            rw [unhide hp]
            exact ⟨rfl, rfl⟩
          | false =>
            have ht : Hid (uidsTo l (j + 1 + 1) = true) := by show _ = _; rw [uidsTo, unhide HB, unhide (STEP false h2)]; rfl
            clear STEP
            go_wp2_with fail
            refine (impl_within_any y 1 9999 _).mono ?_
            rintro e w2 ⟨rfl, rfl⟩
            rw [h1]
            go_wp2
            go_roundw
            case rel => exact ⟨j + 1 + 1, by omega, by go_num, unhide ht, trivial⟩
            case measure => simp [intOf]; omega
    · obtain rfl : k = l.length := by omega
      have hp : Hid (Z = true) := by show _ = _; rw [unhide HZ]; exact unhide HB
      go_wp2
      go_ret
      rw [unhide hp]
      exact ⟨rfl, rfl⟩

set_option maxHeartbeats 8000000 in
set_option maxRecDepth 100000 in
theorem impl_ViewOk_any (x : Vw) (a : Option Addr) (c : Nat) (w : World) (hs : x.uids.length ≤ 1048576) (hb : x.box.size ≤ 1048576) (h : SeeI w a x.uids) :
    Calls Try.prog 20 #[vwV x (.slice a x.uids.length c)] w fun e w' => e = .returned (.bool (viewOk x)) ∧ Mem w w' [] := by
  have H := hide h
  have M := Mem.start w
  clear h
  obtain ⟨Z, hZ⟩ : ∃ Z, Z = viewOk x := ⟨_, rfl⟩
  rw [← hZ]
  unfold viewOk at hZ
  have UO := hide (fun W (hW : SeeI W a x.uids) => viewUidsOk_any x.uids a c W hs hW)
  generalize h4 : (decide (x.uids.length ≤ 30) && uidsTo x.uids x.uids.length) = b4 at *
  generalize h2 : inI x.valid 1 9999 = b2 at hZ
  generalize h3 : inI x.mod 1 100000 = b3 at hZ
  generalize h1 : nameOkL x.box.data.toList = b1 at hZ
  have HV := hide hZ
  clear hZ h4
  go_enter Try.func20, Try.ntmps20
  go_wp2_with fail
  refine (impl_BoxName_any x.box _ hb).mono ?_
  rintro e w2 ⟨rfl, hb2⟩
  have M := Mem.go hb2
  clear hb2
  rw [h1]
  cases b1 with
  | false =>
      go_wp2
      go_ret
      rw [unhide HV]
      exact ⟨rfl, Mem.end⟩
  | true =>
    go_wp2_with fail
    refine (impl_within_any x.valid 1 9999 _).mono ?_
    rintro e w2 ⟨rfl, rfl⟩
    rw [h2]
    cases b2 with
    | false =>
        go_wp2
        go_ret
        rw [unhide HV]
        exact ⟨rfl, Mem.end⟩
    | true =>
      go_wp2_with fail
      refine (unhide UO _ (unhide H).up).mono ?_
      rintro e w2 ⟨rfl, rfl⟩
      cases b4 with
      | false =>
        go_wp2
        go_ret
        rw [unhide HV]
        exact ⟨rfl, Mem.end⟩
      | true =>
        go_wp2_with fail
        refine (impl_within_any x.mod 1 100000 _).mono ?_
        rintro e w2 ⟨rfl, rfl⟩
        rw [h3]
        go_wp2
        go_ret
        rw [unhide HV]
        exact ⟨rfl, Mem.end⟩
end Go.Proofs.Ytifiadkbepdehaa
