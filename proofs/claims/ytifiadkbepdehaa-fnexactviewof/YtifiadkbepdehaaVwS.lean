/- Views: the specification's ViewOk, PlaceIn, ViewOf. -/
import Derived.Test.YtifiadkbepdehaaVwPlain
import Derived.Test.YtifiadkbepdehaaMemR
import Derived.Test.YtifiadkbepdehaaBoxNameS
namespace Go.Proofs.Ytifiadkbepdehaa
open Go.RowKit
open Plain
set_option linter.unusedVariables false
set_option linter.unusedSimpArgs false
attribute [local go_sem] cell_of frozen_of

/-- A row that may be read: at each place there is its number. -/
def SeeI (w : World) (a : Option Addr) (l : List Int) : Prop := ∀ (k : Nat), k < l.length → ∃ g, a = some ⟨g, 0, none⟩ ∧ HasCell w g k (.int .i64 (l.getD k 0))
theorem OwnI.see {B : Nat} {w : World} {a : Option Addr} {n c : Nat} {l : List Int} (h : OwnI B w (.slice a n c) l) : SeeI w a l := by
  intro k hk
  obtain ⟨a', c', e, h2⟩ := h.shape
  cases e
  obtain ⟨g, rfl, _, h3⟩ := h2 k l[k] (List.getElem?_eq_getElem hk)
  refine ⟨g, rfl, ⟨?_⟩⟩
  rw [h3, List.getD_eq_getElem?_getD, List.getElem?_eq_getElem hk]
  rfl

set_option maxHeartbeats 4000000 in
set_option maxRecDepth 100000 in
theorem spec_PlaceIn_any (x : Vw) (u : Int) (a : Option Addr) (c : Nat) (w : World) (hs : x.uids.length ≤ 1048576) (h : SeeI w a x.uids) :
    Calls Try.prog 21 #[vwV x (.slice a x.uids.length c), .int .i64 u] w fun e w' => e = .returned (.int .i64 (placeIn x.uids u)) ∧ Mem w w' [] := by
  have H := hide h
  have M := Mem.start w
  clear h
  go_enter Try.func21, Try.ntmps21
  go_wp2
  go_loopw [5] (fun i W => ∃ k : Nat, k ≤ x.uids.length ∧ i = .int .i64 k ∧ (∀ j, j < k → x.uids[j]? ≠ some u) ∧ Mem w W [.obj w.heap.size 29 [.string x.box, .int .i64 x.valid, .slice a x.uids.length c, .int .i64 x.mod]]) (fun i _ => x.uids.length - (intOf i).toNat)
  case atStart => exact ⟨0, Nat.zero_le _, rfl, fun j hj => absurd hj (Nat.not_lt_zero j), inferInstance⟩
  case round =>
    obtain ⟨k, hk, rfl, hb, M⟩ := hrel
    have HB := hide hb
    clear hb
    by_cases hlt : k < x.uids.length
    · obtain ⟨g, rfl, c0⟩ := unhide H k hlt
      have hv : Hid (x.uids[k]? = some (x.uids.getD k 0)) := by show _ = _; rw [List.getD_eq_getElem?_getD, List.getElem?_eq_getElem hlt]; rfl
      generalize x.uids.getD k 0 = y at *
      by_cases e : y = u
      · subst e
        have hp := hide (placeIn_at (unhide hv) (unhide HB))
        go_wp2
        go_ret
        rw [unhide hp]
        exact ⟨rfl, Mem.end⟩
      · go_wp2
        go_roundw
        case rel => exact ⟨k + 1, by omega, by go_num, fun j hj => (by by_cases e2 : j = k; subst e2; rw [unhide hv]; exact fun h => e (Option.some.inj h); exact unhide HB j (by omega)), inferInstance⟩
        case measure => simp [intOf]; omega
    · have hp := hide (placeIn_no (l := x.uids) (u := u) (fun j hj => unhide HB j (by omega)))
      go_wp2
      go_ret
      rw [unhide hp]
      exact ⟨rfl, Mem.end⟩

theorem vwI_0 {x : Bool} : (!(!x)) = x := by cases x <;> rfl
set_option maxHeartbeats 8000000 in
set_option maxRecDepth 100000 in
theorem spec_ViewOk_any (x : Vw) (a : Option Addr) (c : Nat) (w : World) (hs : x.uids.length ≤ 1048576) (hb : x.box.size ≤ 1048576) (h : SeeI w a x.uids) :
    Calls Try.prog 18 #[vwV x (.slice a x.uids.length c)] w fun e w' => e = .returned (.bool (viewOk x)) ∧ Mem w w' [] := by
  have H := hide h
  have M := Mem.start w
  clear h
  obtain ⟨Z, hZ⟩ : ∃ Z, Z = viewOk x := ⟨_, rfl⟩
  rw [← hZ]
  have HZ := hide hZ
  clear hZ
  go_enter Try.func18, Try.ntmps18
  go_wp2
  go_loopw [3] (fun i W => ∃ k : Nat, k ≤ x.uids.length ∧ i = .int .i64 k ∧ uidsTo x.uids k = true ∧ Mem w W [.obj w.heap.size 29 [.string x.box, .int .i64 x.valid, .slice a x.uids.length c, .int .i64 x.mod]]) (fun i _ => x.uids.length - (intOf i).toNat)
  case atStart => exact ⟨0, Nat.zero_le _, rfl, rfl, inferInstance⟩
  case round =>
    obtain ⟨k, hk, rfl, hb, M⟩ := hrel
    have HB := hide hb
    clear hb
    by_cases hlt : k < x.uids.length
    · obtain ⟨g, rfl, c0⟩ := unhide H k hlt
      have HU : Hid (uidAt x.uids k = (inI (x.uids.getD k 0) 1 9999 && (decide (k = 0) || decide (x.uids.getD (k - 1) 0 < x.uids.getD k 0)))) := rfl
      generalize hy : x.uids.getD k 0 = y at *
      have NO : Hid (uidAt x.uids k = false → Z = false) := by
        intro h0
        rw [unhide HZ]
        have h1 : uidsTo x.uids (k + 1) = false := by rw [uidsTo, h0, Bool.and_false]
        unfold viewOk
        rw [uidsTo_mono h1 _ hlt]
        simp
      cases h1 : inI y 1 9999 with
      | false =>
        have hp := hide (unhide NO (by rw [unhide HU, h1]; rfl))
        clear hy
        go_wp2
        refine mb 25 (fun M => ?_)
        refine tm 0 11 ?_; refine tm 1 12 ?_; refine tm 2 13 ?_; refine tm 3 14 ?_; refine tm 4 15 ?_
        refine tc 5 16 (in_any y 1 9999 _) ?_
        rintro e w2 ⟨rfl, rfl⟩
        rw [h1]
        refine tce ?_
        refine tm 6 17 ?_; refine tm 7 18 ?_; refine ts 8 19 ?_; refine ts 9 20 ?_; refine ts 10 21 ?_; refine ts 11 22 ?_; refine ts 12 23 ?_; refine ts 13 24 ?_; refine ts 14 25 ?_; refine ts 15 26 ?_; refine ts 16 27 ?_; refine ts 17 28 ?_; refine ts 18 29 ?_; refine ts 19 30 ?_; refine ts 20 31 ?_; refine ts 21 32 ?_; refine ts 22 33 ?_; refine ts 23 34 ?_; refine tm 24 35 ?_
        refine td ?_
        go_wp2
        go_ret
        rw [unhide hp]
        exact ⟨rfl, Mem.end⟩
      | true =>
        rcases Nat.eq_zero_or_pos k with rfl | hpos
        · have ht : Hid (uidsTo x.uids (0 + 1) = true) := by show _ = _; rw [uidsTo, unhide HB, unhide HU, h1]; rfl
          clear hy
          go_wp2
          refine mb 25 (fun M => ?_)
          refine tm 0 11 ?_; refine tm 1 12 ?_; refine tm 2 13 ?_; refine tm 3 14 ?_; refine tm 4 15 ?_
          refine tc 5 16 (in_any y 1 9999 _) ?_
          rintro e w2 ⟨rfl, rfl⟩
          rw [h1]
          refine tce ?_
          refine tm 6 17 ?_; refine tm 7 18 ?_; refine tm 8 19 ?_; refine tm 9 20 ?_; refine tm 10 21 ?_; refine ts 11 22 ?_; refine ts 12 23 ?_; refine ts 13 24 ?_; refine ts 14 25 ?_; refine ts 15 26 ?_; refine ts 16 27 ?_; refine ts 17 28 ?_; refine ts 18 29 ?_; refine ts 19 30 ?_; refine ts 20 31 ?_; refine ts 21 32 ?_; refine ts 22 33 ?_; refine tm 23 34 ?_; refine tm 24 35 ?_
          refine td ?_
          go_wp2
          go_roundw
          case rel => exact ⟨0 + 1, by omega, by go_num, unhide ht, inferInstance⟩
          case measure => simp [intOf]; omega
        · obtain ⟨j, rfl⟩ : ∃ j, k = j + 1 := ⟨k - 1, by omega⟩
          obtain ⟨g2, e2, c1⟩ := unhide H j (by omega)
          cases e2
          simp only [Nat.add_sub_cancel] at HU
          generalize x.uids.getD j 0 = y0 at *
          clear hy
          have STEP : ∀ b : Bool, decide (y ≤ y0) = b → Hid (uidAt x.uids (j + 1) = !b) := by
            intro b hb
            show _ = _
            rw [unhide HU, h1, ← hb]
            have e3 : decide (y0 < y) = !decide (y ≤ y0) := by by_cases hh : y ≤ y0 <;> simp [hh] <;> omega
            simp [e3]
          have iw : IntKind.i64.wrap (j : Int) = (j : Int) := by rw [IntKind.wrap_i64]; omega
          have i0 : (0 : Int) ≤ (j : Int) + 1 := by omega
          have i1 : (j : Int) < (x.uids.length : Int) := by omega
          have i2 : (0 : Int) ≤ (j : Int) := by omega
          cases h2 : decide (y ≤ y0) with
          | true =>
            have hp := hide (unhide NO (unhide (STEP true h2)))
            clear STEP
            go_wp2
            refine mb 25 (fun M => ?_)
            refine tm 0 11 ?_; refine tm 1 12 ?_; refine tm 2 13 ?_; refine tm 3 14 ?_; refine tm 4 15 ?_
            refine tc 5 16 (in_any y 1 9999 _) ?_
            rintro e w2 ⟨rfl, rfl⟩
            rw [h1]
            refine tce ?_
            refine tm 6 17 ?_; refine tm 7 18 ?_; refine tm 8 19 ?_; refine tm 9 20 ?_; refine tm 10 21 ?_; refine tm 11 22 ?_; refine tm 12 23 ?_; refine tm 13 24 ?_; refine tm 14 25 ?_; refine tm 15 26 ?_; refine tm 16 27 ?_; refine tm 17 28 ?_; refine tm 18 29 ?_; refine tm 19 30 ?_; refine tm 20 31 ?_; refine tm 21 32 ?_; refine tm 22 33 ?_; refine tm 23 34 ?_; refine tm 24 35 ?_
            refine td ?_
            go_wp2
            go_ret
            rw [unhide hp]
            exact ⟨rfl, Mem.end⟩
          | false =>
            have ht : Hid (uidsTo x.uids (j + 1 + 1) = true) := by show _ = _; rw [uidsTo, unhide HB, unhide (STEP false h2)]; rfl
            clear STEP
            go_wp2
            refine mb 25 (fun M => ?_)
            refine tm 0 11 ?_; refine tm 1 12 ?_; refine tm 2 13 ?_; refine tm 3 14 ?_; refine tm 4 15 ?_
            refine tc 5 16 (in_any y 1 9999 _) ?_
            rintro e w2 ⟨rfl, rfl⟩
            rw [h1]
            refine tce ?_
            refine tm 6 17 ?_; refine tm 7 18 ?_; refine tm 8 19 ?_; refine tm 9 20 ?_; refine tm 10 21 ?_; refine tm 11 22 ?_; refine tm 12 23 ?_; refine tm 13 24 ?_; refine tm 14 25 ?_; refine tm 15 26 ?_; refine tm 16 27 ?_; refine tm 17 28 ?_; refine tm 18 29 ?_; refine tm 19 30 ?_; refine tm 20 31 ?_; refine tm 21 32 ?_; refine tm 22 33 ?_; refine tm 23 34 ?_; refine tm 24 35 ?_
            refine td ?_
            go_wp2
            go_roundw
            case rel => exact ⟨j + 1 + 1, by omega, by go_num, unhide ht, inferInstance⟩
            case measure => simp [intOf]; omega
    · obtain rfl : k = x.uids.length := by omega
      have HV : Hid (Z = (nameOkL x.box.data.toList && inI x.valid 1 9999 && decide ((x.uids.length : Int) ≤ 30) && inI x.mod 1 100000)) := by
        show _ = _
        rw [unhide HZ, show decide ((x.uids.length : Int) ≤ 30) = decide (x.uids.length ≤ 30) from decide_eq_decide.2 (by omega)]
        unfold viewOk
        rw [unhide HB]
        simp
      clear HZ H
      generalize h4 : decide ((x.uids.length : Int) ≤ 30) = b4 at HV
      generalize h2 : inI x.valid 1 9999 = b2 at HV
      generalize h3 : inI x.mod 1 100000 = b3 at HV
      generalize h1 : nameOkL x.box.data.toList = b1 at HV
      go_wp2_with fail
      refine (spec_BoxName_any x.box _ hb).mono ?_
      rintro e w2 ⟨rfl, rfl⟩
      rw [h1]
      cases b1 with
      | false =>
        go_wp2
        go_ret
        rw [unhide HV]
        exact ⟨rfl, Mem.end⟩
      | true =>
        go_wp2_with fail
        refine (in_any x.valid 1 9999 _).mono ?_
        rintro e w2 ⟨rfl, rfl⟩
        rw [h2]
        cases b2 with
        | false =>
          go_wp2
          go_ret
          rw [unhide HV]
          exact ⟨rfl, Mem.end⟩
        | true =>
          cases b4 with
          | false =>
            go_wp2
            go_ret
            rw [unhide HV]
            exact ⟨rfl, Mem.end⟩
          | true =>
            go_wp2_with fail
            refine (in_any x.mod 1 100000 _).mono ?_
            rintro e w2 ⟨rfl, rfl⟩
            rw [h3]
            go_wp2
            go_ret
            rw [unhide HV]
            exact ⟨rfl, Mem.end⟩
end Go.Proofs.Ytifiadkbepdehaa
