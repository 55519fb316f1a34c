/- Figures read back: what the specification's Unhex answers. -/
import Derived.Test.YtnhaljmijonndajHexImpl
import Derived.Test.YtnhaljmijonndajUnPlain
import Derived.Deep.LoopGhost
import Derived.Deep.QuietTactic
import Derived.BigQuiet
import Derived.WalkSmall
namespace Go.Proofs.Ytnhaljmijonndaj
open Go.RowKit
open Plain
set_option linter.unusedVariables false

theorem l01Value_yes (x : Nat) (w : World) (hx : x < 256) (h : isF x = true) :
    Calls Try.prog 26 #[.int .u8 x] w fun e w' => e = .returned (.int .i64 (vf x : Int)) ∧ w = w' := by
  rw [isF_iff] at h
  by_cases h1 : x ≤ 57
  · have d1 : decide ((48 : Int) ≤ x) = true := by simp; omega
    have d2 : decide ((x : Int) ≤ 57) = true := by simp; omega
    have e : (vf x : Int) = (x : Int) - 48 := by unfold vf; rw [if_pos h1]; omega
    rw [e]
    go_enter Try.func26, Try.ntmps26
    go_wp2
    go_ret
    exact ⟨rfl, rfl⟩
  · have d1 : decide ((48 : Int) ≤ x) = true := by simp; omega
    have d2 : decide ((x : Int) ≤ 57) = false := by simp; omega
    have d3 : decide ((97 : Int) ≤ x) = true := by simp; omega
    have d4 : decide ((x : Int) ≤ 102) = true := by simp; omega
    have e : (vf x : Int) = (x : Int) - 97 + 10 := by unfold vf; rw [if_neg h1]; omega
    rw [e]
    go_enter Try.func26, Try.ntmps26
    go_wp2
    go_ret
    exact ⟨rfl, rfl⟩

theorem l01Value_no (x : Nat) (w : World) (hx : x < 256) (h : isF x = false) :
    Calls Try.prog 26 #[.int .u8 x] w fun e w' => e = .returned (.int .i64 (-1)) ∧ w = w' := by
  rw [isF_not] at h
  by_cases h1 : 48 ≤ x
  · have d1 : decide ((48 : Int) ≤ x) = true := by simp; omega
    have d2 : decide ((x : Int) ≤ 57) = false := by simp; omega
    by_cases h3 : 97 ≤ x
    · have d3 : decide ((97 : Int) ≤ x) = true := by simp; omega
      have d4 : decide ((x : Int) ≤ 102) = false := by simp; omega
      go_enter Try.func26, Try.ntmps26
      go_wp2
      go_ret
      exact ⟨rfl, rfl⟩
    · have d3 : decide ((97 : Int) ≤ x) = false := by simp; omega
      go_enter Try.func26, Try.ntmps26
      go_wp2
      go_ret
      exact ⟨rfl, rfl⟩
  · have d1 : decide ((48 : Int) ≤ x) = false := by simp; omega
    have d3 : decide ((97 : Int) ≤ x) = false := by simp; omega
    go_enter Try.func26, Try.ntmps26
    go_wp2
    go_ret
    exact ⟨rfl, rfl⟩

set_option maxHeartbeats 1000000 in
set_option maxRecDepth 100000 in
theorem spec_Unhex_in (s : ByteArray) (w : World) (hs : s.size ≤ 40000) (hev : s.size % 2 = 0) :
    Calls Try.prog 19 #[.string s] w fun e w' => e = .returned (unV s.data.toList) ∧ Below w.heap.size w w' := by
  obtain ⟨i0, hi, hz0, hz1, hz2⟩ := info_parts Try.infoU8
  have hd : decide ((40000 : Int) < s.size) = false := by simp; omega
  have hd2 : ((s.size : Int) % 2 != 0) = false := by simp; omega
  have hll : s.data.toList.length = s.size := by simp
  have hll' := hide hll
  clear hll
  go_enter Try.func19, Try.ntmps19
  go_wp2
  go_loopw [4, 5] (fun v i wr => ∃ k j : Nat, 2 * j = k ∧ k ≤ s.size ∧ i = .int .i64 k ∧ Figs s.data.toList k ∧ wr.ownsRow w.heap.size 5 1 v j (bv (outL s.data.toList j)) ∧ w.heap.size ≤ wr.heap.size ∧ Below w.heap.size w wr)
    (fun _ i _ => s.size - (intOf i).toNat)
  case atStart => exact ⟨0, 0, rfl, Nat.zero_le _, rfl, Figs.zero _, World.ownsRow_lit w #[] 0 (Nat.le_refl _) (Nat.zero_le _) rfl, by simp, (Below.refl _ _).alloc (Nat.le_refl _) _⟩
  case round =>
    obtain ⟨k, j, hkj, hk, rfl, hfig, hown, hsz, hbel⟩ := hrel
    by_cases hlt : k < s.size
    · have hlt2 : k + 1 < s.size := by omega
      have a1 := hide (ab_at hlt)
      have a2 := hide (ab_at hlt2)
      have x1 : s[k].toNat < 256 := s[k].toNat_lt
      have x2 : s[k + 1].toNat < 256 := s[k + 1].toNat_lt
      cases f1 : isF s[k].toNat with
      | false =>
        have hno := hide (un_no (l := s.data.toList) (k := k) (by rw [unhide hll']; exact hlt) (by rw [unhide a1]; exact f1))
        cases f2 : isF s[k + 1].toNat with
        | false =>
          go_wp2_with fail
          refine (l01Value_no s[k].toNat _ x1 f1).mono ?_
          rintro e w1 ⟨rfl, rfl⟩
          go_wp2_with fail
          refine (l01Value_no s[k + 1].toNat _ x2 f2).mono ?_
          rintro e w1 ⟨rfl, rfl⟩
          go_wp2
          go_ret2
          exact ⟨by rw [unhide hno]; rfl, hbel⟩
        | true =>
          have v2 := vf_lt f2
          go_wp2_with fail
          refine (l01Value_no s[k].toNat _ x1 f1).mono ?_
          rintro e w1 ⟨rfl, rfl⟩
          go_wp2_with fail
          refine (l01Value_yes s[k + 1].toNat _ x2 f2).mono ?_
          rintro e w1 ⟨rfl, rfl⟩
          go_wp2
          go_ret2
          exact ⟨by rw [unhide hno]; rfl, hbel⟩
      | true =>
        have v1 := vf_lt f1
        cases f2 : isF s[k + 1].toNat with
        | false =>
          have hno := hide (un_no (l := s.data.toList) (k := k + 1) (by rw [unhide hll']; exact hlt2) (by rw [unhide a2]; exact f2))
          have d1 : decide ((vf s[k].toNat : Int) < 0) = false := by simp
          go_wp2_with fail
          refine (l01Value_yes s[k].toNat _ x1 f1).mono ?_
          rintro e w1 ⟨rfl, rfl⟩
          go_wp2_with fail
          refine (l01Value_no s[k + 1].toNat _ x2 f2).mono ?_
          rintro e w1 ⟨rfl, rfl⟩
          go_wp2
          go_ret2
          exact ⟨by rw [unhide hno]; rfl, hbel⟩
        | true =>
          have v2 := vf_lt f2
          have hfig2 := (hfig.succ (by rw [unhide a1]; exact f1)).succ (by rw [unhide a2]; exact f2)
          have hpair := hide (pair_nat (l := s.data.toList) (j := j) (by rw [hkj, unhide a1]; exact f1) (by rw [hkj, unhide a2]; exact f2))
          have hp1 := hide (show ab s.data.toList (2 * j) = s[k].toNat by rw [hkj, unhide a1])
          have hp2 := hide (show ab s.data.toList (2 * j + 1) = s[k + 1].toNat by rw [hkj, unhide a2])
          generalize hV1 : vf s[k].toNat = V1 at *
          generalize hV2 : vf s[k + 1].toNat = V2 at *
          have c1 := fun wx => l01Value_yes s[k].toNat wx x1 f1
          have c2 := fun wx => l01Value_yes s[k + 1].toNat wx x2 f2
          rw [hV1] at c1
          rw [hV2] at c2
          have HV1 := hide hV1
          have HV2 := hide hV2
          have d1 : decide ((V1 : Int) < 0) = false := by simp
          have d2 : decide ((V2 : Int) < 0) = false := by simp
          clear hV1 hV2
          go_wp2_with fail
          refine (c1 _).mono ?_
          rintro e w1 ⟨rfl, rfl⟩
          go_wp2_with fail
          refine (c2 _).mono ?_
          rintro e w1 ⟨rfl, rfl⟩
          clear c1 c2
          go_wp2_with (at_builtin; refine wpList_append_own _ rfl _ _ 34 rfl w.heap.size 5 i0 (.int .u8 0) 1 1 Try.underlying34 hi hz0 hz1 hz2 rfl (by decide) _ _ _ rfl (hown.alloc _) ⟨wr.heap.size, 0, none⟩ 1 1 [.int .u8 (16 * (V1 : Int) + V2)] rfl rfl (news_one _) ?c2 ?c3 ?c4 ?c5 ?_)
          case c2 => intro u hu; simp at hu; subst hu; rfl
          case c3 => unfold maxLen; omega
          case c4 => omega
          case c5 => simp; omega
          intro v' w1 hown' hgrow _
          have ho1 : w1.ownsRow w.heap.size 5 1 v' (j + 1) (bv (outL s.data.toList (j + 1))) := by
            rw [outL_succ, bv_append]
            have e : bv [pairB s.data.toList j] = [Value.int .u8 (16 * (V1 : Int) + V2)] := by
              simp only [bv, List.map_cons, List.map_nil, unhide hpair, unhide hp1, unhide hp2, unhide HV1, unhide HV2]; simp
            rw [e]; exact hown'
          have hb1 : Below w.heap.size w w1 := (hbel.alloc hsz _).grown hgrow (by simp; omega) (fun q hq => (hown.lt q hq).1)
          have hs1 : w.heap.size ≤ w1.heap.size := by have := hb1.size; omega
          clear hown hown' hgrow hbel hfig
          go_wp2
          go_roundw
          case rel => exact ⟨k + 2, j + 1, by omega, by omega, by go_num, hfig2, ho1, hs1, hb1⟩
          case measure => simp [intOf]; omega
    · have hy := hide (un_yes hfig (by rw [unhide hll']; omega))
      have e : j = s.data.toList.length / 2 := by rw [unhide hll']; omega
      rw [e] at hown
      have hcv := own_str (by rw [outL_length]) hown
      clear hown e hfig
      go_wp2
      go_ret2
      exact ⟨by rw [unhide hy]; rfl, hbel⟩

theorem spec_Unhex_out (s : ByteArray) (w : World) (hs : s.size ≤ 1048576) (h : 40000 < s.size ∨ s.size % 2 ≠ 0) :
    Calls Try.prog 19 #[.string s] w fun e w' => e = .returned (.tuple #[.string ⟨#[]⟩, .bool false]) ∧ Below w.heap.size w w' := by
  by_cases h1 : 40000 < s.size
  · have hd : decide ((40000 : Int) < s.size) = true := by simp; omega
    go_enter Try.func19, Try.ntmps19
    go_wp2
    go_ret2
    exact ⟨rfl, Below.refl _ _⟩
  · have hd : decide ((40000 : Int) < s.size) = false := by simp; omega
    have hd2 : ((s.size : Int) % 2 != 0) = true := by simp; omega
    go_enter Try.func19, Try.ntmps19
    go_wp2
    go_ret2
    exact ⟨rfl, Below.refl _ _⟩
end Go.Proofs.Ytnhaljmijonndaj
