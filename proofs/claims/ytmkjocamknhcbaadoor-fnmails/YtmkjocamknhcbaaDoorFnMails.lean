/- FnMails's walk, over whatever contracts of the program's own functions. -/
import Derived.Test.YtmkjocamknhcbaaDoorMailAll
import Derived.Test.YtmkjocamknhcbaaDoorMailS
namespace Go.Proofs.YtmkjocamknhcbaaDoor
open Go.RowKit
open Plain
set_option linter.unusedVariables false

set_option maxHeartbeats 8000000 in
set_option maxRecDepth 100000 in
theorem FnMails_walk (len cap : Nat) (a : Option Addr) (w : World) (ha : Arg w.heap.size w a len) (CI : MailsI w) :
    Calls Tryd.prog 3 #[.slice a len cap] w fun e w' => e = .returned (.bool true) ∧ Below w.heap.size w w' := by
  have hl := ha.1
  have q0 := bigF_any len cap a w (by omega)
  rw [decide_eq_false (show ¬ (1048576 : Int) < (len : Int) by omega)] at q0
  have Q0 := hide q0
  have DM := hide (fun W (hb : Below w.heap.size w W) => DrawMail_any w.heap.size len cap a W (ha.below hb) hb.size)
  have DP := hide (fun W (hb : Below w.heap.size w W) => placesM_any w.heap.size len cap a W (ha.below hb) hb.size)
  have DX := hide (fun W (hb : Below w.heap.size w W) => DrawPartOf_any w.heap.size len cap a W (ha.below hb) hb.size)
  have B0 := hide (Below.refl w.heap.size w)
  have CC := hide CI
  clear q0 ha CI
  go_enter Tryd.func3, Tryd.ntmps3
  go_wp2_with fail
  refine (unhide Q0).mono ?_
  rintro e w0 ⟨rfl, hw⟩
  subst w0
  go_wp2_with fail
  refine (unhide DM _ (unhide B0)).mono ?_
  rintro e w1 ⟨T, ht, rfl, hb⟩
  have B1 := hide (below_on (unhide B0) hb)
  clear hb B0
  obtain ⟨f0, f1, f2, f3, f4, f5, f6⟩ := mail_facts _ ht
  rw [Bool.and_eq_true, decide_eq_true_eq, decide_eq_true_eq] at f0
  have hT : T.data.toList.length = T.size := rfl
  rw [hT] at f0 f5 f6
  obtain ⟨l1, l2⟩ := f0
  clear ht
  go_wp2_with fail
  refine (unhide DP _ (unhide B1)).mono ?_
  rintro e w2 ⟨g, pc, p, hp, rfl, hc, hb⟩
  have B2 := hide (below_on (unhide B1) hb)
  clear hb B1
  have c0 := hc 0 (by decide)
  clear hc
  obtain ⟨x, hx0⟩ : ∃ x, x = p 0 % (T.size + 1) := ⟨_, rfl⟩
  have e0 : ((p 0 : Nat) : Int) % ((T.size : Int) + 1) = (x : Int) := by rw [hx0, Int.natCast_emod]; rfl
  have hx : x ≤ T.size := by have := Nat.mod_lt (p 0) (show 0 < T.size + 1 by omega); omega
  clear hx0 hp
  have PT := part_two T.data.toList x hx
  have CP1 := hide (fun W hb => (unhide CC).part T 0 (x : Int) W (by omega) (i64R_small (by omega) (by omega)) (i64R_small (by omega) (by omega)) hb)
  have CP2 := hide (fun W hb => (unhide CC).part T (x : Int) (T.size : Int) W (by omega) (i64R_small (by omega) (by omega)) (i64R_small (by omega) (by omega)) hb)
  rw [hT] at PT
  have PL := congrArg List.length PT
  rw [List.length_append, hT] at PL
  have PE : (⟨(partL T.data.toList 0 (x : Int)).toArray⟩ : ByteArray) ++ ⟨(partL T.data.toList (x : Int) (T.size : Int)).toArray⟩ = T := by
    rw [ByteArray.mk_append_mk]
    apply ByteArray.ext
    show (partL T.data.toList 0 (x : Int) ++ partL T.data.toList (x : Int) (T.size : Int)).toArray = T.data
    rw [PT]
  have PS1 : (⟨(partL T.data.toList 0 (x : Int)).toArray⟩ : ByteArray).size ≤ 100 := by show (partL T.data.toList 0 (x : Int)).toArray.size ≤ 100; rw [List.size_toArray]; omega
  have PS2 : (⟨(partL T.data.toList (x : Int) (T.size : Int)).toArray⟩ : ByteArray).size ≤ 100 := by show (partL T.data.toList (x : Int) (T.size : Int)).toArray.size ≤ 100; rw [List.size_toArray]; omega
  have CB := hide (fun W hb => (unhide CC).body T W (by omega) hb)
  have CU := fun W hb => (unhide CC).head T ⟨#[83, 85, 66, 74, 69, 67, 84]⟩ W (by omega) (by decide) hb
  have CL := fun W hb => (unhide CC).head T ⟨#[115, 117, 98, 106, 101, 99, 116]⟩ W (by omega) (by decide) hb
  have CN := fun W hb => (unhide CC).head T ⟨#[110, 111, 116, 104, 105, 110, 103]⟩ W (by omega) (by decide) hb
  rw [show (⟨#[83, 85, 66, 74, 69, 67, 84]⟩ : ByteArray).data.toList = upSubj from rfl, f2] at CU
  rw [show (⟨#[115, 117, 98, 106, 101, 99, 116]⟩ : ByteArray).data.toList = loSubj from rfl, ← f3, f2] at CL
  rw [show (⟨#[110, 111, 116, 104, 105, 110, 103]⟩ : ByteArray).data.toList = noHead from rfl, f4] at CN
  have CUH := hide CU
  have CLH := hide CL
  have CNH := hide CN
  have CO := fun W hb => (unhide CC).ok T W (by omega) hb
  rw [f1] at CO
  have COH := hide CO
  have BD : T.extract (T.size - (bodyL T.data.toList).length) T.size = ⟨(bodyL T.data.toList).toArray⟩ := by
    apply ByteArray.ext
    rw [ByteArray.data_extract]
    apply Array.toList_inj.1
    rw [Array.toList_extract]
    show (T.data.toList.drop _).take _ = _
    rw [f6, List.take_of_length_le]
    omega
  have BS : (⟨(bodyL T.data.toList).toArray⟩ : ByteArray).size = (bodyL T.data.toList).length := by show (bodyL T.data.toList).toArray.size = _; rw [List.size_toArray]
  rw [← BS] at BD f5
  clear CU CL CN CO f1 f2 f3 f4 f6 PT PL BS
  generalize (⟨(bodyL T.data.toList).toArray⟩ : ByteArray) = BB at *
  generalize (⟨(partL T.data.toList 0 (x : Int)).toArray⟩ : ByteArray) = P1 at *
  generalize (⟨(partL T.data.toList (x : Int) (T.size : Int)).toArray⟩ : ByteArray) = P2 at *
  generalize (⟨(headL T.data.toList upSubj).1.toArray⟩ : ByteArray) = HB at *
  generalize (⟨(headL T.data.toList noHead).1.toArray⟩ : ByteArray) = HN at *
  go_wp2_with fail
  refine (unhide CB _ (unhide B2)).mono ?_
  rintro e w3 ⟨rfl, hb⟩
  have B3 := hide (below_on (unhide B2) hb)
  clear hb B2
  rw [e0]
  clear e0 c0
  go_wp2_with fail
  refine (unhide CUH _ (unhide B3)).mono ?_
  rintro e w4 ⟨rfl, hb⟩
  have B4 := hide (below_on (unhide B3) hb)
  clear hb B3
  go_wp2_with fail
  refine (unhide CLH _ (unhide B4)).mono ?_
  rintro e w5 ⟨rfl, hb⟩
  have B5 := hide (below_on (unhide B4) hb)
  clear hb B4
  go_wp2_with fail
  refine (unhide CNH _ (unhide B5)).mono ?_
  rintro e w6 ⟨rfl, hb⟩
  have B6 := hide (below_on (unhide B5) hb)
  clear hb B5
  go_wp2_with fail
  refine (unhide DX _ (unhide B6)).mono ?_
  rintro e w7 ⟨X, q, n, hX, hq, hn, rfl, hb⟩
  have B7 := hide (below_on (unhide B6) hb)
  clear hb B6
  have CX := hide (fun W hb => (unhide CC).part X q n W (by omega) hq hn hb)
  have SX := hide (fun W => spec_PartOf_any X q n W (by omega) hn.2)
  generalize (⟨(partL X.data.toList q n).toArray⟩ : ByteArray) = XB at *
  go_wp2_with fail
  refine (unhide COH _ (unhide B7)).mono ?_
  rintro e w8 ⟨rfl, hb⟩
  have B8 := hide (below_on (unhide B7) hb)
  clear hb B7
  go_wp2_with fail
  refine (unhide CP1 _ (unhide B8)).mono ?_
  rintro e w9 ⟨rfl, hb⟩
  have B9 := hide (below_on (unhide B8) hb)
  clear hb B8
  go_wp2_with fail
  refine (unhide CP2 _ (unhide B9)).mono ?_
  rintro e w10 ⟨rfl, hb⟩
  have B10 := hide (below_on (unhide B9) hb)
  clear hb B9
  have z1 : P1.size ≤ 100 := PS1
  have z2 : P2.size ≤ 100 := PS2
  have i1 : (0 : Int) ≤ (T.size : Int) - (BB.size : Int) := by omega
  have i2 : (T.size : Int) - (BB.size : Int) ≤ (T.size : Int) := by omega
  go_wp2_with fail
  refine (unhide CX _ (unhide B10)).mono ?_
  rintro e w11 ⟨rfl, hb⟩
  have B11 := hide (below_on (unhide B10) hb)
  clear hb B10
  go_wp2_with fail
  refine (unhide SX _).mono ?_
  rintro e wS ⟨rfl, hw⟩
  subst wS
  go_wp2
  go_ret
  exact ⟨rfl, unhide B11⟩

theorem FnMails_big (len cap : Nat) (a : Option Addr) (w : World) (h1 : 1048576 < len) (h2 : len ≤ 9223372036854775807) :
    Calls Tryd.prog 3 #[.slice a len cap] w fun e w' => e = .returned (.bool true) ∧ Below w.heap.size w w' := by
  have Q := bigF_any len cap a w h2
  rw [show decide ((1048576 : Int) < len) = true by rw [decide_eq_true_eq]; omega] at Q
  have Q := hide Q
  go_enter Tryd.func3, Tryd.ntmps3
  go_wp2_with (go_at_call 7; refine (unhide Q).mono ?_; rintro e w1 ⟨rfl, hw⟩; subst w1)
  go_ret
  exact ⟨rfl, Below.refl _ _⟩
end Go.Proofs.YtmkjocamknhcbaaDoor
