/- FnSetTexts's walk, over whatever contracts of the program's own functions. -/
import Derived.Test.YtkmphclmealkeaaGreatDoorDrawSets
import Derived.Test.YtkmphclmealkeaaGreatDoorSameSet
import Derived.Test.YtkmphclmealkeaaGreatDoorTextsPlain
namespace Go.Proofs.YtkmphclmealkeaaGreatDoor
open Go.RowKit
open Plain
set_option linter.unusedVariables false

/-- What is asked of the program's functions on texts of sets. -/
structure TextsOk (w : World) : Prop where
  text : ∀ (s : List Rg) (v : Value) (B : Nat) (W : World), s.length ≤ 1048576 → OwnR B W v s → Below w.heap.size w W → Calls Tryz.prog 7 #[v] W fun e w' => e = .returned (.string ⟨(setTextL s).toArray⟩) ∧ Below W.heap.size W w'
  read : ∀ (l : List UInt8) (last : Int) (W : World), l.length ≤ 1048576 → Below w.heap.size w W → Calls Tryz.prog 8 #[.string ⟨l.toArray⟩, .int .i64 last] W fun e w' => ∃ v', e = .returned (.tuple #[v', .bool (readV l last).2]) ∧ OwnR W.heap.size w' v' (readV l last).1 ∧ Below W.heap.size W w'

set_option maxHeartbeats 8000000 in
set_option maxRecDepth 100000 in
theorem FnSetTexts_walk (len cap : Nat) (a : Option Addr) (w : World) (ha : Arg w.heap.size w a len) (CI : TextsOk w) :
    Calls Tryz.prog 3 #[.slice a len cap] w fun e w' => e = .returned (.bool true) ∧ Below w.heap.size w w' := by
  have hl := ha.1
  have q0 := bigS_any len cap a w (by omega)
  rw [decide_eq_false (show ¬ (1048576 : Int) < (len : Int) by omega)] at q0
  have Q0 := hide q0
  have D1 := hide (DrawSets_any w.heap.size len cap a w ha (Nat.le_refl _))
  have CC := hide CI
  clear q0 ha CI
  go_enter Tryz.func3, Tryz.ntmps3
  go_wp2_with fail
  refine (unhide Q0).mono ?_
  rintro e w0 ⟨rfl, hw⟩
  subst w0
  go_wp2_with fail
  refine (unhide D1).mono ?_
  rintro e w1 ⟨v, u, s, t, rfl, hs1, hs2, ht1, ht2, o1, o2, b1⟩
  have O1 := hide o1
  have O2 := hide o2
  have B1 := hide b1
  clear Q0 D1 o1 o2 b1
  go_wp2_with fail
  refine ((unhide CC).text s v w.heap.size w1 (by omega) (unhide O1) (unhide B1)).mono ?_
  rintro e w2 ⟨rfl, hb2⟩
  have P1 := hide ((unhide O1).up hb2)
  have P2 := hide ((unhide O2).up hb2)
  have B2 := hide ((unhide B1).trans (hb2.mono (unhide B1).size))
  clear hb2 O1 O2 B1
  have tl := text_len (s := s)
  go_wp2_with fail
  refine ((unhide CC).read (setTextL s) 1 w2 (by omega) (unhide B2)).mono ?_
  rintro e w3 ⟨vx, rfl, ox, hb3⟩
  have R1 := hide ((unhide P1).up hb3)
  have R2 := hide ((unhide P2).up hb3)
  have B3 := hide ((unhide B2).trans (hb3.mono (unhide B2).size))
  clear hb3 P1 P2
  obtain ⟨n, hn⟩ : ∃ n, n = s.length := ⟨_, rfl⟩
  obtain ⟨a1, c1, rfl, rd⟩ := (unhide R1).read
  clear rd
  by_cases hz : s = []
  · subst hz
    have et : setTextL [] = [] := (text_empty rfl).2 rfl
    rw [et, read_none] at *
    go_wp2
    go_ret
    exact ⟨rfl, unhide B3⟩
  · have hd : ((s.length : Int) == 0) = false := by
      rw [beq_eq_false_iff_ne]
      intro h
      exact hz (List.eq_nil_of_length_eq_zero (by omega))
    have hlp : 0 < s.length := List.length_pos_iff.2 hz
    rw [read_text hs1 hz (by omega) (by omega)] at ox ⊢
    have OX := hide (g_based ox (unhide B2).size)
    clear ox
    go_wp2_with fail
    refine ((unhide CC).text t u w.heap.size w3 (by omega) (unhide R2) (unhide B3)).mono ?_
    rintro e w4 ⟨rfl, hb4⟩
    have S1 := hide ((unhide R1).up hb4)
    have SX := hide (OwnR.up (unhide OX) hb4)
    have B4 := hide ((unhide B3).trans (hb4.mono (unhide B3).size))
    clear hb4 R1 R2 OX B3 B2
    have LL : Hid (RowsR w w4 [(vx, s), (.slice a1 s.length c1, s)]) := ⟨fun p hp => by
      rcases List.mem_cons.1 hp with e | hp
      · subst e; exact unhide SX
      · rcases List.mem_cons.1 hp with e | hp
        · subst e; exact unhide S1
        · (cases hp), unhide B4⟩
    clear S1 SX B4
    have tt := text_len (s := t)
    have hsa : (⟨(setTextL s).toArray⟩ : ByteArray).size ≤ 1680 := by show (setTextL s).toArray.size ≤ 1680; simpa using tl
    obtain ⟨Y, hY⟩ : ∃ Y : ByteArray, Y = ⟨(setTextL s).toArray⟩ := ⟨_, rfl⟩
    by_cases ht : t = []
    · subst ht
      have et : setTextL [] = [] := (text_empty rfl).2 rfl
      rw [et]
      rw [← hY] at hsa ⊢
      have HY := hide hY
      have hT1 : okS [⟨5, 5⟩] = true := rfl
      have hT0 : [(⟨5, 5⟩ : Rg)] ≠ [] := by simp
      have hT2 : [(⟨5, 5⟩ : Rg)].length ≤ 5 := by decide
      have tT := text_len (s := [⟨5, 5⟩])
      clear hY
      have qA := (unhide CC).read (setTextL s ++ 44 :: setTextL [⟨5, 5⟩]) 1 w4 (by simp; omega) (unhide LL).2
      rw [read_two hs1 hz hT1 hT0 (by omega) (by omega) (by omega), show (⟨(setTextL s ++ 44 :: setTextL [⟨5, 5⟩]).toArray⟩ : ByteArray) = Y ++ ⟨#[44]⟩ ++ ⟨#[53]⟩ from by rw [unhide HY, show (⟨#[53]⟩ : ByteArray) = ⟨(setTextL [⟨5, 5⟩]).toArray⟩ from by rw [text_five], cat10]; simp] at qA
      have qB := fun (W : World) (hb : Below w.heap.size w W) => (unhide CC).read (setTextL [⟨5, 5⟩] ++ 44 :: setTextL s) 1 W (by simp; omega) hb
      rw [read_two hT1 hT0 hs1 hz (by omega) (by omega) (by omega), show (⟨(setTextL [⟨5, 5⟩] ++ 44 :: setTextL s).toArray⟩ : ByteArray) = ⟨#[53]⟩ ++ ⟨#[44]⟩ ++ Y from by rw [unhide HY, show (⟨#[53]⟩ : ByteArray) = ⟨(setTextL [⟨5, 5⟩]).toArray⟩ from by rw [text_five], cat10]; simp, two_swap] at qB
      have qC := fun (W : World) (hb : Below w.heap.size w W) => (unhide CC).read [42, 58, 51] 7 W (by decide) hb
      rw [read_star] at qC
      have hJ : (setOf (twoB s [⟨5, 5⟩] false)).length ≤ 1048576 := by
        have := two_len (both := false) hs1 hT1
        omega
      generalize setOf (twoB s [⟨5, 5⟩] false) = J at *
      have QA := hide qA
      have QB := hide qB
      have QC : Hid (∀ (W : World), Below w.heap.size w W → Calls Tryz.prog 8 #[.string ⟨#[42, 58, 51]⟩, .int .i64 7] W fun e w' => ∃ v', e = .returned (.tuple #[v', .bool true]) ∧ OwnR W.heap.size w' v' [⟨3, 7⟩] ∧ Below W.heap.size W w') := qC
      clear qA qB qC
      go_wp2_with fail
      refine (unhide QA).mono ?_
      rintro e w5 ⟨v1, rfl, o1, hb5⟩
      have L5 := hide ((unhide LL).more hb5 o1)
      clear o1 hb5 LL QA
      go_wp2_with fail
      refine (unhide QB w5 (unhide L5).2).mono ?_
      rintro e w6 ⟨v2, rfl, o2, hb6⟩
      have L6 := hide ((unhide L5).more hb6 o2)
      clear o2 hb6 L5 QB
      go_wp2_with fail
      refine (unhide QC w6 (unhide L6).2).mono ?_
      rintro e w7 ⟨v3, rfl, o3, hb7⟩
      have L7 := hide ((unhide L6).more hb7 o3)
      clear o3 hb7 L6 QC
      go_wp2_with fail
      refine (sameSet_same s vx (.slice a1 s.length c1) w7 (by omega) ((unhide L7).get _ _ (by simp)).read ((unhide L7).get _ _ (by simp)).read).mono ?_
      rintro e w8 ⟨rfl, q8, h8⟩
      have L8 := hide ((unhide L7).up (show Below w7.heap.size w7 w8 by rw [h8]; exact below_drewN (Below.refl _ _) q8))
      clear L7 h8
      go_wp2_with fail
      refine (sameSet_same J v1 v2 _ hJ ((unhide L8).get _ _ (by simp)).read ((unhide L8).get _ _ (by simp)).read).mono ?_
      rintro e w9 ⟨rfl, q9, h9⟩
      have L9 := hide ((unhide L8).up (show Below w8.heap.size w8 w9 by rw [h9]; exact below_drewN (Below.refl _ _) q9))
      clear L8 h9
      go_wp2_with fail
      refine ((unhide CC).text s (.slice a1 s.length c1) w.heap.size _ (by omega) ((unhide L9).get _ _ (by simp)) (unhide L9).2).mono ?_
      rintro e wa ⟨rfl, hba⟩
      have LA := hide ((unhide L9).up hba)
      clear L9 hba
      rw [← unhide HY]
      go_wp2_with fail
      refine (spec_SetText_any s (.slice a1 s.length c1) wa (by omega) ((unhide LA).get _ _ (by simp)).read).mono ?_
      rintro e wb ⟨rfl, hbb⟩
      rw [← unhide HY]
      have LB := hide ((unhide LA).up hbb)
      clear LA hbb
      go_wp2_with fail
      have LC := hide ((unhide LB).up ((Below.refl wb.heap.size wb).alloc (Nat.le_refl _) (.cells #[.int .i64 3, .int .i64 7] 32)))
      have olit : OwnR wb.heap.size (wb.alloc (.cells #[.int .i64 3, .int .i64 7] 32)) (.slice (some ⟨wb.heap.size, 0, none⟩) 1 1) [⟨3, 7⟩] :=
        World.ownsRow_lit wb #[.int .i64 3, .int .i64 7] 1 (Nat.le_refl _) (by decide) rfl
      refine (sameSet_same [⟨3, 7⟩] v3 _ _ (by decide) ((unhide LC).get _ _ (by simp)).read olit.read).mono ?_
      rintro e wc ⟨rfl, qc, hc⟩
      have LD := hide ((unhide LC).up (show Below _ _ wc by rw [hc]; exact below_drewN (Below.refl _ _) qc))
      clear LC hc olit
      go_wp2
      go_ret
      exact ⟨rfl, (unhide LD).2⟩
    · have et : setTextL t ≠ [] := fun e => ht ((text_empty ht1).1 e)
      have hst : (⟨(setTextL t).toArray⟩ : ByteArray).size ≤ 1680 := by show (setTextL t).toArray.size ≤ 1680; simpa using tt
      have hdx : (⟨(setTextL t).toArray⟩ : ByteArray).toList.isEmpty = false := by simpa [go_sem] using et
      obtain ⟨X, hX⟩ : ∃ X : ByteArray, X = ⟨(setTextL t).toArray⟩ := ⟨_, rfl⟩
      rw [← hY] at hsa ⊢
      rw [← hX] at hst hdx ⊢
      have HX := hide hX
      have HY := hide hY
      have hT1 := ht1
      have hT0 := ht
      clear hX hY
      have qA := (unhide CC).read (setTextL s ++ 44 :: setTextL t) 1 w4 (by simp; omega) (unhide LL).2
      rw [read_two hs1 hz hT1 hT0 (by omega) (by omega) (by omega), show (⟨(setTextL s ++ 44 :: setTextL t).toArray⟩ : ByteArray) = Y ++ ⟨#[44]⟩ ++ X from by rw [unhide HY, unhide HX, cat10]; simp] at qA
      have qB := fun (W : World) (hb : Below w.heap.size w W) => (unhide CC).read (setTextL t ++ 44 :: setTextL s) 1 W (by simp; omega) hb
      rw [read_two hT1 hT0 hs1 hz (by omega) (by omega) (by omega), show (⟨(setTextL t ++ 44 :: setTextL s).toArray⟩ : ByteArray) = X ++ ⟨#[44]⟩ ++ Y from by rw [unhide HY, unhide HX, cat10]; simp, two_swap] at qB
      have qC := fun (W : World) (hb : Below w.heap.size w W) => (unhide CC).read [42, 58, 51] 7 W (by decide) hb
      rw [read_star] at qC
      have hJ : (setOf (twoB s t false)).length ≤ 1048576 := by
        have := two_len (both := false) hs1 hT1
        omega
      generalize setOf (twoB s t false) = J at *
      have QA := hide qA
      have QB := hide qB
      have QC : Hid (∀ (W : World), Below w.heap.size w W → Calls Tryz.prog 8 #[.string ⟨#[42, 58, 51]⟩, .int .i64 7] W fun e w' => ∃ v', e = .returned (.tuple #[v', .bool true]) ∧ OwnR W.heap.size w' v' [⟨3, 7⟩] ∧ Below W.heap.size W w') := qC
      clear qA qB qC
      go_wp2_with fail
      refine (unhide QA).mono ?_
      rintro e w5 ⟨v1, rfl, o1, hb5⟩
      have L5 := hide ((unhide LL).more hb5 o1)
      clear o1 hb5 LL QA
      go_wp2_with fail
      refine (unhide QB w5 (unhide L5).2).mono ?_
      rintro e w6 ⟨v2, rfl, o2, hb6⟩
      have L6 := hide ((unhide L5).more hb6 o2)
      clear o2 hb6 L5 QB
      go_wp2_with fail
      refine (unhide QC w6 (unhide L6).2).mono ?_
      rintro e w7 ⟨v3, rfl, o3, hb7⟩
      have L7 := hide ((unhide L6).more hb7 o3)
      clear o3 hb7 L6 QC
      go_wp2_with fail
      refine (sameSet_same s vx (.slice a1 s.length c1) w7 (by omega) ((unhide L7).get _ _ (by simp)).read ((unhide L7).get _ _ (by simp)).read).mono ?_
      rintro e w8 ⟨rfl, q8, h8⟩
      have L8 := hide ((unhide L7).up (show Below w7.heap.size w7 w8 by rw [h8]; exact below_drewN (Below.refl _ _) q8))
      clear L7 h8
      go_wp2_with fail
      refine (sameSet_same J v1 v2 _ hJ ((unhide L8).get _ _ (by simp)).read ((unhide L8).get _ _ (by simp)).read).mono ?_
      rintro e w9 ⟨rfl, q9, h9⟩
      have L9 := hide ((unhide L8).up (show Below w8.heap.size w8 w9 by rw [h9]; exact below_drewN (Below.refl _ _) q9))
      clear L8 h9
      go_wp2_with fail
      refine ((unhide CC).text s (.slice a1 s.length c1) w.heap.size _ (by omega) ((unhide L9).get _ _ (by simp)) (unhide L9).2).mono ?_
      rintro e wa ⟨rfl, hba⟩
      have LA := hide ((unhide L9).up hba)
      clear L9 hba
      rw [← unhide HY]
      go_wp2_with fail
      refine (spec_SetText_any s (.slice a1 s.length c1) wa (by omega) ((unhide LA).get _ _ (by simp)).read).mono ?_
      rintro e wb ⟨rfl, hbb⟩
      rw [← unhide HY]
      have LB := hide ((unhide LA).up hbb)
      clear LA hbb
      go_wp2_with fail
      have LC := hide ((unhide LB).up ((Below.refl wb.heap.size wb).alloc (Nat.le_refl _) (.cells #[.int .i64 3, .int .i64 7] 32)))
      have olit : OwnR wb.heap.size (wb.alloc (.cells #[.int .i64 3, .int .i64 7] 32)) (.slice (some ⟨wb.heap.size, 0, none⟩) 1 1) [⟨3, 7⟩] :=
        World.ownsRow_lit wb #[.int .i64 3, .int .i64 7] 1 (Nat.le_refl _) (by decide) rfl
      refine (sameSet_same [⟨3, 7⟩] v3 _ _ (by decide) ((unhide LC).get _ _ (by simp)).read olit.read).mono ?_
      rintro e wc ⟨rfl, qc, hc⟩
      have LD := hide ((unhide LC).up (show Below _ _ wc by rw [hc]; exact below_drewN (Below.refl _ _) qc))
      clear LC hc olit
      go_wp2
      go_ret
      exact ⟨rfl, (unhide LD).2⟩
end Go.Proofs.YtkmphclmealkeaaGreatDoor
