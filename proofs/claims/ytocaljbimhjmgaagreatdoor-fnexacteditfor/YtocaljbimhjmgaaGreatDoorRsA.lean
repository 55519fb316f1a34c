/- Several texts in one. -/
import Derived.Test.YtocaljbimhjmgaaGreatDoorSetA
import Derived.Test.YtocaljbimhjmgaaGreatDoorPlainA
namespace Go.Proofs.YtocaljbimhjmgaaGreatDoor
open Go.RowKit
open Plain
set_option linter.unusedVariables false

namespace Plain
theorem num_star (last : Int) : numV [42] last = (last, true) := if_pos rfl
theorem num_len {t : List UInt8} {last : Int} (h : t ≠ [42]) (hl : ¬ (1 ≤ t.length ∧ t.length ≤ 4)) : numV t last = (0, false) := by unfold numV; rw [if_neg h, if_neg hl]
theorem num_fig {t : List UInt8} {last : Int} (h : t ≠ [42]) (hl : 1 ≤ t.length ∧ t.length ≤ 4) : numV t last = if t.all figOk then (figsV t, decide (1 ≤ figsV t)) else (0, false) := by unfold numV; rw [if_neg h, if_pos hl]
theorem figs_step {s : ByteArray} {k : Nat} (h : k < s.size) : s.data.toList.take (k + 1) = s.data.toList.take k ++ [s[k]] := by
  rw [List.take_add_one, byte_at h]; rfl
theorem all_part {t : List UInt8} (k : Nat) (h : (t.take k).all figOk = false) : t.all figOk = false := by
  cases hx : t.all figOk with
  | false => rfl
  | true =>
    rw [← List.take_append_drop k t, List.all_append, h] at hx
    cases hx
end Plain

set_option maxHeartbeats 2000000 in
set_option maxRecDepth 100000 in
theorem l05Num_any (s : ByteArray) (last : Int) (w : World) (hs : s.size ≤ 1048576) :
    Calls Tryz.prog 72 #[.string s, .int .i64 last] w fun e w' => e = .returned (.tuple #[.int .i64 (numV s.data.toList last).1, .bool (numV s.data.toList last).2]) ∧ w' = w := by
  by_cases hst : s.data.toList = [42]
  · have e : s = ⟨#[42]⟩ := by
      apply ByteArray.ext
      exact Array.toList_inj.1 hst
    subst e
    go_enter Tryz.func72, Tryz.ntmps72
    go_wp2
    go_ret2
    exact ⟨by rw [num_star]; rfl, rfl⟩
  · have HS := hide hst
    by_cases hl : 1 ≤ s.size ∧ s.size ≤ 4
    · have V := hide (num_fig (last := last) hst hl)
      have L : Hid (∀ W, Calls Tryz.prog 40 #[.int .i64 (s.size : Int), .int .i64 1, .int .i64 4] W fun e w' => e = .returned (.bool true) ∧ w' = W) := fun W => by
        have := l01In_is (s.size : Int) 1 4 W
        rw [decide_eq_true (show (1 : Int) ≤ (s.size : Int) by omega), decide_eq_true (show (s.size : Int) ≤ 4 by omega)] at this
        exact this
      obtain ⟨hl1, hl2⟩ := hl
      clear hst
      go_enter Tryz.func72, Tryz.ntmps72
      go_wp2_with (go_at_call 40; refine (unhide L _).mono ?_; rintro e w3 ⟨rfl, hw3⟩; subst w3)
      · exfalso
        have hx : s.toList = [42] := by first | assumption | (have hy : (s.toList == [42]) = true := (by assumption); simpa using hy)
        rw [ByteArray.toList_eq] at hx
        exact unhide HS hx
      · go_loop [6, 7] (fun n i => ∃ k : Nat, k ≤ s.size ∧ i = .int .i64 k ∧ n = .int .i64 (figsV (s.data.toList.take k)) ∧ (s.data.toList.take k).all figOk = true) (fun _ i => s.size - (intOf i).toNat)
        case atStart => exact ⟨0, Nat.zero_le _, rfl, rfl, rfl⟩
        case round =>
          obtain ⟨k, hk, rfl, rfl, hall⟩ := hrel
          have hb := figsV_bound _ hall
          have hlen : (s.data.toList.take k).length = k := by rw [List.length_take]; show min k s.size = k; omega
          rw [hlen] at hb
          have hp : (10 : Int) ^ k ≤ 10000 := by
            have : k = 0 ∨ k = 1 ∨ k = 2 ∨ k = 3 ∨ k = 4 := by omega
            rcases this with e | e | e | e | e <;> rw [e] <;> decide
          have hb0 := hb.1
          have hb1 : figsV (s.data.toList.take k) < 10000 := by omega
          clear hb hp hlen
          by_cases hlt : k < s.size
          · have ST := hide (figs_step hlt)
            have hx : s[k].toNat < 256 := s[k].toNat_lt
            have NO := hide (fun (h : figOk s[k] = false) => all_part (t := s.data.toList) (k + 1) (by rw [figs_step hlt, List.all_append]; simp [h]))
            have YES := hide (fun (h : figOk s[k] = true) => (by rw [figs_step hlt, List.all_append, hall]; simp [h] : (s.data.toList.take (k + 1)).all figOk = true))
            have SN := hide (figsV_snoc (s.data.toList.take k) s[k])
            rw [← unhide ST] at SN
            have FO := hide (show figOk s[k] = (decide (48 ≤ s[k].toNat) && decide (s[k].toNat ≤ 57)) from rfl)
            generalize figsV (s.data.toList.take k) = n at *
            clear hall
            by_cases h48 : 48 ≤ s[k].toNat
            · have d48 : decide ((s[k].toNat : Int) < 48) = false := by rw [decide_eq_false_iff_not]; omega
              by_cases h57 : s[k].toNat ≤ 57
              · have d57 : decide ((57 : Int) < (s[k].toNat : Int)) = false := by rw [decide_eq_false_iff_not]; omega
                have Y := hide (unhide YES (by rw [unhide FO, decide_eq_true h48, decide_eq_true h57]; rfl))
                go_wp2
                go_round
                case rel => exact ⟨k + 1, by omega, by go_num, by rw [unhide SN], unhide Y⟩
                case measure => simp [intOf]; omega
              · have d57 : decide ((57 : Int) < (s[k].toNat : Int)) = true := by rw [decide_eq_true_eq]; omega
                have Z := hide (unhide NO (by rw [unhide FO, decide_eq_false h57, Bool.and_false]))
                go_wp2
                go_ret2
                exact ⟨by rw [unhide V, unhide Z]; rfl, rfl⟩
            · have d48 : decide ((s[k].toNat : Int) < 48) = true := by rw [decide_eq_true_eq]; omega
              have Z := hide (unhide NO (by rw [unhide FO, decide_eq_false h48, Bool.false_and]))
              go_wp2
              go_ret2
              exact ⟨by rw [unhide V, unhide Z]; rfl, rfl⟩
          · have e : s.data.toList.take k = s.data.toList := List.take_of_length_le (by show s.size ≤ k; omega)
            rw [e] at hall hb0 hb1 ⊢
            rw [hall] at V
            have V' : Hid (numV s.data.toList last = (figsV s.data.toList, decide (1 ≤ figsV s.data.toList))) := unhide V
            clear V hall
            generalize figsV s.data.toList = n at *
            go_wp2
            go_ret2
            exact ⟨by rw [unhide V']; rfl, rfl⟩
    · have V := hide (num_len (last := last) hst hl)
      have L : Hid (∀ W, Calls Tryz.prog 40 #[.int .i64 (s.size : Int), .int .i64 1, .int .i64 4] W fun e w' => e = .returned (.bool false) ∧ w' = W) := fun W => by
        have := l01In_is (s.size : Int) 1 4 W
        have e : (decide ((1 : Int) ≤ (s.size : Int)) && decide ((s.size : Int) ≤ 4)) = false := by
          rw [Bool.and_eq_false_iff]
          by_cases h : 1 ≤ s.size
          · right; rw [decide_eq_false_iff_not]; omega
          · left; rw [decide_eq_false_iff_not]; omega
        rw [e] at this
        exact this
      clear hst
      go_enter Tryz.func72, Tryz.ntmps72
      go_wp2_with (go_at_call 40; refine (unhide L _).mono ?_; rintro e w3 ⟨rfl, hw3⟩; subst w3)
      · exfalso
        have hx : s.toList = [42] := by first | assumption | (have hy : (s.toList == [42]) = true := (by assumption); simpa using hy)
        rw [ByteArray.toList_eq] at hx
        exact unhide HS hx
      · go_ret2
        exact ⟨by rw [unhide V]; rfl, rfl⟩

namespace Plain
theorem ext_take2 (s : ByteArray) (n : Nat) : (s.extract 0 n).data.toList = s.data.toList.take n := by
  rw [Lib.extract_data]; simp
theorem ext_drop2 (s : ByteArray) (n : Nat) : (s.extract n s.size).data.toList = s.data.toList.drop n := by
  rw [Lib.extract_data, List.take_of_length_le (by simp)]
theorem ext_seg3 (s : ByteArray) (b i : Nat) : (s.extract b i).data.toList = seg s.data.toList b i := by
  rw [Lib.extract_data, seg, List.drop_take]
end Plain

set_option maxHeartbeats 2000000 in
set_option maxRecDepth 100000 in
theorem l05Part_any (s : ByteArray) (last : Int) (w : World) (hs : s.size ≤ 1048576) :
    Calls Tryz.prog 63 #[.string s, .int .i64 last] w fun e w' => e = .returned (.tuple #[.int .i64 (partV s.data.toList last).1, .int .i64 (partV s.data.toList last).2.1, .bool (partV s.data.toList last).2.2]) ∧ w' = w := by
  have N := hide (fun (t : ByteArray) (ht : t.size ≤ 1048576) => l05Num_any t last w ht)
  go_enter Tryz.func63, Tryz.ntmps63
  go_wp2
  go_loop [7] (fun i => ∃ k : Nat, k ≤ s.size ∧ i = .int .i64 k ∧ ∀ b ∈ s.data.toList.take k, b ≠ 58) (fun i => s.size - (intOf i).toNat)
  case atStart => exact ⟨0, Nat.zero_le _, rfl, by simp⟩
  case round =>
    obtain ⟨k, hk, rfl, hno⟩ := hrel
    by_cases hlt : k < s.size
    · have hbk := byte_at hlt
      by_cases h58 : s[k].toNat = 58
      · have d58 : ((s[k].toNat : Int) == 58) = true := by rw [beq_iff_eq]; omega
        have hb : s[k] = 58 := by
          apply UInt8.toNat_inj.1
          rw [h58]; rfl
        have V := hide (part_at (last := last) hno (by rw [hbk, hb]))
        have q1 := unhide N (s.extract 0 k) (by rw [ByteArray.size_extract]; omega)
        have q2 := unhide N (s.extract (k + 1) s.size) (by rw [ByteArray.size_extract]; omega)
        rw [ext_take2] at q1
        rw [ext_drop2] at q2
        have Q1 := hide q1
        have Q2 := hide q2
        have i1 : (0 : Int) ≤ (k : Int) + 1 := by omega
        have i2 : (k : Int) + 1 ≤ (s.size : Int) := by omega
        unfold upV at V
        generalize numV (s.data.toList.take k) last = x at *
        generalize numV (s.data.toList.drop (k + 1)) last = y at *
        obtain ⟨x1, x2⟩ := x
        obtain ⟨y1, y2⟩ := y
        simp only at V Q1 Q2
        clear hno hbk hb q1 q2 N h58
        by_cases hlt2 : y1 < x1
        · have dl : decide (y1 < x1) = true := by simpa using hlt2
          rw [if_pos hlt2] at V
          cases x2 with
          | true =>
            go_wp2_with fail
            refine (unhide Q1).mono ?_
            rintro e w1 ⟨rfl, hw1⟩
            subst w1
            go_wp2_with fail
            refine (unhide Q2).mono ?_
            rintro e w1 ⟨rfl, hw1⟩
            subst w1
            go_wp2
            go_ret3
            exact ⟨by rw [unhide V]; rfl, rfl⟩
          | false =>
            go_wp2_with fail
            refine (unhide Q1).mono ?_
            rintro e w1 ⟨rfl, hw1⟩
            subst w1
            go_wp2_with fail
            refine (unhide Q2).mono ?_
            rintro e w1 ⟨rfl, hw1⟩
            subst w1
            go_wp2
            go_ret3
            exact ⟨by rw [unhide V]; rfl, rfl⟩
        · have dl : decide (y1 < x1) = false := by simpa using hlt2
          rw [if_neg hlt2] at V
          cases x2 with
          | true =>
            go_wp2_with fail
            refine (unhide Q1).mono ?_
            rintro e w1 ⟨rfl, hw1⟩
            subst w1
            go_wp2_with fail
            refine (unhide Q2).mono ?_
            rintro e w1 ⟨rfl, hw1⟩
            subst w1
            go_wp2
            go_ret3
            exact ⟨by rw [unhide V]; rfl, rfl⟩
          | false =>
            go_wp2_with fail
            refine (unhide Q1).mono ?_
            rintro e w1 ⟨rfl, hw1⟩
            subst w1
            go_wp2_with fail
            refine (unhide Q2).mono ?_
            rintro e w1 ⟨rfl, hw1⟩
            subst w1
            go_wp2
            go_ret3
            exact ⟨by rw [unhide V]; rfl, rfl⟩
      · have d58 : ((s[k].toNat : Int) == 58) = false := by rw [beq_eq_false_iff_ne]; omega
        have NX : Hid (∀ b ∈ s.data.toList.take (k + 1), b ≠ 58) := fun b hb => by
          rw [figs_step hlt] at hb
          rcases List.mem_append.1 hb with hb | hb
          · exact hno b hb
          · simp at hb
            rw [hb]
            intro e
            rw [e] at h58
            exact h58 rfl
        clear hno hbk
        go_wp2
        go_round
        case rel => exact ⟨k + 1, by omega, by go_num, unhide NX⟩
        case measure => simp [intOf]; omega
    · have e : s.data.toList.take k = s.data.toList := List.take_of_length_le (by show s.size ≤ k; omega)
      rw [e] at hno
      have V := hide (part_no (last := last) hno)
      have q1 := unhide N s hs
      have Q1 := hide q1
      generalize numV s.data.toList last = x at *
      obtain ⟨x1, x2⟩ := x
      simp only at V Q1
      clear hno q1 N
      go_wp2_with fail
      refine (unhide Q1).mono ?_
      rintro e w1 ⟨rfl, hw1⟩
      subst w1
      go_wp2
      go_ret3
      exact ⟨by rw [unhide V]; rfl, rfl⟩
end Go.Proofs.YtocaljbimhjmgaaGreatDoor

namespace Go.Proofs.YtocaljbimhjmgaaGreatDoor
open Go.RowKit
open Plain
set_option linter.unusedVariables false

namespace Plain
def orTo (f : Nat → Bool) (lo n : Int) (i : Nat) : Bool := f i || (decide (lo ≤ (i : Int)) && decide ((i : Int) < n))
theorem orTo_start (f : Nat → Bool) (lo : Int) : orTo f lo lo = f := by
  funext i
  unfold orTo
  by_cases h : lo ≤ (i : Int)
  · rw [decide_eq_false (show ¬ (i : Int) < lo by omega), Bool.and_false, Bool.or_false]
  · rw [decide_eq_false h, Bool.false_and, Bool.or_false]
theorem orTo_step (f : Nat → Bool) (lo : Int) (n : Nat) (h : lo ≤ (n : Int)) : setBit (orTo f lo n) n true = orTo f lo ((n : Int) + 1) := by
  funext i
  unfold setBit orTo
  by_cases e : i = n
  · subst e
    rw [if_pos rfl, decide_eq_true h, decide_eq_true (show (i : Int) < (i : Int) + 1 by omega)]; simp
  · rw [if_neg e]
    by_cases h2 : (i : Int) < n
    · rw [decide_eq_true h2, decide_eq_true (show (i : Int) < (n : Int) + 1 by omega)]
    · rw [decide_eq_false h2, decide_eq_false (show ¬ (i : Int) < (n : Int) + 1 by omega)]
theorem orTo_end (ps : List (List UInt8)) (p : List UInt8) (last : Int) : orTo (marksV ps last) (partV p last).1 ((partV p last).2.1 + 1) = marksV (ps ++ [p]) last := by
  funext i
  rw [marksV_snoc]
  unfold orTo
  by_cases h : (i : Int) ≤ (partV p last).2.1
  · rw [decide_eq_true h, decide_eq_true (show (i : Int) < (partV p last).2.1 + 1 by omega)]
  · rw [decide_eq_false h, decide_eq_false (show ¬ (i : Int) < (partV p last).2.1 + 1 by omega)]
end Plain

set_option maxHeartbeats 8000000 in
set_option maxRecDepth 100000 in
theorem spec_ReadSet_any (s : ByteArray) (last : Int) (w : World) (hs : s.size ≤ 1048576) :
    Calls Tryz.prog 37 #[.string s, .int .i64 last] w fun e w' => ∃ v', e = .returned (.tuple #[v', .bool (readV s.data.toList last).2]) ∧ OwnR w.heap.size w' v' (readV s.data.toList last).1 ∧ Below w.heap.size w w' := by
  obtain ⟨i0, hi, hz0, hz1, hz2⟩ := info_parts Tryz.infoBool
  have oN : (w.alloc (.cells #[] 87)).ownsRow w.heap.size 87 2 (.slice (some ⟨w.heap.size, 0, none⟩) 0 0) 0 (rgs []) := World.ownsRow_lit w #[] 0 (Nat.le_refl _) (Nat.zero_le _) rfl
  have bN := (Below.refl w.heap.size w).alloc (Nat.le_refl _) (.cells #[] 87)
  have ON := hide oN
  have BN := hide bN
  clear oN bN
  by_cases hl : 1 ≤ last ∧ last ≤ 9999
  · obtain ⟨hl1, hl2⟩ := hl
    have L : Hid (∀ W, Calls Tryz.prog 40 #[.int .i64 last, .int .i64 1, .int .i64 9999] W fun e w' => e = .returned (.bool true) ∧ w' = W) := fun W => by
      have := l01In_is last 1 9999 W
      rw [decide_eq_true hl1, decide_eq_true hl2] at this
      exact this
    have NO := hide (fun (h : okParts (cutsL 44 s.data.toList) last = false) => readV_no (l := s.data.toList) (last := last) (fun x => by rw [h] at x; cases x.2.2))
    have YES := hide (fun (h : okParts (cutsL 44 s.data.toList) last = true) => readV_in (l := s.data.toList) ⟨hl1, hl2, h⟩)
    have Z0 := hide (fun (h : okParts (cutsL 44 s.data.toList) last = true) => marks_zero hl1 hl2 h)
    have PO := hide (fun (t : List UInt8) (h : (partV t last).2.2 = true) => part_ok hl1 hl2 h)
    have PA := hide (fun (t : ByteArray) (W : World) (ht : t.size ≤ 1048576) => l05Part_any t last W ht)
    have HL : Hid (s.data.toList.length = s.size) := rfl
    obtain ⟨w0, hw0⟩ : ∃ W, W = w.alloc (.cells #[] 87) := ⟨_, rfl⟩
    have hsz0 : w0.heap.size = w.heap.size + 1 := by rw [hw0]; simp
    rw [← hw0] at ON BN
    go_enter Tryz.func37, Tryz.ntmps37
    go_wp2_with (first
      | (go_at_call 40; refine (unhide L _).mono ?_; rintro e w3 ⟨rfl, hw3⟩; subst w3)
      | (rw [← hw0]; refine wpList_make_full _ rfl _ _ 91 rfl w0.heap.size 4 i0 _ 1 Tryz.underlying91 hi hz0 hz1 .i64 .i64 _ _ 10001 rfl rfl rfl rfl (by rw [hz2]; omega) (by unfold maxLen; omega) (Nat.le_refl _) ?_; intro wm hown hgm))
    rw [made_bits] at hown
    have OM : Hid (wm.ownsRow w0.heap.size 4 1 (.slice (some ⟨w.heap.size + 1, 0, none⟩) 10001 10001) 10001 (bitsRow (fun _ => false))) := by
      show wm.ownsRow _ _ _ _ _ _
      rw [← hsz0]
      exact hown
    have GM := hide (g_below hgm)
    clear hown hgm L
    go_loopw [8, 9] (fun b i wr => ∃ (k q : Nat) (done : List (List UInt8)), i = .int .i64 k ∧ b = .int .i64 q ∧ CutInv s.data.toList k q done ∧ okParts done last = true ∧ wr.ownsRow w0.heap.size 4 1 (.slice (some ⟨w.heap.size + 1, 0, none⟩) 10001 10001) 10001 (bitsRow (marksV done last)) ∧ Below w0.heap.size w0 wr) (fun _ i _ => s.size + 1 - (intOf i).toNat)
    case atStart => exact ⟨0, 0, [], rfl, rfl, CutInv.start _, rfl, unhide OM, unhide GM⟩
    case round =>
      obtain ⟨k, q, done, rfl, rfl, hci, hok, hown, hbel⟩ := hrel
      by_cases hlt : k ≤ s.size
      · have dk : decide ((k : Int) ≤ (s.size : Int)) = true := by rw [decide_eq_true_eq]; omega
        by_cases hon : ∃ h : k < s.size, s[k].toNat ≠ 44
        · obtain ⟨hks, hn44⟩ := hon
          have d1 : decide ((k : Int) < (s.size : Int)) = true := by rw [decide_eq_true_eq]; omega
          have d2 : ((s[k].toNat : Int) != 44) = true := by rw [bne_iff_ne]; omega
          have CN := hide (hci.on (byte_at hks) (fun e => hn44 (by rw [e]; rfl)))
          have OW := hide hown
          have BW := hide hbel
          have HO := hide hok
          clear hci hok hown hbel
          go_wp2
          go_roundw
          case rel => exact ⟨k + 1, q, done, by go_num, rfl, unhide CN, unhide HO, unhide OW, unhide BW⟩
          case measure => simp [intOf]; omega
        · have hcut : k = s.data.toList.length ∨ s.data.toList[k]? = some 44 := by
            by_cases hks : k < s.size
            · right
              rw [byte_at hks]
              congr 1
              apply UInt8.toNat_inj.1
              by_cases h44 : s[k].toNat = 44
              · rw [h44]; rfl
              · exact absurd ⟨hks, h44⟩ hon
            · left; rw [unhide HL]; omega
          obtain ⟨cut, hqk⟩ := hci.cut (by rw [unhide HL]; exact hlt) hcut
          have D : Hid (k < s.size → ∃ h : k < s.size, ((s[k].toNat : Int) != 44) = false) := fun hks => ⟨hks, by
            rw [bne_eq_false_iff_eq]
            by_cases h44 : s[k].toNat = 44
            · omega
            · exact absurd ⟨hks, h44⟩ hon⟩
          have P := unhide PA (s.extract q k)
          rw [ext_seg3] at P
          have SN := hide (okParts_snoc done (seg s.data.toList q k) last)
          have MN := hide (orTo_end done (seg s.data.toList q k) last)
          have PK := hide (unhide PO (seg s.data.toList q k))
          have CUT := hide cut
          have STOP := hide (fun h => cut.stop (last := last) h)
          generalize hpv : partV (seg s.data.toList q k) last = pv at *
          obtain ⟨p1, p2, p3⟩ := pv
          simp only at P SN MN PK
          have PP := hide (fun W => P W (by rw [ByteArray.size_extract]; omega))
          have OW := hide hown
          have BW := hide hbel
          have i1 : (0 : Int) ≤ (q : Int) := by omega
          have i2 : (q : Int) ≤ (k : Int) := by omega
          have i3 : (k : Int) ≤ (s.size : Int) := by omega
          rw [hok, Bool.true_and] at SN
          clear hci hcut cut P hown hbel hok hpv hon
          by_cases hks : k < s.size
          · obtain ⟨_, d2⟩ := unhide D hks
            have d1 : decide ((k : Int) < (s.size : Int)) = true := by rw [decide_eq_true_eq]; omega
            cases p3 with
            | false =>
              have V := hide (unhide NO (unhide STOP (unhide SN)))
              go_wp2_with fail
              refine (unhide PP _).mono ?_
              rintro e w1 ⟨rfl, hw1⟩
              subst w1
              go_wp2
              go_ret2
              refine ⟨_, by rw [unhide V]; rfl, ?_, (unhide BN).trans ((unhide BW).mono (by omega))⟩
              rw [unhide V]
              exact g_stays (unhide ON) (unhide BW)
            | true =>
              obtain ⟨p1a, p1b, p1c⟩ := unhide PK rfl
              obtain ⟨pn, rfl⟩ : ∃ pn : Nat, p1 = (pn : Int) := ⟨p1.toNat, by omega⟩
              go_wp2_with fail
              refine (unhide PP _).mono ?_
              rintro e w1 ⟨rfl, hw1⟩
              subst w1
              go_wp2
              go_loopw [13] (fun n wq => ∃ m : Nat, (pn : Int) ≤ m ∧ (m : Int) ≤ p2 + 1 ∧ n = .int .i64 m ∧ wq.ownsRow w0.heap.size 4 1 (.slice (some ⟨w.heap.size + 1, 0, none⟩) 10001 10001) 10001 (bitsRow (orTo (marksV done last) pn m)) ∧ Below w0.heap.size w0 wq) (fun n _ => (p2 + 1).toNat - (intOf n).toNat)
              case atStart => exact ⟨pn, Int.le_refl _, by omega, rfl, by rw [orTo_start]; exact unhide OW, unhide BW⟩
              case round =>
                obtain ⟨m, hm1, hm2, rfl, hownq, hbq⟩ := hrel
                by_cases hlm : (m : Int) ≤ p2
                · have dm : decide ((m : Int) ≤ p2) = true := by simpa using hlm
                  obtain ⟨y, hy⟩ := g_some hownq (j := m) (by omega)
                  have fz := hownq.frozenAt m
                  have st := (hownq.stored m (.bool true)).1
                  rw [bitsRow_set, orTo_step _ pn m hm1] at st
                  have ST := hide st
                  have BQ := hide (hbq.setCell (p := ⟨w.heap.size + 1, m, none⟩) (by show w0.heap.size ≤ w.heap.size + 1; omega) (.bool true))
                  clear hownq hbq st
                  go_wp2
                  go_roundw
                  case rel => exact ⟨m + 1, by omega, by omega, by go_num, unhide ST, unhide BQ⟩
                  case measure => simp [intOf]; omega
                · have dm : decide ((m : Int) ≤ p2) = false := by simpa using hlm
                  have e : (m : Int) = p2 + 1 := by omega
                  rw [e, unhide MN] at hownq
                  have OQ := hide hownq
                  have BQ := hide hbq
                  clear hownq hbq e
                  go_wp2
                  go_roundw
                  case rel => exact ⟨k + 1, k + 1, _, by go_num, by go_num, unhide CUT, unhide SN, unhide OQ, unhide BQ⟩
                  case measure => simp [intOf]; omega
          · have d1 : decide ((k : Int) < (s.size : Int)) = false := by rw [decide_eq_false_iff_not]; omega
            cases p3 with
            | false =>
              have V := hide (unhide NO (unhide STOP (unhide SN)))
              go_wp2_with fail
              refine (unhide PP _).mono ?_
              rintro e w1 ⟨rfl, hw1⟩
              subst w1
              go_wp2
              go_ret2
              refine ⟨_, by rw [unhide V]; rfl, ?_, (unhide BN).trans ((unhide BW).mono (by omega))⟩
              rw [unhide V]
              exact g_stays (unhide ON) (unhide BW)
            | true =>
              obtain ⟨p1a, p1b, p1c⟩ := unhide PK rfl
              obtain ⟨pn, rfl⟩ : ∃ pn : Nat, p1 = (pn : Int) := ⟨p1.toNat, by omega⟩
              go_wp2_with fail
              refine (unhide PP _).mono ?_
              rintro e w1 ⟨rfl, hw1⟩
              subst w1
              go_wp2
              go_loopw [13] (fun n wq => ∃ m : Nat, (pn : Int) ≤ m ∧ (m : Int) ≤ p2 + 1 ∧ n = .int .i64 m ∧ wq.ownsRow w0.heap.size 4 1 (.slice (some ⟨w.heap.size + 1, 0, none⟩) 10001 10001) 10001 (bitsRow (orTo (marksV done last) pn m)) ∧ Below w0.heap.size w0 wq) (fun n _ => (p2 + 1).toNat - (intOf n).toNat)
              case atStart => exact ⟨pn, Int.le_refl _, by omega, rfl, by rw [orTo_start]; exact unhide OW, unhide BW⟩
              case round =>
                obtain ⟨m, hm1, hm2, rfl, hownq, hbq⟩ := hrel
                by_cases hlm : (m : Int) ≤ p2
                · have dm : decide ((m : Int) ≤ p2) = true := by simpa using hlm
                  obtain ⟨y, hy⟩ := g_some hownq (j := m) (by omega)
                  have fz := hownq.frozenAt m
                  have st := (hownq.stored m (.bool true)).1
                  rw [bitsRow_set, orTo_step _ pn m hm1] at st
                  have ST := hide st
                  have BQ := hide (hbq.setCell (p := ⟨w.heap.size + 1, m, none⟩) (by show w0.heap.size ≤ w.heap.size + 1; omega) (.bool true))
                  clear hownq hbq st
                  go_wp2
                  go_roundw
                  case rel => exact ⟨m + 1, by omega, by omega, by go_num, unhide ST, unhide BQ⟩
                  case measure => simp [intOf]; omega
                · have dm : decide ((m : Int) ≤ p2) = false := by simpa using hlm
                  have e : (m : Int) = p2 + 1 := by omega
                  rw [e, unhide MN] at hownq
                  have OQ := hide hownq
                  have BQ := hide hbq
                  clear hownq hbq e
                  go_wp2
                  go_roundw
                  case rel => exact ⟨k + 1, k + 1, _, by go_num, by go_num, unhide CUT, unhide SN, unhide OQ, unhide BQ⟩
                  case measure => simp [intOf]; omega
      · have dk : decide ((k : Int) ≤ (s.size : Int)) = false := by rw [decide_eq_false_iff_not]; omega
        have e : done = cutsL 44 s.data.toList := hci.done (by rw [unhide HL]; exact hlt)
        subst e
        have V := hide (unhide YES hok)
        have QS := hide (l05Set_any (marksV (cutsL 44 s.data.toList) last) (unhide Z0 hok) (w.heap.size + 1) w0.heap.size _ hown)
        have BW := hide hbel
        clear hci hok hown hbel
        go_wp2_with (go_at_call 64; refine (unhide QS).mono ?_; rintro e w5 ⟨v5, rfl, o5, hb5⟩)
        go_ret2
        have hb05 := (unhide BW).trans (hb5.mono (unhide BW).size)
        refine ⟨_, by rw [unhide V]; rfl, ?_, (unhide BN).trans (hb05.mono (by omega))⟩
        rw [unhide V]
        exact g_based o5 (by have := (unhide BW).size; omega)
  · have L : Hid (∀ W, Calls Tryz.prog 40 #[.int .i64 last, .int .i64 1, .int .i64 9999] W fun e w' => e = .returned (.bool false) ∧ w' = W) := fun W => by
      have := l01In_is last 1 9999 W
      have e : (decide ((1 : Int) ≤ last) && decide (last ≤ 9999)) = false := by
        rw [Bool.and_eq_false_iff]
        by_cases h : 1 ≤ last
        · right; rw [decide_eq_false_iff_not]; omega
        · left; rw [decide_eq_false_iff_not]; omega
      rw [e] at this
      exact this
    have V := hide (readV_no (l := s.data.toList) (last := last) (fun h => hl ⟨h.1, h.2.1⟩))
    go_enter Tryz.func37, Tryz.ntmps37
    go_wp2_with (go_at_call 40; refine (unhide L _).mono ?_; rintro e w3 ⟨rfl, hw3⟩; subst w3)
    go_ret2
    refine ⟨_, by rw [unhide V]; rfl, ?_, unhide BN⟩
    rw [unhide V]
    exact unhide ON
end Go.Proofs.YtocaljbimhjmgaaGreatDoor
