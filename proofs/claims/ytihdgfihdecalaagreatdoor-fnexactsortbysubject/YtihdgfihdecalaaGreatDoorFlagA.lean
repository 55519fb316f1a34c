/- Several texts in one: FlagS, FlagTextS, FlagReadS, MailS. Made by fuse_tl.py. -/
import Derived.Test.YtihdgfihdecalaaGreatDoorBmA
import Derived.Test.YtihdgfihdecalaaGreatDoorPlainA
import Derived.Deep.AppendLies
import Derived.Lib.ConvBytes
/- Flags: the specification's FlagsOk, l06And, FlagsAfter. -/
namespace Go.Proofs.YtihdgfihdecalaaGreatDoor
open Go.RowKit
open Plain
set_option linter.unusedVariables false

theorem l01In_held (x l m : Int) (w : World) : Calls Tryz.prog 42 #[.int .i64 x, .int .i64 l, .int .i64 m] w fun e w' => e = .returned (.bool (decide (l ≤ x) && decide (x ≤ m))) ∧ w' = w := by
  by_cases h : l ≤ x
  · have hd : decide (l ≤ x) = true := by simpa using h
    by_cases h2 : x ≤ m
    · have hd2 : decide (x ≤ m) = true := by simpa using h2
      rw [hd, hd2]
      go_enter Tryz.func42, Tryz.ntmps42
      go_wp2
      go_ret
      exact ⟨rfl, rfl⟩
    · have hd2 : decide (x ≤ m) = false := by simpa using h2
      rw [hd, hd2]
      go_enter Tryz.func42, Tryz.ntmps42
      go_wp2
      go_ret
      exact ⟨rfl, rfl⟩
  · have hd : decide (l ≤ x) = false := by simpa using h
    rw [hd]
    go_enter Tryz.func42, Tryz.ntmps42
    go_wp2
    go_ret
    exact ⟨rfl, rfl⟩
theorem spec_FlagsOk_any (b : Int) (w : World) :
    Calls Tryz.prog 43 #[.int .i64 b] w fun e w' => e = .returned (.bool (flOk b)) ∧ w' = w := by
  have q := hide (l01In_held b 0 31 w)
  go_enter Tryz.func43, Tryz.ntmps43
  go_wp2_with (go_at_call 42; refine (unhide q).mono ?_; rintro e w1 ⟨rfl, hw1⟩; subst w1)
  go_ret
  exact ⟨rfl, rfl⟩

namespace Plain
end Plain

end Go.Proofs.YtihdgfihdecalaaGreatDoor

/- Flags: the specification's l06Names, FlagsText, l06Bit. -/
namespace Go.Proofs.YtihdgfihdecalaaGreatDoor
open Go.RowKit
open Plain
set_option linter.unusedVariables false

namespace Plain
end Plain

namespace Plain
end Plain

end Go.Proofs.YtihdgfihdecalaaGreatDoor

/- Flags: the specification's l06Low, ReadFlags. -/
namespace Go.Proofs.YtihdgfihdecalaaGreatDoor
open Go.RowKit
open Plain
set_option linter.unusedVariables false

/-- A text as bytes: a new row. -/
theorem low_bytes (w : World) (T : ByteArray) : ∃ (C : Nat) (w5 : World), (convert 9 103 (.string T)).run Tryz.prog w = .ok (.slice (some ⟨w.heap.size, 0, none⟩) T.size C) w5 ∧
    (∀ j, j < T.size → w5.cell? ⟨w.heap.size, j, none⟩ = some (.int .u8 ((T.data.toList.getD j 0).toNat : Int))) ∧ (∀ j, j < T.size → w5.frozen? ⟨w.heap.size, j, none⟩ = false) ∧ Below w.heap.size w w5 := by
  have hnew := Lib.bytesWorld_at_new w 5 T
  refine ⟨grownCap w T.size 0 5, Lib.bytesWorld w 5 T, Lib.run_convert_string_bytes (P := Tryz.prog) w 9 103 5 T Tryz.underlying9 Tryz.underlying103 Tryz.underlying5, ?_, ?_, ?_⟩
  · intro j hj; exact Lib.bytesWorld_cell w 5 T j hj
  · intro j hj
    have : T.size ≤ (Lib.bytesCells w 5 T).size := by simp [Lib.bytesCells]
    simp [World.frozen?, hnew]
    omega
  · exact ⟨rfl, rfl, rfl, by rw [Lib.bytesWorld_size]; omega, fun k hk => Lib.bytesWorld_at_old w _ T k hk⟩

def lowAt (l : List UInt8) (k j : Nat) : UInt8 := if j < k then lowB (l.getD j 0) else l.getD j 0
theorem low_zero (l : List UInt8) (j : Nat) : lowAt l 0 j = l.getD j 0 := if_neg (Nat.not_lt_zero _)
theorem low_here (l : List UInt8) (k : Nat) : lowAt l k k = l.getD k 0 := if_neg (Nat.lt_irrefl _)
theorem low_next (l : List UInt8) (k : Nat) : lowAt l (k + 1) k = lowB (l.getD k 0) := if_pos (Nat.lt_succ_self _)
theorem low_else (l : List UInt8) {k j : Nat} (h : j ≠ k) : lowAt l (k + 1) j = lowAt l k j := by
  unfold lowAt
  by_cases h1 : j < k
  · rw [if_pos h1, if_pos (by omega)]
  · rw [if_neg h1, if_neg (by omega)]
/-- The row under way. -/
structure LowRow (l : List UInt8) (n g k : Nat) (w : World) : Prop where
  cell : ∀ j, j < n → w.cell? ⟨g, j, none⟩ = some (.int .u8 ((lowAt l k j).toNat : Int))
  open_ : ∀ j, j < n → w.frozen? ⟨g, j, none⟩ = false
theorem LowRow.on {l : List UInt8} {n g k : Nat} {w : World} (h : LowRow l n g k w) (hn : lowB (l.getD k 0) = l.getD k 0) : LowRow l n g (k + 1) w :=
  ⟨fun j hj => by
    by_cases e : j = k
    · subst e; rw [h.cell j hj, low_here, low_next, hn]
    · rw [h.cell j hj, low_else l e], h.open_⟩
theorem LowRow.put {l : List UInt8} {n g k : Nat} {w : World} (h : LowRow l n g k w) (hk : k < n) : LowRow l n g (k + 1) (w.setCell ⟨g, k, none⟩ (.int .u8 ((lowB (l.getD k 0)).toNat : Int))) :=
  ⟨fun j hj => by
    by_cases e : j = k
    · subst e
      rw [World.cell?_setCell_same (w := w) (a := ⟨g, j, none⟩) (v := .int .u8 ((lowB (l.getD j 0)).toNat : Int)) (h.cell j hj), low_next]
    · rw [World.cell?_setCell_other (w := w) (a := ⟨g, k, none⟩) (b := ⟨g, j, none⟩) (v := .int .u8 ((lowB (l.getD k 0)).toNat : Int)) (by intro x; cases x; exact e rfl), h.cell j hj, low_else l e],
   fun j hj => by rw [World.frozen?_setCell]; exact h.open_ j hj⟩
theorem LowRow.back {l : List UInt8} {n g C : Nat} {w : World} (h : LowRow l n g n w) (hn : l.length = n) :
    (convert 103 9 (.slice (some ⟨g, 0, none⟩) n C)).run Tryz.prog w = .ok (.string ⟨(l.map lowB).toArray⟩) w := by
  have := run_convert_bytes_back (P := Tryz.prog) w 103 9 5 ⟨g, 0, none⟩ C (l.map lowB) Tryz.underlying103 Tryz.underlying5 Tryz.underlying9 ?_
  · rw [List.length_map, hn] at this; exact this
  · intro j hj
    rw [List.length_map] at hj
    rw [Addr.add_lit, Nat.zero_add, h.cell j (by omega), lowAt, if_pos (by omega), List.getD_eq_getElem?_getD, List.getElem?_eq_getElem hj, List.getElem_map]
    rfl

set_option maxHeartbeats 2000000 in
set_option maxRecDepth 100000 in
theorem l06Low_any (s : ByteArray) (w : World) (hs : s.size ≤ 1048576) :
    Calls Tryz.prog 63 #[.string s] w fun e w' => e = .returned (.string ⟨(s.data.toList.map lowB).toArray⟩) ∧ Below w.heap.size w w' := by
  obtain ⟨C, w5, hconv, hcell, hfz, hb5⟩ := low_bytes w s
  have R0 : Hid (LowRow s.data.toList s.size w.heap.size 0 w5) := ⟨fun j hj => by rw [low_zero]; exact hcell j hj, hfz⟩
  have B0 := hide hb5
  have HL : Hid (s.data.toList.length = s.size) := rfl
  clear hcell hfz hb5
  go_enter Tryz.func63, Tryz.ntmps63
  go_wp2
  clear hconv
  go_loopw [4] (fun i wr => ∃ k : Nat, k ≤ s.size ∧ i = .int .i64 k ∧ LowRow s.data.toList s.size w.heap.size k wr ∧ Below w.heap.size w wr) (fun i _ => s.size - (intOf i).toNat)
  case atStart => exact ⟨0, Nat.zero_le _, rfl, unhide R0, unhide B0⟩
  case round =>
    obtain ⟨k, hk, rfl, hrow, hbel⟩ := hrel
    by_cases hlt : k < s.size
    · have ck := hrow.cell k hlt
      have fk := hrow.open_ k hlt
      rw [low_here] at ck
      have PUT := hide (hrow.put hlt)
      have ON := hide (fun h => hrow.on h)
      have IN := hide (fun a b => lowB_in (b := s.data.toList.getD k 0) a b)
      have NO := hide (fun a => lowB_no (b := s.data.toList.getD k 0) a)
      have hx : (s.data.toList.getD k 0).toNat < 256 := UInt8.toNat_lt _
      have BW := hide hbel
      clear hrow hbel
      generalize s.data.toList.getD k 0 = x at *
      have i1 : (0 : Int) ≤ (k : Int) := by omega
      have i2 : (k : Int) < (s.size : Int) := by omega
      by_cases h1 : 65 ≤ x.toNat
      · have d1 : decide ((65 : Int) ≤ (x.toNat : Int)) = true := by rw [decide_eq_true_eq]; omega
        by_cases h2 : x.toNat ≤ 90
        · have d2 : decide ((x.toNat : Int) ≤ 90) = true := by rw [decide_eq_true_eq]; omega
          have E : Hid ((lowB x).toNat = x.toNat + 32) := by
            show (lowB x).toNat = _
            rw [unhide IN h1 h2, UInt8.toNat_ofNat']
            omega
          have P := hide (unhide PUT)
          rw [unhide E] at P
          have BS := hide ((unhide BW).setCell (p := ⟨w.heap.size, k, none⟩) (Nat.le_refl _) (.int .u8 ((x.toNat + 32 : Nat) : Int)))
          clear PUT
          go_wp2
          exact ⟨⟨k + 1, by omega, by go_num, by simpa using unhide P, by simpa using unhide BS⟩, by simp [intOf]; omega⟩
        · have d2 : decide ((x.toNat : Int) ≤ 90) = false := by rw [decide_eq_false_iff_not]; omega
          have P := hide (unhide ON (unhide NO (fun h => h2 h.2)))
          go_wp2
          exact ⟨⟨k + 1, by omega, by go_num, unhide P, unhide BW⟩, by simp [intOf]; omega⟩
      · have d1 : decide ((65 : Int) ≤ (x.toNat : Int)) = false := by rw [decide_eq_false_iff_not]; omega
        have P := hide (unhide ON (unhide NO (fun h => h1 h.1)))
        go_wp2
        exact ⟨⟨k + 1, by omega, by go_num, unhide P, unhide BW⟩, by simp [intOf]; omega⟩
    · have e : k = s.size := by omega
      subst e
      have hcv := hrow.back (C := C) (unhide HL)
      go_wp2
      go_ret
      exact ⟨rfl, hbel⟩

namespace Plain
end Plain

end Go.Proofs.YtihdgfihdecalaaGreatDoor

/- Mails: the specification's PartOf, MailOk, l07Trim. -/
namespace Go.Proofs.YtihdgfihdecalaaGreatDoor
open Go.RowKit
open Plain
set_option linter.unusedVariables false

namespace Plain
theorem cut_bytes (s : ByteArray) (b i : Nat) : s.extract b i = ⟨((s.data.toList.drop b).take (i - b)).toArray⟩ := by
  apply ByteArray.ext
  apply Array.toList_inj.1
  rw [Lib.extract_data]
end Plain

namespace Plain
theorem all_step {t : List UInt8} {k : Nat} {x : UInt8} (h : t[k]? = some x) (ha : (t.take k).all (fun b => b != 0) = true) (hx : x ≠ 0) : (t.take (k + 1)).all (fun b => b != 0) = true := by
  rw [List.take_add_one, h, List.all_append, ha]
  simpa using hx
theorem all_no {t : List UInt8} {k : Nat} (h : t[k]? = some 0) : t.all (fun b => b != 0) = false := by
  rw [List.all_eq_false]
  exact ⟨0, List.mem_of_getElem? h, by decide⟩
end Plain

set_option maxHeartbeats 2000000 in
set_option maxRecDepth 100000 in
theorem spec_MailOk_any (s : ByteArray) (w : World) (hs : s.size ≤ 1048576) :
    Calls Tryz.prog 44 #[.string s] w fun e w' => e = .returned (.bool (mailOkL s.data.toList)) ∧ w' = w := by
  have Q := hide (l01In_held (s.size : Int) 1 200 w)
  go_enter Tryz.func44, Tryz.ntmps44
  go_wp2
  go_loop [3] (fun i => ∃ k : Nat, k ≤ s.size ∧ i = .int .i64 k ∧ (s.data.toList.take k).all (fun b => b != 0) = true) (fun i => s.size - (intOf i).toNat)
  case atStart => exact ⟨0, Nat.zero_le _, rfl, rfl⟩
  case round =>
    obtain ⟨k, hk, rfl, hall⟩ := hrel
    by_cases hlt : k < s.size
    · have hb := byte_at hlt
      by_cases h0 : s[k].toNat = 0
      · have t0 : ((s[k].toNat : Int) == 0) = true := by rw [beq_iff_eq]; omega
        have e0 : s[k] = 0 := UInt8.toNat_inj.1 h0
        have V : Hid (mailOkL s.data.toList = false) := by
          show mailOkL _ = false
          unfold mailOkL
          rw [all_no (by rw [hb, e0])]
          rfl
        clear hall hb e0 h0
        go_wp2
        go_ret
        exact ⟨by rw [unhide V]; rfl, rfl⟩
      · have t0 : ((s[k].toNat : Int) == 0) = false := by rw [beq_eq_false_iff_ne]; omega
        have ST := hide (all_step hb hall (fun e => h0 (by rw [e]; rfl)))
        clear hall hb h0
        go_wp2
        exact ⟨⟨k + 1, by omega, by go_num, unhide ST⟩, by simp [intOf]; omega⟩
    · have e : s.data.toList.take k = s.data.toList := List.take_of_length_le (by show s.size ≤ k; omega)
      rw [e] at hall
      have V : Hid (mailOkL s.data.toList = (decide ((1 : Int) ≤ (s.size : Int)) && decide ((s.size : Int) ≤ 200))) := by
        show mailOkL _ = _
        unfold mailOkL
        rw [hall, Bool.true_and, show s.data.toList.length = s.size from rfl]
        congr 1
        · apply decide_eq_decide.2; omega
        · apply decide_eq_decide.2; omega
      clear hall e
      go_wp2_with (go_at_call 42; refine (unhide Q).mono ?_; rintro e w1 ⟨rfl, hw1⟩; subst w1)
      go_ret
      exact ⟨by rw [unhide V]; rfl, rfl⟩

def strSize : Value → Nat
  | .string u => u.size
  | _ => 0
namespace Plain
theorem first_out {u : ByteArray} (h : 0 < u.size) : u.data.toList = u[0] :: (u.extract 1 u.size).data.toList := by
  rw [Lib.extract_data, List.take_of_length_le (by rw [List.length_drop]; exact Nat.le_refl _)]
  have := byte_at h
  cases hl : u.data.toList with
  | nil => rw [hl] at this; simp at this
  | cons x r =>
    rw [hl] at this
    have e : x = u[0] := by simpa using this
    rw [e]; rfl
theorem last_out {u : ByteArray} (h : u.size - 1 < u.size) : u.data.toList = (u.extract 0 (u.size - 1)).data.toList ++ [u[u.size - 1]] := by
  rw [Lib.extract_data, List.drop_zero, Nat.sub_zero]
  have hb := byte_at h
  have := List.take_add_one (l := u.data.toList) (i := u.size - 1)
  rw [hb, show u.size - 1 + 1 = u.size by omega, List.take_of_length_le (show u.data.toList.length ≤ u.size from Nat.le_refl _)] at this
  exact this
end Plain

set_option maxHeartbeats 2000000 in
set_option maxRecDepth 100000 in
theorem l07Trim_any (s : ByteArray) (w : World) (hs : s.size ≤ 1048576) :
    Calls Tryz.prog 64 #[.string s] w fun e w' => e = .returned (.string ⟨(trimL s.data.toList).toArray⟩) ∧ w' = w := by
  go_enter Tryz.func64, Tryz.ntmps64
  go_wp2
  go_loop [0] (fun v => ∃ u : ByteArray, u.size ≤ 1048576 ∧ v = .string u ∧ trimA u.data.toList = trimA s.data.toList) (fun v => strSize v)
  case atStart => exact ⟨s, hs, rfl, rfl⟩
  case round =>
    obtain ⟨u, hu, rfl, htr⟩ := hrel
    by_cases h0 : 0 < u.size
    · have d0 : decide ((0 : Int) < (u.size : Int)) = true := by rw [decide_eq_true_eq]; omega
      have F := first_out h0
      by_cases h32 : u[0].toNat = 32
      · have t0 : ((u[0].toNat : Int) == 32) = true := by rw [beq_iff_eq]; omega
        have e0 : u[0] = 32 := UInt8.toNat_inj.1 h32
        rw [F, e0, trimA_cons] at htr
        have TR := hide htr
        have hsz : (u.extract 1 u.size).size = u.size - 1 := by rw [ByteArray.size_extract]; omega
        have HZ := hide hsz
        have i1 : (1 : Int) ≤ (u.size : Int) := by omega
        clear htr F e0 h32 hsz
        go_wp2
        exact ⟨⟨u.extract 1 u.size, by rw [unhide HZ]; omega, rfl, unhide TR⟩, by show (u.extract 1 u.size).size < u.size; rw [unhide HZ]; omega⟩
      · have t0 : ((u[0].toNat : Int) == 32) = false := by rw [beq_eq_false_iff_ne]; omega
        have TA : Hid (u.data.toList = trimA s.data.toList) := by
          show _ = _
          rw [← htr, F, trimA_no _ (fun e => h32 (by rw [e]; rfl))]
        clear htr F h32
        go_wp2
        go_loop [0] (fun v => ∃ z : ByteArray, z.size ≤ 1048576 ∧ v = .string z ∧ trimZ z.data.toList = trimL s.data.toList) (fun v => strSize v)
        case atStart => exact ⟨u, hu, rfl, by rw [unhide TA]; rfl⟩
        case round =>
          obtain ⟨z, hz, rfl, htr⟩ := hrel
          by_cases k0 : 0 < z.size
          · have d1 : decide ((0 : Int) < (z.size : Int)) = true := by rw [decide_eq_true_eq]; omega
            have k1 : z.size - 1 < z.size := by omega
            have i0 : (1 : Int) ≤ (z.size : Int) := by omega
            have F := last_out k1
            by_cases h32 : z[z.size - 1].toNat = 32
            · have t1 : ((z[z.size - 1].toNat : Int) == 32) = true := by rw [beq_iff_eq]; omega
              have e0 : z[z.size - 1] = 32 := UInt8.toNat_inj.1 h32
              rw [F, e0, trimZ_snoc] at htr
              have TR := hide htr
              have hsz : (z.extract 0 (z.size - 1)).size = z.size - 1 := by rw [ByteArray.size_extract]; omega
              have HZ := hide hsz
              clear htr F e0 h32 hsz
              go_wp2
              exact ⟨⟨z.extract 0 (z.size - 1), by rw [unhide HZ]; omega, rfl, unhide TR⟩, by show (z.extract 0 (z.size - 1)).size < z.size; rw [unhide HZ]; omega⟩
            · have t1 : ((z[z.size - 1].toNat : Int) == 32) = false := by rw [beq_eq_false_iff_ne]; omega
              have TZ : Hid (z.data.toList = trimL s.data.toList) := by
                show _ = _
                rw [← htr]
                have := trimZ_no (z.extract 0 (z.size - 1)).data.toList (b := z[z.size - 1]) (fun e => h32 (by rw [e]; rfl))
                rw [← F] at this
                exact this.symm
              clear htr F h32
              go_wp2
              go_ret
              exact ⟨by rw [← unhide TZ]; rfl, rfl⟩
          · have d1 : decide ((0 : Int) < (z.size : Int)) = false := by rw [decide_eq_false_iff_not]; omega
            have zn : z.data.toList = [] := List.eq_nil_of_length_eq_zero (by show z.size = 0; omega)
            have TZ : Hid (z.data.toList = trimL s.data.toList) := by
              show _ = _
              rw [← htr, zn]
              rfl
            clear htr zn
            go_wp2
            go_ret
            exact ⟨by rw [← unhide TZ]; rfl, rfl⟩
    · have d0 : decide ((0 : Int) < (u.size : Int)) = false := by rw [decide_eq_false_iff_not]; omega
      have un : u.data.toList = [] := List.eq_nil_of_length_eq_zero (by show u.size = 0; omega)
      have TA : Hid (u.data.toList = trimA s.data.toList) := by
        show _ = _
        rw [← htr, un]
        rfl
      clear htr un
      go_wp2
      go_loop [0] (fun v => ∃ z : ByteArray, z.size ≤ 1048576 ∧ v = .string z ∧ trimZ z.data.toList = trimL s.data.toList) (fun v => strSize v)
      case atStart => exact ⟨u, hu, rfl, by rw [unhide TA]; rfl⟩
      case round =>
        obtain ⟨z, hz, rfl, htr⟩ := hrel
        by_cases k0 : 0 < z.size
        · have d1 : decide ((0 : Int) < (z.size : Int)) = true := by rw [decide_eq_true_eq]; omega
          have k1 : z.size - 1 < z.size := by omega
          have i0 : (1 : Int) ≤ (z.size : Int) := by omega
          have F := last_out k1
          by_cases h32 : z[z.size - 1].toNat = 32
          · have t1 : ((z[z.size - 1].toNat : Int) == 32) = true := by rw [beq_iff_eq]; omega
            have e0 : z[z.size - 1] = 32 := UInt8.toNat_inj.1 h32
            rw [F, e0, trimZ_snoc] at htr
            have TR := hide htr
            have hsz : (z.extract 0 (z.size - 1)).size = z.size - 1 := by rw [ByteArray.size_extract]; omega
            have HZ := hide hsz
            clear htr F e0 h32 hsz
            go_wp2
            exact ⟨⟨z.extract 0 (z.size - 1), by rw [unhide HZ]; omega, rfl, unhide TR⟩, by show (z.extract 0 (z.size - 1)).size < z.size; rw [unhide HZ]; omega⟩
          · have t1 : ((z[z.size - 1].toNat : Int) == 32) = false := by rw [beq_eq_false_iff_ne]; omega
            have TZ : Hid (z.data.toList = trimL s.data.toList) := by
              show _ = _
              rw [← htr]
              have := trimZ_no (z.extract 0 (z.size - 1)).data.toList (b := z[z.size - 1]) (fun e => h32 (by rw [e]; rfl))
              rw [← F] at this
              exact this.symm
            clear htr F h32
            go_wp2
            go_ret
            exact ⟨by rw [← unhide TZ]; rfl, rfl⟩
        · have d1 : decide ((0 : Int) < (z.size : Int)) = false := by rw [decide_eq_false_iff_not]; omega
          have zn : z.data.toList = [] := List.eq_nil_of_length_eq_zero (by show z.size = 0; omega)
          have TZ : Hid (z.data.toList = trimL s.data.toList) := by
            show _ = _
            rw [← htr, zn]
            rfl
          clear htr zn
          go_wp2
          go_ret
          exact ⟨by rw [← unhide TZ]; rfl, rfl⟩
end Go.Proofs.YtihdgfihdecalaaGreatDoor
