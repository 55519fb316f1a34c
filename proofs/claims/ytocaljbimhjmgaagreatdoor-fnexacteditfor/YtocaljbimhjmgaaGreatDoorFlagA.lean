/- Several texts in one: FlagS, FlagTextS, FlagReadS, MailS. Made by fuse_tl.py. -/
import Derived.Test.YtocaljbimhjmgaaGreatDoorBmA
import Derived.Test.YtocaljbimhjmgaaGreatDoorPlainA
import Derived.Deep.AppendLies
import Derived.Lib.ConvBytes
/- Flags: the specification's FlagsOk, l06And, FlagsAfter. -/
namespace Go.Proofs.YtocaljbimhjmgaaGreatDoor
open Go.RowKit
open Plain
set_option linter.unusedVariables false

theorem l01In_held (x l m : Int) (w : World) : Calls Tryz.prog 40 #[.int .i64 x, .int .i64 l, .int .i64 m] w fun e w' => e = .returned (.bool (decide (l ≤ x) && decide (x ≤ m))) ∧ w' = w := by
  by_cases h : l ≤ x
  · have hd : decide (l ≤ x) = true := by simpa using h
    by_cases h2 : x ≤ m
    · have hd2 : decide (x ≤ m) = true := by simpa using h2
      rw [hd, hd2]
      go_enter Tryz.func40, Tryz.ntmps40
      go_wp2
      go_ret
      exact ⟨rfl, rfl⟩
    · have hd2 : decide (x ≤ m) = false := by simpa using h2
      rw [hd, hd2]
      go_enter Tryz.func40, Tryz.ntmps40
      go_wp2
      go_ret
      exact ⟨rfl, rfl⟩
  · have hd : decide (l ≤ x) = false := by simpa using h
    rw [hd]
    go_enter Tryz.func40, Tryz.ntmps40
    go_wp2
    go_ret
    exact ⟨rfl, rfl⟩
theorem spec_FlagsOk_any (b : Int) (w : World) :
    Calls Tryz.prog 44 #[.int .i64 b] w fun e w' => e = .returned (.bool (flOk b)) ∧ w' = w := by
  have q := hide (l01In_held b 0 31 w)
  go_enter Tryz.func44, Tryz.ntmps44
  go_wp2_with (go_at_call 40; refine (unhide q).mono ?_; rintro e w1 ⟨rfl, hw1⟩; subst w1)
  go_ret
  exact ⟨rfl, rfl⟩

namespace Plain
end Plain

end Go.Proofs.YtocaljbimhjmgaaGreatDoor

/- Flags: the specification's l06Names, FlagsText, l06Bit. -/
namespace Go.Proofs.YtocaljbimhjmgaaGreatDoor
open Go.RowKit
open Plain
set_option linter.unusedVariables false

namespace Plain
end Plain

theorem l06Names_any (w : World) :
    Calls Tryz.prog 62 #[] w fun e w' => ∃ g, e = .returned (.slice (some ⟨g, 0, none⟩) 5 5) ∧ Below w.heap.size w w' ∧
      w'.cell? ⟨g, 0, none⟩ = some (.string ⟨#[115, 101, 101, 110]⟩) ∧ w'.cell? ⟨g, 1, none⟩ = some (.string ⟨#[97, 110, 115, 119, 101, 114, 101, 100]⟩) ∧ w'.cell? ⟨g, 2, none⟩ = some (.string ⟨#[102, 108, 97, 103, 103, 101, 100]⟩) ∧ w'.cell? ⟨g, 3, none⟩ = some (.string ⟨#[100, 101, 108, 101, 116, 101, 100]⟩) ∧ w'.cell? ⟨g, 4, none⟩ = some (.string ⟨#[100, 114, 97, 102, 116]⟩) := by
  have cl : ∀ (j : Nat) (u : Value), (#[.string ⟨#[115, 101, 101, 110]⟩, .string ⟨#[97, 110, 115, 119, 101, 114, 101, 100]⟩, .string ⟨#[102, 108, 97, 103, 103, 101, 100]⟩, .string ⟨#[100, 101, 108, 101, 116, 101, 100]⟩, .string ⟨#[100, 114, 97, 102, 116]⟩] : Array Value)[j]? = some u → (w.alloc (.cells #[.string ⟨#[115, 101, 101, 110]⟩, .string ⟨#[97, 110, 115, 119, 101, 114, 101, 100]⟩, .string ⟨#[102, 108, 97, 103, 103, 101, 100]⟩, .string ⟨#[100, 101, 108, 101, 116, 101, 100]⟩, .string ⟨#[100, 114, 97, 102, 116]⟩] 9)).cell? ⟨w.heap.size, j, none⟩ = some u := fun j u h => by
    simpa using h
  have CL := hide cl
  clear cl
  go_enter Tryz.func62, Tryz.ntmps62
  go_wp2
  go_ret
  exact ⟨w.heap.size, rfl, (Below.refl _ _).alloc (Nat.le_refl _) _, unhide CL 0 _ rfl, unhide CL 1 _ rfl, unhide CL 2 _ rfl, unhide CL 3 _ rfl, unhide CL 4 _ rfl⟩

namespace Plain
def bitFrom (t : List UInt8) : Nat → Int
  | 0 => if t = seenL then 1 else if t = answL then 2 else if t = flagL then 4 else if t = deleL then 8 else if t = drafL then 16 else 0
  | 1 => if t = answL then 2 else if t = flagL then 4 else if t = deleL then 8 else if t = drafL then 16 else 0
  | 2 => if t = flagL then 4 else if t = deleL then 8 else if t = drafL then 16 else 0
  | 3 => if t = deleL then 8 else if t = drafL then 16 else 0
  | 4 => if t = drafL then 16 else 0
  | _ => 0
end Plain

set_option maxHeartbeats 2000000 in
set_option maxRecDepth 100000 in
theorem l06Bit_any (s : ByteArray) (w : World) :
    Calls Tryz.prog 35 #[.string s] w fun e w' => e = .returned (.int .i64 (bitV s.data.toList)) ∧ Below w.heap.size w w' := by
  have NM := hide (l06Names_any w)
  go_enter Tryz.func35, Tryz.ntmps35
  go_wp2_with fail
  refine (unhide NM).mono ?_
  rintro e w1 ⟨g, rfl, hb, k0, k1, k2, k3, k4⟩
  have B := hide hb
  have C0 := hide k0
  have C1 := hide k1
  have C2 := hide k2
  have C3 := hide k3
  have C4 := hide k4
  clear hb k0 k1 k2 k3 k4 NM
  go_wp2
  go_loop [4, 5] (fun p i => ∃ k : Nat, k ≤ 5 ∧ i = .int .i64 k ∧ p = .int .i64 (2 ^ k) ∧ bitV s.data.toList = bitFrom s.data.toList k) (fun _ i => 5 - (intOf i).toNat)
  case atStart => exact ⟨0, by omega, rfl, rfl, rfl⟩
  case round =>
    obtain ⟨k, hk, rfl, rfl, hv⟩ := hrel
    have HV := hide hv
    clear hv
    rcases (show k = 0 ∨ k = 1 ∨ k = 2 ∨ k = 3 ∨ k = 4 ∨ k = 5 by omega) with rfl | rfl | rfl | rfl | rfl | rfl
    · simp only [Int.reducePow]
      have c0 := unhide C0
      by_cases h1 : s.data.toList = seenL
      · have e : s = ⟨#[115, 101, 101, 110]⟩ := ByteArray.ext (Array.toList_inj.1 h1)
        have V : Hid (bitV s.data.toList = 1) := (unhide HV).trans (if_pos h1)
        clear h1 HV
        subst e
        go_wp2
        go_ret
        exact ⟨by rw [unhide V]; rfl, unhide B⟩
      · have V : Hid (bitV s.data.toList = bitFrom s.data.toList 1) := (unhide HV).trans (if_neg h1)
        have tF : (([115, 101, 101, 110] : List UInt8) == s.toList) = false := by rw [ByteArray.toList_eq, beq_eq_false_iff_ne]; exact fun h => h1 h.symm
        clear h1 HV
        go_wp2
        exact ⟨⟨1, by omega, rfl, rfl, unhide V⟩, by decide⟩
    · simp only [Int.reducePow]
      have c1 := unhide C1
      by_cases h1 : s.data.toList = answL
      · have e : s = ⟨#[97, 110, 115, 119, 101, 114, 101, 100]⟩ := ByteArray.ext (Array.toList_inj.1 h1)
        have V : Hid (bitV s.data.toList = 2) := (unhide HV).trans (if_pos h1)
        clear h1 HV
        subst e
        go_wp2
        go_ret
        exact ⟨by rw [unhide V]; rfl, unhide B⟩
      · have V : Hid (bitV s.data.toList = bitFrom s.data.toList 2) := (unhide HV).trans (if_neg h1)
        have tF : (([97, 110, 115, 119, 101, 114, 101, 100] : List UInt8) == s.toList) = false := by rw [ByteArray.toList_eq, beq_eq_false_iff_ne]; exact fun h => h1 h.symm
        clear h1 HV
        go_wp2
        exact ⟨⟨2, by omega, rfl, rfl, unhide V⟩, by decide⟩
    · simp only [Int.reducePow]
      have c2 := unhide C2
      by_cases h1 : s.data.toList = flagL
      · have e : s = ⟨#[102, 108, 97, 103, 103, 101, 100]⟩ := ByteArray.ext (Array.toList_inj.1 h1)
        have V : Hid (bitV s.data.toList = 4) := (unhide HV).trans (if_pos h1)
        clear h1 HV
        subst e
        go_wp2
        go_ret
        exact ⟨by rw [unhide V]; rfl, unhide B⟩
      · have V : Hid (bitV s.data.toList = bitFrom s.data.toList 3) := (unhide HV).trans (if_neg h1)
        have tF : (([102, 108, 97, 103, 103, 101, 100] : List UInt8) == s.toList) = false := by rw [ByteArray.toList_eq, beq_eq_false_iff_ne]; exact fun h => h1 h.symm
        clear h1 HV
        go_wp2
        exact ⟨⟨3, by omega, rfl, rfl, unhide V⟩, by decide⟩
    · simp only [Int.reducePow]
      have c3 := unhide C3
      by_cases h1 : s.data.toList = deleL
      · have e : s = ⟨#[100, 101, 108, 101, 116, 101, 100]⟩ := ByteArray.ext (Array.toList_inj.1 h1)
        have V : Hid (bitV s.data.toList = 8) := (unhide HV).trans (if_pos h1)
        clear h1 HV
        subst e
        go_wp2
        go_ret
        exact ⟨by rw [unhide V]; rfl, unhide B⟩
      · have V : Hid (bitV s.data.toList = bitFrom s.data.toList 4) := (unhide HV).trans (if_neg h1)
        have tF : (([100, 101, 108, 101, 116, 101, 100] : List UInt8) == s.toList) = false := by rw [ByteArray.toList_eq, beq_eq_false_iff_ne]; exact fun h => h1 h.symm
        clear h1 HV
        go_wp2
        exact ⟨⟨4, by omega, rfl, rfl, unhide V⟩, by decide⟩
    · simp only [Int.reducePow]
      have c4 := unhide C4
      by_cases h1 : s.data.toList = drafL
      · have e : s = ⟨#[100, 114, 97, 102, 116]⟩ := ByteArray.ext (Array.toList_inj.1 h1)
        have V : Hid (bitV s.data.toList = 16) := (unhide HV).trans (if_pos h1)
        clear h1 HV
        subst e
        go_wp2
        go_ret
        exact ⟨by rw [unhide V]; rfl, unhide B⟩
      · have V : Hid (bitV s.data.toList = bitFrom s.data.toList 5) := (unhide HV).trans (if_neg h1)
        have tF : (([100, 114, 97, 102, 116] : List UInt8) == s.toList) = false := by rw [ByteArray.toList_eq, beq_eq_false_iff_ne]; exact fun h => h1 h.symm
        clear h1 HV
        go_wp2
        exact ⟨⟨5, by omega, rfl, rfl, unhide V⟩, by decide⟩
    · simp only [Int.reducePow]
      go_wp2
      go_ret
      exact ⟨by rw [unhide HV]; rfl, unhide B⟩
end Go.Proofs.YtocaljbimhjmgaaGreatDoor

/- Flags: the specification's l06Low, ReadFlags. -/
namespace Go.Proofs.YtocaljbimhjmgaaGreatDoor
open Go.RowKit
open Plain
set_option linter.unusedVariables false

/-- A text as bytes: a new row. -/
theorem low_bytes (w : World) (T : ByteArray) : ∃ (C : Nat) (w5 : World), (convert 9 89 (.string T)).run Tryz.prog w = .ok (.slice (some ⟨w.heap.size, 0, none⟩) T.size C) w5 ∧
    (∀ j, j < T.size → w5.cell? ⟨w.heap.size, j, none⟩ = some (.int .u8 ((T.data.toList.getD j 0).toNat : Int))) ∧ (∀ j, j < T.size → w5.frozen? ⟨w.heap.size, j, none⟩ = false) ∧ Below w.heap.size w w5 := by
  have hnew := Lib.bytesWorld_at_new w 5 T
  refine ⟨grownCap w T.size 0 5, Lib.bytesWorld w 5 T, Lib.run_convert_string_bytes (P := Tryz.prog) w 9 89 5 T Tryz.underlying9 Tryz.underlying89 Tryz.underlying5, ?_, ?_, ?_⟩
  · intro j hj; exact Lib.bytesWorld_cell w 5 T j hj
  · intro j hj
    have : T.size ≤ (Lib.bytesCells w 5 T).size := by simp [Lib.bytesCells]
    simp [World.frozen?, hnew]
    omega
  · exact ⟨rfl, rfl, rfl, by rw [Lib.bytesWorld_size]; omega, fun k hk => Lib.bytesWorld_at_old w _ T k hk⟩

def lowAt (l : List UInt8) (k j : Nat) : UInt8 := if j < k then lowB (l.getD j 0) else l.getD j 0
theorem low_zero (l : List UInt8) (j : Nat) : lowAt l 0 j = l.getD j 0 := if_neg (Nat.not_lt_zero _)
theorem low_here (l : List UInt8) (k : Nat) : lowAt l k k = l.getD k 0 := if_neg (Nat.lt_irrefl _)
theorem low_next (l : List UInt8) (k : Nat) : lowAt l (k + 1) k = lowB (l.getD k 0) := if_pos (Nat.lt_succ_self _)
theorem low_else (l : List UInt8) {k j : Nat} (h : j ≠ k) : lowAt l (k + 1) j = lowAt l k j := by
  unfold lowAt
  by_cases h1 : j < k
  · rw [if_pos h1, if_pos (by omega)]
  · rw [if_neg h1, if_neg (by omega)]
/-- The row under way. -/
structure LowRow (l : List UInt8) (n g k : Nat) (w : World) : Prop where
  cell : ∀ j, j < n → w.cell? ⟨g, j, none⟩ = some (.int .u8 ((lowAt l k j).toNat : Int))
  open_ : ∀ j, j < n → w.frozen? ⟨g, j, none⟩ = false
theorem LowRow.on {l : List UInt8} {n g k : Nat} {w : World} (h : LowRow l n g k w) (hn : lowB (l.getD k 0) = l.getD k 0) : LowRow l n g (k + 1) w :=
  ⟨fun j hj => by
    by_cases e : j = k
    · subst e; rw [h.cell j hj, low_here, low_next, hn]
    · rw [h.cell j hj, low_else l e], h.open_⟩
theorem LowRow.put {l : List UInt8} {n g k : Nat} {w : World} (h : LowRow l n g k w) (hk : k < n) : LowRow l n g (k + 1) (w.setCell ⟨g, k, none⟩ (.int .u8 ((lowB (l.getD k 0)).toNat : Int))) :=
  ⟨fun j hj => by
    by_cases e : j = k
    · subst e
      rw [World.cell?_setCell_same (w := w) (a := ⟨g, j, none⟩) (v := .int .u8 ((lowB (l.getD j 0)).toNat : Int)) (h.cell j hj), low_next]
    · rw [World.cell?_setCell_other (w := w) (a := ⟨g, k, none⟩) (b := ⟨g, j, none⟩) (v := .int .u8 ((lowB (l.getD k 0)).toNat : Int)) (by intro x; cases x; exact e rfl), h.cell j hj, low_else l e],
   fun j hj => by rw [World.frozen?_setCell]; exact h.open_ j hj⟩
theorem LowRow.back {l : List UInt8} {n g C : Nat} {w : World} (h : LowRow l n g n w) (hn : l.length = n) :
    (convert 89 9 (.slice (some ⟨g, 0, none⟩) n C)).run Tryz.prog w = .ok (.string ⟨(l.map lowB).toArray⟩) w := by
  have := run_convert_bytes_back (P := Tryz.prog) w 89 9 5 ⟨g, 0, none⟩ C (l.map lowB) Tryz.underlying89 Tryz.underlying5 Tryz.underlying9 ?_
  · rw [List.length_map, hn] at this; exact this
  · intro j hj
    rw [List.length_map] at hj
    rw [Addr.add_lit, Nat.zero_add, h.cell j (by omega), lowAt, if_pos (by omega), List.getD_eq_getElem?_getD, List.getElem?_eq_getElem hj, List.getElem_map]
    rfl

set_option maxHeartbeats 2000000 in
set_option maxRecDepth 100000 in
theorem l06Low_any (s : ByteArray) (w : World) (hs : s.size ≤ 1048576) :
    Calls Tryz.prog 34 #[.string s] w fun e w' => e = .returned (.string ⟨(s.data.toList.map lowB).toArray⟩) ∧ Below w.heap.size w w' := by
  obtain ⟨C, w5, hconv, hcell, hfz, hb5⟩ := low_bytes w s
  have R0 : Hid (LowRow s.data.toList s.size w.heap.size 0 w5) := ⟨fun j hj => by rw [low_zero]; exact hcell j hj, hfz⟩
  have B0 := hide hb5
  have HL : Hid (s.data.toList.length = s.size) := rfl
  clear hcell hfz hb5
  go_enter Tryz.func34, Tryz.ntmps34
  go_wp2
  clear hconv
  go_loopw [4] (fun i wr => ∃ k : Nat, k ≤ s.size ∧ i = .int .i64 k ∧ LowRow s.data.toList s.size w.heap.size k wr ∧ Below w.heap.size w wr) (fun i _ => s.size - (intOf i).toNat)
  case atStart => exact ⟨0, Nat.zero_le _, rfl, unhide R0, unhide B0⟩
  case round =>
    obtain ⟨k, hk, rfl, hrow, hbel⟩ := hrel
    by_cases hlt : k < s.size
    · have ck := hrow.cell k hlt
      have fk := hrow.open_ k hlt
      rw [low_here] at ck
      have PUT := hide (hrow.put hlt)
      have ON := hide (fun h => hrow.on h)
      have IN := hide (fun a b => lowB_in (b := s.data.toList.getD k 0) a b)
      have NO := hide (fun a => lowB_no (b := s.data.toList.getD k 0) a)
      have hx : (s.data.toList.getD k 0).toNat < 256 := UInt8.toNat_lt _
      have BW := hide hbel
      clear hrow hbel
      generalize s.data.toList.getD k 0 = x at *
      have i1 : (0 : Int) ≤ (k : Int) := by omega
      have i2 : (k : Int) < (s.size : Int) := by omega
      by_cases h1 : 65 ≤ x.toNat
      · have d1 : decide ((65 : Int) ≤ (x.toNat : Int)) = true := by rw [decide_eq_true_eq]; omega
        by_cases h2 : x.toNat ≤ 90
        · have d2 : decide ((x.toNat : Int) ≤ 90) = true := by rw [decide_eq_true_eq]; omega
          have E : Hid ((lowB x).toNat = x.toNat + 32) := by
            show (lowB x).toNat = _
            rw [unhide IN h1 h2, UInt8.toNat_ofNat']
            omega
          have P := hide (unhide PUT)
          rw [unhide E] at P
          have BS := hide ((unhide BW).setCell (p := ⟨w.heap.size, k, none⟩) (Nat.le_refl _) (.int .u8 ((x.toNat + 32 : Nat) : Int)))
          clear PUT
          go_wp2
          exact ⟨⟨k + 1, by omega, by go_num, by simpa using unhide P, by simpa using unhide BS⟩, by simp [intOf]; omega⟩
        · have d2 : decide ((x.toNat : Int) ≤ 90) = false := by rw [decide_eq_false_iff_not]; omega
          have P := hide (unhide ON (unhide NO (fun h => h2 h.2)))
          go_wp2
          exact ⟨⟨k + 1, by omega, by go_num, unhide P, unhide BW⟩, by simp [intOf]; omega⟩
      · have d1 : decide ((65 : Int) ≤ (x.toNat : Int)) = false := by rw [decide_eq_false_iff_not]; omega
        have P := hide (unhide ON (unhide NO (fun h => h1 h.1)))
        go_wp2
        exact ⟨⟨k + 1, by omega, by go_num, unhide P, unhide BW⟩, by simp [intOf]; omega⟩
    · have e : k = s.size := by omega
      subst e
      have hcv := hrow.back (C := C) (unhide HL)
      go_wp2
      go_ret
      exact ⟨rfl, hbel⟩

namespace Plain
theorem shut_parts {t : List UInt8} (h : shutF t = true) : 2 ≤ t.length ∧ t[0]? = some 40 ∧ t[t.length - 1]? = some 41 := by
  unfold shutF at h
  simpa [and_assoc] using h
theorem shut_not {t : List UInt8} (h2 : 2 ≤ t.length) (h : shutF t = false) (h0 : t[0]? = some 40) : t[t.length - 1]? ≠ some 41 := by
  intro h1
  unfold shutF at h
  rw [decide_eq_true h2, h0, h1] at h
  cases h
end Plain

set_option maxHeartbeats 4000000 in
set_option maxRecDepth 100000 in
theorem spec_ReadFlags_any (s : ByteArray) (w : World) (hs : s.size ≤ 1048576) :
    Calls Tryz.prog 18 #[.string s] w fun e w' => e = .returned (.tuple #[.int .i64 (readF s.data.toList).1, .bool (readF s.data.toList).2]) ∧ Below w.heap.size w w' := by
  by_cases h2 : 2 ≤ s.size
  · have d : decide ((s.size : Int) < 2) = false := by rw [decide_eq_false_iff_not]; omega
    have h0s : 0 < s.size := by omega
    have h1s : s.size - 1 < s.size := by omega
    have i0 : (1 : Int) ≤ (s.size : Int) := by omega
    have i1 : (0 : Int) ≤ (s.size : Int) - 1 := by omega
    have i2 : (s.size : Int) - 1 < (s.size : Int) := by omega
    have a0 := byte_at h0s
    have a1 := byte_at h1s
    cases hsh : shutF s.data.toList with
    | false =>
      have V := hide (readF_no hsh)
      by_cases h40 : s[0].toNat = 40
      · have t40 : ((s[0].toNat : Int) != 40) = false := by rw [bne_eq_false_iff_eq]; omega
        have e40 : s[0] = 40 := UInt8.toNat_inj.1 h40
        have n41 : s[s.size - 1].toNat ≠ 41 := fun h => shut_not (t := s.data.toList) h2 hsh (by rw [a0, e40]) (by
          show s.data.toList[s.size - 1]? = some 41
          rw [a1]
          exact congrArg some (UInt8.toNat_inj.1 h))
        have t41 : ((s[s.size - 1].toNat : Int) != 41) = true := by rw [bne_iff_ne]; omega
        clear a0 a1 e40 n41 hsh h40
        go_enter Tryz.func18, Tryz.ntmps18
        go_wp2
        go_ret2
        exact ⟨by rw [unhide V]; rfl, Below.refl _ _⟩
      · have t40 : ((s[0].toNat : Int) != 40) = true := by rw [bne_iff_ne]; omega
        clear a0 a1 hsh h40
        go_enter Tryz.func18, Tryz.ntmps18
        go_wp2
        go_ret2
        exact ⟨by rw [unhide V]; rfl, Below.refl _ _⟩
    | true =>
      have V := hide (readF_in hsh)
      obtain ⟨_, b0, b1⟩ := shut_parts hsh
      rw [a0] at b0
      have b1' : s.data.toList[s.size - 1]? = some 41 := b1
      rw [a1] at b1'
      have e40 : s[0] = 40 := by simpa using b0
      have e41 : s[s.size - 1] = 41 := by simpa using b1'
      have t40 : ((s[0].toNat : Int) != 40) = false := by rw [e40]; rfl
      have t41 : ((s[s.size - 1].toNat : Int) != 41) = false := by rw [e41]; rfl
      have q := l06Low_any (s.extract 1 (s.size - 1)) w (by rw [ByteArray.size_extract]; omega)
      rw [Lib.extract_data, show ((s.data.toList.drop 1).take (s.size - 1 - 1)) = inner s.data.toList from rfl] at q
      have hin : ((inner s.data.toList).map lowB).length ≤ 1048576 := by
        rw [List.length_map]
        unfold inner
        rw [List.length_take, List.length_drop]
        show min (s.size - 2) (s.size - 1) ≤ 1048576
        omega
      generalize (inner s.data.toList).map lowB = L at *
      obtain ⟨t, ht⟩ : ∃ t : ByteArray, t = ⟨L.toArray⟩ := ⟨_, rfl⟩
      have htl : t.data.toList = L := by rw [ht]
      rw [← ht] at q
      rw [← htl] at V hin
      have hts : t.size ≤ 1048576 := hin
      have Q := hide q
      have HL : Hid (t.data.toList.length = t.size) := rfl
      have FR := hide (fun (r : List (List UInt8)) (m : Int) h => fold_range r 0 m (by decide) (by decide) h)
      have PA := hide (fun (p : ByteArray) (W : World) => l06Bit_any p W)
      clear q ht htl hin b0 b1 b1' e40 e41 a0 a1 hsh
      go_enter Tryz.func18, Tryz.ntmps18
      go_wp2_with fail
      refine (unhide Q).mono ?_
      rintro e w1 ⟨rfl, hb1⟩
      have BW := hide hb1
      clear hb1 Q
      go_wp2
      go_loopw [5, 6, 7] (fun bits b i wr => ∃ (k q : Nat) (done : List (List UInt8)) (n : Int), i = .int .i64 k ∧ b = .int .i64 q ∧ bits = .int .i64 n ∧ CutC 32 t.data.toList k q done ∧ foldF (some 0) done = some n ∧ (t.data.toList = [] → n = 0) ∧ Below w.heap.size w wr) (fun _ _ i _ => t.size + 1 - (intOf i).toNat)
      case atStart => exact ⟨0, 0, [], 0, rfl, rfl, rfl, CutC.start _ _, rfl, fun _ => rfl, unhide BW⟩
      case round =>
        obtain ⟨k, q, done, n, rfl, rfl, rfl, hci, hfold, hemp, hbel⟩ := hrel
        obtain ⟨n0, n1⟩ := unhide FR _ _ hfold
        have BW := hide hbel
        clear hbel
        by_cases hT : t.data.toList = []
        · have e : t = ⟨#[]⟩ := ByteArray.ext (Array.toList_inj.1 hT)
          have V2 : Hid (readF s.data.toList = (0, true)) := by
            show readF s.data.toList = (0, true)
            rw [unhide V, hT]
            rfl
          have hn0 := hemp hT
          subst hn0
          clear hemp hci hfold V PA HL FR hT
          subst e
          go_wp2
          all_goals go_ret2
          all_goals exact ⟨by rw [unhide V2]; rfl, unhide BW⟩
        · have HT := hide hT
          have z : t.toList.isEmpty = false := by rw [ByteArray.toList_eq]; simpa using hT
          have YES := hide (fun m (h : foldF (some 0) (cutsL 32 t.data.toList) = some m) => (show readF s.data.toList = (m, true) by rw [unhide V, words_in hT, h]; rfl))
          have NO := hide (fun (h : foldF (some 0) (cutsL 32 t.data.toList) = none) => (show readF s.data.toList = (0, false) by rw [unhide V, words_in hT, h]; rfl))
          clear hT hemp V
          by_cases hlt : k ≤ t.size
          · have dk : decide ((k : Int) ≤ (t.size : Int)) = true := by rw [decide_eq_true_eq]; omega
            by_cases hon : ∃ h : k < t.size, t[k].toNat ≠ 32
            · obtain ⟨hks, hn32⟩ := hon
              have d1 : decide ((k : Int) < (t.size : Int)) = true := by rw [decide_eq_true_eq]; omega
              have d2 : ((t[k].toNat : Int) != 32) = true := by rw [bne_iff_ne]; omega
              have CN := hide (hci.on (byte_at hks) (fun e => hn32 (by rw [e]; rfl)))
              have HF := hide hfold
              clear hci hfold
              go_wp2
              exact ⟨⟨k + 1, q, done, n, by go_num, rfl, rfl, unhide CN, unhide HF, fun h => absurd h (unhide HT), unhide BW⟩, by simp [intOf]; omega⟩
            · have hcut : k = t.data.toList.length ∨ t.data.toList[k]? = some 32 := by
                by_cases hks : k < t.size
                · right
                  rw [byte_at hks]
                  congr 1
                  apply UInt8.toNat_inj.1
                  by_cases h32 : t[k].toNat = 32
                  · rw [h32]; rfl
                  · exact absurd ⟨hks, h32⟩ hon
                · left; rw [unhide HL]; omega
              obtain ⟨cut, hqk⟩ := hci.cut (by rw [unhide HL]; exact hlt) hcut
              have D : Hid (k < t.size → ∃ h : k < t.size, ((t[k].toNat : Int) != 32) = false) := fun hks => ⟨hks, by
                rw [bne_eq_false_iff_eq]
                by_cases h32 : t[k].toNat = 32
                · omega
                · exact absurd ⟨hks, h32⟩ hon⟩
              have P := unhide PA (t.extract q k)
              rw [Lib.extract_data, ← List.drop_take, show (t.data.toList.take k).drop q = seg t.data.toList q k from rfl] at P
              have PP := hide P
              have SN : Hid (foldF (some 0) (done ++ [seg t.data.toList q k]) = if bitV (seg t.data.toList q k) = 0 ∨ n / bitV (seg t.data.toList q k) % 2 = 1 then none else some (n + bitV (seg t.data.toList q k))) := foldF_snoc _ hfold
              have CUT := hide cut
              have STOP := hide (fun h => cut.stop h)
              have j1 : (0 : Int) ≤ (q : Int) := by omega
              have j2 : (q : Int) ≤ (k : Int) := by omega
              have j3 : (k : Int) ≤ (t.size : Int) := by omega
              clear hci hcut cut P hfold hon
              by_cases hks : k < t.size
              · obtain ⟨_, d2⟩ := unhide D hks
                have d1 : decide ((k : Int) < (t.size : Int)) = true := by rw [decide_eq_true_eq]; omega
                rcases bitV_is (seg t.data.toList q k) with hB | hB | hB | hB | hB | hB
                · have NX := hide (unhide STOP ((unhide SN).trans (if_pos (.inl hB))))
                  have V2 := hide (unhide NO (unhide NX))
                  rw [hB] at PP
                  clear hB
                  go_wp2_with fail
                  refine (unhide PP _).mono ?_
                  rintro e w1 ⟨rfl, hb1⟩
                  go_wp2
                  go_ret2
                  exact ⟨by rw [unhide V2]; rfl, (unhide BW).trans (hb1.mono (unhide BW).size)⟩
                · rw [hB] at PP
                  by_cases h5 : n % 2 = 1
                  · have t5 : (n % 2 == 1) = true := by simpa using h5
                    have NX := hide (unhide STOP ((unhide SN).trans (if_pos (.inr (by rw [hB]; simpa using h5)))))
                    have V2 := hide (unhide NO (unhide NX))
                    clear h5 hB
                    go_wp2_with fail
                    refine (unhide PP _).mono ?_
                    rintro e w1 ⟨rfl, hb1⟩
                    go_wp2
                    go_ret2
                    exact ⟨by rw [unhide V2]; rfl, (unhide BW).trans (hb1.mono (unhide BW).size)⟩
                  · have t5 : (n % 2 == 1) = false := by simpa using h5
                    have NX : Hid (foldF (some 0) (done ++ [seg t.data.toList q k]) = some (n + 1)) := (unhide SN).trans ((if_neg (by rw [hB]; simpa using h5)).trans (by rw [hB]))
                    clear h5 hB
                    go_wp2_with fail
                    refine (unhide PP _).mono ?_
                    rintro e w1 ⟨rfl, hb1⟩
                    go_wp2
                    exact ⟨⟨k + 1, k + 1, done ++ [seg t.data.toList q k], n + 1, rfl, by go_num, by go_num, unhide CUT, unhide NX, fun h => absurd h (unhide HT), (unhide BW).trans (hb1.mono (unhide BW).size)⟩, by simp [intOf]; omega⟩
                · rw [hB] at PP
                  by_cases h5 : n / 2 % 2 = 1
                  · have t5 : (n / 2 % 2 == 1) = true := by simpa using h5
                    have NX := hide (unhide STOP ((unhide SN).trans (if_pos (.inr (by rw [hB]; simpa using h5)))))
                    have V2 := hide (unhide NO (unhide NX))
                    clear h5 hB
                    go_wp2_with fail
                    refine (unhide PP _).mono ?_
                    rintro e w1 ⟨rfl, hb1⟩
                    go_wp2
                    go_ret2
                    exact ⟨by rw [unhide V2]; rfl, (unhide BW).trans (hb1.mono (unhide BW).size)⟩
                  · have t5 : (n / 2 % 2 == 1) = false := by simpa using h5
                    have NX : Hid (foldF (some 0) (done ++ [seg t.data.toList q k]) = some (n + 2)) := (unhide SN).trans ((if_neg (by rw [hB]; simpa using h5)).trans (by rw [hB]))
                    clear h5 hB
                    go_wp2_with fail
                    refine (unhide PP _).mono ?_
                    rintro e w1 ⟨rfl, hb1⟩
                    go_wp2
                    exact ⟨⟨k + 1, k + 1, done ++ [seg t.data.toList q k], n + 2, rfl, by go_num, by go_num, unhide CUT, unhide NX, fun h => absurd h (unhide HT), (unhide BW).trans (hb1.mono (unhide BW).size)⟩, by simp [intOf]; omega⟩
                · rw [hB] at PP
                  by_cases h5 : n / 4 % 2 = 1
                  · have t5 : (n / 4 % 2 == 1) = true := by simpa using h5
                    have NX := hide (unhide STOP ((unhide SN).trans (if_pos (.inr (by rw [hB]; simpa using h5)))))
                    have V2 := hide (unhide NO (unhide NX))
                    clear h5 hB
                    go_wp2_with fail
                    refine (unhide PP _).mono ?_
                    rintro e w1 ⟨rfl, hb1⟩
                    go_wp2
                    go_ret2
                    exact ⟨by rw [unhide V2]; rfl, (unhide BW).trans (hb1.mono (unhide BW).size)⟩
                  · have t5 : (n / 4 % 2 == 1) = false := by simpa using h5
                    have NX : Hid (foldF (some 0) (done ++ [seg t.data.toList q k]) = some (n + 4)) := (unhide SN).trans ((if_neg (by rw [hB]; simpa using h5)).trans (by rw [hB]))
                    clear h5 hB
                    go_wp2_with fail
                    refine (unhide PP _).mono ?_
                    rintro e w1 ⟨rfl, hb1⟩
                    go_wp2
                    exact ⟨⟨k + 1, k + 1, done ++ [seg t.data.toList q k], n + 4, rfl, by go_num, by go_num, unhide CUT, unhide NX, fun h => absurd h (unhide HT), (unhide BW).trans (hb1.mono (unhide BW).size)⟩, by simp [intOf]; omega⟩
                · rw [hB] at PP
                  by_cases h5 : n / 8 % 2 = 1
                  · have t5 : (n / 8 % 2 == 1) = true := by simpa using h5
                    have NX := hide (unhide STOP ((unhide SN).trans (if_pos (.inr (by rw [hB]; simpa using h5)))))
                    have V2 := hide (unhide NO (unhide NX))
                    clear h5 hB
                    go_wp2_with fail
                    refine (unhide PP _).mono ?_
                    rintro e w1 ⟨rfl, hb1⟩
                    go_wp2
                    go_ret2
                    exact ⟨by rw [unhide V2]; rfl, (unhide BW).trans (hb1.mono (unhide BW).size)⟩
                  · have t5 : (n / 8 % 2 == 1) = false := by simpa using h5
                    have NX : Hid (foldF (some 0) (done ++ [seg t.data.toList q k]) = some (n + 8)) := (unhide SN).trans ((if_neg (by rw [hB]; simpa using h5)).trans (by rw [hB]))
                    clear h5 hB
                    go_wp2_with fail
                    refine (unhide PP _).mono ?_
                    rintro e w1 ⟨rfl, hb1⟩
                    go_wp2
                    exact ⟨⟨k + 1, k + 1, done ++ [seg t.data.toList q k], n + 8, rfl, by go_num, by go_num, unhide CUT, unhide NX, fun h => absurd h (unhide HT), (unhide BW).trans (hb1.mono (unhide BW).size)⟩, by simp [intOf]; omega⟩
                · rw [hB] at PP
                  by_cases h5 : n / 16 % 2 = 1
                  · have t5 : (n / 16 % 2 == 1) = true := by simpa using h5
                    have NX := hide (unhide STOP ((unhide SN).trans (if_pos (.inr (by rw [hB]; simpa using h5)))))
                    have V2 := hide (unhide NO (unhide NX))
                    clear h5 hB
                    go_wp2_with fail
                    refine (unhide PP _).mono ?_
                    rintro e w1 ⟨rfl, hb1⟩
                    go_wp2
                    go_ret2
                    exact ⟨by rw [unhide V2]; rfl, (unhide BW).trans (hb1.mono (unhide BW).size)⟩
                  · have t5 : (n / 16 % 2 == 1) = false := by simpa using h5
                    have NX : Hid (foldF (some 0) (done ++ [seg t.data.toList q k]) = some (n + 16)) := (unhide SN).trans ((if_neg (by rw [hB]; simpa using h5)).trans (by rw [hB]))
                    clear h5 hB
                    go_wp2_with fail
                    refine (unhide PP _).mono ?_
                    rintro e w1 ⟨rfl, hb1⟩
                    go_wp2
                    exact ⟨⟨k + 1, k + 1, done ++ [seg t.data.toList q k], n + 16, rfl, by go_num, by go_num, unhide CUT, unhide NX, fun h => absurd h (unhide HT), (unhide BW).trans (hb1.mono (unhide BW).size)⟩, by simp [intOf]; omega⟩
              · have d1 : decide ((k : Int) < (t.size : Int)) = false := by rw [decide_eq_false_iff_not]; omega
                rcases bitV_is (seg t.data.toList q k) with hB | hB | hB | hB | hB | hB
                · have NX := hide (unhide STOP ((unhide SN).trans (if_pos (.inl hB))))
                  have V2 := hide (unhide NO (unhide NX))
                  rw [hB] at PP
                  clear hB
                  go_wp2_with fail
                  refine (unhide PP _).mono ?_
                  rintro e w1 ⟨rfl, hb1⟩
                  go_wp2
                  go_ret2
                  exact ⟨by rw [unhide V2]; rfl, (unhide BW).trans (hb1.mono (unhide BW).size)⟩
                · rw [hB] at PP
                  by_cases h5 : n % 2 = 1
                  · have t5 : (n % 2 == 1) = true := by simpa using h5
                    have NX := hide (unhide STOP ((unhide SN).trans (if_pos (.inr (by rw [hB]; simpa using h5)))))
                    have V2 := hide (unhide NO (unhide NX))
                    clear h5 hB
                    go_wp2_with fail
                    refine (unhide PP _).mono ?_
                    rintro e w1 ⟨rfl, hb1⟩
                    go_wp2
                    go_ret2
                    exact ⟨by rw [unhide V2]; rfl, (unhide BW).trans (hb1.mono (unhide BW).size)⟩
                  · have t5 : (n % 2 == 1) = false := by simpa using h5
                    have NX : Hid (foldF (some 0) (done ++ [seg t.data.toList q k]) = some (n + 1)) := (unhide SN).trans ((if_neg (by rw [hB]; simpa using h5)).trans (by rw [hB]))
                    clear h5 hB
                    go_wp2_with fail
                    refine (unhide PP _).mono ?_
                    rintro e w1 ⟨rfl, hb1⟩
                    go_wp2
                    exact ⟨⟨k + 1, k + 1, done ++ [seg t.data.toList q k], n + 1, rfl, by go_num, by go_num, unhide CUT, unhide NX, fun h => absurd h (unhide HT), (unhide BW).trans (hb1.mono (unhide BW).size)⟩, by simp [intOf]; omega⟩
                · rw [hB] at PP
                  by_cases h5 : n / 2 % 2 = 1
                  · have t5 : (n / 2 % 2 == 1) = true := by simpa using h5
                    have NX := hide (unhide STOP ((unhide SN).trans (if_pos (.inr (by rw [hB]; simpa using h5)))))
                    have V2 := hide (unhide NO (unhide NX))
                    clear h5 hB
                    go_wp2_with fail
                    refine (unhide PP _).mono ?_
                    rintro e w1 ⟨rfl, hb1⟩
                    go_wp2
                    go_ret2
                    exact ⟨by rw [unhide V2]; rfl, (unhide BW).trans (hb1.mono (unhide BW).size)⟩
                  · have t5 : (n / 2 % 2 == 1) = false := by simpa using h5
                    have NX : Hid (foldF (some 0) (done ++ [seg t.data.toList q k]) = some (n + 2)) := (unhide SN).trans ((if_neg (by rw [hB]; simpa using h5)).trans (by rw [hB]))
                    clear h5 hB
                    go_wp2_with fail
                    refine (unhide PP _).mono ?_
                    rintro e w1 ⟨rfl, hb1⟩
                    go_wp2
                    exact ⟨⟨k + 1, k + 1, done ++ [seg t.data.toList q k], n + 2, rfl, by go_num, by go_num, unhide CUT, unhide NX, fun h => absurd h (unhide HT), (unhide BW).trans (hb1.mono (unhide BW).size)⟩, by simp [intOf]; omega⟩
                · rw [hB] at PP
                  by_cases h5 : n / 4 % 2 = 1
                  · have t5 : (n / 4 % 2 == 1) = true := by simpa using h5
                    have NX := hide (unhide STOP ((unhide SN).trans (if_pos (.inr (by rw [hB]; simpa using h5)))))
                    have V2 := hide (unhide NO (unhide NX))
                    clear h5 hB
                    go_wp2_with fail
                    refine (unhide PP _).mono ?_
                    rintro e w1 ⟨rfl, hb1⟩
                    go_wp2
                    go_ret2
                    exact ⟨by rw [unhide V2]; rfl, (unhide BW).trans (hb1.mono (unhide BW).size)⟩
                  · have t5 : (n / 4 % 2 == 1) = false := by simpa using h5
                    have NX : Hid (foldF (some 0) (done ++ [seg t.data.toList q k]) = some (n + 4)) := (unhide SN).trans ((if_neg (by rw [hB]; simpa using h5)).trans (by rw [hB]))
                    clear h5 hB
                    go_wp2_with fail
                    refine (unhide PP _).mono ?_
                    rintro e w1 ⟨rfl, hb1⟩
                    go_wp2
                    exact ⟨⟨k + 1, k + 1, done ++ [seg t.data.toList q k], n + 4, rfl, by go_num, by go_num, unhide CUT, unhide NX, fun h => absurd h (unhide HT), (unhide BW).trans (hb1.mono (unhide BW).size)⟩, by simp [intOf]; omega⟩
                · rw [hB] at PP
                  by_cases h5 : n / 8 % 2 = 1
                  · have t5 : (n / 8 % 2 == 1) = true := by simpa using h5
                    have NX := hide (unhide STOP ((unhide SN).trans (if_pos (.inr (by rw [hB]; simpa using h5)))))
                    have V2 := hide (unhide NO (unhide NX))
                    clear h5 hB
                    go_wp2_with fail
                    refine (unhide PP _).mono ?_
                    rintro e w1 ⟨rfl, hb1⟩
                    go_wp2
                    go_ret2
                    exact ⟨by rw [unhide V2]; rfl, (unhide BW).trans (hb1.mono (unhide BW).size)⟩
                  · have t5 : (n / 8 % 2 == 1) = false := by simpa using h5
                    have NX : Hid (foldF (some 0) (done ++ [seg t.data.toList q k]) = some (n + 8)) := (unhide SN).trans ((if_neg (by rw [hB]; simpa using h5)).trans (by rw [hB]))
                    clear h5 hB
                    go_wp2_with fail
                    refine (unhide PP _).mono ?_
                    rintro e w1 ⟨rfl, hb1⟩
                    go_wp2
                    exact ⟨⟨k + 1, k + 1, done ++ [seg t.data.toList q k], n + 8, rfl, by go_num, by go_num, unhide CUT, unhide NX, fun h => absurd h (unhide HT), (unhide BW).trans (hb1.mono (unhide BW).size)⟩, by simp [intOf]; omega⟩
                · rw [hB] at PP
                  by_cases h5 : n / 16 % 2 = 1
                  · have t5 : (n / 16 % 2 == 1) = true := by simpa using h5
                    have NX := hide (unhide STOP ((unhide SN).trans (if_pos (.inr (by rw [hB]; simpa using h5)))))
                    have V2 := hide (unhide NO (unhide NX))
                    clear h5 hB
                    go_wp2_with fail
                    refine (unhide PP _).mono ?_
                    rintro e w1 ⟨rfl, hb1⟩
                    go_wp2
                    go_ret2
                    exact ⟨by rw [unhide V2]; rfl, (unhide BW).trans (hb1.mono (unhide BW).size)⟩
                  · have t5 : (n / 16 % 2 == 1) = false := by simpa using h5
                    have NX : Hid (foldF (some 0) (done ++ [seg t.data.toList q k]) = some (n + 16)) := (unhide SN).trans ((if_neg (by rw [hB]; simpa using h5)).trans (by rw [hB]))
                    clear h5 hB
                    go_wp2_with fail
                    refine (unhide PP _).mono ?_
                    rintro e w1 ⟨rfl, hb1⟩
                    go_wp2
                    exact ⟨⟨k + 1, k + 1, done ++ [seg t.data.toList q k], n + 16, rfl, by go_num, by go_num, unhide CUT, unhide NX, fun h => absurd h (unhide HT), (unhide BW).trans (hb1.mono (unhide BW).size)⟩, by simp [intOf]; omega⟩
          · have dk : decide ((k : Int) ≤ (t.size : Int)) = false := by rw [decide_eq_false_iff_not]; omega
            have e : done = cutsL 32 t.data.toList := hci.done (by rw [unhide HL]; exact hlt)
            subst e
            have V2 := hide (unhide YES n hfold)
            clear hci hfold
            go_wp2
            go_ret2
            exact ⟨by rw [unhide V2]; rfl, unhide BW⟩
  · have V := hide (readF_no (t := s.data.toList) (by unfold shutF; rw [decide_eq_false (show ¬ 2 ≤ s.data.toList.length from h2)]; rfl))
    have d : decide ((s.size : Int) < 2) = true := by rw [decide_eq_true_eq]; omega
    go_enter Tryz.func18, Tryz.ntmps18
    go_wp2
    go_ret2
    exact ⟨by rw [unhide V]; rfl, Below.refl _ _⟩
end Go.Proofs.YtocaljbimhjmgaaGreatDoor

/- Mails: the specification's PartOf, MailOk, l07Trim. -/
namespace Go.Proofs.YtocaljbimhjmgaaGreatDoor
open Go.RowKit
open Plain
set_option linter.unusedVariables false

namespace Plain
end Plain

namespace Plain
theorem all_step {t : List UInt8} {k : Nat} {x : UInt8} (h : t[k]? = some x) (ha : (t.take k).all (fun b => b != 0) = true) (hx : x ≠ 0) : (t.take (k + 1)).all (fun b => b != 0) = true := by
  rw [List.take_add_one, h, List.all_append, ha]
  simpa using hx
theorem all_no {t : List UInt8} {k : Nat} (h : t[k]? = some 0) : t.all (fun b => b != 0) = false := by
  rw [List.all_eq_false]
  exact ⟨0, List.mem_of_getElem? h, by decide⟩
end Plain

set_option maxHeartbeats 2000000 in
set_option maxRecDepth 100000 in
theorem spec_MailOk_any (s : ByteArray) (w : World) (hs : s.size ≤ 1048576) :
    Calls Tryz.prog 45 #[.string s] w fun e w' => e = .returned (.bool (mailOkL s.data.toList)) ∧ w' = w := by
  have Q := hide (l01In_held (s.size : Int) 1 200 w)
  go_enter Tryz.func45, Tryz.ntmps45
  go_wp2
  go_loop [3] (fun i => ∃ k : Nat, k ≤ s.size ∧ i = .int .i64 k ∧ (s.data.toList.take k).all (fun b => b != 0) = true) (fun i => s.size - (intOf i).toNat)
  case atStart => exact ⟨0, Nat.zero_le _, rfl, rfl⟩
  case round =>
    obtain ⟨k, hk, rfl, hall⟩ := hrel
    by_cases hlt : k < s.size
    · have hb := byte_at hlt
      by_cases h0 : s[k].toNat = 0
      · have t0 : ((s[k].toNat : Int) == 0) = true := by rw [beq_iff_eq]; omega
        have e0 : s[k] = 0 := UInt8.toNat_inj.1 h0
        have V : Hid (mailOkL s.data.toList = false) := by
          show mailOkL _ = false
          unfold mailOkL
          rw [all_no (by rw [hb, e0])]
          rfl
        clear hall hb e0 h0
        go_wp2
        go_ret
        exact ⟨by rw [unhide V]; rfl, rfl⟩
      · have t0 : ((s[k].toNat : Int) == 0) = false := by rw [beq_eq_false_iff_ne]; omega
        have ST := hide (all_step hb hall (fun e => h0 (by rw [e]; rfl)))
        clear hall hb h0
        go_wp2
        exact ⟨⟨k + 1, by omega, by go_num, unhide ST⟩, by simp [intOf]; omega⟩
    · have e : s.data.toList.take k = s.data.toList := List.take_of_length_le (by show s.size ≤ k; omega)
      rw [e] at hall
      have V : Hid (mailOkL s.data.toList = (decide ((1 : Int) ≤ (s.size : Int)) && decide ((s.size : Int) ≤ 200))) := by
        show mailOkL _ = _
        unfold mailOkL
        rw [hall, Bool.true_and, show s.data.toList.length = s.size from rfl]
        congr 1
        · apply decide_eq_decide.2; omega
        · apply decide_eq_decide.2; omega
      clear hall e
      go_wp2_with (go_at_call 40; refine (unhide Q).mono ?_; rintro e w1 ⟨rfl, hw1⟩; subst w1)
      go_ret
      exact ⟨by rw [unhide V]; rfl, rfl⟩

namespace Plain
end Plain

end Go.Proofs.YtocaljbimhjmgaaGreatDoor
