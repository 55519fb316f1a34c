/- Flags: the specification's l06Low, ReadFlags. -/
import Derived.Test.YtmkjocamknhcbaaDoorFlagTextS
import Derived.Lib.ConvBytes
namespace Go.Proofs.YtmkjocamknhcbaaDoor
open Go.RowKit
open Plain
set_option linter.unusedVariables false

/-- A text as bytes: a new row. -/
theorem low_bytes (w : World) (T : ByteArray) : ∃ (C : Nat) (w5 : World), (convert 9 22 (.string T)).run Tryd.prog w = .ok (.slice (some ⟨w.heap.size, 0, none⟩) T.size C) w5 ∧
    (∀ j, j < T.size → w5.cell? ⟨w.heap.size, j, none⟩ = some (.int .u8 ((T.data.toList.getD j 0).toNat : Int))) ∧ (∀ j, j < T.size → w5.frozen? ⟨w.heap.size, j, none⟩ = false) ∧ Below w.heap.size w w5 := by
  have hnew := Lib.bytesWorld_at_new w 5 T
  refine ⟨grownCap w T.size 0 5, Lib.bytesWorld w 5 T, Lib.run_convert_string_bytes (P := Tryd.prog) w 9 22 5 T Tryd.underlying9 Tryd.underlying22 Tryd.underlying5, ?_, ?_, ?_⟩
  · intro j hj; exact Lib.bytesWorld_cell w 5 T j hj
  · intro j hj
    have : T.size ≤ (Lib.bytesCells w 5 T).size := by simp [Lib.bytesCells]
    simp [World.frozen?, hnew]
    omega
  · exact ⟨rfl, rfl, rfl, by rw [Lib.bytesWorld_size]; omega, fun k hk => Lib.bytesWorld_at_old w _ T k hk⟩

def lowAt (l : List UInt8) (k j : Nat) : UInt8 := if j < k then lowB (l.getD j 0) else l.getD j 0
theorem low_zero (l : List UInt8) (j : Nat) : lowAt l 0 j = l.getD j 0 := if_neg (Nat.not_lt_zero _)
theorem low_here (l : List UInt8) (k : Nat) : lowAt l k k = l.getD k 0 := if_neg (Nat.lt_irrefl _)
theorem low_next (l : List UInt8) (k : Nat) : lowAt l (k + 1) k = lowB (l.getD k 0) := if_pos (Nat.lt_succ_self _)
theorem low_else (l : List UInt8) {k j : Nat} (h : j ≠ k) : lowAt l (k + 1) j = lowAt l k j := by
  unfold lowAt
  by_cases h1 : j < k
  · rw [if_pos h1, if_pos (by omega)]
  · rw [if_neg h1, if_neg (by omega)]
/-- The row under way. -/
structure LowRow (l : List UInt8) (n g k : Nat) (w : World) : Prop where
  cell : ∀ j, j < n → w.cell? ⟨g, j, none⟩ = some (.int .u8 ((lowAt l k j).toNat : Int))
  open_ : ∀ j, j < n → w.frozen? ⟨g, j, none⟩ = false
theorem LowRow.on {l : List UInt8} {n g k : Nat} {w : World} (h : LowRow l n g k w) (hn : lowB (l.getD k 0) = l.getD k 0) : LowRow l n g (k + 1) w :=
  ⟨fun j hj => by
    by_cases e : j = k
    · subst e; rw [h.cell j hj, low_here, low_next, hn]
    · rw [h.cell j hj, low_else l e], h.open_⟩
theorem LowRow.put {l : List UInt8} {n g k : Nat} {w : World} (h : LowRow l n g k w) (hk : k < n) : LowRow l n g (k + 1) (w.setCell ⟨g, k, none⟩ (.int .u8 ((lowB (l.getD k 0)).toNat : Int))) :=
  ⟨fun j hj => by
    by_cases e : j = k
    · subst e
      rw [World.cell?_setCell_same (w := w) (a := ⟨g, j, none⟩) (v := .int .u8 ((lowB (l.getD j 0)).toNat : Int)) (h.cell j hj), low_next]
    · rw [World.cell?_setCell_other (w := w) (a := ⟨g, k, none⟩) (b := ⟨g, j, none⟩) (v := .int .u8 ((lowB (l.getD k 0)).toNat : Int)) (by intro x; cases x; exact e rfl), h.cell j hj, low_else l e],
   fun j hj => by rw [World.frozen?_setCell]; exact h.open_ j hj⟩
theorem LowRow.back {l : List UInt8} {n g C : Nat} {w : World} (h : LowRow l n g n w) (hn : l.length = n) :
    (convert 22 9 (.slice (some ⟨g, 0, none⟩) n C)).run Tryd.prog w = .ok (.string ⟨(l.map lowB).toArray⟩) w := by
  have := run_convert_bytes_back (P := Tryd.prog) w 22 9 5 ⟨g, 0, none⟩ C (l.map lowB) Tryd.underlying22 Tryd.underlying5 Tryd.underlying9 ?_
  · rw [List.length_map, hn] at this; exact this
  · intro j hj
    rw [List.length_map] at hj
    rw [Addr.add_lit, Nat.zero_add, h.cell j (by omega), lowAt, if_pos (by omega), List.getD_eq_getElem?_getD, List.getElem?_eq_getElem hj, List.getElem_map]
    rfl

set_option maxHeartbeats 2000000 in
set_option maxRecDepth 100000 in
theorem l06Low_any (s : ByteArray) (w : World) (hs : s.size ≤ 1048576) :
    Calls Tryd.prog 39 #[.string s] w fun e w' => e = .returned (.string ⟨(s.data.toList.map lowB).toArray⟩) ∧ Below w.heap.size w w' := by
  obtain ⟨C, w5, hconv, hcell, hfz, hb5⟩ := low_bytes w s
  have R0 : Hid (LowRow s.data.toList s.size w.heap.size 0 w5) := ⟨fun j hj => by rw [low_zero]; exact hcell j hj, hfz⟩
  have B0 := hide hb5
  have HL : Hid (s.data.toList.length = s.size) := rfl
  clear hcell hfz hb5
  go_enter Tryd.func39, Tryd.ntmps39
  go_wp2
  clear hconv
  go_loopw [4] (fun i wr => ∃ k : Nat, k ≤ s.size ∧ i = .int .i64 k ∧ LowRow s.data.toList s.size w.heap.size k wr ∧ Below w.heap.size w wr) (fun i _ => s.size - (intOf i).toNat)
  case atStart => exact ⟨0, Nat.zero_le _, rfl, unhide R0, unhide B0⟩
  case round =>
    obtain ⟨k, hk, rfl, hrow, hbel⟩ := hrel
    by_cases hlt : k < s.size
    · have ck := hrow.cell k hlt
      have fk := hrow.open_ k hlt
      rw [low_here] at ck
      have PUT := hide (hrow.put hlt)
      have ON := hide (fun h => hrow.on h)
      have IN := hide (fun a b => lowB_in (b := s.data.toList.getD k 0) a b)
      have NO := hide (fun a => lowB_no (b := s.data.toList.getD k 0) a)
      have hx : (s.data.toList.getD k 0).toNat < 256 := UInt8.toNat_lt _
      have BW := hide hbel
      clear hrow hbel
      generalize s.data.toList.getD k 0 = x at *
      have i1 : (0 : Int) ≤ (k : Int) := by omega
      have i2 : (k : Int) < (s.size : Int) := by omega
      by_cases h1 : 65 ≤ x.toNat
      · have d1 : decide ((65 : Int) ≤ (x.toNat : Int)) = true := by rw [decide_eq_true_eq]; omega
        by_cases h2 : x.toNat ≤ 90
        · have d2 : decide ((x.toNat : Int) ≤ 90) = true := by rw [decide_eq_true_eq]; omega
          have E : Hid ((lowB x).toNat = x.toNat + 32) := by
            show (lowB x).toNat = _
            rw [unhide IN h1 h2, UInt8.toNat_ofNat']
            omega
          have P := hide (unhide PUT)
          rw [unhide E] at P
          have BS := hide ((unhide BW).setCell (p := ⟨w.heap.size, k, none⟩) (Nat.le_refl _) (.int .u8 ((x.toNat + 32 : Nat) : Int)))
          clear PUT
          go_wp2
          exact ⟨⟨k + 1, by omega, by go_num, by simpa using unhide P, by simpa using unhide BS⟩, by simp [intOf]; omega⟩
        · have d2 : decide ((x.toNat : Int) ≤ 90) = false := by rw [decide_eq_false_iff_not]; omega
          have P := hide (unhide ON (unhide NO (fun h => h2 h.2)))
          go_wp2
          exact ⟨⟨k + 1, by omega, by go_num, unhide P, unhide BW⟩, by simp [intOf]; omega⟩
      · have d1 : decide ((65 : Int) ≤ (x.toNat : Int)) = false := by rw [decide_eq_false_iff_not]; omega
        have P := hide (unhide ON (unhide NO (fun h => h1 h.1)))
        go_wp2
        exact ⟨⟨k + 1, by omega, by go_num, unhide P, unhide BW⟩, by simp [intOf]; omega⟩
    · have e : k = s.size := by omega
      subst e
      have hcv := hrow.back (C := C) (unhide HL)
      go_wp2
      go_ret
      exact ⟨rfl, hbel⟩

namespace Plain
theorem shut_parts {t : List UInt8} (h : shutF t = true) : 2 ≤ t.length ∧ t[0]? = some 40 ∧ t[t.length - 1]? = some 41 := by
  unfold shutF at h
  simpa [and_assoc] using h
theorem shut_not {t : List UInt8} (h2 : 2 ≤ t.length) (h : shutF t = false) (h0 : t[0]? = some 40) : t[t.length - 1]? ≠ some 41 := by
  intro h1
  unfold shutF at h
  rw [decide_eq_true h2, h0, h1] at h
  cases h
end Plain

end Go.Proofs.YtmkjocamknhcbaaDoor
