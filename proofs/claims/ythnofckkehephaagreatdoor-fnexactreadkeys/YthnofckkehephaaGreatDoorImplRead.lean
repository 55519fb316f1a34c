/- The program's numbers and ranges out of a text. -/
import Derived.Test.YthnofckkehephaaGreatDoorReadSetS
import Derived.Test.YthnofckkehephaaGreatDoorImplSet
import Derived.Test.YthnofckkehephaaGreatDoorShelf
import Derived.Lib.ConvBytes
namespace Go.Proofs.YthnofckkehephaaGreatDoor
open Go.RowKit
open Plain
set_option linter.unusedVariables false

/-- The library's variable for a wrong text holds an error. -/
def ErrOk (w : World) : Prop := ∃ te pe, w.cell? ⟨4, 0, none⟩ = some (.iface te pe)
theorem ErrOk.below {w w1 : World} (h : ErrOk w) (hb : Below w.heap.size w w1) : ErrOk w1 := by
  obtain ⟨te, pe, h⟩ := h
  exact ⟨te, pe, g_cell hb h⟩

namespace Plain
theorem uint_ok : ∀ (l : List UInt8) (acc : Nat), l.all figOk = true → (acc + 1) * 10 ^ l.length ≤ 100000 →
    Lib.parseUintM (2 ^ 64 - 1) acc l = .ok (l.foldl (fun n b => 10 * n + (b.toNat : Int) - 48) (acc : Int)).toNat := by
  intro l
  induction l with
  | nil => intro acc _ _; simp [Lib.parseUintM]
  | cons b r ih =>
    intro acc h hb
    rw [List.all_cons, Bool.and_eq_true] at h
    have hf : 48 ≤ b.toNat ∧ b.toNat ≤ 57 := by simpa [figOk] using h.1
    rw [List.length_cons, Nat.pow_succ] at hb
    have hp : 1 ≤ 10 ^ r.length := Nat.pow_pos (by omega)
    have hb2 : (acc * 10 + (b.toNat - 48) + 1) * 10 ^ r.length ≤ 100000 := by
      have : (acc * 10 + (b.toNat - 48) + 1) ≤ (acc + 1) * 10 := by omega
      have := Nat.mul_le_mul_right (10 ^ r.length) this
      have e : (acc + 1) * 10 * 10 ^ r.length = (acc + 1) * (10 ^ r.length * 10) := by rw [Nat.mul_assoc, Nat.mul_comm 10]
      omega
    have hacc : (acc * 10 + (b.toNat - 48) + 1) ≤ 100000 := by
      have := Nat.mul_le_mul_left (acc * 10 + (b.toNat - 48) + 1) hp
      omega
    rw [Lib.parseUintM, if_pos hf, if_neg (by omega), if_neg (by omega), ih _ h.2 hb2, List.foldl_cons]
    congr 3
    omega
theorem uint_no : ∀ (l : List UInt8) (acc : Nat), l.all figOk = false → (acc + 1) * 10 ^ l.length ≤ 100000 → Lib.parseUintM (2 ^ 64 - 1) acc l = .«syntax» := by
  intro l
  induction l with
  | nil => intro acc h _; simp at h
  | cons b r ih =>
    intro acc h hb
    rw [Lib.parseUintM]
    by_cases hf : 48 ≤ b.toNat ∧ b.toNat ≤ 57
    · have h2 : r.all figOk = false := by
        rw [List.all_cons] at h
        have : figOk b = true := by simpa [figOk] using hf
        rw [this, Bool.true_and] at h
        exact h
      rw [List.length_cons, Nat.pow_succ] at hb
      have hp : 1 ≤ 10 ^ r.length := Nat.pow_pos (by omega)
      have hb2 : (acc * 10 + (b.toNat - 48) + 1) * 10 ^ r.length ≤ 100000 := by
        have : (acc * 10 + (b.toNat - 48) + 1) ≤ (acc + 1) * 10 := by omega
        have := Nat.mul_le_mul_right (10 ^ r.length) this
        have e : (acc + 1) * 10 * 10 ^ r.length = (acc + 1) * (10 ^ r.length * 10) := by rw [Nat.mul_assoc, Nat.mul_comm 10]
        omega
      have hacc : (acc * 10 + (b.toNat - 48) + 1) ≤ 100000 := by
        have := Nat.mul_le_mul_left (acc * 10 + (b.toNat - 48) + 1) hp
        omega
      rw [if_pos hf, if_neg (by omega), if_neg (by omega)]
      exact ih _ h2 hb2
    · rw [if_neg hf]
theorem pow_len {l : List UInt8} (h : l.length ≤ 4) : 10 ^ l.length ≤ 10000 := by
  have : l.length = 0 ∨ l.length = 1 ∨ l.length = 2 ∨ l.length = 3 ∨ l.length = 4 := by omega
  rcases this with e | e | e | e | e <;> rw [e] <;> decide
theorem uintB_ok {l : List UInt8} (h1 : 1 ≤ l.length) (h2 : l.length ≤ 4) (h : l.all figOk = true) : Lib.parseUintB 64 l = .ok (figsV l).toNat := by
  unfold Lib.parseUintB
  rw [if_neg (by intro e; rw [e] at h1; simp at h1), uint_ok l 0 h (by have := pow_len h2; omega)]
  rfl
theorem uintB_no {l : List UInt8} (h2 : l.length ≤ 4) (h : ¬ (1 ≤ l.length ∧ l.all figOk = true)) : Lib.parseUintB 64 l = .«syntax» := by
  unfold Lib.parseUintB
  by_cases e : l = []
  · rw [if_pos e]
  · rw [if_neg e]
    refine uint_no l 0 ?_ (by have := pow_len h2; omega)
    cases hx : l.all figOk with
    | false => rfl
    | true => exact absurd ⟨by have := List.length_pos_iff.2 e; omega, hx⟩ h
theorem num_no {t : List UInt8} {last : Int} (h : t ≠ [42]) (h2 : ¬ (1 ≤ t.length ∧ t.length ≤ 4 ∧ t.all figOk = true)) : numV t last = (0, false) := by
  unfold numV
  rw [if_neg h]
  split
  · rename_i hl
    rw [if_neg (fun ha => h2 ⟨hl.1, hl.2, ha⟩)]
  · rfl
theorem num_in {t : List UInt8} {last : Int} (h : t ≠ [42]) (h1 : 1 ≤ t.length) (h2 : t.length ≤ 4) (ha : t.all figOk = true) : numV t last = (figsV t, decide (1 ≤ figsV t)) := by
  unfold numV
  rw [if_neg h, if_pos ⟨h1, h2⟩, if_pos ha]
end Plain

set_option maxHeartbeats 2000000 in
set_option maxRecDepth 100000 in
theorem impl_readUid_any (s : ByteArray) (last : Int) (w : World) (hs : s.size ≤ 1048576) (he : ErrOk w) :
    Calls Tryz.prog 45 #[.string s, .int .i64 last] w fun e w' => e = .returned (.tuple #[.int .i64 (numV s.data.toList last).1, .bool (numV s.data.toList last).2]) ∧ Below w.heap.size w w' := by
  by_cases hst : s.data.toList = [42]
  · have e : s = ⟨#[42]⟩ := by
      apply ByteArray.ext
      exact Array.toList_inj.1 hst
    subst e
    go_enter Tryz.func45, Tryz.ntmps45
    go_wp2
    go_ret2
    exact ⟨by rw [num_star]; rfl, Below.refl _ _⟩
  · have hne : s ≠ ⟨#[42]⟩ := fun e => hst (by rw [e])
    have HS := hide hst
    have hls : s.data.toList.length = s.size := rfl
    by_cases hl : s.size ≤ 4
    · by_cases ha : 1 ≤ s.size ∧ s.data.toList.all figOk = true
      · have V := hide (num_in (last := last) hst (by omega) (by omega) ha.2)
        have PU := hide (Tryz.strconv_ParseUint_10_at64_ok s (by omega) _ (uintB_ok (by omega) (by omega) ha.2) w)
        have hb := figsV_bound _ ha.2
        have hp : (10 : Int) ^ s.data.toList.length ≤ 10000 := by
          have : s.data.toList.length = 0 ∨ s.data.toList.length = 1 ∨ s.data.toList.length = 2 ∨ s.data.toList.length = 3 ∨ s.data.toList.length = 4 := by omega
          rcases this with e | e | e | e | e <;> rw [e] <;> decide
        have hb0 := hb.1
        have hb1 : figsV s.data.toList < 10000 := by omega
        obtain ⟨N, hN⟩ := Int.eq_ofNat_of_zero_le hb0
        rw [hN] at V PU hb1
        rw [Int.toNat_natCast] at PU
        have FN : Hid (figsV s.data.toList = (N : Int)) := hN
        clear hb hp hb0 hst hls hN ha
        go_enter Tryz.func45, Tryz.ntmps45
        go_wp2_with fail
        · exfalso
          have hx : s.toList = [42] := by first | assumption | (have hy : (s.toList == [42]) = true := (by assumption); simpa using hy)
          rw [ByteArray.toList_eq] at hx
          exact unhide HS hx
        · refine (unhide PU).mono ?_
          rintro e w1 ⟨rfl, hw⟩
          have hb : Below w.heap.size w w1 := by
            rcases hw with rfl | rfl
            · exact Below.refl _ _
            · exact ⟨rfl, rfl, rfl, by rw [Lib.bytesWorld_size]; omega, fun k hk => Lib.bytesWorld_at_old w _ s k hk⟩
          clear hw
          by_cases hn : N < 1
          · have hn0 : N = 0 := by omega
            subst hn0
            go_wp2
            go_ret2
            exact ⟨by rw [unhide V]; rfl, hb⟩
          · have hn1 : ¬ ((N : Int) < 1) := by omega
            have hn2 : decide ((N : Int) < 1) = false := by simpa using hn1
            have hc : IntKind.i64.wrap (N : Int) = (N : Int) := by rw [IntKind.wrap_i64]; omega
            have hd : decide ((1 : Int) ≤ (N : Int)) = true := by simp; omega
            rw [hd] at V
            go_wp2
            go_ret2
            exact ⟨by rw [unhide V]; rfl, hb⟩
      · have V := hide (num_no (last := last) hst (fun h => ha ⟨by omega, h.2.2⟩))
        obtain ⟨te, pe, hv⟩ := he
        have PU := hide (Tryz.strconv_ParseUint_10_at64_syntax s (by omega) (uintB_no (by omega) (fun h => ha ⟨by omega, h.2⟩)) _ w hv (.inr ⟨te, pe, rfl⟩))
        clear hst hls
        go_enter Tryz.func45, Tryz.ntmps45
        go_wp2_with fail
        · exfalso
          have hx : s.toList = [42] := by first | assumption | (have hy : (s.toList == [42]) = true := (by assumption); simpa using hy)
          rw [ByteArray.toList_eq] at hx
          exact unhide HS hx
        · refine (unhide PU).mono ?_
          rintro e w1 ⟨N1, rfl, hN1, hN2, hb⟩
          clear hN2
          go_wp2
          go_ret2
          exact ⟨by rw [unhide V]; rfl, hb⟩
    · have V := hide (num_no (last := last) hst (fun h => hl (by omega)))
      have hl4 : (4 : Int) < (s.size : Int) := by omega
      clear hst hls
      go_enter Tryz.func45, Tryz.ntmps45
      go_wp2
      · exfalso
        have hx : s.toList = [42] := by first | assumption | (have hy : (s.toList == [42]) = true := (by assumption); simpa using hy)
        rw [ByteArray.toList_eq] at hx
        exact unhide HS hx
      · go_ret2
        exact ⟨by rw [unhide V]; rfl, Below.refl _ _⟩

set_option maxHeartbeats 2000000 in
set_option maxRecDepth 100000 in
theorem slite_Cut_any (s : ByteArray) (w : World) (hs : s.size ≤ 1048576) :
    Calls Tryz.prog 54 #[.string s, .string ⟨#[58]⟩] w fun e w' =>
      ((∃ i, i < s.size ∧ e = .returned (.tuple #[.string (s.extract 0 i), .string (s.extract (i + 1) s.size), .bool true]) ∧ (∀ k, k < i → s.data.toList[k]? ≠ some 58) ∧ s.data.toList[i]? = some 58) ∨
       (e = .returned (.tuple #[.string s, .string ⟨#[]⟩, .bool false]) ∧ ∀ k : Nat, s.data.toList[k]? ≠ some 58)) ∧ ∃ q, w' = w.drewN q := by
  have IX := hide (fun W => Tryz.stringslite_Index_one s 58 W)
  have hge := Lib.indexByte_ge s.data.toList 58
  by_cases h : Lib.indexByte s.data.toList 58 = -1
  · have NO := hide (fun k => Lib.indexByte_none h k)
    rw [h] at IX
    clear h hge
    go_enter Tryz.func54, Tryz.ntmps54
    go_wp2_with fail
    refine (unhide IX _).mono ?_
    rintro e w1 ⟨rfl, hw⟩
    subst w1
    go_wp2
    go_returns
    exact ⟨.inr ⟨rfl, fun k => unhide NO k⟩, 0, rfl⟩
  · obtain ⟨o, ho⟩ : ∃ o : Nat, Lib.indexByte s.data.toList 58 = o := ⟨(Lib.indexByte s.data.toList 58).toNat, by omega⟩
    have SM := hide (Lib.indexByte_some ho)
    have hlt : o < s.size := by
      have := (List.getElem?_eq_some_iff.1 (unhide SM).1).1
      exact this
    rw [ho] at IX
    clear h hge ho
    have i1 : (0 : Int) ≤ (o : Int) := by omega
    have i2 : (o : Int) ≤ (s.size : Int) := by omega
    have i3 : IntKind.i64.wrap ((o : Int) + 1) = (o : Int) + 1 := by rw [IntKind.wrap_i64]; omega
    have i4 : (0 : Int) ≤ (o : Int) + 1 := by omega
    have i5 : (o : Int) + 1 ≤ (s.size : Int) := by omega
    go_enter Tryz.func54, Tryz.ntmps54
    go_wp2_with fail
    refine (unhide IX _).mono ?_
    rintro e w1 ⟨rfl, hw⟩
    subst w1
    go_wp2
    go_quiet (fail)
    go_wp2
    go_returns
    exact ⟨.inl ⟨o, hlt, rfl, (unhide SM).2, (unhide SM).1⟩, _, rfl⟩

set_option maxHeartbeats 2000000 in
theorem strings_Cut_any (s : ByteArray) (w : World) (hs : s.size ≤ 1048576) :
    Calls Tryz.prog 44 #[.string s, .string ⟨#[58]⟩] w fun e w' =>
      ((∃ i, i < s.size ∧ e = .returned (.tuple #[.string (s.extract 0 i), .string (s.extract (i + 1) s.size), .bool true]) ∧ (∀ k, k < i → s.data.toList[k]? ≠ some 58) ∧ s.data.toList[i]? = some 58) ∨
       (e = .returned (.tuple #[.string s, .string ⟨#[]⟩, .bool false]) ∧ ∀ k : Nat, s.data.toList[k]? ≠ some 58)) ∧ ∃ q, w' = w.drewN q := by
  have C := hide (fun W => slite_Cut_any s W hs)
  go_enter Tryz.func44, Tryz.ntmps44
  go_wp2_with fail
  refine (unhide C _).mono ?_
  rintro e w1 ⟨(⟨i, hi, rfl, h1, h2⟩ | ⟨rfl, h1⟩), q, hw⟩
  · have H := hide (And.intro h1 h2)
    clear h1 h2
    subst hw
    go_wp2
    go_returns
    exact ⟨.inl ⟨i, hi, rfl, unhide H⟩, q, rfl⟩
  · have H := hide h1
    clear h1
    subst hw
    go_wp2
    go_returns
    exact ⟨.inr ⟨rfl, unhide H⟩, q, rfl⟩

namespace Plain
theorem no_colon {l : List UInt8} (h : ∀ k : Nat, l[k]? ≠ some 58) : ∀ b ∈ l, b ≠ 58 := by
  intro b hb e
  obtain ⟨k, hk, rfl⟩ := List.getElem_of_mem hb
  exact h k (by rw [List.getElem?_eq_getElem hk, e])
theorem no_colon_to {l : List UInt8} {i : Nat} (h : ∀ k, k < i → l[k]? ≠ some 58) : ∀ b ∈ l.take i, b ≠ 58 := by
  intro b hb e
  obtain ⟨k, hk, rfl⟩ := List.getElem_of_mem hb
  have hk2 : k < i := by have := hk; simp at this; omega
  have hk3 : k < l.length := by have := hk; simp at this; omega
  refine h k hk2 ?_
  rw [List.getElem_take] at e
  rw [List.getElem?_eq_getElem hk3, e]
theorem extract_to (s : ByteArray) (i : Nat) : (s.extract 0 i).data.toList = s.data.toList.take i := by simp
theorem extract_from (s : ByteArray) (i : Nat) : (s.extract i s.size).data.toList = s.data.toList.drop i := by
  rw [ByteArray.data_extract, Array.toList_extract]
  show (s.data.toList.drop i).take (s.data.size - i) = _
  rw [List.take_of_length_le (by simp)]
end Plain

set_option maxHeartbeats 4000000 in
set_option maxRecDepth 100000 in
theorem impl_readRange_any (s : ByteArray) (last : Int) (w : World) (hs : s.size ≤ 1048576) (he : ErrOk w) :
    Calls Tryz.prog 38 #[.string s, .int .i64 last] w fun e w' => (∃ x y, e = .returned (.tuple #[.agg #[.int .i64 x, .int .i64 y], .bool (partV s.data.toList last).2.2]) ∧ ((partV s.data.toList last).2.2 = true → x = (partV s.data.toList last).1 ∧ y = (partV s.data.toList last).2.1)) ∧ Below w.heap.size w w' := by
  have CU := hide (fun W => strings_Cut_any s W hs)
  obtain ⟨W, hW⟩ : ∃ W, W = w.alloc (Obj.cells #[Value.int IntKind.i64 0, Value.int IntKind.i64 0] 56) := ⟨_, rfl⟩
  have hb0 : Below w.heap.size w W := by rw [hW]; exact (Below.refl _ _).alloc (Nat.le_refl _) _
  have s0 : W.cell? ⟨w.heap.size, 0, none⟩ = some (.int .i64 0) := by rw [hW]; go_simp
  have s1 : W.cell? ⟨w.heap.size, 1, none⟩ = some (.int .i64 0) := by rw [hW]; go_simp
  have z0 : W.frozen? ⟨w.heap.size, 0, none⟩ = false := by rw [hW]; go_simp
  have z1 : W.frozen? ⟨w.heap.size, 1, none⟩ = false := by rw [hW]; go_simp
  have hsz : w.heap.size < W.heap.size := by rw [hW]; simp
  have HW := hide hW
  have HE := hide he
  clear hW he
  go_enter Tryz.func38, Tryz.ntmps38
  go_wp2_with fail
  rw [← unhide HW]
  refine (unhide CU _).mono ?_
  rintro e w1 ⟨(⟨i, hi, rfl, h1, h2⟩ | ⟨rfl, h1⟩), q, hw⟩
  · have hb1W : Below W.heap.size W w1 := by rw [hw]; exact b_drewN (Below.refl _ _) _
    have hb1 : Below w.heap.size w w1 := below2 hb0 hb1W
    have N1 := hide (no_colon_to h1)
    have N2 := hide h2
    clear h1 h2 hw
    have hA : (s.extract 0 i).size ≤ 1048576 := (by simp; omega)
    have hB : (s.extract (i + 1) s.size).size ≤ 1048576 := (by simp; omega)
    have U1 := hide (fun W h => impl_readUid_any (s.extract 0 i) last W hA h)
    have U2 := hide (fun W h => impl_readUid_any (s.extract (i + 1) s.size) last W hB h)
    have PV : Hid (partV s.data.toList last = upV (numV (s.extract 0 i).data.toList last) (numV (s.extract (i + 1) s.size).data.toList last)) := (by rw [extract_to, extract_from]; exact part_at (unhide N1) (unhide N2))
    generalize numV (s.extract 0 i).data.toList last = x at *
    generalize numV (s.extract (i + 1) s.size).data.toList last = y at *
    obtain ⟨x1, x2⟩ := x
    obtain ⟨y1, y2⟩ := y
    simp only at U1 U2 PV
    have E1 := (unhide HE).below hb1
    have V1 := hide (unhide U1 w1 E1)
    clear U1 hA hB
    go_wp2_with fail
    refine (unhide V1).mono ?_
    rintro e w2 ⟨rfl, hb2⟩
    have V2 := hide (unhide U2 w2 (E1.below hb2))
    clear U2
    go_wp2_with fail
    refine (unhide V2).mono ?_
    rintro e w3 ⟨rfl, hb3⟩
    have hB3 := below2 hb1 (below2 hb2 hb3)
    have hBW := below2 hb1W (below2 hb2 hb3)
    have hc0 := (hBW.cell (p := ⟨w.heap.size, 0, none⟩) hsz).trans s0
    have hc1 := (hBW.cell (p := ⟨w.heap.size, 1, none⟩) hsz).trans s1
    have f0 : w3.frozen? ⟨w.heap.size, 0, none⟩ = false := (World.frozen?_of_block (a := ⟨w.heap.size, 0, none⟩) (hBW.block _ hsz)).trans z0
    have f1 : w3.frozen? ⟨w.heap.size, 1, none⟩ = false := (World.frozen?_of_block (a := ⟨w.heap.size, 1, none⟩) (hBW.block _ hsz)).trans z1
    have ne01 : (⟨w.heap.size, 0, none⟩ : Addr) ≠ ⟨w.heap.size, 1, none⟩ := by simp
    clear V1 V2 hb2 hb3 E1
    cases x2 with
    | false =>
      have PF : Hid ((partV s.data.toList last).2.2 = false) := by rw [unhide PV]; unfold upV; simp only; split <;> rfl
      go_wp2
      have u0 := World.cell?_setCell_same w3 ⟨w.heap.size, 0, none⟩ (.int .i64 0) hc0
      have u1 := (World.cell?_setCell_other w3 ⟨w.heap.size, 0, none⟩ ⟨w.heap.size, 1, none⟩ (.int .i64 0) ne01).trans hc1
      have v0 := (World.cell?_setCell_other (w3.setCell ⟨w.heap.size, 0, none⟩ (.int .i64 0)) ⟨w.heap.size, 1, none⟩ ⟨w.heap.size, 0, none⟩ (.int .i64 0) (Ne.symm ne01)).trans u0
      have v1 := World.cell?_setCell_same (w3.setCell ⟨w.heap.size, 0, none⟩ (.int .i64 0)) ⟨w.heap.size, 1, none⟩ (.int .i64 0) u1
      have hB4 := (hB3.setCell (p := ⟨w.heap.size, 0, none⟩) (Nat.le_refl _) (.int .i64 0)).setCell (p := ⟨w.heap.size, 1, none⟩) (Nat.le_refl _) (.int .i64 0)
      clear u0 u1 hc0 hc1
      generalize (w3.setCell ⟨w.heap.size, 0, none⟩ (.int .i64 0)).setCell ⟨w.heap.size, 1, none⟩ (.int .i64 0) = W4 at *
      refine bodyPost_ret (by simp [results, Tryz.results38, go_sem, v0, v1]; try rfl) rfl ?_
      exact ⟨⟨0, 0, by rw [unhide PF], fun h => by rw [unhide PF] at h; cases h⟩, hB4⟩
    | true =>
      cases y2 with
      | false =>
        have PF : Hid ((partV s.data.toList last).2.2 = false) := by rw [unhide PV]; unfold upV; simp only; split <;> rfl
        go_wp2
        have u0 := World.cell?_setCell_same w3 ⟨w.heap.size, 0, none⟩ (.int .i64 0) hc0
        have u1 := (World.cell?_setCell_other w3 ⟨w.heap.size, 0, none⟩ ⟨w.heap.size, 1, none⟩ (.int .i64 0) ne01).trans hc1
        have v0 := (World.cell?_setCell_other (w3.setCell ⟨w.heap.size, 0, none⟩ (.int .i64 0)) ⟨w.heap.size, 1, none⟩ ⟨w.heap.size, 0, none⟩ (.int .i64 0) (Ne.symm ne01)).trans u0
        have v1 := World.cell?_setCell_same (w3.setCell ⟨w.heap.size, 0, none⟩ (.int .i64 0)) ⟨w.heap.size, 1, none⟩ (.int .i64 0) u1
        have hB4 := (hB3.setCell (p := ⟨w.heap.size, 0, none⟩) (Nat.le_refl _) (.int .i64 0)).setCell (p := ⟨w.heap.size, 1, none⟩) (Nat.le_refl _) (.int .i64 0)
        clear u0 u1 hc0 hc1
        generalize (w3.setCell ⟨w.heap.size, 0, none⟩ (.int .i64 0)).setCell ⟨w.heap.size, 1, none⟩ (.int .i64 0) = W4 at *
        refine bodyPost_ret (by simp [results, Tryz.results38, go_sem, v0, v1]; try rfl) rfl ?_
        exact ⟨⟨0, 0, by rw [unhide PF], fun h => by rw [unhide PF] at h; cases h⟩, hB4⟩
      | true =>
        have PF : Hid ((partV s.data.toList last).2.2 = true ∧ (partV s.data.toList last).1 = min x1 y1 ∧ (partV s.data.toList last).2.1 = max x1 y1) := by
            rw [unhide PV]
            unfold upV
            simp only
            refine ⟨by split <;> rfl, ?_, ?_⟩
            · split <;> simp only <;> omega
            · split <;> simp only <;> omega
        go_wp2
        have u0 := World.cell?_setCell_same w3 ⟨w.heap.size, 0, none⟩ (.int .i64 (min x1 y1)) hc0
        have u1 := (World.cell?_setCell_other w3 ⟨w.heap.size, 0, none⟩ ⟨w.heap.size, 1, none⟩ (.int .i64 (min x1 y1)) ne01).trans hc1
        have v0 := (World.cell?_setCell_other (w3.setCell ⟨w.heap.size, 0, none⟩ (.int .i64 (min x1 y1))) ⟨w.heap.size, 1, none⟩ ⟨w.heap.size, 0, none⟩ (.int .i64 (max x1 y1)) (Ne.symm ne01)).trans u0
        have v1 := World.cell?_setCell_same (w3.setCell ⟨w.heap.size, 0, none⟩ (.int .i64 (min x1 y1))) ⟨w.heap.size, 1, none⟩ (.int .i64 (max x1 y1)) u1
        have hB4 := (hB3.setCell (p := ⟨w.heap.size, 0, none⟩) (Nat.le_refl _) (.int .i64 (min x1 y1))).setCell (p := ⟨w.heap.size, 1, none⟩) (Nat.le_refl _) (.int .i64 (max x1 y1))
        clear u0 u1 hc0 hc1
        generalize (w3.setCell ⟨w.heap.size, 0, none⟩ (.int .i64 (min x1 y1))).setCell ⟨w.heap.size, 1, none⟩ (.int .i64 (max x1 y1)) = W4 at *
        refine bodyPost_ret (by simp [results, Tryz.results38, go_sem, v0, v1]; try rfl) rfl ?_
        exact ⟨⟨_, _, by rw [(unhide PF).1], fun _ => ⟨(unhide PF).2.1.symm, (unhide PF).2.2.symm⟩⟩, hB4⟩
  · have hb1W : Below W.heap.size W w1 := by rw [hw]; exact b_drewN (Below.refl _ _) _
    have hb1 : Below w.heap.size w w1 := below2 hb0 hb1W
    have N1 := hide (no_colon h1)
    clear h1 hw
    have hA : s.size ≤ 1048576 := hs
    have hB : s.size ≤ 1048576 := hs
    have U1 := hide (fun W h => impl_readUid_any (s) last W hA h)
    have U2 := hide (fun W h => impl_readUid_any (s) last W hB h)
    have PV : Hid (partV s.data.toList last = upV (numV (s).data.toList last) (numV (s).data.toList last)) := (by show _ = _; rw [part_no (unhide N1)]; unfold upV; rw [if_neg (Int.lt_irrefl _), Bool.and_self])
    generalize numV (s).data.toList last = x at *
    obtain ⟨x1, x2⟩ := x
    simp only at U1 U2 PV
    have E1 := (unhide HE).below hb1
    have V1 := hide (unhide U1 w1 E1)
    clear U1 hA hB
    go_wp2_with fail
    refine (unhide V1).mono ?_
    rintro e w2 ⟨rfl, hb2⟩
    have V2 := hide (unhide U2 w2 (E1.below hb2))
    clear U2
    go_wp2_with fail
    refine (unhide V2).mono ?_
    rintro e w3 ⟨rfl, hb3⟩
    have hB3 := below2 hb1 (below2 hb2 hb3)
    have hBW := below2 hb1W (below2 hb2 hb3)
    have hc0 := (hBW.cell (p := ⟨w.heap.size, 0, none⟩) hsz).trans s0
    have hc1 := (hBW.cell (p := ⟨w.heap.size, 1, none⟩) hsz).trans s1
    have f0 : w3.frozen? ⟨w.heap.size, 0, none⟩ = false := (World.frozen?_of_block (a := ⟨w.heap.size, 0, none⟩) (hBW.block _ hsz)).trans z0
    have f1 : w3.frozen? ⟨w.heap.size, 1, none⟩ = false := (World.frozen?_of_block (a := ⟨w.heap.size, 1, none⟩) (hBW.block _ hsz)).trans z1
    have ne01 : (⟨w.heap.size, 0, none⟩ : Addr) ≠ ⟨w.heap.size, 1, none⟩ := by simp
    clear V1 V2 hb2 hb3 E1
    cases x2 with
    | false =>
      have PF : Hid ((partV s.data.toList last).2.2 = false) := by rw [unhide PV]; unfold upV; show _ = false; simp only; split <;> rfl
      go_wp2
      have u0 := World.cell?_setCell_same w3 ⟨w.heap.size, 0, none⟩ (.int .i64 0) hc0
      have u1 := (World.cell?_setCell_other w3 ⟨w.heap.size, 0, none⟩ ⟨w.heap.size, 1, none⟩ (.int .i64 0) ne01).trans hc1
      have v0 := (World.cell?_setCell_other (w3.setCell ⟨w.heap.size, 0, none⟩ (.int .i64 0)) ⟨w.heap.size, 1, none⟩ ⟨w.heap.size, 0, none⟩ (.int .i64 0) (Ne.symm ne01)).trans u0
      have v1 := World.cell?_setCell_same (w3.setCell ⟨w.heap.size, 0, none⟩ (.int .i64 0)) ⟨w.heap.size, 1, none⟩ (.int .i64 0) u1
      have hB4 := (hB3.setCell (p := ⟨w.heap.size, 0, none⟩) (Nat.le_refl _) (.int .i64 0)).setCell (p := ⟨w.heap.size, 1, none⟩) (Nat.le_refl _) (.int .i64 0)
      clear u0 u1 hc0 hc1
      generalize (w3.setCell ⟨w.heap.size, 0, none⟩ (.int .i64 0)).setCell ⟨w.heap.size, 1, none⟩ (.int .i64 0) = W4 at *
      refine bodyPost_ret (by simp [results, Tryz.results38, go_sem, v0, v1]; try rfl) rfl ?_
      exact ⟨⟨0, 0, by rw [unhide PF], fun h => by rw [unhide PF] at h; cases h⟩, hB4⟩
    | true =>
        have PF : Hid ((partV s.data.toList last).2.2 = true ∧ (partV s.data.toList last).1 = x1 ∧ (partV s.data.toList last).2.1 = x1) := by
            rw [unhide PV]
            unfold upV
            simp only
            rw [if_neg (Int.lt_irrefl _)]
            exact ⟨rfl, rfl, rfl⟩
        go_wp2
        have u0 := World.cell?_setCell_same w3 ⟨w.heap.size, 0, none⟩ (.int .i64 x1) hc0
        have u1 := (World.cell?_setCell_other w3 ⟨w.heap.size, 0, none⟩ ⟨w.heap.size, 1, none⟩ (.int .i64 x1) ne01).trans hc1
        have v0 := (World.cell?_setCell_other (w3.setCell ⟨w.heap.size, 0, none⟩ (.int .i64 x1)) ⟨w.heap.size, 1, none⟩ ⟨w.heap.size, 0, none⟩ (.int .i64 x1) (Ne.symm ne01)).trans u0
        have v1 := World.cell?_setCell_same (w3.setCell ⟨w.heap.size, 0, none⟩ (.int .i64 x1)) ⟨w.heap.size, 1, none⟩ (.int .i64 x1) u1
        have hB4 := (hB3.setCell (p := ⟨w.heap.size, 0, none⟩) (Nat.le_refl _) (.int .i64 x1)).setCell (p := ⟨w.heap.size, 1, none⟩) (Nat.le_refl _) (.int .i64 x1)
        clear u0 u1 hc0 hc1
        generalize (w3.setCell ⟨w.heap.size, 0, none⟩ (.int .i64 x1)).setCell ⟨w.heap.size, 1, none⟩ (.int .i64 x1) = W4 at *
        refine bodyPost_ret (by simp [results, Tryz.results38, go_sem, v0, v1]; try rfl) rfl ?_
        exact ⟨⟨_, _, by rw [(unhide PF).1], fun _ => ⟨(unhide PF).2.1.symm, (unhide PF).2.2.symm⟩⟩, hB4⟩
end Go.Proofs.YthnofckkehephaaGreatDoor
