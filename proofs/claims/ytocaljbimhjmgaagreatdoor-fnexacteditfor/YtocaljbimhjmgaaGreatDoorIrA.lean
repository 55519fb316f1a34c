/- Several texts in one. -/
import Derived.Test.YtocaljbimhjmgaaGreatDoorRsA
import Derived.Test.YtocaljbimhjmgaaGreatDoorIsA
import Derived.Test.YtocaljbimhjmgaaGreatDoorShelf
import Derived.Lib.ConvBytes
import Derived.Test.YtocaljbimhjmgaaGreatDoorRangeMoves
import Derived.RangeFuncNested
import Derived.RangeFuncBox
import Derived.RangeFuncBound
import Derived.RangeFuncCalls
import Derived.RangeFuncLeaves
import Derived.Shelf.Abstract
import Derived.Shelf.RegionOpen
import Derived.WalkKit
import Derived.OwnWalkIn
import Derived.TacticsInMore
import Derived.LoopNIn
import Derived.LoopIn
import Derived.Maps.AppendAt
import Derived.Test.YtocaljbimhjmgaaGreatDoorSortF
import Derived.Shelf.SlSortCmp.WholeK
import Derived.Test.YtocaljbimhjmgaaGreatDoorSetA
import Derived.Test.YtocaljbimhjmgaaGreatDoorRegA
import Derived.Deep.AppendLies
namespace Go.Proofs.YtocaljbimhjmgaaGreatDoor
open Go.RowKit
open Plain
set_option linter.unusedVariables false

/-- The library's variable for a wrong text holds an error. -/
def ErrOk (w : World) : Prop := ∃ te pe, w.cell? ⟨4, 0, none⟩ = some (.iface te pe)
theorem ErrOk.below {w w1 : World} (h : ErrOk w) (hb : Below w.heap.size w w1) : ErrOk w1 := by
  obtain ⟨te, pe, h⟩ := h
  exact ⟨te, pe, g_cell hb h⟩

namespace Plain
theorem uint_ok : ∀ (l : List UInt8) (acc : Nat), l.all figOk = true → (acc + 1) * 10 ^ l.length ≤ 100000 →
    Lib.parseUintM (2 ^ 64 - 1) acc l = .ok (l.foldl (fun n b => 10 * n + (b.toNat : Int) - 48) (acc : Int)).toNat := by
  intro l
  induction l with
  | nil => intro acc _ _; simp [Lib.parseUintM]
  | cons b r ih =>
    intro acc h hb
    rw [List.all_cons, Bool.and_eq_true] at h
    have hf : 48 ≤ b.toNat ∧ b.toNat ≤ 57 := by simpa [figOk] using h.1
    rw [List.length_cons, Nat.pow_succ] at hb
    have hp : 1 ≤ 10 ^ r.length := Nat.pow_pos (by omega)
    have hb2 : (acc * 10 + (b.toNat - 48) + 1) * 10 ^ r.length ≤ 100000 := by
      have : (acc * 10 + (b.toNat - 48) + 1) ≤ (acc + 1) * 10 := by omega
      have := Nat.mul_le_mul_right (10 ^ r.length) this
      have e : (acc + 1) * 10 * 10 ^ r.length = (acc + 1) * (10 ^ r.length * 10) := by rw [Nat.mul_assoc, Nat.mul_comm 10]
      omega
    have hacc : (acc * 10 + (b.toNat - 48) + 1) ≤ 100000 := by
      have := Nat.mul_le_mul_left (acc * 10 + (b.toNat - 48) + 1) hp
      omega
    rw [Lib.parseUintM, if_pos hf, if_neg (by omega), if_neg (by omega), ih _ h.2 hb2, List.foldl_cons]
    congr 3
    omega
theorem uint_no : ∀ (l : List UInt8) (acc : Nat), l.all figOk = false → (acc + 1) * 10 ^ l.length ≤ 100000 → Lib.parseUintM (2 ^ 64 - 1) acc l = .«syntax» := by
  intro l
  induction l with
  | nil => intro acc h _; simp at h
  | cons b r ih =>
    intro acc h hb
    rw [Lib.parseUintM]
    by_cases hf : 48 ≤ b.toNat ∧ b.toNat ≤ 57
    · have h2 : r.all figOk = false := by
        rw [List.all_cons] at h
        have : figOk b = true := by simpa [figOk] using hf
        rw [this, Bool.true_and] at h
        exact h
      rw [List.length_cons, Nat.pow_succ] at hb
      have hp : 1 ≤ 10 ^ r.length := Nat.pow_pos (by omega)
      have hb2 : (acc * 10 + (b.toNat - 48) + 1) * 10 ^ r.length ≤ 100000 := by
        have : (acc * 10 + (b.toNat - 48) + 1) ≤ (acc + 1) * 10 := by omega
        have := Nat.mul_le_mul_right (10 ^ r.length) this
        have e : (acc + 1) * 10 * 10 ^ r.length = (acc + 1) * (10 ^ r.length * 10) := by rw [Nat.mul_assoc, Nat.mul_comm 10]
        omega
      have hacc : (acc * 10 + (b.toNat - 48) + 1) ≤ 100000 := by
        have := Nat.mul_le_mul_left (acc * 10 + (b.toNat - 48) + 1) hp
        omega
      rw [if_pos hf, if_neg (by omega), if_neg (by omega)]
      exact ih _ h2 hb2
    · rw [if_neg hf]
theorem pow_len {l : List UInt8} (h : l.length ≤ 4) : 10 ^ l.length ≤ 10000 := by
  have : l.length = 0 ∨ l.length = 1 ∨ l.length = 2 ∨ l.length = 3 ∨ l.length = 4 := by omega
  rcases this with e | e | e | e | e <;> rw [e] <;> decide
theorem uintB_ok {l : List UInt8} (h1 : 1 ≤ l.length) (h2 : l.length ≤ 4) (h : l.all figOk = true) : Lib.parseUintB 64 l = .ok (figsV l).toNat := by
  unfold Lib.parseUintB
  rw [if_neg (by intro e; rw [e] at h1; simp at h1), uint_ok l 0 h (by have := pow_len h2; omega)]
  rfl
theorem uintB_no {l : List UInt8} (h2 : l.length ≤ 4) (h : ¬ (1 ≤ l.length ∧ l.all figOk = true)) : Lib.parseUintB 64 l = .«syntax» := by
  unfold Lib.parseUintB
  by_cases e : l = []
  · rw [if_pos e]
  · rw [if_neg e]
    refine uint_no l 0 ?_ (by have := pow_len h2; omega)
    cases hx : l.all figOk with
    | false => rfl
    | true => exact absurd ⟨by have := List.length_pos_iff.2 e; omega, hx⟩ h
theorem num_no {t : List UInt8} {last : Int} (h : t ≠ [42]) (h2 : ¬ (1 ≤ t.length ∧ t.length ≤ 4 ∧ t.all figOk = true)) : numV t last = (0, false) := by
  unfold numV
  rw [if_neg h]
  split
  · rename_i hl
    rw [if_neg (fun ha => h2 ⟨hl.1, hl.2, ha⟩)]
  · rfl
theorem num_in {t : List UInt8} {last : Int} (h : t ≠ [42]) (h1 : 1 ≤ t.length) (h2 : t.length ≤ 4) (ha : t.all figOk = true) : numV t last = (figsV t, decide (1 ≤ figsV t)) := by
  unfold numV
  rw [if_neg h, if_pos ⟨h1, h2⟩, if_pos ha]
end Plain

set_option maxHeartbeats 2000000 in
set_option maxRecDepth 100000 in
theorem impl_readUid_any (s : ByteArray) (last : Int) (w : World) (hs : s.size ≤ 1048576) (he : ErrOk w) :
    Calls Tryz.prog 89 #[.string s, .int .i64 last] w fun e w' => e = .returned (.tuple #[.int .i64 (numV s.data.toList last).1, .bool (numV s.data.toList last).2]) ∧ Below w.heap.size w w' := by
  by_cases hst : s.data.toList = [42]
  · have e : s = ⟨#[42]⟩ := by
      apply ByteArray.ext
      exact Array.toList_inj.1 hst
    subst e
    go_enter Tryz.func89, Tryz.ntmps89
    go_wp2
    go_ret2
    exact ⟨by rw [num_star]; rfl, Below.refl _ _⟩
  · have hne : s ≠ ⟨#[42]⟩ := fun e => hst (by rw [e])
    have HS := hide hst
    have hls : s.data.toList.length = s.size := rfl
    by_cases hl : s.size ≤ 4
    · by_cases ha : 1 ≤ s.size ∧ s.data.toList.all figOk = true
      · have V := hide (num_in (last := last) hst (by omega) (by omega) ha.2)
        have PU := hide (Tryz.strconv_ParseUint_10_at64_ok s (by omega) _ (uintB_ok (by omega) (by omega) ha.2) w)
        have hb := figsV_bound _ ha.2
        have hp : (10 : Int) ^ s.data.toList.length ≤ 10000 := by
          have : s.data.toList.length = 0 ∨ s.data.toList.length = 1 ∨ s.data.toList.length = 2 ∨ s.data.toList.length = 3 ∨ s.data.toList.length = 4 := by omega
          rcases this with e | e | e | e | e <;> rw [e] <;> decide
        have hb0 := hb.1
        have hb1 : figsV s.data.toList < 10000 := by omega
        obtain ⟨N, hN⟩ := Int.eq_ofNat_of_zero_le hb0
        rw [hN] at V PU hb1
        rw [Int.toNat_natCast] at PU
        have FN : Hid (figsV s.data.toList = (N : Int)) := hN
        clear hb hp hb0 hst hls hN ha
        go_enter Tryz.func89, Tryz.ntmps89
        go_wp2_with fail
        · exfalso
          have hx : s.toList = [42] := by first | assumption | (have hy : (s.toList == [42]) = true := (by assumption); simpa using hy)
          rw [ByteArray.toList_eq] at hx
          exact unhide HS hx
        · refine (unhide PU).mono ?_
          rintro e w1 ⟨rfl, hw⟩
          have hb : Below w.heap.size w w1 := by
            rcases hw with rfl | rfl
            · exact Below.refl _ _
            · exact ⟨rfl, rfl, rfl, by rw [Lib.bytesWorld_size]; omega, fun k hk => Lib.bytesWorld_at_old w _ s k hk⟩
          clear hw
          by_cases hn : N < 1
          · have hn0 : N = 0 := by omega
            subst hn0
            go_wp2
            go_ret2
            exact ⟨by rw [unhide V]; rfl, hb⟩
          · have hn1 : ¬ ((N : Int) < 1) := by omega
            have hn2 : decide ((N : Int) < 1) = false := by simpa using hn1
            have hc : IntKind.i64.wrap (N : Int) = (N : Int) := by rw [IntKind.wrap_i64]; omega
            have hd : decide ((1 : Int) ≤ (N : Int)) = true := by simp; omega
            rw [hd] at V
            go_wp2
            go_ret2
            exact ⟨by rw [unhide V]; rfl, hb⟩
      · have V := hide (num_no (last := last) hst (fun h => ha ⟨by omega, h.2.2⟩))
        obtain ⟨te, pe, hv⟩ := he
        have PU := hide (Tryz.strconv_ParseUint_10_at64_syntax s (by omega) (uintB_no (by omega) (fun h => ha ⟨by omega, h.2⟩)) _ w hv (.inr ⟨te, pe, rfl⟩))
        clear hst hls
        go_enter Tryz.func89, Tryz.ntmps89
        go_wp2_with fail
        · exfalso
          have hx : s.toList = [42] := by first | assumption | (have hy : (s.toList == [42]) = true := (by assumption); simpa using hy)
          rw [ByteArray.toList_eq] at hx
          exact unhide HS hx
        · refine (unhide PU).mono ?_
          rintro e w1 ⟨N1, rfl, hN1, hN2, hb⟩
          clear hN2
          go_wp2
          go_ret2
          exact ⟨by rw [unhide V]; rfl, hb⟩
    · have V := hide (num_no (last := last) hst (fun h => hl (by omega)))
      have hl4 : (4 : Int) < (s.size : Int) := by omega
      clear hst hls
      go_enter Tryz.func89, Tryz.ntmps89
      go_wp2
      · exfalso
        have hx : s.toList = [42] := by first | assumption | (have hy : (s.toList == [42]) = true := (by assumption); simpa using hy)
        rw [ByteArray.toList_eq] at hx
        exact unhide HS hx
      · go_ret2
        exact ⟨by rw [unhide V]; rfl, Below.refl _ _⟩

set_option maxHeartbeats 2000000 in
set_option maxRecDepth 100000 in
theorem slite_Cut_any (s : ByteArray) (w : World) (hs : s.size ≤ 1048576) :
    Calls Tryz.prog 100 #[.string s, .string ⟨#[58]⟩] w fun e w' =>
      ((∃ i, i < s.size ∧ e = .returned (.tuple #[.string (s.extract 0 i), .string (s.extract (i + 1) s.size), .bool true]) ∧ (∀ k, k < i → s.data.toList[k]? ≠ some 58) ∧ s.data.toList[i]? = some 58) ∨
       (e = .returned (.tuple #[.string s, .string ⟨#[]⟩, .bool false]) ∧ ∀ k : Nat, s.data.toList[k]? ≠ some 58)) ∧ ∃ q, w' = w.drewN q := by
  have IX := hide (fun W => Tryz.stringslite_Index_one s 58 W)
  have hge := Lib.indexByte_ge s.data.toList 58
  by_cases h : Lib.indexByte s.data.toList 58 = -1
  · have NO := hide (fun k => Lib.indexByte_none h k)
    rw [h] at IX
    clear h hge
    go_enter Tryz.func100, Tryz.ntmps100
    go_wp2_with fail
    refine (unhide IX _).mono ?_
    rintro e w1 ⟨rfl, hw⟩
    subst w1
    go_wp2
    go_returns
    exact ⟨.inr ⟨rfl, fun k => unhide NO k⟩, 0, rfl⟩
  · obtain ⟨o, ho⟩ : ∃ o : Nat, Lib.indexByte s.data.toList 58 = o := ⟨(Lib.indexByte s.data.toList 58).toNat, by omega⟩
    have SM := hide (Lib.indexByte_some ho)
    have hlt : o < s.size := by
      have := (List.getElem?_eq_some_iff.1 (unhide SM).1).1
      exact this
    rw [ho] at IX
    clear h hge ho
    have i1 : (0 : Int) ≤ (o : Int) := by omega
    have i2 : (o : Int) ≤ (s.size : Int) := by omega
    have i3 : IntKind.i64.wrap ((o : Int) + 1) = (o : Int) + 1 := by rw [IntKind.wrap_i64]; omega
    have i4 : (0 : Int) ≤ (o : Int) + 1 := by omega
    have i5 : (o : Int) + 1 ≤ (s.size : Int) := by omega
    go_enter Tryz.func100, Tryz.ntmps100
    go_wp2_with fail
    refine (unhide IX _).mono ?_
    rintro e w1 ⟨rfl, hw⟩
    subst w1
    go_wp2
    go_quiet (fail)
    go_wp2
    go_returns
    exact ⟨.inl ⟨o, hlt, rfl, (unhide SM).2, (unhide SM).1⟩, _, rfl⟩

set_option maxHeartbeats 2000000 in
theorem strings_Cut_any (s : ByteArray) (w : World) (hs : s.size ≤ 1048576) :
    Calls Tryz.prog 88 #[.string s, .string ⟨#[58]⟩] w fun e w' =>
      ((∃ i, i < s.size ∧ e = .returned (.tuple #[.string (s.extract 0 i), .string (s.extract (i + 1) s.size), .bool true]) ∧ (∀ k, k < i → s.data.toList[k]? ≠ some 58) ∧ s.data.toList[i]? = some 58) ∨
       (e = .returned (.tuple #[.string s, .string ⟨#[]⟩, .bool false]) ∧ ∀ k : Nat, s.data.toList[k]? ≠ some 58)) ∧ ∃ q, w' = w.drewN q := by
  have C := hide (fun W => slite_Cut_any s W hs)
  go_enter Tryz.func88, Tryz.ntmps88
  go_wp2_with fail
  refine (unhide C _).mono ?_
  rintro e w1 ⟨(⟨i, hi, rfl, h1, h2⟩ | ⟨rfl, h1⟩), q, hw⟩
  · have H := hide (And.intro h1 h2)
    clear h1 h2
    subst hw
    go_wp2
    go_returns
    exact ⟨.inl ⟨i, hi, rfl, unhide H⟩, q, rfl⟩
  · have H := hide h1
    clear h1
    subst hw
    go_wp2
    go_returns
    exact ⟨.inr ⟨rfl, unhide H⟩, q, rfl⟩

namespace Plain
theorem no_colon {l : List UInt8} (h : ∀ k : Nat, l[k]? ≠ some 58) : ∀ b ∈ l, b ≠ 58 := by
  intro b hb e
  obtain ⟨k, hk, rfl⟩ := List.getElem_of_mem hb
  exact h k (by rw [List.getElem?_eq_getElem hk, e])
theorem no_colon_to {l : List UInt8} {i : Nat} (h : ∀ k, k < i → l[k]? ≠ some 58) : ∀ b ∈ l.take i, b ≠ 58 := by
  intro b hb e
  obtain ⟨k, hk, rfl⟩ := List.getElem_of_mem hb
  have hk2 : k < i := by have := hk; simp at this; omega
  have hk3 : k < l.length := by have := hk; simp at this; omega
  refine h k hk2 ?_
  rw [List.getElem_take] at e
  rw [List.getElem?_eq_getElem hk3, e]
theorem extract_to (s : ByteArray) (i : Nat) : (s.extract 0 i).data.toList = s.data.toList.take i := by simp
theorem extract_from (s : ByteArray) (i : Nat) : (s.extract i s.size).data.toList = s.data.toList.drop i := by
  rw [ByteArray.data_extract, Array.toList_extract]
  show (s.data.toList.drop i).take (s.data.size - i) = _
  rw [List.take_of_length_le (by simp)]
end Plain

set_option maxHeartbeats 4000000 in
set_option maxRecDepth 100000 in
theorem impl_readRange_any (s : ByteArray) (last : Int) (w : World) (hs : s.size ≤ 1048576) (he : ErrOk w) :
    Calls Tryz.prog 81 #[.string s, .int .i64 last] w fun e w' => (∃ x y, e = .returned (.tuple #[.agg #[.int .i64 x, .int .i64 y], .bool (partV s.data.toList last).2.2]) ∧ ((partV s.data.toList last).2.2 = true → x = (partV s.data.toList last).1 ∧ y = (partV s.data.toList last).2.1)) ∧ Below w.heap.size w w' := by
  have CU := hide (fun W => strings_Cut_any s W hs)
  obtain ⟨W, hW⟩ : ∃ W, W = w.alloc (Obj.cells #[Value.int IntKind.i64 0, Value.int IntKind.i64 0] 87) := ⟨_, rfl⟩
  have hb0 : Below w.heap.size w W := by rw [hW]; exact (Below.refl _ _).alloc (Nat.le_refl _) _
  have s0 : W.cell? ⟨w.heap.size, 0, none⟩ = some (.int .i64 0) := by rw [hW]; go_simp
  have s1 : W.cell? ⟨w.heap.size, 1, none⟩ = some (.int .i64 0) := by rw [hW]; go_simp
  have z0 : W.frozen? ⟨w.heap.size, 0, none⟩ = false := by rw [hW]; go_simp
  have z1 : W.frozen? ⟨w.heap.size, 1, none⟩ = false := by rw [hW]; go_simp
  have hsz : w.heap.size < W.heap.size := by rw [hW]; simp
  have HW := hide hW
  have HE := hide he
  clear hW he
  go_enter Tryz.func81, Tryz.ntmps81
  go_wp2_with fail
  rw [← unhide HW]
  refine (unhide CU _).mono ?_
  rintro e w1 ⟨(⟨i, hi, rfl, h1, h2⟩ | ⟨rfl, h1⟩), q, hw⟩
  · have hb1W : Below W.heap.size W w1 := by rw [hw]; exact b_drewN (Below.refl _ _) _
    have hb1 : Below w.heap.size w w1 := below2 hb0 hb1W
    have N1 := hide (no_colon_to h1)
    have N2 := hide h2
    clear h1 h2 hw
    have hA : (s.extract 0 i).size ≤ 1048576 := (by simp; omega)
    have hB : (s.extract (i + 1) s.size).size ≤ 1048576 := (by simp; omega)
    have U1 := hide (fun W h => impl_readUid_any (s.extract 0 i) last W hA h)
    have U2 := hide (fun W h => impl_readUid_any (s.extract (i + 1) s.size) last W hB h)
    have PV : Hid (partV s.data.toList last = upV (numV (s.extract 0 i).data.toList last) (numV (s.extract (i + 1) s.size).data.toList last)) := (by rw [extract_to, extract_from]; exact part_at (unhide N1) (unhide N2))
    generalize numV (s.extract 0 i).data.toList last = x at *
    generalize numV (s.extract (i + 1) s.size).data.toList last = y at *
    obtain ⟨x1, x2⟩ := x
    obtain ⟨y1, y2⟩ := y
    simp only at U1 U2 PV
    have E1 := (unhide HE).below hb1
    have V1 := hide (unhide U1 w1 E1)
    clear U1 hA hB
    go_wp2_with fail
    refine (unhide V1).mono ?_
    rintro e w2 ⟨rfl, hb2⟩
    have V2 := hide (unhide U2 w2 (E1.below hb2))
    clear U2
    go_wp2_with fail
    refine (unhide V2).mono ?_
    rintro e w3 ⟨rfl, hb3⟩
    have hB3 := below2 hb1 (below2 hb2 hb3)
    have hBW := below2 hb1W (below2 hb2 hb3)
    have hc0 := (hBW.cell (p := ⟨w.heap.size, 0, none⟩) hsz).trans s0
    have hc1 := (hBW.cell (p := ⟨w.heap.size, 1, none⟩) hsz).trans s1
    have f0 : w3.frozen? ⟨w.heap.size, 0, none⟩ = false := (World.frozen?_of_block (a := ⟨w.heap.size, 0, none⟩) (hBW.block _ hsz)).trans z0
    have f1 : w3.frozen? ⟨w.heap.size, 1, none⟩ = false := (World.frozen?_of_block (a := ⟨w.heap.size, 1, none⟩) (hBW.block _ hsz)).trans z1
    have ne01 : (⟨w.heap.size, 0, none⟩ : Addr) ≠ ⟨w.heap.size, 1, none⟩ := by simp
    clear V1 V2 hb2 hb3 E1
    cases x2 with
    | false =>
      have PF : Hid ((partV s.data.toList last).2.2 = false) := by rw [unhide PV]; unfold upV; simp only; split <;> rfl
      go_wp2
      have u0 := World.cell?_setCell_same w3 ⟨w.heap.size, 0, none⟩ (.int .i64 0) hc0
      have u1 := (World.cell?_setCell_other w3 ⟨w.heap.size, 0, none⟩ ⟨w.heap.size, 1, none⟩ (.int .i64 0) ne01).trans hc1
      have v0 := (World.cell?_setCell_other (w3.setCell ⟨w.heap.size, 0, none⟩ (.int .i64 0)) ⟨w.heap.size, 1, none⟩ ⟨w.heap.size, 0, none⟩ (.int .i64 0) (Ne.symm ne01)).trans u0
      have v1 := World.cell?_setCell_same (w3.setCell ⟨w.heap.size, 0, none⟩ (.int .i64 0)) ⟨w.heap.size, 1, none⟩ (.int .i64 0) u1
      have hB4 := (hB3.setCell (p := ⟨w.heap.size, 0, none⟩) (Nat.le_refl _) (.int .i64 0)).setCell (p := ⟨w.heap.size, 1, none⟩) (Nat.le_refl _) (.int .i64 0)
      clear u0 u1 hc0 hc1
      generalize (w3.setCell ⟨w.heap.size, 0, none⟩ (.int .i64 0)).setCell ⟨w.heap.size, 1, none⟩ (.int .i64 0) = W4 at *
      refine bodyPost_ret (by simp [results, Tryz.results81, go_sem, v0, v1]; try rfl) rfl ?_
      exact ⟨⟨0, 0, by rw [unhide PF], fun h => by rw [unhide PF] at h; cases h⟩, hB4⟩
    | true =>
      cases y2 with
      | false =>
        have PF : Hid ((partV s.data.toList last).2.2 = false) := by rw [unhide PV]; unfold upV; simp only; split <;> rfl
        go_wp2
        have u0 := World.cell?_setCell_same w3 ⟨w.heap.size, 0, none⟩ (.int .i64 0) hc0
        have u1 := (World.cell?_setCell_other w3 ⟨w.heap.size, 0, none⟩ ⟨w.heap.size, 1, none⟩ (.int .i64 0) ne01).trans hc1
        have v0 := (World.cell?_setCell_other (w3.setCell ⟨w.heap.size, 0, none⟩ (.int .i64 0)) ⟨w.heap.size, 1, none⟩ ⟨w.heap.size, 0, none⟩ (.int .i64 0) (Ne.symm ne01)).trans u0
        have v1 := World.cell?_setCell_same (w3.setCell ⟨w.heap.size, 0, none⟩ (.int .i64 0)) ⟨w.heap.size, 1, none⟩ (.int .i64 0) u1
        have hB4 := (hB3.setCell (p := ⟨w.heap.size, 0, none⟩) (Nat.le_refl _) (.int .i64 0)).setCell (p := ⟨w.heap.size, 1, none⟩) (Nat.le_refl _) (.int .i64 0)
        clear u0 u1 hc0 hc1
        generalize (w3.setCell ⟨w.heap.size, 0, none⟩ (.int .i64 0)).setCell ⟨w.heap.size, 1, none⟩ (.int .i64 0) = W4 at *
        refine bodyPost_ret (by simp [results, Tryz.results81, go_sem, v0, v1]; try rfl) rfl ?_
        exact ⟨⟨0, 0, by rw [unhide PF], fun h => by rw [unhide PF] at h; cases h⟩, hB4⟩
      | true =>
        have PF : Hid ((partV s.data.toList last).2.2 = true ∧ (partV s.data.toList last).1 = min x1 y1 ∧ (partV s.data.toList last).2.1 = max x1 y1) := by
            rw [unhide PV]
            unfold upV
            simp only
            refine ⟨by split <;> rfl, ?_, ?_⟩
            · split <;> simp only <;> omega
            · split <;> simp only <;> omega
        go_wp2
        have u0 := World.cell?_setCell_same w3 ⟨w.heap.size, 0, none⟩ (.int .i64 (min x1 y1)) hc0
        have u1 := (World.cell?_setCell_other w3 ⟨w.heap.size, 0, none⟩ ⟨w.heap.size, 1, none⟩ (.int .i64 (min x1 y1)) ne01).trans hc1
        have v0 := (World.cell?_setCell_other (w3.setCell ⟨w.heap.size, 0, none⟩ (.int .i64 (min x1 y1))) ⟨w.heap.size, 1, none⟩ ⟨w.heap.size, 0, none⟩ (.int .i64 (max x1 y1)) (Ne.symm ne01)).trans u0
        have v1 := World.cell?_setCell_same (w3.setCell ⟨w.heap.size, 0, none⟩ (.int .i64 (min x1 y1))) ⟨w.heap.size, 1, none⟩ (.int .i64 (max x1 y1)) u1
        have hB4 := (hB3.setCell (p := ⟨w.heap.size, 0, none⟩) (Nat.le_refl _) (.int .i64 (min x1 y1))).setCell (p := ⟨w.heap.size, 1, none⟩) (Nat.le_refl _) (.int .i64 (max x1 y1))
        clear u0 u1 hc0 hc1
        generalize (w3.setCell ⟨w.heap.size, 0, none⟩ (.int .i64 (min x1 y1))).setCell ⟨w.heap.size, 1, none⟩ (.int .i64 (max x1 y1)) = W4 at *
        refine bodyPost_ret (by simp [results, Tryz.results81, go_sem, v0, v1]; try rfl) rfl ?_
        exact ⟨⟨_, _, by rw [(unhide PF).1], fun _ => ⟨(unhide PF).2.1.symm, (unhide PF).2.2.symm⟩⟩, hB4⟩
  · have hb1W : Below W.heap.size W w1 := by rw [hw]; exact b_drewN (Below.refl _ _) _
    have hb1 : Below w.heap.size w w1 := below2 hb0 hb1W
    have N1 := hide (no_colon h1)
    clear h1 hw
    have hA : s.size ≤ 1048576 := hs
    have hB : s.size ≤ 1048576 := hs
    have U1 := hide (fun W h => impl_readUid_any (s) last W hA h)
    have U2 := hide (fun W h => impl_readUid_any (s) last W hB h)
    have PV : Hid (partV s.data.toList last = upV (numV (s).data.toList last) (numV (s).data.toList last)) := (by show _ = _; rw [part_no (unhide N1)]; unfold upV; rw [if_neg (Int.lt_irrefl _), Bool.and_self])
    generalize numV (s).data.toList last = x at *
    obtain ⟨x1, x2⟩ := x
    simp only at U1 U2 PV
    have E1 := (unhide HE).below hb1
    have V1 := hide (unhide U1 w1 E1)
    clear U1 hA hB
    go_wp2_with fail
    refine (unhide V1).mono ?_
    rintro e w2 ⟨rfl, hb2⟩
    have V2 := hide (unhide U2 w2 (E1.below hb2))
    clear U2
    go_wp2_with fail
    refine (unhide V2).mono ?_
    rintro e w3 ⟨rfl, hb3⟩
    have hB3 := below2 hb1 (below2 hb2 hb3)
    have hBW := below2 hb1W (below2 hb2 hb3)
    have hc0 := (hBW.cell (p := ⟨w.heap.size, 0, none⟩) hsz).trans s0
    have hc1 := (hBW.cell (p := ⟨w.heap.size, 1, none⟩) hsz).trans s1
    have f0 : w3.frozen? ⟨w.heap.size, 0, none⟩ = false := (World.frozen?_of_block (a := ⟨w.heap.size, 0, none⟩) (hBW.block _ hsz)).trans z0
    have f1 : w3.frozen? ⟨w.heap.size, 1, none⟩ = false := (World.frozen?_of_block (a := ⟨w.heap.size, 1, none⟩) (hBW.block _ hsz)).trans z1
    have ne01 : (⟨w.heap.size, 0, none⟩ : Addr) ≠ ⟨w.heap.size, 1, none⟩ := by simp
    clear V1 V2 hb2 hb3 E1
    cases x2 with
    | false =>
      have PF : Hid ((partV s.data.toList last).2.2 = false) := by rw [unhide PV]; unfold upV; show _ = false; simp only; split <;> rfl
      go_wp2
      have u0 := World.cell?_setCell_same w3 ⟨w.heap.size, 0, none⟩ (.int .i64 0) hc0
      have u1 := (World.cell?_setCell_other w3 ⟨w.heap.size, 0, none⟩ ⟨w.heap.size, 1, none⟩ (.int .i64 0) ne01).trans hc1
      have v0 := (World.cell?_setCell_other (w3.setCell ⟨w.heap.size, 0, none⟩ (.int .i64 0)) ⟨w.heap.size, 1, none⟩ ⟨w.heap.size, 0, none⟩ (.int .i64 0) (Ne.symm ne01)).trans u0
      have v1 := World.cell?_setCell_same (w3.setCell ⟨w.heap.size, 0, none⟩ (.int .i64 0)) ⟨w.heap.size, 1, none⟩ (.int .i64 0) u1
      have hB4 := (hB3.setCell (p := ⟨w.heap.size, 0, none⟩) (Nat.le_refl _) (.int .i64 0)).setCell (p := ⟨w.heap.size, 1, none⟩) (Nat.le_refl _) (.int .i64 0)
      clear u0 u1 hc0 hc1
      generalize (w3.setCell ⟨w.heap.size, 0, none⟩ (.int .i64 0)).setCell ⟨w.heap.size, 1, none⟩ (.int .i64 0) = W4 at *
      refine bodyPost_ret (by simp [results, Tryz.results81, go_sem, v0, v1]; try rfl) rfl ?_
      exact ⟨⟨0, 0, by rw [unhide PF], fun h => by rw [unhide PF] at h; cases h⟩, hB4⟩
    | true =>
        have PF : Hid ((partV s.data.toList last).2.2 = true ∧ (partV s.data.toList last).1 = x1 ∧ (partV s.data.toList last).2.1 = x1) := by
            rw [unhide PV]
            unfold upV
            simp only
            rw [if_neg (Int.lt_irrefl _)]
            exact ⟨rfl, rfl, rfl⟩
        go_wp2
        have u0 := World.cell?_setCell_same w3 ⟨w.heap.size, 0, none⟩ (.int .i64 x1) hc0
        have u1 := (World.cell?_setCell_other w3 ⟨w.heap.size, 0, none⟩ ⟨w.heap.size, 1, none⟩ (.int .i64 x1) ne01).trans hc1
        have v0 := (World.cell?_setCell_other (w3.setCell ⟨w.heap.size, 0, none⟩ (.int .i64 x1)) ⟨w.heap.size, 1, none⟩ ⟨w.heap.size, 0, none⟩ (.int .i64 x1) (Ne.symm ne01)).trans u0
        have v1 := World.cell?_setCell_same (w3.setCell ⟨w.heap.size, 0, none⟩ (.int .i64 x1)) ⟨w.heap.size, 1, none⟩ (.int .i64 x1) u1
        have hB4 := (hB3.setCell (p := ⟨w.heap.size, 0, none⟩) (Nat.le_refl _) (.int .i64 x1)).setCell (p := ⟨w.heap.size, 1, none⟩) (Nat.le_refl _) (.int .i64 x1)
        clear u0 u1 hc0 hc1
        generalize (w3.setCell ⟨w.heap.size, 0, none⟩ (.int .i64 x1)).setCell ⟨w.heap.size, 1, none⟩ (.int .i64 x1) = W4 at *
        refine bodyPost_ret (by simp [results, Tryz.results81, go_sem, v0, v1]; try rfl) rfl ?_
        exact ⟨⟨_, _, by rw [(unhide PF).1], fun _ => ⟨(unhide PF).2.1.symm, (unhide PF).2.2.symm⟩⟩, hB4⟩
end Go.Proofs.YtocaljbimhjmgaaGreatDoor

namespace Go.Proofs.YtocaljbimhjmgaaGreatDoor
open Go.RowKit Go.Shelf
open Plain
set_option linter.unusedVariables false

attribute [local go_sem] Oper.semAt_some

/-- What a round is handed: a part of the text. -/
abbrev Pt := { x : ByteArray // x.size ≤ 1048576 }
def ptOf (x : Pt) : List UInt8 := x.1.data.toList
abbrev ptEnc (x : Pt) : Array Value := #[.string x.1]

/-- What a round keeps: all that lay ahead, and the iterator's three boxes. -/
def KpS (n₀ B : Nat) (W W' : World) : Prop := Below n₀ W W' ∧ ∀ k, B ≤ k → k < B + 3 → W'.heap[k]? = W.heap[k]?
theorem KpS.t {n₀ B : Nat} {X Y Z : World} (h : KpS n₀ B X Y) (k : KpS n₀ B Y Z) : KpS n₀ B X Z := ⟨h.1.trans k.1, fun i h1 h2 => (k.2 i h1 h2).trans (h.2 i h1 h2)⟩
theorem KpS.b {n₀ B : Nat} {w : World} (hn : n₀ ≤ w.heap.size) (hB : B + 3 ≤ w.heap.size) (W : World) (l : Nat) (o o' : Obj) (hl : w.heap.size ≤ l) (h : W.heap[l]? = some o) (ho : o.isCells = false) (hw : o.isWalk = false) : KpS n₀ B W (W.putObj l o') :=
  ⟨belowK_b hn W l o o' hl h ho hw, fun k h1 h2 => World.putObj_heap_other (by omega)⟩

/-- The three boxes: what is left of the text, the comma, none of it kept. -/
def SpBox (B : Nat) (W : World) (s : ByteArray) : Prop := Boxed W B 9 (.string s) ∧ Boxed W (B + 1) 9 (.string ⟨#[44]⟩) ∧ Boxed W (B + 2) 3 (.int .i64 0)
theorem SpBox.keep {B : Nat} {W W' : World} {s : ByteArray} (h : SpBox B W s) (hk : ∀ k, B ≤ k → k < B + 3 → W'.heap[k]? = W.heap[k]?) : SpBox B W' s :=
  ⟨(hk B (by omega) (by omega)).trans h.1, (hk (B + 1) (by omega) (by omega)).trans h.2.1, (hk (B + 2) (by omega) (by omega)).trans h.2.2⟩
theorem SpBox.moved {B : Nat} {W : World} {s t : ByteArray} (h : SpBox B W s) : SpBox B (W.setCell ⟨B, 0, none⟩ (.string t)) t := by
  refine ⟨?_, h.2.1.other (by omega) _, h.2.2.other (by omega) _⟩
  have h1 : W.heap[B]? = some (.cells #[.string s] 9 (0, 0)) := h.1
  show (W.setCell ⟨B, 0, none⟩ (.string t)).heap[B]? = some (.cells #[.string t] 9 (0, 0))
  simp [World.setCell, h1, Array.getElem?_modify]
def leftV (v : Value) : Nat := match v with
  | .string s => s.size + 1
  | _ => 0
def leftS (B : Nat) (W : World) : Nat := match W.cell? ⟨B, 0, none⟩ with
  | some v => leftV v
  | none => 0
theorem SpBox.left {B : Nat} {W : World} {s : ByteArray} (h : SpBox B W s) : leftS B W = s.size + 1 := by
  unfold leftS
  rw [h.1.cell]
  rfl
namespace Plain
theorem cuts_pos (c : UInt8) (l : List UInt8) : 1 ≤ (cutsL c l).length := by
  cases l with
  | nil => simp [cutsL]
  | cons b r =>
    rw [cutsL]
    split
    · simp
    · split <;> simp
theorem no_comma {l : List UInt8} {c : UInt8} (h : ∀ k : Nat, l[k]? ≠ some c) : ∀ b ∈ l, b ≠ c := by
  intro b hb e
  obtain ⟨k, hk, rfl⟩ := List.getElem_of_mem hb
  exact h k (by rw [List.getElem?_eq_getElem hk, e])
theorem no_comma_to {l : List UInt8} {c : UInt8} {i : Nat} (h : ∀ k, k < i → l[k]? ≠ some c) : ∀ b ∈ l.take i, b ≠ c := by
  intro b hb e
  obtain ⟨k, hk, rfl⟩ := List.getElem_of_mem hb
  have hk2 : k < i := by have := hk; simp at this; omega
  have hk3 : k < l.length := by have := hk; simp at this; omega
  refine h k hk2 ?_
  rw [List.getElem_take] at e
  rw [List.getElem?_eq_getElem hk3, e]
theorem cuts_here {l : List UInt8} {c : UInt8} {i : Nat} (h1 : ∀ k, k < i → l[k]? ≠ some c) (h2 : l[i]? = some c) : cutsL c l = l.take i :: cutsL c (l.drop (i + 1)) := by
  have hi : i < l.length := (List.getElem?_eq_some_iff.1 h2).1
  have e : l = l.take i ++ c :: l.drop (i + 1) := by
    have h3 : l[i] = c := (List.getElem?_eq_some_iff.1 h2).2
    rw [← h3, List.getElem_cons_drop hi, List.take_append_drop]
  have := cuts_at (c := c) (l.take i) (l.drop (i + 1)) (no_comma_to h1)
  rw [← e] at this
  exact this
end Plain

set_option maxRecDepth 100000 in
set_option maxHeartbeats 4000000 in
theorem split1_in (n : Nat) (hn : 1 ≤ n) (l B n₀ : Nat) (t : ByteArray) (ht : t.size ≤ 1048576) (J Jx : List Pt → World → Prop) (W : World)
    (hSt : ∀ s A v, J s A → J s (A.setCell ⟨B, 0, none⟩ v))
    (hY : ∀ pre x W1, J pre W1 → pre.length < (cutsL 44 t.data.toList).length → YieldAt Fence.wide (n - 1) Tryz.prog l (ptEnc x) W1 fun e W' =>
      (e = .returned (.bool true) ∧ J (pre ++ [x]) W' ∧ KpS n₀ B W1 W') ∨ (e = .returned (.bool false) ∧ Jx (pre ++ [x]) W'))
    (hB : SpBox B W t) (h0 : J [] W) :
    CallsIn Fence.wide n Tryz.prog 97 #[.func (.yield l) #[] #[], .pointer (some ⟨B + 1, 0, none⟩), .pointer (some ⟨B, 0, none⟩), .pointer (some ⟨B + 2, 0, none⟩)] W fun e W' => (∃ v, e = .returned v) ∧
      ((∃ ys, ys.map ptOf = cutsL 44 t.data.toList ∧ J ys W') ∨ (∃ pre, (pre.map ptOf <+: cutsL 44 t.data.toList) ∧ Jx pre W')) := by
  have HY := hide hY
  have HS := hide hSt
  have c1 := hB.2.1.cell
  have HB := hide hB
  have H0 := hide h0
  clear hY hSt hB h0
  refine callsIn_of_wp Tryz.func97 rfl trivial ?_ rfl
  simp only [Tryz.ntmps97, List.size_toArray, List.length_cons, List.length_nil, Nat.reduceAdd, Nat.reduceSub, Array.replicate_succ, Array.replicate_zero, List.push_toArray, List.append_toArray, List.nil_append, List.cons_append]
  gi_wp2
  gi_loopw [7] (fun _ wr => ∃ (pre : List Pt) (s : ByteArray), s.size ≤ t.size ∧ pre.map ptOf ++ cutsL 44 s.data.toList = cutsL 44 t.data.toList ∧ SpBox B wr s ∧ J pre wr)
    (fun _ wr => leftS B wr)
  case atStart => exact ⟨[], t, Nat.le_refl _, rfl, unhide HB, unhide H0⟩
  case round =>
    obtain ⟨pre, s, hsz, hcut, hbx, hj⟩ := hrel
    clear c1
    have c0 := hbx.1.cell
    have c1 := hbx.2.1.cell
    have c2 := hbx.2.2.cell
    have z0 := hbx.1.frozen
    have hlen : pre.length < (cutsL 44 t.data.toList).length := by
      have := congrArg List.length hcut
      have h2 := cuts_pos 44 s.data.toList
      simp at this
      omega
    have IX := hide (fun W => Tryz.strings_Index_one s 44 W)
    have hge := Lib.indexByte_ge s.data.toList 44
    have LM := hide hbx.left
    by_cases h : Lib.indexByte s.data.toList 44 = -1
    · have CO := hide (cuts_one (c := 44) s.data.toList (no_comma (fun k => Lib.indexByte_none h k)))
      obtain ⟨fn, tmps, assign, body, hy, hR⟩ := unhide HY pre ⟨s, by omega⟩ wr hj hlen
      dsimp only [ptEnc] at hy
      have HR := hide hR
      have HC := hide hcut
      rw [h] at IX
      clear h hge hR hcut hj hbx
      gi_wp2_with (refine ⟨trivial, ?_⟩; gi_at_call 99; refine (callsIn_wide.2 (unhide IX _)).mono ?_; rintro e w1 ⟨rfl, hw⟩; subst w1)
      refine (unhide HR).mono ?_
      rintro e' W3 (⟨rfl, hJ3, hk3⟩ | ⟨rfl, hJx3⟩)
      · have JJ := hide hJ3
        clear hJ3 hk3
        gi_wp2
        go_end0
        refine ⟨⟨_, rfl⟩, .inl ⟨_, ?_, unhide JJ⟩⟩
        rw [List.map_append, ← unhide HC, unhide CO]
        rfl
      · have JJ := hide hJx3
        clear hJx3
        gi_wp2
        go_end0
        refine ⟨⟨_, rfl⟩, .inr ⟨_, ?_, unhide JJ⟩⟩
        rw [List.map_append, ← unhide HC, unhide CO]
        exact List.prefix_refl _
    · obtain ⟨o, ho⟩ : ∃ o : Nat, Lib.indexByte s.data.toList 44 = o := ⟨(Lib.indexByte s.data.toList 44).toNat, by omega⟩
      have SM := Lib.indexByte_some ho
      have hlt : o < s.size := (List.getElem?_eq_some_iff.1 SM.1).1
      have CH := hide (cuts_here SM.2 SM.1)
      obtain ⟨fn, tmps, assign, body, hy, hR⟩ := unhide HY pre ⟨s.extract 0 o, by simp; omega⟩ wr hj hlen
      dsimp only [ptEnc] at hy
      have HR := hide hR
      have HC := hide hcut
      have HX := hide hbx
      rw [ho] at IX
      have i1 : (0 : Int) ≤ (o : Int) := by omega
      have i2 : (o : Int) ≤ (s.size : Int) := by omega
      have i3 : IntKind.i64.wrap ((o : Int) + 1) = (o : Int) + 1 := by rw [IntKind.wrap_i64]; omega
      have i4 : (0 : Int) ≤ (o : Int) + 1 := by omega
      have i5 : (o : Int) + 1 ≤ (s.size : Int) := by omega
      clear h hge ho SM hR hcut hj hbx
      gi_wp2_with (refine ⟨trivial, ?_⟩; gi_at_call 99; refine (callsIn_wide.2 (unhide IX _)).mono ?_; rintro e w1 ⟨rfl, hw⟩; subst w1)
      refine (unhide HR).mono ?_
      rintro e' W3 (⟨rfl, hJ3, hk3⟩ | ⟨rfl, hJx3⟩)
      · have hb3 := (unhide HX).keep hk3.2
        have d0 := hb3.1.cell
        have d1 := hb3.2.1.cell
        have d2 := hb3.1.frozen
        have J4 := hide (unhide HS _ W3 (.string (s.extract (o + 1) s.size)) hJ3)
        have B4 := hide (hb3.moved (t := s.extract (o + 1) s.size))
        clear hJ3 hk3 hb3 HR HX hy
        gi_wp2
        go_roundw
        case rel =>
          refine ⟨_, _, ?_, ?_, unhide B4, unhide J4⟩
          · simp; omega
          · rw [← unhide HC, unhide CH, List.map_append, List.append_assoc, extract_from]
            show _ ++ ([ptOf _] ++ _) = _
            unfold ptOf
            simp only
            rw [extract_to]
            rfl
        case measure =>
          show leftS B (W3.setCell ⟨B, 0, none⟩ (.string (s.extract (o + 1) s.size))) < leftS B wr
          rw [(unhide B4).left, unhide LM]
          simp
          omega
      · have JJ := hide hJx3
        clear hJx3
        gi_wp2
        refine bodyPost_ret (results_none rfl _ _ _) rfl ?_
        refine ⟨⟨_, rfl⟩, .inr ⟨_, ?_, unhide JJ⟩⟩
        rw [← unhide HC, unhide CH, List.map_append]
        refine ⟨cutsL 44 (s.data.toList.drop (o + 1)), ?_⟩
        rw [List.append_assoc]
        show _ ++ ([ptOf _] ++ _) = _
        unfold ptOf
        simp only
        rw [extract_to]
        rfl

theorem split_moves (n : Nat) (hn : 1 ≤ n) (B n₀ : Nat) (t : ByteArray) (ht : t.size ≤ 1048576) (w : World) (hB : SpBox B w t) (hlt : B + 3 ≤ w.heap.size) :
    SeqMoves n Tryz.prog 97 #[.pointer (some ⟨B + 1, 0, none⟩), .pointer (some ⟨B, 0, none⟩), .pointer (some ⟨B + 2, 0, none⟩)] ptEnc B (KpS n₀ B) (fun ys => ys.map ptOf = cutsL 44 t.data.toList) (fun pre => pre.map ptOf <+: cutsL 44 t.data.toList) (cutsL 44 t.data.toList).length w := fun l J Jx W hW hJ hSt hY h0 =>
  split1_in n hn l B n₀ t ht J Jx W hSt hY (hB.keep (fun k h1 h2 => hW.block k (by omega))) h0

set_option maxHeartbeats 1000000 in
theorem splitSeq_in (n : Nat) (s : ByteArray) (w : World) :
    CallsIn Fence.wide n Tryz.prog 87 #[.string s, .string ⟨#[44]⟩, .int .i64 0] w fun e w' => e = .returned (.func (.func 97) #[] #[.pointer (some ⟨w.heap.size + 1, 0, none⟩), .pointer (some ⟨w.heap.size, 0, none⟩), .pointer (some ⟨w.heap.size + 2, 0, none⟩)]) ∧ SpBox w.heap.size w' s ∧ w'.heap.size = w.heap.size + 3 ∧ Below w.heap.size w w' ∧ KeepsOthers w w' := by
  refine callsIn_of_wp Tryz.func87 rfl trivial ?_ rfl
  simp only [Tryz.ntmps87, List.size_toArray, List.length_cons, List.length_nil, Nat.reduceAdd, Nat.reduceSub, Array.replicate_succ, Array.replicate_zero, List.push_toArray, List.append_toArray, List.nil_append, List.cons_append]
  gi_wp2
  go_ret
  have n0 := Boxed.new w 9 (.string s)
  have n1 := Boxed.new (w.alloc (.cells #[.string s] 9)) 9 (.string ⟨#[44]⟩)
  have n2 := Boxed.new ((w.alloc (.cells #[.string s] 9)).alloc (.cells #[.string ⟨#[44]⟩] 9)) 3 (.int .i64 0)
  rw [World.size_alloc] at n1
  rw [World.size_alloc, World.size_alloc] at n2
  refine ⟨rfl, ⟨(n0.alloc _).alloc _, n1.alloc _, n2⟩, by simp, (((Below.refl _ _).alloc (Nat.le_refl _) _).alloc (by simp) _).alloc (by simp; omega) _, ((KeepsOthers.alloc _ _).trans (KeepsOthers.alloc _ _)).trans (KeepsOthers.alloc _ _)⟩

set_option maxHeartbeats 1000000 in
theorem SplitSeq_in (n : Nat) (s : ByteArray) (w : World) :
    CallsIn Fence.wide n Tryz.prog 76 #[.string s, .string ⟨#[44]⟩] w fun e w' => e = .returned (.func (.func 97) #[] #[.pointer (some ⟨w.heap.size + 1, 0, none⟩), .pointer (some ⟨w.heap.size, 0, none⟩), .pointer (some ⟨w.heap.size + 2, 0, none⟩)]) ∧ SpBox w.heap.size w' s ∧ w'.heap.size = w.heap.size + 3 ∧ Below w.heap.size w w' ∧ KeepsOthers w w' := by
  refine callsIn_of_wp Tryz.func76 rfl trivial ?_ rfl
  simp only [Tryz.ntmps76, List.size_toArray, List.length_cons, List.length_nil, Nat.reduceAdd, Nat.reduceSub, Array.replicate_succ, Array.replicate_zero, List.push_toArray, List.append_toArray, List.nil_append, List.cons_append]
  gi_wp2
  refine ⟨trivial, fun h => (by cases h), (splitSeq_in _ s _).mono ?_⟩
  rintro e w1 ⟨rfl, h1, h2, h3, h4⟩
  gi_wp2
  go_ret
  exact ⟨rfl, h1, h2, h3, h4⟩
end Go.Proofs.YtocaljbimhjmgaaGreatDoor

namespace Go.Proofs.YtocaljbimhjmgaaGreatDoor
open Go.RowKit Go.Sort Go.Shelf
open Plain
set_option linter.unusedVariables false

def loCmp (x y : Rg) : Int := Lib.compareInt x.lo y.lo
theorem ltLo (x y : Rg) : ltOf loCmp x y = decide (x.lo < y.lo) := by
  unfold ltOf loCmp Lib.compareInt
  by_cases h1 : x.lo < y.lo
  · simp [h1]
  · by_cases h2 : y.lo < x.lo <;> simp [h1, h2]
theorem swoLo : SWO (ltOf loCmp) where
  irrefl x := by rw [ltLo]; simp
  trans x y z h1 h2 := by rw [ltLo] at *; simp at *; omega
  ntrans x y z h1 h2 := by rw [ltLo] at *; simp at *; omega

set_option maxHeartbeats 1000000 in
theorem united1_any (x y : Rg) (W : World) : Calls Tryz.prog 92 #[.agg #[.int .i64 x.lo, .int .i64 x.hi], .agg #[.int .i64 y.lo, .int .i64 y.hi]] W fun e w' => e = .returned (.int .i64 (loCmp x y)) ∧ ∃ q os', w' = grow (W.drewN q) os' := by
  have hcon := hide (fun W' => Tryz.cmp_Compare_int x.lo y.lo W')
  unfold loCmp
  generalize Lib.compareInt x.lo y.lo = r at hcon ⊢
  go_enter Tryz.func92, Tryz.ntmps92
  go_wp2_with fail
  refine (unhide hcon _).mono ?_
  rintro e w' ⟨rfl, rfl⟩
  go_wp2
  go_ret
  exact ⟨rfl, 0, _, by rw [alloc_eq_grow, alloc_eq_grow, grow_grow]; rfl⟩

theorem grow_below {B : Nat} {w : World} {os : Array Obj} (hB : B ≤ w.heap.size) : Below B w (grow w os) := by
  refine ⟨rfl, rfl, rfl, by simp [grow], fun k hk => heap_grow_old w os (by omega)⟩
theorem putRow_below {g off : Nat} {w : World} {F : Array Value} : Below g w (putRow id w g off F) := by
  refine ⟨rfl, rfl, rfl, by simp, fun k hk => ?_⟩
  unfold putRow mapBlock
  simp only [Array.getElem?_modify]
  rw [if_neg (by omega)]
theorem flat_rgs (l : List Rg) (I : Inhabited Rg) : ∀ j, j < l.length * 2 → (rgs l)[j]? = some ((flatK rgl 2 l.toArray)[j]!) := by
  intro j hj
  rw [get_flatK rgl 2 l.toArray j (by simpa using hj)]
  obtain ⟨q, r, rfl, hr⟩ : ∃ q r, j = q * 2 + r ∧ r < 2 := ⟨j / 2, j % 2, by omega, Nat.mod_lt _ (by omega)⟩
  have hq : q < l.length := by omega
  have e1 : (q * 2 + r) / 2 = q := by omega
  have e2 : (q * 2 + r) % 2 = r := by omega
  have e3 : l.toArray[q]! = l[q] := by rw [getElem!_pos l.toArray q (by simpa using hq)]; simp
  rw [e1, e2, e3, rgs_get l q l[q] (List.getElem?_eq_getElem hq) r hr]
  match r, hr with
  | 0, _ => simp [rgl]
  | 1, _ => simp [rgl]

/-- A row of ranges, sorted where it stands. -/
theorem sorted_any (s : List Rg) (g c B : Nat) (w : World) (hs : s.length ≤ 4000000) (h : OwnR B w (.slice (some ⟨g, 0, none⟩) s.length c) s) :
    Calls Tryz.prog 103 #[.slice (some ⟨g, 0, none⟩) s.length c, .int .i64 0, .int .i64 s.length, .int .i64 (Lib.bitLen s.length), .func (.func 92) #[] #[]] w fun e w' =>
      e = .returned (.tuple #[]) ∧ (∃ t : List Rg, t.Perm s ∧ t.Pairwise (fun x y => x.lo ≤ y.lo) ∧ ReadO w' (.slice (some ⟨g, 0, none⟩) s.length c) t) ∧ RowKit.Below g w w' ∧ w.grownBy w' (some g) := by
  letI I : Inhabited Rg := ⟨rg0⟩
  have hlt := (h.lt g rfl).2
  have hcap : s.length ≤ c := by
    rcases h.2 with ⟨h1, _⟩ | ⟨_, _, _, h1, _, _, h2, _⟩
    · cases h1
    · cases h1; exact h2
  have HH : HoldsK rgl 2 w g 0 s.toArray := by
    intro j hj
    have hj2 : j < s.length * 2 := by simpa using hj
    refine ⟨?_, h.frozenAt _⟩
    rw [Nat.zero_add, h.cellAt j (by omega)]
    exact flat_rgs s I j hj2
  have eg : ∀ args w, (callFunc 92 args).run Tryz.prog w = .ok (.enter 92 args) w := enters_of Tryz.func92 (by kernel_rfl) rfl
  have hl : rgl = rgl := rfl
  have hlim : Lib.bitLen s.length < 4611686018427387904 := Nat.lt_of_le_of_lt (Lib.bitLen_le s.length 62 (by omega) (by omega)) (by omega)
  have hcmp : CmpLays Tryz.prog 92 #[] rgl 2 loCmp g 0 s.toArray.size w := fun _ _ _ _ x y => united1_any x y _
  have R : RowK rgl 2 w g 0 s.toArray := ⟨fun _ => rfl, fun x v hv => by simp [rgl] at hv; rcases hv with rfl | rfl <;> rfl, HH, hlt⟩
  have hp := AnyQ.pdqsortCmpFunc_all Tryz.laysPdq 2 Tryz.isAgg87 Tryz.sizeOf87 rgl loCmp 92 #[] swoLo g 0 c s.toArray w eg hcmp R (s.length + 1) 0 s.length (Lib.bitLen s.length) s.toArray w (by omega) rfl (SWK.start HH) (Nat.zero_le _) (by simp) (by simp; omega) hlim (Or.inl rfl)
  have hps := pdq_sorts (ltOf loCmp) swoLo s.toArray 0 s.length (Lib.bitLen s.length) true true (Nat.zero_le _) (by simp) (Or.inl rfl)
  have hsz : s.toArray.size = s.length := by simp
  rw [hsz] at hp
  refine Calls.mono hp ?_
  rintro e w' ⟨rfl, n, os, rfl⟩
  obtain ⟨⟨p1, p2, p3⟩, p4⟩ := hps
  generalize pdq (ltOf loCmp) s.toArray 0 s.length (Lib.bitLen s.length) true true = d at *
  rw [hsz] at p1
  have hd : d.toList.length = s.length := by simpa using p1
  refine ⟨rfl, ⟨d.toList, ?_, ?_, ?_⟩, ?_⟩
  · have e1 : (d.extract 0 s.length).toList = d.toList := by rw [← p1]; simp
    have e2 : (s.toArray.extract 0 s.length).toList = s := by rw [← hsz]; simp
    rw [e1, e2] at p3
    exact p3
  · rw [List.pairwise_iff_getElem]
    intro i j hi hj hij
    have := p4 i j (Nat.zero_le _) hij (by omega)
    rw [ltLo, decide_eq_false_iff_not] at this
    rw [getElem!_pos d i (by simpa using hi), getElem!_pos d j (by simpa using hj)] at this
    simp
    omega
  · have h1 : HoldsK rgl 2 (putRowK rgl 2 (Sort.ahead w n) g 0 d) g 0 d := holdsK_putRowK rgl 2 (Sort.ahead w n) g 0 s.toArray d HH (by rw [p1, hsz])
    have h2 : HoldsK rgl 2 (sortWorldK rgl 2 w g 0 n d os) g 0 d := holdsK_grow rgl 2 _ os g 0 d (by simpa [putRowK] using hlt) h1
    refine ⟨_, _, by rw [hd], by omega, fun k x hx => ⟨g, 0, rfl, ?_, ?_, ?_⟩⟩
    · show g < (grow _ os).heap.size
      simp [grow, putRowK]
      omega
    · have hk : k < d.size := by have := (List.getElem?_eq_some_iff.1 hx).1; simpa using this
      have e := (h2.cell hk (show 0 < 2 by omega)).1
      rw [Nat.add_zero] at e
      rw [e, getElem!_pos d k hk]
      have ex : d[k] = x := by have := (List.getElem?_eq_some_iff.1 hx).2; simpa using this
      rw [ex]
      rfl
    · have hk : k < d.size := by have := (List.getElem?_eq_some_iff.1 hx).1; simpa using this
      have e := (h2.cell hk (show 1 < 2 by omega)).1
      rw [e, getElem!_pos d k hk]
      have ex : d[k] = x := by have := (List.getElem?_eq_some_iff.1 hx).2; simpa using this
      rw [ex]
      rfl
  · have b1 : RowKit.Below g w (Sort.ahead w n) := ⟨rfl, rfl, rfl, Nat.le_refl _, fun k hk => rfl⟩
    have b2 : RowKit.Below g (Sort.ahead w n) (putRowK rgl 2 (Sort.ahead w n) g 0 d) := putRow_below
    have b3 : RowKit.Below g (putRowK rgl 2 (Sort.ahead w n) g 0 d) (sortWorldK rgl 2 w g 0 n d os) := grow_below (by simp [putRowK]; omega)
    refine ⟨(b1.trans b2).trans b3, rfl, rfl, rfl, ((b1.trans b2).trans b3).size, fun k hk hne => ?_⟩
    show (grow (putRowK rgl 2 (Sort.ahead w n) g 0 d) os).heap[k]? = w.heap[k]?
    rw [heap_grow_old _ os (by simpa [putRowK] using hk)]
    unfold putRowK putRow mapBlock
    simp only [Array.getElem?_modify]
    rw [if_neg (fun e => hne (by rw [e]))]
    rfl

set_option maxHeartbeats 1000000 in
theorem sortFunc_any (s : List Rg) (g c B : Nat) (w : World) (hs : s.length ≤ 4000000) (h : OwnR B w (.slice (some ⟨g, 0, none⟩) s.length c) s) :
    Calls Tryz.prog 91 #[.slice (some ⟨g, 0, none⟩) s.length c, .func (.func 92) #[] #[]] w fun e w' =>
      e = .returned (.tuple #[]) ∧ (∃ t : List Rg, t.Perm s ∧ t.Pairwise (fun x y => x.lo ≤ y.lo) ∧ ReadO w' (.slice (some ⟨g, 0, none⟩) s.length c) t) ∧ RowKit.Below g w w' ∧ w.grownBy w' (some g) := by
  have hp := hide (sorted_any s g c B w hs h)
  have hl : Hid (Calls Tryz.prog 104 #[.int .u64 (s.length : Int)] w fun e w' => e = .returned (.int .i64 (Lib.bitLen s.length : Nat)) ∧ w' = w) := by
    have h := Tryz.bits_Len (s.length : Int) w (by omega) (by omega)
    rwa [Int.toNat_natCast] at h
  have wr : IntKind.u64.wrap (s.length : Int) = s.length := by simp [IntKind.wrap, IntKind.bits, IntKind.signed]; omega
  clear h
  go_enter Tryz.func91, Tryz.ntmps91
  go_wp2_with fail
  refine (unhide hl).mono ?_
  rintro e w1 ⟨rfl, hw⟩
  subst w1
  go_wp2_with fail
  refine (unhide hp).mono ?_
  rintro e w2 ⟨rfl, ht, hb, hgr⟩
  have HT := hide ht
  clear ht
  go_wp2
  go_end0
  exact ⟨rfl, unhide HT, hb, hgr⟩
end Go.Proofs.YtocaljbimhjmgaaGreatDoor

namespace Go.Proofs.YtocaljbimhjmgaaGreatDoor
open Go.RowKit Go.Deep
open Plain
set_option linter.unusedVariables false

namespace Plain
theorem united_snoc {l : List Rg} {k : Nat} {r : Rg} (h : l[k]? = some r) : unitedL (l.take (k + 1)) = uniteTo (unitedL (l.take k)) r := by
  unfold unitedL
  rw [ok_snoc h, List.foldl_append]
  rfl
theorem uniteTo_len (out : List Rg) (r : Rg) : (uniteTo out r).length ≤ out.length + 1 := by
  rcases snoc_cases out with rfl | ⟨o, u, rfl⟩
  · rw [uniteTo_nil]; simp
  · by_cases c : r.lo ≤ u.hi + 1
    · rw [uniteTo_in c]; simp
    · rw [uniteTo_new c]; simp
theorem united_len (l : List Rg) : ∀ k, (unitedL (l.take k)).length ≤ k := by
  intro k
  induction k with
  | zero => simp [unitedL]
  | succ k ih =>
    cases h : l[k]? with
    | none =>
      have : l.length ≤ k := by rw [List.getElem?_eq_none_iff] at h; exact h
      rw [List.take_of_length_le (by omega)]
      rw [List.take_of_length_le this] at ih
      omega
    | some r =>
      rw [united_snoc h]
      have := uniteTo_len (unitedL (l.take k)) r
      omega
theorem uniteTo_hi {out : List Rg} {r : Rg} (ho : ∀ u ∈ out, u.hi ≤ 9999) (hr : r.hi ≤ 9999) : ∀ u ∈ uniteTo out r, u.hi ≤ 9999 := by
  rcases snoc_cases out with rfl | ⟨o, u, rfl⟩
  · rw [uniteTo_nil]; intro x hx; rw [List.mem_singleton] at hx; subst hx; exact hr
  · by_cases c : r.lo ≤ u.hi + 1
    · rw [uniteTo_in c]
      intro x hx
      rcases List.mem_append.1 hx with hx | hx
      · exact ho x (by simp [hx])
      · rw [List.mem_singleton] at hx
        subst hx
        have := ho u (by simp)
        show max u.hi r.hi ≤ 9999
        omega
    · rw [uniteTo_new c]
      intro x hx
      rcases List.mem_append.1 hx with hx | hx
      · exact ho x hx
      · rw [List.mem_singleton] at hx; subst hx; exact hr
theorem uniteTo_lo {out : List Rg} {r : Rg} (ho : ∀ u ∈ out, 0 ≤ u.hi) (hr : 0 ≤ r.hi) : ∀ u ∈ uniteTo out r, 0 ≤ u.hi := by
  rcases snoc_cases out with rfl | ⟨o, u, rfl⟩
  · rw [uniteTo_nil]; intro x hx; rw [List.mem_singleton] at hx; subst hx; exact hr
  · by_cases c : r.lo ≤ u.hi + 1
    · rw [uniteTo_in c]
      intro x hx
      rcases List.mem_append.1 hx with hx | hx
      · exact ho x (by simp [hx])
      · rw [List.mem_singleton] at hx
        subst hx
        have := ho u (by simp)
        show 0 ≤ max u.hi r.hi
        omega
    · rw [uniteTo_new c]
      intro x hx
      rcases List.mem_append.1 hx with hx | hx
      · exact ho x hx
      · rw [List.mem_singleton] at hx; subst hx; exact hr
theorem united_bounds {l : List Rg} (h : ∀ r ∈ l, rightR r) : ∀ k, ∀ u ∈ unitedL (l.take k), 0 ≤ u.hi ∧ u.hi ≤ 9999 := by
  intro k
  induction k with
  | zero => intro u hu; simp [unitedL] at hu
  | succ k ih =>
    cases hk : l[k]? with
    | none =>
      have : l.length ≤ k := by rw [List.getElem?_eq_none_iff] at hk; exact hk
      rw [List.take_of_length_le (by omega)]
      rw [List.take_of_length_le this] at ih
      exact ih
    | some r =>
      rw [united_snoc hk]
      have hr := h r (List.mem_of_getElem? hk)
      unfold rightR at hr
      intro u hu
      exact ⟨uniteTo_lo (fun x hx => (ih x hx).1) (by omega) u hu, uniteTo_hi (fun x hx => (ih x hx).2) (by omega) u hu⟩
end Plain

set_option maxHeartbeats 4000000 in
set_option maxRecDepth 100000 in
theorem impl_united_full (s : List Rg) (g c B : Nat) (w : World) (hs : s.length ≤ 4000000) (hr : ∀ r ∈ s, rightR r) (h : OwnR B w (.slice (some ⟨g, 0, none⟩) s.length c) s) (hB : B ≤ w.heap.size) :
    Calls Tryz.prog 83 #[.slice (some ⟨g, 0, none⟩) s.length c] w fun e w' => ∃ u t, e = .returned u ∧ t.Perm s ∧ t.Pairwise (fun x y => x.lo ≤ y.lo) ∧ OwnR w.heap.size w' u (unitedL t) ∧ Below B w w' ∧ w.grownBy w' (some g) := by
  obtain ⟨i0, hi, hz0, hz1, hz2⟩ := info_parts Tryz.infoRange
  have hgB := (h.lt g rfl).1
  have hgl := (h.lt g rfl).2
  have SF := hide (sortFunc_any s g c B w hs h)
  clear h
  go_enter Tryz.func83, Tryz.ntmps83
  go_wp2_with fail
  refine (unhide SF).mono ?_
  rintro e w1 ⟨rfl, ⟨t, ht1, ht2, ht3⟩, hb1, hgr1⟩
  have hw1 : w.heap.size ≤ w1.heap.size := hb1.size
  have hbB : Below B w w1 := hb1.mono hgB
  have htl : t.length = s.length := ht1.length_eq
  have RB := hide (united_bounds (l := t) (fun r hr' => hr r (ht1.mem_iff.1 hr')))
  have RT := hide (fun r (hr' : r ∈ t) => hr r (ht1.mem_iff.1 hr'))
  have T := hide ht3
  have T1 := hide ht1
  have T2 := hide ht2
  have HGR := hide hgr1
  clear ht1 ht2 ht3 SF hb1 hgr1
  go_wp2
  go_loopw [3, 11] (fun u i wr => ∃ k : Nat, k ≤ t.length ∧ i = .int .i64 k ∧ OwnR w1.heap.size wr u (unitedL (t.take k)) ∧ Below w1.heap.size w1 wr) (fun _ i _ => t.length - (intOf i).toNat)
  case atStart => exact ⟨0, Nat.zero_le _, rfl, ⟨rfl, .inl ⟨rfl, rfl⟩⟩, Below.refl _ _⟩
  case round =>
    obtain ⟨k, hk, rfl, how, hbel⟩ := hrel
    by_cases hlt : k < t.length
    · have hgk : t[k]? = some t[k] := List.getElem?_eq_getElem hlt
      obtain ⟨a', c', hv', _, hc'⟩ := (unhide T).up hbel
      obtain ⟨rfl, -, rfl⟩ := Value.slice.inj hv'
      clear hv'
      obtain ⟨g', o', hga, _, d0, d1⟩ := hc' k _ hgk
      cases hga
      rw [Nat.zero_add] at d0 d1
      have US := hide (united_snoc hgk)
      have ULN := united_len t k
      have UB := hide (unhide RB k)
      have hrr := unhide RT t[k] (List.getElem_mem _)
      unfold rightR at hrr
      generalize t[k] = x at *
      obtain ⟨xl, xh⟩ := x
      simp only at d0 d1 hrr
      generalize unitedL (t.take k) = out at *
      have hik : (0 : Int) ≤ (k : Int) := by omega
      have hil : (k : Int) < (s.length : Int) := by omega
      have hwr : w1.heap.size ≤ wr.heap.size := hbel.size
      clear hgk hc'
      obtain ⟨W1, hW1⟩ : ∃ W1, W1 = wr.alloc (Obj.cells #[Value.int IntKind.i64 xl, Value.int IntKind.i64 xh] 87) := ⟨_, rfl⟩
      have hA : Below wr.heap.size wr W1 := by rw [hW1]; exact (Below.refl _ _).alloc (Nat.le_refl _) _
      have s0 : W1.cell? ⟨wr.heap.size, 0, none⟩ = some (.int .i64 xl) := by rw [hW1]; go_simp
      have s1 : W1.cell? ⟨wr.heap.size, 1, none⟩ = some (.int .i64 xh) := by rw [hW1]; go_simp
      have hsz1 : wr.heap.size < W1.heap.size := by rw [hW1]; simp
      have hB1 : Below w1.heap.size w1 W1 := hbel.trans (hA.mono hwr)
      have O1 : OwnR w1.heap.size W1 u3 out := how.up hA
      have HW1 := hide hW1
      clear hW1
      rcases snoc_cases out with hO | ⟨o, u, hO⟩
      · subst hO
        have US2 : Hid (unitedL (t.take (k + 1)) = [] ++ [⟨xl, xh⟩]) := (unhide US).trans rfl
        obtain ⟨ua, uc, hu⟩ := g_shape how
        have hu2 : u3 = .slice ua 0 uc := hu
        subst hu2
        clear hu
        have OO : Hid (W1.ownsRow w1.heap.size 87 2 (.slice ua 0 uc) 0 []) := O1
        clear how O1 US
        go_wp2
        rw [← unhide HW1]
        go_quiet (fail)
        obtain ⟨W2, hW2⟩ : ∃ W2, W2 = W1.drewN nq := ⟨_, rfl⟩
        rw [← hW2]
        have hD : Below W1.heap.size W1 W2 := by rw [hW2]; exact b_drewN (Below.refl _ _) _
        have hz2' : W2.heap.size = W1.heap.size := by rw [hW2]; rfl
        have x0 := (hD.cell (p := ⟨wr.heap.size, 0, none⟩) hsz1).trans s0
        have x1 := (hD.cell (p := ⟨wr.heap.size, 1, none⟩) hsz1).trans s1
        have hB2 : Below w1.heap.size w1 W2 := hB1.trans (hD.mono hB1.size)
        have hs2 : w1.heap.size ≤ W2.heap.size := hB2.size
        have O2 := hide (g_stays (unhide OO) hD)
        clear s0 s1 HW1 hW2 hA hB1 hz2'
        go_wp2_with (at_builtin; refine wpList_append_own _ rfl _ _ 122 rfl w1.heap.size 87 i0 _ 2 16 Tryz.underlying122 hi hz0 hz1 hz2 rfl (by decide) _ _ _ rfl ((unhide O2).alloc _) ⟨W2.heap.size, 0, none⟩ 1 1 [.int .i64 xl, .int .i64 xh] rfl rfl (news_two _ _) ?c2 ?c3 ?c4 ?c5 ?_)
        case c2 => intro u hu; simp at hu; rcases hu with rfl | rfl <;> rfl
        case c3 => unfold maxLen; simp
        case c4 => simp
        case c5 => simp; omega
        intro v' w3 hown3 hg3' _
        have hB3 : Below w1.heap.size w1 w3 := (hB2.alloc hs2 _).grown hg3' (by simp; omega) (fun b hb => ((unhide O2).lt b hb).1)
        have O3 : Hid (OwnR w1.heap.size w3 v' (unitedL (t.take (k + 1)))) := by
          rw [unhide US2]
          show w3.ownsRow _ _ _ _ _ _
          rw [rgs_append, List.length_append]
          exact hown3
        clear hown3 hg3'
        go_wp2
        go_roundw
        case rel => exact ⟨k + 1, by omega, by go_num, unhide O3, hB3⟩
        case measure => simp [intOf]; omega
      · subst hO
        have hub := unhide UB u (by simp)
        have hlen1 : (o ++ [u]).length = o.length + 1 := by simp
        have how2 : W1.ownsRow w1.heap.size 87 2 u3 (o.length + 1) (rgs (o ++ [u])) := by rw [← hlen1]; exact O1
        obtain ⟨g3, cap3, rfl⟩ := ownsRow_succ how2
        have hg3 := how.lt g3 rfl
        have l1 : W1.cell? ⟨g3, o.length * 2 + 1, none⟩ = some (.int .i64 u.hi) := (rg_cells how2 (k := o.length) (f := u) (by simp) (by omega)).2
        have z1 := how2.frozenAt (o.length * 2 + 1)
        have OO := hide how2
        rw [hlen1] at ULN
        have b0 : IntKind.i64.wrap ((o.length : Int) + 1 - 1) = (o.length : Int) := by rw [IntKind.wrap_i64]; omega
        have b1 : IntKind.i64.wrap (u.hi + 1) = u.hi + 1 := by rw [IntKind.wrap_i64]; omega
        have b2 : (0 : Int) ≤ (o.length : Int) := by omega
        have b3 : (o.length : Int) < (o.length : Int) + 1 := by omega
        clear how O1
        by_cases hc : xl ≤ u.hi + 1
        · have dc : decide (xl ≤ u.hi + 1) = true := by simpa using hc
          have US2 : Hid (unitedL (t.take (k + 1)) = o ++ [⟨u.lo, max u.hi xh⟩]) := (unhide US).trans (uniteTo_in hc)
          clear US
          go_wp2
          rw [← unhide HW1]
          go_quiet (fail)
          obtain ⟨W2, hW2⟩ : ∃ W2, W2 = W1.drewN nq := ⟨_, rfl⟩
          rw [← hW2]
          have hD : Below W1.heap.size W1 W2 := by rw [hW2]; exact b_drewN (Below.refl _ _) _
          have hz2' : W2.heap.size = W1.heap.size := by rw [hW2]; rfl
          have x0 := (hD.cell (p := ⟨wr.heap.size, 0, none⟩) hsz1).trans s0
          have x1 := (hD.cell (p := ⟨wr.heap.size, 1, none⟩) hsz1).trans s1
          have hB2 : Below w1.heap.size w1 W2 := hB1.trans (hD.mono hB1.size)
          have hs2 : w1.heap.size ≤ W2.heap.size := hB2.size
          have O2 := hide (g_stays (unhide OO) hD)
          have l2 := (hD.cell (p := ⟨g3, o.length * 2 + 1, none⟩) (by show g3 < W1.heap.size; omega)).trans l1
          have z2 := (unhide O2).frozenAt (o.length * 2 + 1)
          clear s0 s1 HW1 hW2 hA hB1 hz2' l1 z1
          go_wp2
          go_region
          have st := ((unhide O2).stored (o.length * 2 + 1) (.int .i64 (max u.hi xh))).1
          rw [set_last] at st
          have O3 : Hid (OwnR w1.heap.size (W2.setCell ⟨g3, o.length * 2 + 1, none⟩ (.int .i64 (max u.hi xh))).drew (.slice (some ⟨g3, 0, none⟩) (o.length + 1) cap3) (unitedL (t.take (k + 1)))) := by
            rw [unhide US2]
            show World.ownsRow _ _ _ _ _ _ _
            rw [List.length_append]
            exact st
          have hB3 := (hB2.setCell (p := ⟨g3, o.length * 2 + 1, none⟩) hg3.1 (.int .i64 (max u.hi xh))).drew
          clear st l2 z2 x0 x1
          generalize (W2.setCell ⟨g3, o.length * 2 + 1, none⟩ (.int .i64 (max u.hi xh))).drew = W3 at *
          go_wp2
          go_roundw
          case rel => exact ⟨k + 1, by omega, by go_num, unhide O3, hB3⟩
          case measure => simp [intOf]; omega
        · have dc : decide (xl ≤ u.hi + 1) = false := by simpa using hc
          have US2 : Hid (unitedL (t.take (k + 1)) = o ++ [u] ++ [⟨xl, xh⟩]) := (unhide US).trans (uniteTo_new hc)
          clear US
          go_wp2
          rw [← unhide HW1]
          go_quiet (fail)
          obtain ⟨W2, hW2⟩ : ∃ W2, W2 = W1.drewN nq := ⟨_, rfl⟩
          rw [← hW2]
          have hD : Below W1.heap.size W1 W2 := by rw [hW2]; exact b_drewN (Below.refl _ _) _
          have hz2' : W2.heap.size = W1.heap.size := by rw [hW2]; rfl
          have x0 := (hD.cell (p := ⟨wr.heap.size, 0, none⟩) hsz1).trans s0
          have x1 := (hD.cell (p := ⟨wr.heap.size, 1, none⟩) hsz1).trans s1
          have hB2 : Below w1.heap.size w1 W2 := hB1.trans (hD.mono hB1.size)
          have hs2 : w1.heap.size ≤ W2.heap.size := hB2.size
          have O2 := hide (g_stays (unhide OO) hD)
          clear s0 s1 HW1 hW2 hA hB1 hz2'
          go_wp2_with (at_builtin; refine wpList_append_own _ rfl _ _ 122 rfl w1.heap.size 87 i0 _ 2 16 Tryz.underlying122 hi hz0 hz1 hz2 rfl (by decide) _ _ _ rfl ((unhide O2).alloc _) ⟨W2.heap.size, 0, none⟩ 1 1 [.int .i64 xl, .int .i64 xh] rfl rfl (news_two _ _) ?c2 ?c3 ?c4 ?c5 ?_)
          case c2 => intro u hu; simp at hu; rcases hu with rfl | rfl <;> rfl
          case c3 => unfold maxLen; omega
          case c4 => omega
          case c5 => simp; omega
          intro v' w3 hown3 hg3' _
          have hB3 : Below w1.heap.size w1 w3 := (hB2.alloc hs2 _).grown hg3' (by simp; omega) (fun b hb => ((unhide O2).lt b hb).1)
          have O3 : Hid (OwnR w1.heap.size w3 v' (unitedL (t.take (k + 1)))) := by
            rw [unhide US2]
            show w3.ownsRow _ _ _ _ _ _
            rw [rgs_append, List.length_append, hlen1]
            exact hown3
          clear hown3 hg3'
          go_wp2
          go_roundw
          case rel => exact ⟨k + 1, by omega, by go_num, unhide O3, hB3⟩
          case measure => simp [intOf]; omega
    · obtain rfl : k = t.length := by omega
      rw [List.take_length] at how
      have OO := hide (g_based how hw1)
      clear how
      go_wp2
      go_ret
      exact ⟨_, t, rfl, unhide T1, unhide T2, unhide OO, hbB.trans (hbel.mono (Nat.le_trans hB hw1)), g_then (unhide HGR) hbel⟩
end Go.Proofs.YtocaljbimhjmgaaGreatDoor

namespace Go.Proofs.YtocaljbimhjmgaaGreatDoor
open Go.RowKit
open Plain
set_option linter.unusedVariables false

theorem impl_orNothing_any (t : List Rg) (u : Value) (B : Nat) (w : World) (ht : t.length ≤ 4000000) (hu : OwnR B w u t) :
    Calls Tryz.prog 82 #[u] w fun e w' => ∃ v', e = .returned (.tuple #[v', .bool (orNo t).2]) ∧ OwnR B w' v' (orNo t).1 ∧ Below w.heap.size w w' := by
  have OK := impl_SetOk_wide t u w ht hu.wide
  have HU := hide hu
  obtain ⟨a2, c2, rfl⟩ := g_shape hu
  unfold orNo
  cases ho : okS t with
  | false =>
    rw [ho] at OK
    have Q := hide OK
    clear OK hu
    go_enter Tryz.func82, Tryz.ntmps82
    go_wp2_with fail
    refine (unhide Q).mono ?_
    rintro e w1 ⟨rfl, hb1⟩
    go_wp2
    go_ret2
    exact ⟨_, rfl, ⟨rfl, .inl ⟨rfl, rfl⟩⟩, hb1⟩
  | true =>
    rw [ho] at OK
    have Q := hide OK
    clear OK hu
    go_enter Tryz.func82, Tryz.ntmps82
    go_wp2_with fail
    refine (unhide Q).mono ?_
    rintro e w1 ⟨rfl, hb1⟩
    go_wp2
    go_ret2
    exact ⟨_, rfl, (unhide HU).up hb1, hb1⟩
end Go.Proofs.YtocaljbimhjmgaaGreatDoor

namespace Go.Proofs.YtocaljbimhjmgaaGreatDoor
open Go.RowKit Go.Shelf
open Plain
set_option linter.unusedVariables false

attribute [local go_sem] Oper.semAt_some

namespace Plain
def rgOf (last : Int) (p : List UInt8) : Rg := ⟨(partV p last).1, (partV p last).2.1⟩
theorem okParts_pre {a b : List (List UInt8)} {last : Int} (h : a <+: b) (ha : okParts a last = false) : okParts b last = false := by
  obtain ⟨c, rfl⟩ := h
  unfold okParts at ha ⊢
  rw [List.all_append, ha, Bool.false_and]
theorem rg_right {last : Int} (h1 : 1 ≤ last) (h2 : last ≤ 9999) {ps : List (List UInt8)} (h : okParts ps last = true) : ∀ r ∈ ps.map (rgOf last), rightR r := by
  intro r hr
  obtain ⟨p, hp, rfl⟩ := List.mem_map.1 hr
  have ho : (partV p last).2.2 = true := by
    unfold okParts at h
    rw [List.all_eq_true] at h
    exact h p hp
  exact part_ok h1 h2 ho
theorem marks_has {last : Int} (ps : List (List UInt8)) (n : Nat) : marksV ps last n = hasB (ps.map (rgOf last)) (n : Int) := by
  unfold marksV hasB
  rw [List.any_map]
  rfl
theorem read_united {l : List UInt8} {last : Int} {t : List Rg} (h1 : 1 ≤ last) (h2 : last ≤ 9999) (h : okParts (cutsL 44 l) last = true) (hp : t.Perm ((cutsL 44 l).map (rgOf last))) (hs : t.Pairwise (fun x y => x.lo ≤ y.lo)) : readV l last = orNo (unitedL t) := by
  have hr : ∀ r ∈ t, rightR r := fun r hr => rg_right h1 h2 h r (hp.mem_iff.1 hr)
  have hu := united_ok hr hs
  rw [readV_in ⟨h1, h2, h⟩]
  refine setV_is (marks_zero h1 h2 h) hu.1 (fun m hm _ => ?_)
  rw [hu.2, hasB_perm hp, marks_has, Int.toNat_of_nonneg (by omega)]
theorem cuts_len (c : UInt8) (l : List UInt8) : (cutsL c l).length ≤ l.length + 1 := by
  induction l with
  | nil => simp [cutsL]
  | cons b r ih =>
    rw [cutsL]
    split
    · simp; omega
    · split
      · rename_i h t e
        rw [e] at ih
        simp at ih ⊢
        omega
      · simp
end Plain

theorem keepsR_below {W W' : World} (h : Below W.heap.size W W') : KeepsOthers W W' :=
  ⟨h.size, fun k o hk _ => (h.block k (Array.getElem?_eq_some_iff.1 hk).1).trans hk⟩
theorem boxedR_below {W W' : World} {B : Nat} {t : TypeId} {v : Value} (h : Below W.heap.size W W') (b : Boxed W B t v) : Boxed W' B t v := (h.block B b.lt).trans b

/-- What the loop holds on to. -/
def InvR (w : World) (last : Int) (pre : List Pt) (W : World) : Prop :=
  (∃ v, Boxed W (w.heap.size + 3) 122 v ∧ W.ownsRow (w.heap.size + 7) 87 2 v pre.length (rgs ((pre.map ptOf).map (rgOf last))) ∧ True) ∧
  (Boxed W w.heap.size 3 (.int .i64 last) ∧ Boxed W (w.heap.size + 1) 30 (.slice none 0 0) ∧ Boxed W (w.heap.size + 2) 4 (.bool false)) ∧ okParts (pre.map ptOf) last = true ∧ Below w.heap.size w W ∧ w.heap.size + 7 ≤ W.heap.size
def InvX (w : World) (last : Int) (pre : List Pt) (W : World) : Prop :=
  (Boxed W (w.heap.size + 1) 30 (.slice none 0 0) ∧ Boxed W (w.heap.size + 2) 4 (.bool false)) ∧ okParts (pre.map ptOf) last = false ∧ Below w.heap.size w W
theorem InvR.own (w : World) (last : Int) (B : Nat) (hB : w.heap.size ≤ B) : OwnFrom B (InvR w last) :=
  OwnFrom.and (Own.from (holdsRow_own (w.heap.size + 7) (w.heap.size + 3) 122 87 2 (fun (pre : List Pt) => pre.length) (fun (pre : List Pt) => rgs ((pre.map ptOf).map (rgOf last))) (fun _ _ => True)) _)
    (OwnFrom.and (OwnFrom.and (Own.from (boxed_own w.heap.size 3 (fun _ => .int .i64 last)) _) (OwnFrom.and (Own.from (boxed_own (w.heap.size + 1) 30 (fun _ => .slice none 0 0)) _) (Own.from (boxed_own (w.heap.size + 2) 4 (fun _ => .bool false)) _)))
      (OwnFrom.and (ownFrom_pure _ (fun (pre : List Pt) => okParts (pre.map ptOf) last = true)) (OwnFrom.and (ownFrom_below (Nat.le_refl _) hB) (fun _ _ _ _ hs hg _ => Nat.le_trans hs hg.size))))
theorem InvX.own (w : World) (last : Int) (B : Nat) (hB : w.heap.size ≤ B) : OwnFrom B (InvX w last) :=
  OwnFrom.and (OwnFrom.and (Own.from (boxed_own (w.heap.size + 1) 30 (fun _ => .slice none 0 0)) _) (Own.from (boxed_own (w.heap.size + 2) 4 (fun _ => .bool false)) _))
    (OwnFrom.and (ownFrom_pure _ (fun (pre : List Pt) => okParts (pre.map ptOf) last = false)) (ownFrom_below (Nat.le_refl _) hB))
theorem InvR.moved (w : World) (last : Int) (s : List Pt) (A : World) (v : Value) (h : InvR w last s A) : InvR w last s (A.setCell ⟨w.heap.size + 4, 0, none⟩ v) := by
  obtain ⟨⟨u, h1, h2, _⟩, ⟨h3, h4, h5⟩, h6, h7, h8⟩ := h
  refine ⟨⟨u, h1.other (by omega) _, h2.kept (grownBy_setCell' A (w.heap.size + 4) v) ?_, trivial⟩, ⟨h3.other (by omega) _, h4.other (by omega) _, h5.other (by omega) _⟩, h6, h7.setCell (p := ⟨w.heap.size + 4, 0, none⟩) (by show w.heap.size ≤ w.heap.size + 4; omega) v, by simpa using h8⟩
  cases hv : u.ownBlock with
  | none => exact .inl rfl
  | some b =>
    refine .inr fun e => ?_
    cases e
    have := (h2.lt _ hv).1
    omega

/-- A range is laid behind the others, and the box holds the longer row. -/
theorem appendedR {W w1 : World} {B n₀ m : Nat} {t e : TypeId} {size : Nat} {v v' : Value} {k j : Nat} {xs ys : List Value} {tmp : Obj}
    (hv : Boxed W B t v) (hte : t ≠ e) (hrow : W.ownsRow n₀ e size v k xs) (hm0 : m ≤ W.heap.size) (hm : m ≤ n₀) (hB : m ≤ B)
    (hown' : w1.ownsRow n₀ e size v' j ys) (hgrow : (W.alloc tmp).grownBy w1 v.ownBlock) :
    Boxed w1 B t v ∧ Boxed (w1.setCell ⟨B, 0, none⟩ v') B t v' ∧ (w1.setCell ⟨B, 0, none⟩ v').ownsRow n₀ e size v' j ys ∧ KeepsOthers W (w1.setCell ⟨B, 0, none⟩ v') ∧ Below m W (w1.setCell ⟨B, 0, none⟩ v') ∧
      ∀ k, k ≠ B → k < n₀ → k < W.heap.size → (w1.setCell ⟨B, 0, none⟩ v').heap[k]? = W.heap[k]? := by
  obtain ⟨h1, h2, h3, h4, h5⟩ := hv.appended hte (g_based hrow hm) hm0 hB (g_based hown' hm) hgrow
  refine ⟨h1, h2, hown'.kept (grownBy_setCell' w1 B v') (.inr (h1.not_row hte hown').symm), h4, h5, fun k hne hlt hk => ?_⟩
  rw [Below.heap_setCell w1 ⟨B, 0, none⟩ v' k (fun e => hne e), hgrow.block k (by simp; omega) (fun e' => ?_), Below.heap_alloc _ _ _ hk]
  have := (hrow.lt k e'.symm).1
  omega

set_option maxRecDepth 100000 in
set_option maxHeartbeats 4000000 in
theorem impl_ReadSet_in (t : ByteArray) (last : Int) (w : World) (ht : t.size ≤ 1048576) (h1 : 1 ≤ last) (h2 : last ≤ 9999) (he : ErrOk w) :
    Calls Tryz.prog 67 #[.string t, .int .i64 last] w fun e w' => ∃ v', e = .returned (.tuple #[v', .bool (readV t.data.toList last).2]) ∧ OwnR w.heap.size w' v' (readV t.data.toList last).1 ∧ Below w.heap.size w w' := by
  obtain ⟨i0, hi, hz0, hz1, hz2⟩ := info_parts Tryz.infoRange
  have HE := hide he
  clear he
  have d1 : decide (last < 1) = false := by simp; omega
  have d2 : decide (9999 < last) = false := by simp; omega
  refine (callsIn_wide (n := 6)).1 ?_
  refine callsIn_of_wp_marks Tryz.func67 rfl trivial ?_ rfl
  simp only [Tryz.ntmps67, List.size_toArray, List.length_cons, List.length_nil, Nat.reduceAdd, Nat.reduceSub, Array.replicate_succ, Array.replicate_zero, List.push_toArray, List.append_toArray, List.nil_append, List.cons_append]
  gi_wp2_with (refine ⟨trivial, ?_⟩; gi_at_call 76; refine (SplitSeq_in _ t _).mono ?_; rintro e w1 ⟨rfl, q1, q2, q3, q4⟩)
  have bL := Boxed.new w 3 (.int .i64 last)
  have bS := Boxed.new (w.alloc (.cells #[.int .i64 last] 3)) 30 (.slice none 0 0)
  have bO := Boxed.new ((w.alloc (.cells #[.int .i64 last] 3)).alloc (.cells #[.slice none 0 0] 30)) 4 (.bool false)
  have bT := Boxed.new (((w.alloc (.cells #[.int .i64 last] 3)).alloc (.cells #[.slice none 0 0] 30)).alloc (.cells #[.bool false] 4)) 122 (.slice none 0 0)
  rw [World.size_alloc] at bS
  rw [World.size_alloc, World.size_alloc] at bO
  rw [World.size_alloc, World.size_alloc, World.size_alloc] at bT
  obtain ⟨WA, hWA⟩ : ∃ WA, WA = ((((w.alloc (.cells #[.int .i64 last] 3)).alloc (.cells #[.slice none 0 0] 30)).alloc (.cells #[.bool false] 4)).alloc (.cells #[.slice none 0 0] 122)) := ⟨_, rfl⟩
  have b1 : Boxed WA w.heap.size 3 (.int .i64 last) := by rw [hWA]; exact ((bL.alloc _).alloc _).alloc _
  have b2 : Boxed WA (w.heap.size + 1) 30 (.slice none 0 0) := by rw [hWA]; exact (bS.alloc _).alloc _
  have b3 : Boxed WA (w.heap.size + 2) 4 (.bool false) := by rw [hWA]; exact bO.alloc _
  have b4 : Boxed WA (w.heap.size + 3) 122 (.slice none 0 0) := by rw [hWA]; exact bT
  have hbA : Below w.heap.size w WA := by rw [hWA]; exact ((((Below.refl _ w).alloc (Nat.le_refl _) _).alloc (by simp) _).alloc (by simp; omega) _).alloc (by simp; omega) _
  have hsA : WA.heap.size = w.heap.size + 4 := by rw [hWA]; simp
  rw [← hWA] at q1 q2 q3 q4
  clear bL bS bO bT hWA
  have hs1 : w1.heap.size = w.heap.size + 7 := by omega
  have q1' : SpBox (w.heap.size + 1 + 1 + 1 + 1) w1 t := by rw [hsA] at q1; exact q1
  have hB1 : Below w.heap.size w w1 := below2 hbA q3
  have k1 := boxedR_below q3 b1
  have k2 := boxedR_below q3 b2
  have k3 := boxedR_below q3 b3
  have k4 := boxedR_below q3 b4
  have HS1 := hide hs1
  have RU := hide (fun (tt : List Rg) h hp hs => read_united (l := t.data.toList) (last := last) (t := tt) h1 h2 h hp hs)
  have RN := hide (fun h => readV_no (l := t.data.toList) (last := last) h)
  have CL := cuts_len 44 t.data.toList
  have hls : Hid (t.data.toList.length = t.size) := rfl
  rw [unhide hls] at CL
  clear q1 q2 q3 q4 b1 b2 b3 b4 hbA hsA
  refine wpIn_range_moves (by omega) (gf := 97) (lb := #[.pointer (some ⟨w.heap.size + 1 + 1 + 1 + 1 + 1, 0, none⟩), .pointer (some ⟨w.heap.size + 1 + 1 + 1 + 1, 0, none⟩), .pointer (some ⟨w.heap.size + 1 + 1 + 1 + 1 + 2, 0, none⟩)]) rfl (enters_of Tryz.func97 (by kernel_rfl) rfl)
    (split_moves 5 (by omega) (w.heap.size + 1 + 1 + 1 + 1) w.heap.size t ht w1 q1' (by omega)) KpS.t (KpS.b (by omega) (by omega)) (fun _ => rfl)
    (InvR w last) (InvX w last) (InvR.own w last _ (by omega)) (InvX.own w last _ (by omega)) (InvR.moved w last) ⟨⟨_, k4, World.ownsRow_nil _ _ _ _, trivial⟩, ⟨k1, k2, k3⟩, rfl, hB1, by omega⟩
    (fun x => { tmps := #[.string t, .int .i64 last, undef, .pointer (some ⟨w.heap.size, 0, none⟩), .pointer (some ⟨w.heap.size + 1, 0, none⟩), .pointer (some ⟨w.heap.size + 1 + 1, 0, none⟩), .pointer (some ⟨w.heap.size + 1 + 1 + 1, 0, none⟩), .string x.1, undef, undef, .int .i64 last, .bool false, .bool false, .int .i64 last, .bool false, .bool false, .string t, .func (.func 97) #[] #[.pointer (some ⟨w.heap.size + 1 + 1 + 1 + 1 + 1, 0, none⟩), .pointer (some ⟨w.heap.size + 1 + 1 + 1 + 1, 0, none⟩), .pointer (some ⟨w.heap.size + 1 + 1 + 1 + 1 + 2, 0, none⟩)], .string x.1, undef, undef, undef, undef, undef, undef, undef, undef, undef, undef, undef, undef, undef, undef, undef, undef, undef], defers := [] }) ?assign ?body ?done ?stop
  case assign =>
    intro l x W K hK
    gi_wp2
    exact hK
  case body =>
    rintro l pre x W ⟨⟨v, hv, hrow, _⟩, ⟨hL, hR1, hR2⟩, hok, hB, hsz⟩ hlt
    have RR := hide (impl_readRange_any x.1 last W x.2 ((unhide HE).below hB))
    have c0 := hL.cell
    gi_wp2
    refine ⟨trivial, (CallsIn.inRound l (callsIn_wide.2 (unhide RR))).mono ?_⟩
    rintro e w2 ⟨⟨X, Y, rfl, hxy⟩, hb2⟩
    have hB2 : Below w.heap.size w w2 := hB.trans (hb2.mono hB.size)
    have e1 := boxedR_below hb2 hR1
    have e2 := boxedR_below hb2 hR2
    have e3 := boxedR_below hb2 hv
    have e0 := boxedR_below hb2 hL
    have hrow2 := g_stays hrow hb2
    have KO2 := keepsR_below hb2
    have hsz2 : w.heap.size + 7 ≤ w2.heap.size := Nat.le_trans hsz hb2.size
    have OS := hide (okParts_snoc (pre.map ptOf) (ptOf x) last)
    have hpt : ptOf x = x.1.data.toList := rfl
    cases hpo : (partV x.1.data.toList last).2.2 with
    | false =>
      rw [hpo] at hxy
      have OX : Hid (okParts ((pre ++ [x]).map ptOf) last = false) := by
        rw [List.map_append]
        show okParts (pre.map ptOf ++ [ptOf x]) last = false
        rw [unhide OS, hpt, hpo, Bool.and_false]
      clear hxy hpt
      have f1 : (w2.alloc (Obj.cells #[Value.int IntKind.i64 X, Value.int IntKind.i64 Y] 87)).cell? ⟨w.heap.size + 1, 0, none⟩ = some (.slice none 0 0) := (e1.alloc _).cell
      have f2 : (w2.alloc (Obj.cells #[Value.int IntKind.i64 X, Value.int IntKind.i64 Y] 87)).cell? ⟨w.heap.size + 1 + 1, 0, none⟩ = some (.bool false) := (e2.alloc _).cell
      have f3 := (e1.alloc (Obj.cells #[Value.int IntKind.i64 X, Value.int IntKind.i64 Y] 87)).frozen
      have f4 : (w2.alloc (Obj.cells #[Value.int IntKind.i64 X, Value.int IntKind.i64 Y] 87)).frozen? ⟨w.heap.size + 1 + 1, 0, none⟩ = false := (e2.alloc _).frozen
      gi_wp2
      have n12 : w.heap.size + 1 ≠ w.heap.size + 2 := by omega
      exact ⟨(((KO2.trans (KeepsOthers.alloc _ _)).trans (KeepsOthers.setCell _ _ _)).trans (KeepsOthers.setCell _ _ _)).from _, ⟨((e1.alloc _).set (.slice none 0 0)).other n12 _, ((e2.alloc _).other n12.symm _).set (.bool false)⟩, unhide OX, ((hB2.alloc (by omega) _).setCell (p := ⟨w.heap.size + 1, 0, none⟩) (by show w.heap.size ≤ w.heap.size + 1; omega) _).setCell (p := ⟨w.heap.size + 1 + 1, 0, none⟩) (by show w.heap.size ≤ w.heap.size + 1 + 1; omega) _⟩
    | true =>
      rw [hpo] at hxy
      obtain ⟨hx1, hy1⟩ := hxy rfl
      have OX : Hid (okParts ((pre ++ [x]).map ptOf) last = true) := by
        rw [List.map_append]
        show okParts (pre.map ptOf ++ [ptOf x]) last = true
        rw [unhide OS, hpt, hpo, hok]
        rfl
      have RG : Hid (rgs (((pre ++ [x]).map ptOf).map (rgOf last)) = rgs ((pre.map ptOf).map (rgOf last)) ++ [.int .i64 X, .int .i64 Y]) := by
        rw [List.map_append, List.map_append, rgs_append, hx1, hy1]
        rfl
      clear hxy hpt hx1 hy1
      have f3 : (w2.alloc (Obj.cells #[Value.int IntKind.i64 X, Value.int IntKind.i64 Y] 87)).cell? ⟨w.heap.size + 1 + 1 + 1, 0, none⟩ = some v := (e3.alloc _).cell
      have hrow3 := hrow2.alloc (Obj.cells #[Value.int IntKind.i64 X, Value.int IntKind.i64 Y] 87)
      have E3 := e3.alloc (Obj.cells #[Value.int IntKind.i64 X, Value.int IntKind.i64 Y] 87)
      have nw := news_two (W := w2.alloc (Obj.cells #[Value.int IntKind.i64 X, Value.int IntKind.i64 Y] 87)) (.int .i64 X) (.int .i64 Y)
      rw [World.size_alloc] at nw
      have hpl : pre.length ≤ 1048577 := by omega
      gi_wp2_with (gi_at_builtin; refine wpListIn_append_own _ rfl _ _ 122 rfl (w.heap.size + 7) 87 i0 _ 2 16 Tryz.underlying122 hi hz0 hz1 hz2 rfl (by decide) _ _ _ rfl (hrow3.alloc _) ⟨w2.heap.size + 1, 0, none⟩ 1 1 [.int .i64 X, .int .i64 Y] rfl rfl nw (by intro u hu; simp at hu; rcases hu with rfl | rfl <;> rfl) (by unfold maxLen; omega) (by omega) (by simp; omega) ?_; intro v' w3 hown' hgrow _; obtain ⟨g', cap', rfl⟩ := ownsRow_succ hown'; obtain ⟨a1, a2, a3, a4, a5, a6⟩ := appendedR (m := w.heap.size) E3 (by decide) hrow3 (by simp; omega) (by omega) (by omega) hown' hgrow; have hc1 : w3.cell? ⟨w.heap.size + 1 + 1 + 1, 0, none⟩ = some v := a1.cell; have hf1 : w3.frozen? ⟨w.heap.size + 1 + 1 + 1, 0, none⟩ = false := a1.frozen)
      have hAl : Below w2.heap.size w2 (w2.alloc (Obj.cells #[Value.int IntKind.i64 X, Value.int IntKind.i64 Y] 87)) := (Below.refl _ _).alloc (Nat.le_refl _) _
      have keep : ∀ k, k ≠ w.heap.size + 3 → k < w.heap.size + 7 → (w3.setCell ⟨w.heap.size + 3, 0, none⟩ (.slice (some ⟨g', 0, none⟩) (pre.length + 1) cap')).heap[k]? = W.heap[k]? := fun k h1 h2 =>
        (a6 k h1 h2 (by simp; omega)).trans ((hAl.block k (by omega)).trans (hb2.block k (by omega)))
      refine ⟨((KO2.trans (KeepsOthers.alloc _ _)).trans a4).from _, ⟨((hb2.mono hB.size).trans (hAl.mono hB2.size)).trans a5, fun k h1 h2 => keep k (by omega) (by omega)⟩, ⟨⟨_, a2, ?_, trivial⟩, ⟨(keep _ (by omega) (by omega)).trans hL, (keep _ (by omega) (by omega)).trans hR1, (keep _ (by omega) (by omega)).trans hR2⟩, unhide OX, (hB2.trans (hAl.mono hB2.size)).trans a5, ?_⟩⟩
      · rw [unhide RG, List.length_append]
        exact a3
      · have := a5.size
        simp at this ⊢
        omega
  case done =>
    rintro D ys W hD hS0 ⟨⟨v, hv, hrow, _⟩, ⟨hL, hR1, hR2⟩, hok, hB, hsz⟩ hK
    have hDs : w.heap.size + 7 ≤ D := by have := unhide HS1; omega
    have hyl : ys.length = (cutsL 44 t.data.toList).length := by rw [← hS0, List.length_map]
    have hpos := cuts_pos 44 t.data.toList
    obtain ⟨m, hm⟩ : ∃ m, ys.length = m + 1 := ⟨ys.length - 1, by omega⟩
    obtain ⟨L, hL0⟩ : ∃ L, L = (cutsL 44 t.data.toList).map (rgOf last) := ⟨_, rfl⟩
    have hLl : L.length = m + 1 := by rw [hL0, List.length_map]; omega
    rw [hS0, ← hL0, hm] at hrow
    rw [hS0] at hok
    obtain ⟨g3, cap3, rfl⟩ := ownsRow_succ hrow
    have c3 : W.cell? ⟨w.heap.size + 1 + 1 + 1, 0, none⟩ = some (.slice (some ⟨g3, 0, none⟩) (m + 1) cap3) := hv.cell
    have OL : OwnR (w.heap.size + 7) W (.slice (some ⟨g3, 0, none⟩) L.length cap3) L := by rw [hLl]; show W.ownsRow _ _ _ _ _ _; rw [hLl]; exact hrow
    have hgD : g3 ≠ D := by
      intro e
      rcases hrow.2 with ⟨hx, _⟩ | ⟨g4, _, cur, hx, _, hh, _⟩
      · cases hx
      · cases hx
        rw [e, hK] at hh
        cases hh
    have UN := impl_united_full L g3 cap3 (w.heap.size + 7) W (by omega) (by rw [hL0]; exact rg_right h1 h2 hok) OL hsz
    rw [hLl] at UN
    have UH := hide UN
    have RU2 := hide (fun tt hp hs => unhide RU tt hok (by rw [← hL0]; exact hp) hs)
    clear UN OL hok
    gi_wp2
    refine ⟨trivial, (callsIn_wide.2 (unhide UH)).mono ?_⟩
    rintro e w4 ⟨u4, tt, rfl, p4, s4, o4, hb4, hg4⟩
    have RV := hide (unhide RU2 tt p4 s4)
    have hln : (unitedL tt).length ≤ 4000000 := by
      have := united_len tt tt.length
      rw [List.take_length, p4.length_eq] at this
      omega
    have ON := hide (impl_orNothing_any (unitedL tt) u4 W.heap.size w4 hln o4)
    have hK4 : w4.heap[D]? = some (.deferred (some [])) := (hg4.block D (Array.getElem?_eq_some_iff.1 hK).1 (fun e => hgD (Option.some.inj e).symm)).trans hK
    have r1 : Boxed w4 (w.heap.size + 1) 30 (.slice none 0 0) := (hb4.block _ (by omega)).trans hR1
    have r2 : Boxed w4 (w.heap.size + 2) 4 (.bool false) := (hb4.block _ (by omega)).trans hR2
    obtain ⟨a4, c4, rfl⟩ := g_shape o4
    clear o4 p4 s4
    gi_wp2
    refine ⟨trivial, (callsIn_wide.2 (unhide ON)).mono ?_⟩
    rintro e w5 ⟨v5, rfl, o5, hb5⟩
    have r3 := boxedR_below hb5 r1
    have r4 := boxedR_below hb5 r2
    have hK5 : w5.heap[D]? = some (.deferred (some [])) := (hb5.block D (Array.getElem?_eq_some_iff.1 hK4).1).trans hK4
    obtain ⟨a5, c5, rfl⟩ := g_shape o5
    have O5 := hide o5
    clear o5
    have j1 := r3.cell
    have j2 : w5.cell? ⟨w.heap.size + 1 + 1, 0, none⟩ = some (.bool false) := r4.cell
    have j3 := r3.frozen
    have j4 : w5.frozen? ⟨w.heap.size + 1 + 1, 0, none⟩ = false := r4.frozen
    gi_wp2
    have n12 : w.heap.size + 1 ≠ w.heap.size + 2 := by omega
    obtain ⟨xv, hxv⟩ : ∃ xv, xv = Value.slice a5 (orNo (unitedL tt)).1.length c5 := ⟨_, rfl⟩
    obtain ⟨dv, hdv⟩ : ∃ dv, dv = Value.bool (orNo (unitedL tt)).2 := ⟨_, rfl⟩
    rw [← hxv] at O5
    rw [← hxv, ← hdv]
    have o5 := unhide O5
    have nb : ∀ k, k < W.heap.size → (Value.ownBlock xv = none ∨ Value.ownBlock xv ≠ some k) := fun k hk => by
      cases hv5 : xv.ownBlock with
      | none => exact .inl rfl
      | some b =>
        refine .inr fun e => ?_
        cases e
        have := (o5.lt _ hv5).1
        omega
    have r5 := (r3.set xv).other n12 dv
    have r6 := (r4.other n12.symm xv).set dv
    have o6 : ((w5.setCell ⟨w.heap.size + 1, 0, none⟩ xv).setCell ⟨w.heap.size + 2, 0, none⟩ dv).ownsRow W.heap.size 87 2 xv (orNo (unitedL tt)).1.length (rgs (orNo (unitedL tt)).1) :=
      (o5.kept (grownBy_setCell' w5 (w.heap.size + 1) xv) (nb _ (by omega))).kept (grownBy_setCell' _ (w.heap.size + 2) dv) (nb _ (by omega))
    have hK6 : ((w5.setCell ⟨w.heap.size + 1, 0, none⟩ xv).setCell ⟨w.heap.size + 2, 0, none⟩ dv).heap[D]? = some (.deferred (some [])) := ((KeepsOthers.setCell _ _ _).trans (KeepsOthers.setCell _ _ _)).same D _ hK5 rfl
    have hW5 : Below w.heap.size w w5 := (hB.trans (hb4.mono (by omega))).trans (hb5.mono (by have := hg4.size; have := hB.size; omega))
    have hB6 : Below w.heap.size w ((w5.setCell ⟨w.heap.size + 1, 0, none⟩ xv).setCell ⟨w.heap.size + 2, 0, none⟩ dv) := (hW5.setCell (p := ⟨w.heap.size + 1, 0, none⟩) (by show w.heap.size ≤ w.heap.size + 1; omega) _).setCell (p := ⟨w.heap.size + 2, 0, none⟩) (by show w.heap.size ≤ w.heap.size + 2; omega) _
    show bodyPostM Fence.wide 6 Tryz.prog Tryz.f67 _ Exit.ret _ ((w5.setCell ⟨w.heap.size + 1, 0, none⟩ xv).setCell ⟨w.heap.size + 2, 0, none⟩ dv)
    generalize (w5.setCell ⟨w.heap.size + 1, 0, none⟩ xv).setCell ⟨w.heap.size + 2, 0, none⟩ dv = W6 at *
    refine ⟨by simp, .inl ⟨_, _, rfl, run_takeDeferred hK6, ?_⟩⟩
    have g1 := (r5.kept (grownBy_putObj' W6 D (.deferred none)) (by simp; omega)).cell
    have g2 : (W6.putObj D (.deferred none)).cell? ⟨w.heap.size + 1 + 1, 0, none⟩ = some dv := (r6.kept (grownBy_putObj' W6 D (.deferred none)) (by simp; omega)).cell
    refine ⟨_, by simp [results, Tryz.results67, go_sem, g1, g2]; try rfl, xv, ?_, ?_, ?_⟩
    · rw [unhide RV, hdv]
    · rw [unhide RV]
      exact ownsRow_putObj (g_based o6 hB.size) _ hK6 rfl
    · exact hB6.trans (belowK_b (w := w) (Nat.le_refl _) W6 D _ _ (by omega) hK6 rfl rfl)
  case stop =>
    rintro D pre W hD hSp ⟨⟨hR1, hR2⟩, hok, hB⟩ hK
    have NO := hide (unhide RN (fun h => by rw [okParts_pre hSp hok] at h; cases h.2.2))
    gi_wp2
    refine ⟨by simp, .inl ⟨_, _, rfl, run_takeDeferred hK, ?_⟩⟩
    have hDs : w.heap.size + 7 ≤ D := by have := unhide HS1; omega
    have g1 := (hR1.kept (grownBy_putObj' W D (.deferred none)) (by simp; omega)).cell
    have g2 : (W.putObj D (.deferred none)).cell? ⟨w.heap.size + 1 + 1, 0, none⟩ = some (.bool false) := (hR2.kept (grownBy_putObj' W D (.deferred none)) (by simp; omega)).cell
    refine ⟨_, by simp [results, Tryz.results67, go_sem, g1, g2]; try rfl, .slice none 0 0, ?_, ?_, ?_⟩
    · rw [unhide NO]
    · rw [unhide NO]; exact ⟨rfl, .inl ⟨rfl, rfl⟩⟩
    · exact hB.trans (belowK_b (w := w) (Nat.le_refl _) W D _ _ (by omega) hK rfl rfl)

set_option maxHeartbeats 2000000 in
set_option maxRecDepth 100000 in
theorem impl_ReadSet_out (t : ByteArray) (last : Int) (w : World) (h : ¬ (1 ≤ last ∧ last ≤ 9999)) :
    Calls Tryz.prog 67 #[.string t, .int .i64 last] w fun e w' => ∃ v', e = .returned (.tuple #[v', .bool (readV t.data.toList last).2]) ∧ OwnR w.heap.size w' v' (readV t.data.toList last).1 ∧ Below w.heap.size w w' := by
  have NO := hide (readV_no (l := t.data.toList) (last := last) (fun hx => h ⟨hx.1, hx.2.1⟩))
  by_cases h1 : last < 1
  · have d1 : decide (last < 1) = true := by simpa using h1
    go_enter Tryz.func67, Tryz.ntmps67
    go_wp2
    refine bodyPost_ret (by simp [results, Tryz.results67, go_sem]; try rfl) rfl ?_
    exact ⟨.slice none 0 0, by rw [unhide NO], by rw [unhide NO]; exact ⟨rfl, .inl ⟨rfl, rfl⟩⟩, (((Below.refl _ _).alloc (Nat.le_refl _) _).alloc (by simp) _).alloc (by simp; omega) _⟩
  · have d1 : decide (last < 1) = false := by simpa using h1
    have d2 : decide (9999 < last) = true := by simp; omega
    go_enter Tryz.func67, Tryz.ntmps67
    go_wp2
    refine bodyPost_ret (by simp [results, Tryz.results67, go_sem]; try rfl) rfl ?_
    exact ⟨.slice none 0 0, by rw [unhide NO], by rw [unhide NO]; exact ⟨rfl, .inl ⟨rfl, rfl⟩⟩, (((Below.refl _ _).alloc (Nat.le_refl _) _).alloc (by simp) _).alloc (by simp; omega) _⟩
theorem impl_ReadSet_any (t : ByteArray) (last : Int) (w : World) (ht : t.size ≤ 1048576) (he : ErrOk w) :
    Calls Tryz.prog 67 #[.string t, .int .i64 last] w fun e w' => ∃ v', e = .returned (.tuple #[v', .bool (readV t.data.toList last).2]) ∧ OwnR w.heap.size w' v' (readV t.data.toList last).1 ∧ Below w.heap.size w w' := by
  by_cases h : 1 ≤ last ∧ last ≤ 9999
  · exact impl_ReadSet_in t last w ht h.1 h.2 he
  · exact impl_ReadSet_out t last w h
end Go.Proofs.YtocaljbimhjmgaaGreatDoor
