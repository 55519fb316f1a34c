/- The program's text of a set. -/
import Derived.Test.YtgdihceikhkddaaDoorTv
import Derived.Test.YtgdihceikhkddaaDoorImplOk
import Derived.Test.YtgdihceikhkddaaDoorDec
import Derived.Test.YtgdihceikhkddaaDoorSetText
import Derived.Deep.Slices
import Derived.Deep.RegionHeld3
import Derived.OwnWalk
namespace Go.Proofs.YtgdihceikhkddaaDoor
open Go.RowKit Go.Deep
open Plain
set_option linter.unusedVariables false

theorem gPow : Tryd.prog.globalNamed "internal/strconv.uint64pow10" = some 1 := by kernel_rfl
def Pow (w : World) : Prop := Lib.TabIs Tryd.prog w "internal/strconv.uint64pow10" .u64 Lib.pow10Tab
theorem Pow.below {w w1 : World} (ht : Pow w) (h : Below w.heap.size w w1) : Pow w1 :=
 var?_below h gPow (World.block_lt_of_cell? w _ (ht.cell gPow 0 (by decide))) ht

namespace Plain
theorem join_snoc (xs : List (List UInt8)) (y sep : List UInt8) : Lib.join (xs ++ [y]) sep = Lib.join xs sep ++ (if 0 < xs.length then sep else []) ++ y := by
 cases xs with
 | nil => rw [List.nil_append, Lib.join_one, Lib.join_nil]; simp
 | cons x r =>
  rw [List.cons_append, Lib.join_cons, Lib.join_cons]
  simp [Lib.joinTail, List.append_assoc]
theorem text_join (s : List Rg) : ∀ k, k ≤ s.length → textTo s k = Lib.join ((s.take k).map piece) [44] := by
 intro k
 induction k with
 | zero => intro _; rfl
 | succ k ih =>
  intro hk
  have hr : s[k]? = some s[k] := List.getElem?_eq_getElem (by omega)
  rw [textTo_succ hr, ih (by omega), ok_snoc hr, List.map_append, List.map_cons, List.map_nil, join_snoc]
  have : ((s.take k).map piece).length = k := by simp; omega
  rw [this]
def pieceV (r : Rg) : Value := .string ⟨(piece r).toArray⟩
def pieceB (r : Rg) : ByteArray := ⟨(piece r).toArray⟩
def noV : Value := .string ⟨#[]⟩
def laidT (s : List Rg) (k : Nat) : List Value := (s.take k).map pieceV ++ List.replicate (s.length - k) noV
theorem laidT_set {s : List Rg} {k : Nat} {r : Rg} (hr : s[k]? = some r) : (laidT s k).set k (pieceV r) = laidT s (k + 1) := by
 have h : k < s.length := (List.getElem?_eq_some_iff.1 hr).1
 unfold laidT
 have e : s.length - k = (s.length - (k + 1)) + 1 := by omega
 rw [List.set_append_right _ _ (by simp; omega), e, List.replicate_succ]
 have : k - ((s.take k).map pieceV).length = 0 := by simp; omega
 rw [this, List.set_cons_zero, ok_snoc hr, List.map_append, List.append_assoc]
 rfl
theorem laidT_all (s : List Rg) : laidT s s.length = s.map pieceV := by simp [laidT]
end Plain
theorem made_texts (n : Nat) : (madeCells (Value.string ByteArray.empty).cells (n * 1)).toList = List.replicate n noV := by
 apply List.ext_getElem?
 intro i
 by_cases hi : i < n
 ·rw [List.getElem?_replicate_of_lt hi, Array.getElem?_toList, madeCells, Array.getElem?_map, Array.getElem?_eq_getElem (by simp; omega), Array.getElem_range, Option.map_some]
  have : i % (Value.string ByteArray.empty).cells.size = 0 := Nat.mod_one i
  rw [this]
  rfl
 ·rw [List.getElem?_eq_none (by simp [madeCells]; omega), List.getElem?_eq_none (by simp; omega)]

set_option maxHeartbeats 2000000 in
theorem impl_rangeText_any (r : Rg) (w : World) (h1 : 1 ≤ r.lo) (h2 : r.lo ≤ r.hi) (h3 : r.hi ≤ 9999) (ht : Pow w) :
  Calls Tryd.prog 39 #[.agg #[.int .i64 r.lo, .int .i64 r.hi]] w fun e w' => e = .returned (pieceV r) ∧ Below w.heap.size w w' := by
 obtain ⟨x, y⟩ := r
 simp only at h1 h2 h3 ⊢
 unfold pieceV piece
 simp only
 obtain ⟨W, hW⟩ : ∃ W, W = w.alloc (Obj.cells #[Value.int IntKind.i64 x, Value.int IntKind.i64 y] 49) := ⟨_, rfl⟩
 have hb0 : Below w.heap.size w W := by rw [hW]; exact (Below.refl _ _).alloc (Nat.le_refl _) _
 have s0 : W.cell? ⟨w.heap.size, 0, none⟩ = some (.int .i64 x) := by rw [hW]; go_simp
 have s1 : W.cell? ⟨w.heap.size, 1, none⟩ = some (.int .i64 y) := by rw [hW]; go_simp
 have hsz : w.heap.size < W.heap.size := by rw [hW]; simp
 have P0 := ht.below hb0; have HW := hide hW; clear hW
 by_cases he : x = y
 ·subst he
  rw [if_neg (by omega), List.append_nil]
  have D := hide (impl_Decimal_any x W (by omega) (by omega) P0)
  go_enter Tryd.func39, Tryd.ntmps39
  go_wp2_with fail
  rw [← uh HW]
  refine (uh D).mono ?_
  rintro e w1 ⟨rfl, hb1⟩
  go_wp2
  go_ret
  exact ⟨rfl, below2 hb0 hb1⟩
 ·rw [if_pos (by omega)]
  have D := hide (fun W' h => impl_Decimal_any x W' (by omega) (by omega) h)
  have D2 := hide (fun W' h => impl_Decimal_any y W' (by omega) (by omega) h)
  have L1 := itoa_len (n := x) (by omega) (by omega)
  have L2 := itoa_len (n := y) (by omega) (by omega)
  generalize Lib.itoa x = X at *
  generalize Lib.itoa y = Y at *
  have k1 : ¬ 9223372036854775807 < X.length + 1 := by omega
  have k2 : ¬ 9223372036854775807 < X.length + 1 + Y.length := by omega
  go_enter Tryd.func39, Tryd.ntmps39
  go_wp2
  rw [← uh HW]
  refine wp_region_held_drew (S := fun w' => w'.cell? ⟨w.heap.size, 0, none⟩ = some (.int .i64 x) ∧ w'.cell? ⟨w.heap.size, 1, none⟩ = some (.int .i64 y) ∧ w.heap.size < w'.heap.size ∧ Pow w') (by kernel_rfl) (⟨s0, s1, hsz, P0⟩) (fun hHeld => ?_)
  refine tv 0 11 ?_; refine tv 1 12 ?_; refine tv 4 15 ?_; refine tv 5 16 ?_
  refine wpAnyH_ready (rs := [2]) (by kernel_rfl) (by simp) ?_
  refine AllReadyH.cons rfl (fun K hK => ?_) AllReadyH.nil
  go_simp
  refine (uh D _ hHeld.2.2.2).mono ?_
  rintro e w1 ⟨rfl, hb1⟩
  go_wp2_with fail
  refine hK.out _ _ (⟨(hb1.cell (p := ⟨w.heap.size, 0, none⟩) hHeld.2.2.1).trans hHeld.1, (hb1.cell (p := ⟨w.heap.size, 1, none⟩) hHeld.2.2.1).trans hHeld.2.1, Nat.lt_of_lt_of_le hHeld.2.2.1 hb1.size, hHeld.2.2.2.below hb1⟩) (fun hHeld2 => ?_)
  clear hK K hHeld; have hHeld := hHeld2; clear hHeld2
  try simp only [Act.put, p1, p2, p3]
  refine tv 3 14 ?_
  refine wpAnyH_ready (rs := [6]) (by kernel_rfl) (by simp) ?_
  refine AllReadyH.cons rfl (fun K hK => ?_) AllReadyH.nil
  go_simp
  refine (uh D2 _ hHeld.2.2.2).mono ?_
  rintro e w2 ⟨rfl, hb2⟩
  go_wp2_with fail
  refine hK.out _ _ (⟨(hb2.cell (p := ⟨w.heap.size, 0, none⟩) hHeld.2.2.1).trans hHeld.1, (hb2.cell (p := ⟨w.heap.size, 1, none⟩) hHeld.2.2.1).trans hHeld.2.1, Nat.lt_of_lt_of_le hHeld.2.2.1 hb2.size, hHeld.2.2.2.below hb2⟩) (fun hHeld2 => ?_)
  clear hK K hHeld; have hHeld := hHeld2; clear hHeld2
  try simp only [Act.put, p1, p2, p3]
  refine tv 7 18 ?_
  refine wpAnyH_ready (rs := [8]) (by kernel_rfl) (by simp) ?_
  refine AllReadyH.cons rfl (fun K hK => ?_) AllReadyH.nil
  go_simp
  refine hK.out _ _ (hHeld) (fun hHeld2 => ?_)
  clear hK K hHeld; have hHeld := hHeld2; clear hHeld2
  try simp only [Act.put, p1, p2, p3]
  refine wpAnyH_done (by kernel_rfl) ?_ _
  go_wp2
  go_ret
  refine ⟨?_, below2 hb0.drew (below2 hb1 hb2)⟩
  show Ending.returned (Value.string (_ ++ _ ++ _)) = _
  congr 2
  apply ByteArray.ext
  simp

set_option maxHeartbeats 4000000 in
set_option maxRecDepth 100000 in
theorem impl_SetText_any (s : List Rg) (v : Value) (w : World) (hs : s.length ≤ 1048576) (h : ReadO w v s) (ht : Pow w) :
  Calls Tryd.prog 29 #[v] w fun e w' => e = .returned (.string ⟨(setTextL s).toArray⟩) ∧ Below w.heap.size w w' := by
 have infoStr : (Tryd.prog.info? 9).map (fun i => (i.zero, i.size, i.bytes)) = some (some (.string ByteArray.empty), 1, 16) := by kernel_rfl
 obtain ⟨i0, hi, hz0, hz1, hz2⟩ := info_parts infoStr
 have OK := hide (impl_SetOk_any s v w hs h)
 obtain ⟨a, c, rfl, hcap, hc⟩ := id h
 have H := hide h; have HT := hide ht; clear h hc ht
 cases ho : okS s with
 | false =>
  have HR := hide (setTextL_no ho)
  rw [ho] at OK
  go_enter Tryd.func29, Tryd.ntmps29
  go_wp2_with fail
  refine (uh OK).mono ?_
  rintro e w1 ⟨rfl, hb1⟩
  go_wp2
  go_ret
  exact ⟨by rw [uh HR]; rfl, hb1⟩
 | true =>
  have HR := hide (setTextL_in ho); have hoF := (okS_parts ho).1; have h40 := (okS_parts ho).2; have TL := textTo_len hoF s.length (Nat.le_refl _); have TJ := hide (text_join s s.length (Nat.le_refl _))
  rw [ho] at OK
  go_enter Tryd.func29, Tryd.ntmps29
  go_wp2_with fail
  refine (uh OK).mono ?_
  rintro e w1 ⟨rfl, hb1⟩
  go_wp2_with (refine wpList_make_full _ rfl _ _ 46 rfl w1.heap.size 9 i0 _ 1 Tryd.underlying46 hi hz0 hz1 .i64 .i64 _ _ s.length rfl rfl rfl rfl (by rw [hz2]; omega) (by unfold maxLen; omega) (Nat.le_refl _) ?_; intro wm hown hgm)
  rw [made_texts] at hown
  have hw1 : w.heap.size ≤ w1.heap.size := hb1.size
  have hbm := below2 hb1 (g_below hgm)
  go_loopw [14] (fun i wr => ∃ k : Nat, k ≤ s.length ∧ i = .int .i64 k ∧ wr.ownsRow w1.heap.size 9 1 (.slice (some ⟨w1.heap.size, 0, none⟩) s.length s.length) s.length (laidT s k) ∧ Below w.heap.size w wr) (fun i _ => s.length - (intOf i).toNat)
  case atStart => exact ⟨0, Nat.zero_le _, rfl, by simpa [laidT] using hown, hbm⟩
  case round =>
   obtain ⟨k, hk, rfl, hownk, hbel⟩ := hrel
   clear hown
   by_cases hlt : k < s.length
   ·have hgk : s[k]? = some s[k] := List.getElem?_eq_getElem hlt
    obtain ⟨a', c', hv', _, hc'⟩ := (uh H).up hbel
    cases hv'
    obtain ⟨g, o, hga, hgl, d0, d1⟩ := hc' k _ hgk
    subst hga
    have hat := ok_at hoF hgk; have ST := hide (laidT_set hgk)
    have RT := hide (fun W h => impl_rangeText_any s[k] W hat.1 hat.2.1 hat.2.2 h)
    generalize s[k] = r at *
    obtain ⟨rl, rh⟩ := r
    simp only at d0 d1 RT
    have hik : (0 : Int) ≤ (k : Int) := by omega
    have hil : (k : Int) < (s.length : Int) := by omega
    have hwr : w.heap.size ≤ wr.heap.size := hbel.size
    have hown1 : w1.heap.size < wr.heap.size := (hownk.lt _ rfl).2
    obtain ⟨W1, hW1⟩ : ∃ W1, W1 = wr.alloc (Obj.cells #[Value.int IntKind.i64 rl, Value.int IntKind.i64 rh] 49) := ⟨_, rfl⟩
    have hA : Below wr.heap.size wr W1 := by rw [hW1]; exact (Below.refl _ _).alloc (Nat.le_refl _) _
    have hB1 : Below w.heap.size w W1 := hbel.trans (hA.mono hwr)
    have R1 := hide (uh RT W1 ((uh HT).below hB1)); have OK1 := hide (g_stays hownk hA); have HW1 := hide hW1; clear hW1 hownk hgk hc'; go_wp2_with fail
    rw [← uh HW1]
    refine (uh R1).mono ?_
    rintro e w4 ⟨rfl, hb4⟩
    have own4 := g_stays (uh OK1) hb4; have f0 := own4.frozenAt k
    obtain ⟨y0, hy0⟩ := g_some own4 (j := k) (by omega)
    have st := own4.stored k (pieceV ⟨rl, rh⟩)
    rw [uh ST] at st
    have OS := hide st.1
    have hB4 : Below w.heap.size w w4 := hB1.trans (hb4.mono hB1.size)
    have hBS := hide (hB4.setCell (p := ⟨w1.heap.size, k, none⟩) hw1 (pieceV ⟨rl, rh⟩))
    have PV : pieceV ⟨rl, rh⟩ = .string ⟨(piece ⟨rl, rh⟩).toArray⟩ := rfl
    rw [PV] at OS hBS ⊢
    clear st own4 OK1 R1 RT PV
    go_wp2
    go_roundw
    case rel => exact ⟨k + 1, by omega, by go_num, uh OS, uh hBS⟩
    case measure => simp [intOf]; omega
   ·obtain rfl : k = s.length := by omega
    rw [laidT_all] at hownk
    have JN := hide (Tryd.strings_Join w1.heap.size 0 s.length (s.map pieceB) ⟨#[44]⟩ wr (fun j x hx => by
     have hj : j < s.length := by have := (List.getElem?_eq_some_iff.1 hx).1; simpa using this
     rw [Nat.zero_add, hownk.cellAt j (by omega)]
     rw [List.getElem?_map] at hx ⊢
     cases hsj : s[j]? with
     | none => rw [hsj] at hx; cases hx
     | some r =>
      rw [hsj] at hx
      simp at hx
      subst hx
      rfl) (hownk.lt _ rfl).2 (by simp; omega) (by simp) (by
     have e : (s.map pieceB).map (·.data.toList) = s.map piece := by rw [List.map_map]; apply List.map_congr_left; intro r _; simp [pieceB]
     rw [e]
     have := uh TJ
     rw [List.take_length] at this
     show (Lib.join (s.map piece) [44]).length ≤ _
     rw [← this]
     omega))
    have EJ : Hid (Lib.join ((s.map pieceB).map (·.data.toList)) (⟨#[44]⟩ : ByteArray).data.toList = setTextL s) := by
     have e : (s.map pieceB).map (·.data.toList) = s.map piece := by rw [List.map_map]; apply List.map_congr_left; intro r _; simp [pieceB]
     have := uh TJ
     rw [List.take_length] at this
     rw [e, uh HR, this]
     rfl
    rw [List.length_map] at JN
    have JN2 := JN
    rw [uh EJ] at JN2
    clear JN hownk; go_wp2_with fail
    refine (uh JN2).mono ?_
    rintro e w5 ⟨rfl, hb5⟩
    go_wp2
    go_ret
    exact ⟨rfl, hbel.trans (hb5.mono hbel.size)⟩
end Go.Proofs.YtgdihceikhkddaaDoor
