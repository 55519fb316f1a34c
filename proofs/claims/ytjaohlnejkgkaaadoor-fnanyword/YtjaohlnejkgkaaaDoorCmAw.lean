/- The walk of FnAnyWord. -/
import Derived.Test.YtjaohlnejkgkaaaDoorRcZ
import Derived.Test.YtjaohlnejkgkaaaDoorRcP
import Derived.Test.YtjaohlnejkgkaaaDoorCmSame
import Derived.Test.YtjaohlnejkgkaaaDoorDrawPlacesI
namespace Go.Proofs.YtjaohlnejkgkaaaDoor
open Go.RowKit
open Plain
set_option linter.unusedVariables false
set_option linter.unusedSimpArgs false
attribute [local go_sem] cell_of frozen_of

theorem seeW_row {w W : World} {L : List Pc} {f : Pc → List Pc} {a : Option Addr} {n c : Nat} (l : List (List UInt8)) (hn : n = l.length) [M : Mem w W L] [h : InL L (.row a n c 9 1 (strs l)) f] : SeeW W a l := by
  subst hn
  exact seeW_own (M.get (.row a l.length c 9 1 (strs l)))
theorem RdAns.out {w W : World} {V : List (List UInt8) × Int × Int} {e : Ending} (h : RdAns w V e W) : ∃ a c, e = .returned (.tuple #[.slice a V.1.length c, .int .i64 V.2.1, .int .i64 V.2.2]) ∧ Mem w W [.row a V.1.length c 9 1 (strs V.1)] := h
namespace Plain
/-- The words of the law. -/
def anyW (x : List UInt8) : List (List UInt8) := [[120], x, [40, 97, 32, 98, 41], [113, 34, 114]]
theorem any_fits {x : List UInt8} (h : x.length ≤ 12) : (cmdV (anyW x)).2 = true ∧ (cmdV (anyW x)).1.length ≤ 300 := by
  have hw := wordT_len (l := x) (by omega)
  have h1 : (wordT [120]).length = 1 := by decide
  have h2 : (wordT [40, 97, 32, 98, 41]).length = 5 := by decide
  have h3 : (wordT [113, 34, 114]).length = 6 := by decide
  have hj : (joinT (anyW x)).length + 2 ≤ 300 := by
    unfold anyW
    simp only [joinT, List.length_append, List.length_cons]
    omega
  have hi : inI ((anyW x).length : Int) 1 12 = true := rfl
  rw [cmdV_in hi, if_pos hj]
  exact ⟨rfl, by simp; omega⟩
theorem any_one : rdV [123, 51, 125, 13, 10, 97, 32, 98, 32, 34, 99, 34, 13, 10] = ([[97, 32, 98], [99]], 14, 0) := by decide +kernel
theorem any_two : rdV [97, 32, 32, 98, 13, 10] = ([], 0, 2) := by decide +kernel
end Plain
set_option maxHeartbeats 8000000 in
set_option maxRecDepth 100000 in
theorem FnAnyWord_walk (len cap : Nat) (a : Option Addr) (w : World) (ha : Arg w.heap.size w a len)
    (BI : ∀ W : World, Calls Tryd.prog 11 #[.slice a len cap] W fun e w' => e = .returned (.bool false) ∧ w' = W)
    (CI : ∀ (l : List (List UInt8)) (b : Option Addr) (c : Nat) (W : World), l.length ≤ 1048576 → (∀ x ∈ l, x.length ≤ 1048576) → SeeW W b l → Below w.heap.size w W → Calls Tryd.prog 9 #[.slice b l.length c] W fun e w' => e = .returned (cmdT (cmdV l)) ∧ Below W.heap.size W w') :
    Calls Tryd.prog 4 #[.slice a len cap] w fun e w' => e = .returned (.bool true) ∧ Below w.heap.size w w' := by
  have QB := hide BI
  have D1 := hide (DrawPlaces_nat w.heap.size len cap a w ha (Nat.le_refl _))
  have CC := hide CI
  have M := Mem.start w
  clear ha BI CI
  go_enter Tryd.func4, Tryd.ntmps4
  go_wp2_with fail
  refine (unhide QB _).mono ?_
  rintro e w0 ⟨rfl, hw⟩
  subst w0
  go_wp2_with fail
  refine (unhide D1).mono ?_
  rintro e w1 ⟨v, l, hl, hall, rfl, hown, hb⟩
  clear QB D1
  have M := Mem.start w
  obtain ⟨ap, cp, rfl⟩ := g_shape hown
  have M := Mem.of_row hown hb
  clear hown hb
  obtain ⟨g, rfl⟩ := M.addr (.row ap 12 cp 3 1 (ivN l)) rfl (by omega)
  have HL := hide hl
  have HA := hide hall
  have lt0 : 0 < l.length := by omega
  obtain ⟨p0, hp0⟩ : ∃ x, l[0]? = some x := ⟨_, List.getElem?_eq_getElem lt0⟩
  have e0 : Elt (ivN l) 0 (.int .i64 (p0 : Int)) := ⟨by unfold ivN; rw [List.getElem?_map, hp0]; rfl⟩
  obtain ⟨m, hm⟩ : ∃ m, m = p0 % 12 := ⟨_, rfl⟩
  have m12 : m < 12 := by omega
  have em : (p0 : Int) % 12 = (m : Int) := by rw [hm]; omega
  clear hm hp0 lt0 hl hall
  go_wp2
  go_loopw [4, 5] (fun b i W => ∃ (k : Nat) (bs : List UInt8) (ab : Option Addr) (cb : Nat), k ≤ m ∧ bs.length = k ∧ b = .slice ab bs.length cb ∧ i = .int .i64 k ∧ Mem w W [.row ab bs.length cb 5 1 (bv bs), .row (some ⟨g, 0, none⟩) 12 cp 3 1 (ivN l)]) (fun _ i _ => m - (intOf i).toNat)
  case atStart =>
    have M2 := Mem.asRow (W := w1.alloc (.cells #[] 5)) (w := w) (b := w1.heap.size) (t := 5) 1
    exact ⟨0, [], some ⟨w1.heap.size, 0, none⟩, 0, Nat.zero_le _, rfl, rfl, rfl, show Mem w _ [.row (some ⟨w1.heap.size, 0, none⟩) 0 0 5 1 [], .row (some ⟨g, 0, none⟩) 12 cp 3 1 (ivN l)] from Mem.end (M := M2)⟩
  clear M
  case round =>
    obtain ⟨k, bs, ab, cb, hk, hbl, rfl, rfl, M⟩ := hrel
    have HBL := hide hbl
    clear hbl
    by_cases hlt : k < m
    · have hk12 : k < l.length := by rw [unhide HL]; omega
      obtain ⟨x, hx⟩ : ∃ x, l[k]? = some x := ⟨_, List.getElem?_eq_getElem hk12⟩
      have ek : Elt (ivN l) (k % 12) (.int .i64 (x : Int)) := ⟨by rw [Nat.mod_eq_of_lt (by omega)]; unfold ivN; rw [List.getElem?_map, hx]; rfl⟩
      obtain ⟨y, hy⟩ : ∃ y, y = x % 256 := ⟨_, rfl⟩
      have ey : (x : Int) % 256 = (y : Int) := by rw [hy]; omega
      have y256 : y < 256 := by omega
      have ew : IntKind.u8.wrap (y : Int) = (y : Int) := by rw [IntKind.wrap_u8]; omega
      have hc : (UInt8.ofNat y).toNat = y := by rw [UInt8.toNat_ofNat']; omega
      have HB : Hid (bv (bs ++ [UInt8.ofNat y]) = bv bs ++ [.int .u8 (y : Int)]) := by show _ = _; rw [bv_snoc, hc]
      have HN := hide (len_snoc bs (UInt8.ofNat y))
      have i1 : (0 : Int) ≤ (k : Int) := by omega
      have i2 : (k : Int) < 12 := by omega
      have i3 : k < 12 := by omega
      clear hy hx hk12 hc
      go_wp2_with (refine mem_append_l rfl (.tmp 31) (.tmp 39) 29 (bv bs) _ [.int .u8 (y : Int)] rfl rfl rfl (by simp [Value.oneCell']) (by rfl) (by have := unhide HBL; omega) (by decide) ?_; intro g2 cap w6 M; try dsimp only at M)
      go_roundw
      case rel => exact ⟨k + 1, bs ++ [UInt8.ofNat y], some ⟨g2, 0, none⟩, cap, by omega, by rw [unhide HN, unhide HBL], by rw [unhide HN], by go_num, by rw [unhide HN, unhide HB]; exact Mem.end⟩
      case measure => simp [intOf]; omega
    · obtain rfl : k = m := by omega
      have CV : ∀ (W : World) [Mem w W [.row ab bs.length cb 5 1 (bv bs), .row (some ⟨g, 0, none⟩) 12 cp 3 1 (ivN l)]], (convert 29 9 (.slice ab bs.length cb)).run Tryd.prog W = .ok (.string ⟨bs.toArray⟩) W := fun W _ => conv_mem bs rfl
      have CV := CV wr
      have HB12 : Hid (bs.length ≤ 12) := by have := unhide HBL; show bs.length ≤ 12; omega
      clear HBL hk m12
      have HW := hide (any_fits (x := bs) (unhide HB12))
      have VB := hide (rdV_same (ws := anyW bs) (unhide HW).1)
      have CQ := hide (fun W b h1 h2 => unhide CC (anyW bs) b 4 W (show (4 : Nat) ≤ 1048576 by decide) (fun x hx => by
        unfold anyW at hx
        simp only [List.mem_cons, List.not_mem_nil, or_false] at hx
        rcases hx with rfl | rfl | rfl | rfl
        · decide
        · have := unhide HB12; omega
        · decide
        · decide) h1 h2)
      have HV : Hid (cmdV (anyW bs) = ((cmdV (anyW bs)).1, true)) := Prod.ext rfl (unhide HW).1
      have HT := hide (unhide HW).2
      rw [unhide HV] at CQ
      clear HV HW CC
      generalize (cmdV (anyW bs)).1 = T at *
      unfold cmdT at CQ
      dsimp only at CQ
      go_wp2_with fail
      have S4 : ∀ (W : World), Mem w W [.obj wr.heap.size 9 [.string ⟨#[120]⟩, .string ⟨bs.toArray⟩, .string ⟨#[40, 97, 32, 98, 41]⟩, .string ⟨#[113, 34, 114]⟩]] → SeeW W (some ⟨wr.heap.size, 0, none⟩) (anyW bs) := fun W M k x hx => by
        unfold anyW at hx
        match k, hx with
        | 0, hx => cases hx; exact ⟨_, rfl, inferInstance⟩
        | 1, hx => cases hx; exact ⟨_, rfl, inferInstance⟩
        | 2, hx => cases hx; exact ⟨_, rfl, inferInstance⟩
        | 3, hx => cases hx; exact ⟨_, rfl, inferInstance⟩
        | k + 4, hx => simp at hx
      have S4 := hide S4
      refine (unhide CQ _ _ ?h1 ?h2).mono ?h3
      case h1 => exact unhide S4 _ Mem.end
      case h2 => exact Mem.here _
      rintro e w2 ⟨rfl, hb⟩
      have M := Mem.go hb
      clear hb CQ
      go_wp2_with fail
      refine (impl_ReadCommand_any ⟨T.toArray⟩ _ (by have := unhide HT; show T.length ≤ _; omega)).mono ?_
      intro e w3 hr
      rw [show rdV (⟨T.toArray⟩ : ByteArray).data.toList = (anyW bs, (T.length : Int), 0) from unhide VB] at hr
      obtain ⟨b1, d1, rfl, M2⟩ := hr.out
      have M := Mem.then M2
      clear hr M2 VB
      try dsimp only at M ⊢
      go_wp2_with fail
      refine (impl_ReadCommand_any _ _ (by decide)).mono ?_
      intro e w4 hr
      rw [show rdV (⟨#[123, 51, 125, 13, 10, 97, 32, 98, 32, 34, 99, 34, 13, 10]⟩ : ByteArray).data.toList = ([[97, 32, 98], [99]], 14, 0) from any_one] at hr
      obtain ⟨b2, d2, rfl, M2⟩ := hr.out
      have M := Mem.then M2
      clear hr M2
      try dsimp only at M ⊢
      go_wp2_with fail
      refine (impl_ReadCommand_any _ _ (by decide)).mono ?_
      intro e w5 hr
      rw [show rdV (⟨#[97, 32, 32, 98, 13, 10]⟩ : ByteArray).data.toList = ([], 0, 2) from any_two] at hr
      obtain ⟨b3, d3, rfl, M2⟩ := hr.out
      have M := Mem.then M2
      clear hr M2
      try dsimp only at M ⊢
      go_wp2_with fail
      refine (sameTexts_same (anyW bs) b1 _ d1 4 _ ?j1 ?j2 ?j3).mono ?j4
      case j1 => exact (show (4 : Nat) ≤ 1048576 by decide)
      case j2 => exact seeW_row (n := (anyW bs).length) (c := d1) (anyW bs) rfl
      case j3 => exact unhide S4 _ Mem.end
      rintro e w6 ⟨rfl, hb⟩
      have M := Mem.go hb
      clear hb S4
      go_wp2_with fail
      have S2 : ∀ (B : Nat) (W : World), Mem w W [.obj B 9 [.string ⟨#[97, 32, 98]⟩, .string ⟨#[99]⟩]] → SeeW W (some ⟨B, 0, none⟩) [[97, 32, 98], [99]] := fun B W M k x hx => by
        match k, hx with
        | 0, hx => cases hx; exact ⟨_, rfl, inferInstance⟩
        | 1, hx => cases hx; exact ⟨_, rfl, inferInstance⟩
        | k + 2, hx => simp at hx
      have S2 := hide S2
      refine (sameTexts_same [[97, 32, 98], [99]] b2 _ d2 2 _ ?q1 ?q2 ?q3).mono ?q4
      case q1 => decide
      case q2 => exact seeW_row (n := 2) (c := d2) [[97, 32, 98], [99]] rfl
      case q3 => exact unhide S2 _ _ Mem.end
      rintro e w7 ⟨rfl, hb⟩
      have M := Mem.go hb
      clear hb S2
      go_wp2
      go_ret
      exact ⟨rfl, M.below⟩
end Go.Proofs.YtjaohlnejkgkaaaDoor
