/- Views: the program's ViewOf. Made by gen_vwofi.py. -/
import Derived.Test.YtifiadkbepdehaaMemB
import Derived.Test.YtifiadkbepdehaaCloneI
namespace Go.Proofs.Ytifiadkbepdehaa
open Go.RowKit
open Plain
set_option linter.unusedVariables false
set_option linter.unusedSimpArgs false
attribute [local go_sem] cell_of frozen_of
set_option maxHeartbeats 4000000 in
set_option maxRecDepth 100000 in
theorem mailUids_any (b : Bx) (a1 a2 : Option Addr) (c1 c2 : Nat) (w : World) (hs : b.mails.length ≤ 1048576) (h : SeeMl w a1 b.mails) :
    Calls Try.prog 40 #[boxV b (.slice a1 b.mails.length c1) (.slice a2 b.tombs.length c2)] w fun e w' => ∃ a c, e = .returned (.slice a b.mails.length c) ∧ Mem w w' [.row a b.mails.length c 3 1 (intsC (uidsOf b))] := by
  obtain ⟨i0, hi, hz0, hz1, hz2⟩ := info_parts Try.infoIntR
  have H := hide h
  have M := Mem.start w
  clear h
  have hul : Hid ((uidsOf b).length = b.mails.length) := by show _ = _; simp [uidsOf]
  go_enter Try.func40, Try.ntmps40
  go_wp2_with (refine wpList_make_full _ rfl _ _ 27 rfl _ 3 i0 _ 1 Try.underlying27 hi hz0 hz1 .i64 .i64 _ _ b.mails.length rfl rfl rfl rfl (by rw [hz2]; omega) (by unfold maxLen; omega) (Nat.le_refl _) ?_; intro wm hown hgm; have M := Mem.then (Mem.of_row hown (g_below hgm)))
  have hmade : (madeCells (Value.int IntKind.i64 0).cells (b.mails.length * 1)).toList = intsC (laidI (uidsOf b) 0) := by
    rw [Nat.mul_one]
    show (madeCells #[.int .i64 0] b.mails.length).toList = _
    rw [toList_madeCells_one, laidI_zero, unhide hul]
    simp [intsC]
  rw [hmade] at M
  clear hmade hown hgm hi hz0 hz1 hz2
  have hsz : (w.alloc (.cells ([.string b.name, .int .i64 b.valid, .int .i64 b.next, .int .i64 b.mod, .slice a1 b.mails.length c1, .slice a2 b.tombs.length c2, .int .i64 b.hor] : List Value).toArray 34)).heap.size = w.heap.size + 1 := by simp
  try rw [hsz] at M
  clear hsz
  go_wp2
  go_loopw [13] (fun i W => ∃ k : Nat, k ≤ b.mails.length ∧ i = .int .i64 k ∧ Mem w W [.row (some ⟨w.heap.size + 1, 0, none⟩) b.mails.length b.mails.length 3 1 (intsC (laidI (uidsOf b) k)), .obj w.heap.size 34 [.string b.name, .int .i64 b.valid, .int .i64 b.next, .int .i64 b.mod, .slice a1 b.mails.length c1, .slice a2 b.tombs.length c2, .int .i64 b.hor]]) (fun i _ => b.mails.length - (intOf i).toNat)
  case atStart => exact ⟨0, Nat.zero_le _, rfl, Mem.end⟩
  case round =>
    obtain ⟨k, hk, rfl, M⟩ := hrel
    by_cases hlt : k < b.mails.length
    · obtain ⟨g, rfl, c0, c1, c2, c3⟩ := unhide H k _ (List.getElem?_eq_getElem hlt)
      have HT : Hid ((intsC (laidI (uidsOf b) k)).set k (.int .i64 b.mails[k].uid) = intsC (laidI (uidsOf b) (k + 1))) := by
        show _ = _
        rw [intsC_set, ← laidI_set (uidsOf b) k (by rw [unhide hul]; exact hlt)]
        simp [uidsOf]
      generalize b.mails[k] = f at *
      obtain ⟨y, el⟩ := Elt.some (xs := intsC (laidI (uidsOf b) k)) (j := k) (by rw [intsC_len, laidI_length _ _ (by rw [unhide hul]; exact hk), unhide hul]; exact hlt)
      go_wp2
      go_roundw
      case rel => exact ⟨k + 1, by omega, by go_num, by rw [← unhide HT]; exact Mem.end⟩
      case measure => simp [intOf]; omega
    · obtain rfl : k = b.mails.length := by omega
      have HT : Hid (laidI (uidsOf b) b.mails.length = uidsOf b) := by show _ = _; rw [← unhide hul]; exact laidI_all _
      rw [unhide HT] at M
      go_wp2
      go_ret
      exact ⟨_, _, rfl, Mem.end⟩
theorem SeeMl.up {w W : World} {L : List Pc} {a : Option Addr} {l : List Ml} (h : SeeMl w a l) [M : Mem w W L] : SeeMl W a l := fun k f hf => by
  obtain ⟨g, e, c0, c1, c2, c3⟩ := h k f hf
  exact ⟨g, e, inferInstance, inferInstance, inferInstance, inferInstance⟩
theorem Mem.of0 {W W' : World} (hb : Below W.heap.size W W') : Mem W W' [] := ⟨hb, fun p hp => (by cases hp), List.Pairwise.nil⟩
set_option maxHeartbeats 4000000 in
set_option maxRecDepth 100000 in
theorem impl_ViewOf_any (b : Bx) (a1 a2 : Option Addr) (c1 c2 : Nat) (w : World) (hs : b.mails.length ≤ 1048576) (hb : b.name.size ≤ 1048576) (h : SeeMl w a1 b.mails) :
    Calls Try.prog 11 #[boxV b (.slice a1 b.mails.length c1) (.slice a2 b.tombs.length c2)] w fun e w' => ∃ a c, e = .returned (vwV (viewOf b) (.slice a (viewOf b).uids.length c)) ∧ Mem w w' [rowI a c (viewOf b).uids] := by
  have H := hide h
  have M := Mem.start w
  clear h
  have hul : Hid ((uidsOf b).length = b.mails.length) := by show _ = _; simp [uidsOf]
  go_enter Try.func11, Try.ntmps11
  go_wp2
  refine mb 10 (fun M => ?_)
  refine tm 0 3 ?_; refine tm 1 4 ?_; refine tm 3 6 ?_; refine tm 4 7 ?_; refine tm 5 8 ?_; refine tm 7 10 ?_; refine tm 8 11 ?_
  refine tc 2 5 (Clone_any b.name _ (by omega)) ?_
  rintro e w1 ⟨rfl, hb1⟩
  have M := Mem.go hb1
  clear hb1
  refine tce ?_
  refine tc 6 9 (mailUids_any b a1 a2 c1 c2 _ hs (unhide H).up) ?_
  rintro e w2 ⟨a, c, rfl, M2⟩
  have M := Mem.then M2
  clear M2
  refine tce ?_
  refine tm 9 12 ?_
  refine tl 10 fun K hK => ?_
  go_simp
  refine hK.out _ _ ?_
  clear hK K
  try simp only [Act.put, p1, p2, p3]
  refine td ?_
  go_wp2
  refine bodyPost_ret (by simp [results, Try.results11, go_sem]; try rfl) rfl ?_
  refine ⟨a, c, ?_, ?_⟩
  · show _ = Ending.returned (vwV ⟨b.name, b.valid, uidsOf b, b.mod⟩ (.slice a (uidsOf b).length c))
    rw [unhide hul]
  · show Mem w _ [.row a (uidsOf b).length c 3 1 (intsC (uidsOf b))]
    rw [unhide hul]
    exact Mem.end
end Go.Proofs.Ytifiadkbepdehaa
