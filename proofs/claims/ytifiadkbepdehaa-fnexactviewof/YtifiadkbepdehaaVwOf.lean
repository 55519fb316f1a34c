/- Views: the specification's ViewOf. -/
import Derived.Test.YtifiadkbepdehaaVwLaw
namespace Go.Proofs.Ytifiadkbepdehaa
open Go.RowKit
open Plain
set_option linter.unusedVariables false
set_option linter.unusedSimpArgs false
attribute [local go_sem] cell_of frozen_of
instance Try.elemI : Elem Try.prog 27 3 1 8 := ⟨Try.underlying27, by
  obtain ⟨i0, hi, hz0, hz1, hz2⟩ := info_parts Try.infoIntR
  exact ⟨i0, _, hi, hz0, hz1, hz2, rfl, by decide⟩⟩
/-- The mails of a box that may be read. -/
def SeeMl (w : World) (a : Option Addr) (l : List Ml) : Prop := ∀ (k : Nat) (f : Ml), l[k]? = some f → ∃ g, a = some ⟨g, 0, none⟩ ∧ HasCell w g (k * 4) (.int .i64 f.uid) ∧ HasCell w g (k * 4 + 1) (.int .i64 f.flags) ∧ HasCell w g (k * 4 + 2) (.int .i64 f.mod) ∧ HasCell w g (k * 4 + 3) (.string f.text)
theorem OwnMl.see {B : Nat} {w : World} {a : Option Addr} {n c : Nat} {l : List Ml} (h : OwnMl B w (.slice a n c) l) : SeeMl w a l := by
  intro k f hf
  obtain ⟨g, c', e, _, h1, h2, h3, h4⟩ := ml_read h (Below.refl _ _) hf
  cases e
  exact ⟨g, rfl, ⟨h1⟩, ⟨h2⟩, ⟨h3⟩, ⟨h4⟩⟩
abbrev uidsOf (b : Bx) : List Int := b.mails.map (·.uid)
set_option maxHeartbeats 4000000 in
set_option maxRecDepth 100000 in
theorem spec_ViewOf_any (b : Bx) (a1 a2 : Option Addr) (c1 c2 : Nat) (w : World) (hs : b.mails.length ≤ 1048576) (h : SeeMl w a1 b.mails) :
    Calls Try.prog 9 #[boxV b (.slice a1 b.mails.length c1) (.slice a2 b.tombs.length c2)] w fun e w' => ∃ a c, e = .returned (vwV (viewOf b) (.slice a (viewOf b).uids.length c)) ∧ Mem w w' [rowI a c (viewOf b).uids] := by
  have H := hide h
  have M := Mem.start w
  clear h
  go_enter Try.func9, Try.ntmps9
  go_wp2
  go_loopw [4] (fun i W => ∃ (k cv : Nat) (av : Option Addr), k ≤ b.mails.length ∧ i = .int .i64 k ∧ Mem w W [.row av k cv 3 1 (intsC ((uidsOf b).take k)), .obj (w.heap.size + 1 + 1) 29 [.string b.name, .int .i64 b.valid, .slice av k cv, .int .i64 b.mod], .obj (w.heap.size + 1) 29 [.string ⟨#[]⟩, .int .i64 0, .slice none 0 0, .int .i64 0], .obj w.heap.size 34 [.string b.name, .int .i64 b.valid, .int .i64 b.next, .int .i64 b.mod, .slice a1 b.mails.length c1, .slice a2 b.tombs.length c2, .int .i64 b.hor]]) (fun i _ => b.mails.length - (intOf i).toNat)
  case atStart => exact ⟨0, 0, none, Nat.zero_le _, rfl, Mem.nil _ _⟩
  case round =>
    obtain ⟨k, cv, av, hk, rfl, M⟩ := hrel
    by_cases hlt : k < b.mails.length
    · obtain ⟨g, rfl, c0, _⟩ := unhide H k _ (List.getElem?_eq_getElem hlt)
      have HT : Hid (intsC ((uidsOf b).take (k + 1)) = intsC ((uidsOf b).take k) ++ [.int .i64 b.mails[k].uid]) := by
        show _ = _
        rw [List.take_succ_eq_append_getElem (by simpa [uidsOf] using hlt), intsC_append]
        simp [uidsOf, intsC]
      generalize b.mails[k] = f at *
      go_wp2
      refine mbo 11 (fun M => ?_)
      refine tm 0 19 ?_; refine tm 1 20 ?_; refine tm 2 21 ?_; refine tm 3 22 ?_; refine tm 4 23 ?_; refine tm 5 24 ?_; refine tm 6 25 ?_; refine tm 7 26 ?_
      refine to_ 8 fun K hK => ?_
      go_simp
      refine hK.out _ _ Mem.end ?_
      clear hK K
      try simp only [Act.put, p1, p2, p3]
      refine to_ 9 fun K hK => ?_
      refine mem_append (.tmp 20) (.tmp 27) 27 (intsC ((uidsOf b).take k)) wr.heap.size [.int .i64 f.uid] rfl rfl rfl (by simp [Value.oneCell']) rfl (by omega) (by decide) fun g2 cap w' M => ?_
      try dsimp only at M
      refine hK.out _ _ Mem.end ?_
      clear hK K
      try simp only [Act.put, p1, p2, p3]
      refine tm 10 29 ?_
      refine tl 11 fun K hK => ?_
      go_simp
      refine hK.out _ _ ?_
      clear hK K
      try simp only [Act.put, p1, p2, p3]
      refine td ?_
      go_wp2
      go_roundw
      case rel => exact ⟨k + 1, cap, some ⟨g2, 0, none⟩, by omega, by go_num, by rw [unhide HT]; exact Mem.end⟩
      case measure => simp [intOf]; omega
    · obtain rfl : k = b.mails.length := by omega
      have HT : Hid ((uidsOf b).take b.mails.length = uidsOf b) := by show _ = _; rw [List.take_of_length_le]; simp [uidsOf]
      rw [unhide HT] at M
      have hlen : Hid ((uidsOf b).length = b.mails.length) := by show _ = _; simp [uidsOf]
      go_wp2
      refine bodyPost_ret (by simp [results, Try.results9, go_sem]; try rfl) rfl ?_
      refine ⟨av, cv, ?_, ?_⟩
      · show _ = Ending.returned (vwV ⟨b.name, b.valid, uidsOf b, b.mod⟩ (.slice av (uidsOf b).length cv))
        rw [unhide hlen]
      · show Mem w _ [.row av (uidsOf b).length cv 3 1 (intsC (uidsOf b))]
        rw [unhide hlen]
        exact Mem.end
end Go.Proofs.Ytifiadkbepdehaa
