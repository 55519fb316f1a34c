/- The walk of FnExactSortBySubject. -/
import Derived.Test.YtihdgfihdecalaaGreatDoorSbI
import Derived.Test.YtihdgfihdecalaaGreatDoorRangeMarks
namespace Go.Proofs.YtihdgfihdecalaaGreatDoor
open Go.RowKit
open Plain
set_option linter.unusedVariables false
set_option linter.unusedSimpArgs false
attribute [local go_sem] cell_of frozen_of
abbrev rowPI (a : Option Addr) (c : Nat) (l : List Int) : Pc := .row a l.length c 3 1 (intsC l)
abbrev markPI (a : Option Addr) (c k0 n : Nat) : Pc := .row a n c 3 1 (intsC (marksI k0 n))
abbrev rowRS (a : Option Addr) (c : Nat) (l : List Rg) : Pc := .row a l.length c 60 2 (rgs l)
abbrev markPR (a : Option Addr) (c k0 n : Nat) : Pc := .row a n c 60 2 (rgs (marksR k0 n))
section
variable {w W : World} {L : List Pc}
theorem toRanges_mem (a : Option Addr) (c : Nat) (l : List Rg) [M : Mem w W L] (hs : l.length ≤ 1048576) (h : ArgR w.heap.size w a l) :
    Calls Tryz.prog 9 #[.slice a l.length c] W fun e W' => ∃ a' c', e = .returned (.slice a' l.length c') ∧ Mem w W' (rowRS a' c' l :: L) :=
  (toRangeS_any a c l W hs (h.up M.below)).mono fun e W' ⟨v, he, ho, hb⟩ => by
    obtain ⟨a', c', rfl⟩ := g_shape ho
    exact ⟨a', c', he, M.more1 (Mem.of_row ho hb)⟩
theorem eqRanges_mem (l : List Rg) (a1 a2 : Option Addr) (c1 c2 : Nat) {f g : Pc → List Pc} [M : Mem w W L] [h1 : InL L (rowRS a1 c1 l) f] [h2 : InL L (rowRS a2 c2 l) g] (hs : l.length ≤ 1048576) :
    Calls Tryz.prog 13 #[.slice a1 l.length c1, .slice a2 l.length c2] W fun e W' => e = .returned (.bool true) ∧ Mem w W' L :=
  (eqRangeS_same l _ _ _ _ W hs (M.get (rowRS a1 c1 l)) (M.get (rowRS a2 c2 l))).mono fun e W' ⟨he, hb⟩ => ⟨he, M.more0 hb⟩
theorem markRanges_mem (l : List Rg) (a : Option Addr) (c k0 : Nat) {f : Pc → List Pc} [M : Mem w W L] [h1 : InL L (rowRS a c l) f] (hs : l.length ≤ 1048576) (hk : k0 ≤ 100000000) :
    Calls Tryz.prog 15 #[.slice a l.length c, .int .i64 (k0 : Int)] W fun e W' => e = .returned (.int .i64 ((k0 + l.length * 2 : Nat) : Int)) ∧ Mem w W' (f (markPR a c k0 l.length)) :=
  (markRangeS_any l _ w.heap.size k0 W hs hk (M.get (rowRS a c l))).mono fun e W' ⟨he, ho, hg⟩ => ⟨he, M.turn (p := rowRS a c l) (q := markPR a c k0 l.length) hg (by unfold OwnR at ho; rw [marksR_length] at ho; exact ho) (.inl rfl)⟩
theorem readO_mem (l : List Rg) (a : Option Addr) (c : Nat) {f : Pc → List Pc} [M : Mem w W L] [h1 : InL L (rowRS a c l) f] : ReadO W (.slice a l.length c) l := OwnR.wide (M.get (rowRS a c l))
theorem readR_mem (l : List Rg) (a : Option Addr) (c : Nat) {f : Pc → List Pc} [M : Mem w W L] [h1 : InL L (rowRS a c l) f] : ReadR W (.slice a l.length c) l := OwnR.read (M.get (rowRS a c l))
theorem eqInts_mem (l : List Int) (a1 a2 : Option Addr) (c1 c2 : Nat) {f g : Pc → List Pc} [M : Mem w W L] [h1 : InL L (rowPI a1 c1 l) f] [h2 : InL L (rowPI a2 c2 l) g] (hs : l.length ≤ 1048576) :
    Calls Tryz.prog 11 #[.slice a1 l.length c1, .slice a2 l.length c2] W fun e W' => e = .returned (.bool true) ∧ Mem w W' L :=
  (eqIntS_same l _ _ _ _ W hs (M.get (rowPI a1 c1 l)) (M.get (rowPI a2 c2 l))).mono fun e W' ⟨he, hb⟩ => ⟨he, M.more0 hb⟩
theorem markInts_mem (l : List Int) (a : Option Addr) (c k0 : Nat) {f : Pc → List Pc} [M : Mem w W L] [h1 : InL L (rowPI a c l) f] (hs : l.length ≤ 1048576) (hk : k0 ≤ 100000000) :
    Calls Tryz.prog 16 #[.slice a l.length c, .int .i64 (k0 : Int)] W fun e W' => e = .returned (.int .i64 ((k0 + l.length : Nat) : Int)) ∧ Mem w W' (f (markPI a c k0 l.length)) :=
  (markIntS_any l _ w.heap.size k0 W hs hk (M.get (rowPI a c l))).mono fun e W' ⟨he, ho, hg⟩ => ⟨he, M.turn (p := rowPI a c l) (q := markPI a c k0 l.length) hg (by unfold OwnI at ho; rw [marksI_len] at ho; exact ho) (.inl rfl)⟩
theorem heldInts_mem (n : Nat) (a : Option Addr) (c k0 : Nat) {f : Pc → List Pc} [M : Mem w W L] [h1 : InL L (markPI a c k0 n) f] (hs : n ≤ 1048576) (hk : k0 ≤ 100000000) :
    Calls Tryz.prog 17 #[.slice a n c, .int .i64 (k0 : Int)] W fun e W' => e = .returned (.int .i64 ((k0 + n : Nat) : Int)) ∧ Mem w W' L :=
  (heldIntS_any n _ w.heap.size k0 W hs hk (by unfold OwnI; rw [marksI_len]; exact M.get (markPI a c k0 n))).mono fun e W' ⟨he, hb⟩ => ⟨he, M.more0 hb⟩
end
theorem sbV_few (b : Bx) (s : List Rg) : (sbV b s).length ≤ 1048576 := by
  unfold sbV
  split
  · rename_i h1
    have hl := (head_parts (boxOk_iff.1 h1).1).2.2.2.2.1
    rw [List.length_map, sortT_len]
    unfold selT selM
    rw [List.length_map]
    exact Nat.le_trans (List.length_filter_le _ _) (by omega)
  · exact Nat.zero_le _
set_option maxHeartbeats 16000000 in
set_option maxRecDepth 100000 in
theorem FnExactSortBySubject_walk (b : Bx) (a1 a2 : Option Addr) (c1 c2 : Nat) (ar : Option Addr) (cr : Nat) (l : List Rg) (w : World) (h : ArgBx w.heap.size w a1 a2 b) (hm : l.length ≤ maxLen) (hr : ArgR w.heap.size w ar l) :
    Calls Tryz.prog 3 #[boxV b (.slice a1 b.mails.length c1) (.slice a2 b.tombs.length c2), .slice ar l.length cr] w fun e w' => e = .returned (.bool true) ∧ Below w.heap.size w w' := by
  have HA := hide h
  have HRG := hide hr
  have M := Mem.start w
  clear h hr
  go_enter Tryz.func3, Tryz.ntmps3
  go_wp2_with fail
  refine (szBox_any b a1 a2 c1 c2 _ ((unhide HA).up (Mem.here _))).mono ?_
  rintro e w1 ⟨⟨q, rfl, hq⟩, hb⟩
  have M := Mem.go hb
  clear hb
  rcases hq with rfl | ⟨q, rfl, hq, hsm⟩
  · go_wp2
    go_ret
    exact ⟨rfl, Mem.here _⟩
  have i1 : ¬ (q : Int) < 0 := by omega
  have SM := hide hsm
  go_wp2_with fail
  refine (szRangeS_any ar cr l.length q _ hq hm).mono ?_
  rintro e w1 ⟨⟨m, rfl, hq2⟩, rfl⟩
  rcases hq2 with rfl | ⟨r, rfl, hr, hn⟩
  · go_wp2
    go_ret
    exact ⟨rfl, Mem.here _⟩
  have i2 : ¬ (r : Int) < 0 := by omega
  have HN : Hid (l.length ≤ 1048576) := by show _ ≤ _; omega
  clear hn hr
  obtain ⟨x, hx⟩ : ∃ x, x = sbV b l := ⟨_, rfl⟩
  have HX : Hid (x.length ≤ 1048576) := by show _ ≤ _; rw [hx]; exact sbV_few b l
  have SA := hide (fun (am at1 : Option Addr) (cm ct B : Nat) (vs : Value) (W : World) p q => spec_SortBySubject_any b am at1 cm ct B l vs W hsm.fit (unhide HN) p q x hx)
  have IA := hide (fun (am at1 : Option Addr) (cm ct B : Nat) (vs : Value) (W : World) p q => impl_SortBySubject_any b am at1 cm ct B l vs W hsm.fit (unhide HN) p q x hx)
  clear hsm hx
  go_wp2_with fail
  refine (toBox_mem b a1 a2 c1 c2 (unhide SM) (unhide HA)).mono ?_
  rintro e w9 ⟨amP, cmP, atP, ctP, rfl, M⟩
  try dsimp only at M
  go_wp2_with fail
  refine (toRanges_mem ar cr l (unhide HN) (unhide HRG)).mono ?_
  rintro e w9 ⟨rP, dP, rfl, M⟩
  try dsimp only at M
  go_wp2_with fail
  refine Calls.mono (unhide SA amP atP cmP ctP w.heap.size _ _ ?_ ?_) ?_
  · exact readR_mem l rP dP
  · exact ownBox
  rintro e w9 ⟨aW, cW, rfl, MN⟩
  have M := Mem.then MN
  clear MN
  go_wp2_with fail
  refine (toBox_mem b a1 a2 c1 c2 (unhide SM) (unhide HA)).mono ?_
  rintro e w9 ⟨amX, cmX, atX, ctX, rfl, M⟩
  try dsimp only at M
  go_wp2_with fail
  refine (toRanges_mem ar cr l (unhide HN) (unhide HRG)).mono ?_
  rintro e w9 ⟨rX, dX, rfl, M⟩
  try dsimp only at M
  go_wp2_with fail
  refine Calls.mono (unhide IA amX atX cmX ctX w.heap.size _ _ ?_ ?_) ?_
  · exact readO_mem l rX dX
  · exact ownBox
  rintro e w9 ⟨aG, cG, rfl, MN⟩
  have M := Mem.then MN
  clear MN
  go_wp2_with fail
  refine (eqInts_mem x aG aW cG cW (unhide HX)).mono ?_
  rintro e w9 ⟨rfl, M⟩
  try dsimp only at M
  go_wp2
  refine mb 5 (fun M => ?_)
  refine tm 0 40 ?_; refine tm 1 41 ?_
  refine tc 2 42 (toBox_mem b a1 a2 c1 c2 (unhide SM) (unhide HA)) ?_
  rintro e w6 ⟨amC, cmC, atC, ctC, rfl, M⟩
  refine tce ?_
  refine tc 3 43 (eqBox_mem b amX atX amC atC cmX ctX cmC ctC (unhide SM)) ?_
  rintro e w7 ⟨rfl, M⟩
  refine tce ?_
  refine tm 4 44 ?_
  refine td ?_
  go_wp2_with fail
  refine (toRanges_mem ar cr l (unhide HN) (unhide HRG)).mono ?_
  rintro e w9 ⟨rC, dC, rfl, M⟩
  try dsimp only at M
  go_wp2_with fail
  refine (eqRanges_mem l rX rC dX dC (unhide HN)).mono ?_
  rintro e w9 ⟨rfl, M⟩
  try dsimp only at M
  go_wp2_with fail
  refine (markBox_mem b amX atX cmX ctX 1 (unhide SM) (by decide) (by decide)).mono ?_
  rintro e w9 ⟨rfl, M⟩
  try dsimp only at M
  obtain ⟨K1, hK1⟩ : ∃ K : Nat, K = 1 + b.mails.length * 4 + b.tombs.length * 2 := ⟨_, rfl⟩
  rw [← hK1]
  have HK1 : Hid (K1 ≤ 100000000) := by show _ ≤ _; have q1 := (unhide SM).2.1.1; have q2 := (unhide SM).2.2; omega
  clear hK1
  go_wp2_with fail
  refine (markRanges_mem l rX dX K1 (unhide HN) (unhide HK1)).mono ?_
  rintro e w9 ⟨rfl, M⟩
  try dsimp only at M
  have j1 : ¬ ((K1 + l.length * 2 : Nat) : Int) < 0 := by omega
  have j1' : ¬ ((K1 : Int) + (l.length : Int) * 2 < 0) := by omega
  go_wp2_with fail
  refine (eqInts_mem x aG aW cG cW (unhide HX)).mono ?_
  rintro e w9 ⟨rfl, M⟩
  try dsimp only at M
  go_wp2_with fail
  refine (markInts_mem x aG cG 1 (unhide HX) (by decide)).mono ?_
  rintro e w9 ⟨rfl, M⟩
  try dsimp only at M
  have j2 : ¬ (1 : Int) + (x.length : Int) < 0 := by omega
  have j2' : ¬ ((1 + x.length : Nat) : Int) < 0 := by omega
  go_wp2_with fail
  refine (heldInts_mem x.length aG cG 1 (unhide HX) (by decide)).mono ?_
  rintro e w9 ⟨rfl, M⟩
  try dsimp only at M
  go_wp2_with fail
  refine (toBox_mem b a1 a2 c1 c2 (unhide SM) (unhide HA)).mono ?_
  rintro e w9 ⟨amQ, cmQ, atQ, ctQ, rfl, M⟩
  try dsimp only at M
  go_wp2_with fail
  refine (toRanges_mem ar cr l (unhide HN) (unhide HRG)).mono ?_
  rintro e w9 ⟨rQ, dQ, rfl, M⟩
  try dsimp only at M
  go_wp2_with fail
  refine Calls.mono (unhide IA amQ atQ cmQ ctQ w.heap.size _ _ ?_ ?_) ?_
  · exact readO_mem l rQ dQ
  · exact ownBox
  rintro e w9 ⟨aH, cH, rfl, MN⟩
  have M := Mem.then MN
  clear MN
  go_wp2_with fail
  refine (eqInts_mem x aH aW cH cW (unhide HX)).mono ?_
  rintro e w9 ⟨rfl, M⟩
  try dsimp only at M
  go_wp2_with fail
  refine (heldInts_mem x.length aG cG 1 (unhide HX) (by decide)).mono ?_
  rintro e w9 ⟨rfl, M⟩
  try dsimp only at M
  go_wp2
  go_ret
  exact ⟨rfl, Mem.here _⟩
end Go.Proofs.YtihdgfihdecalaaGreatDoor
