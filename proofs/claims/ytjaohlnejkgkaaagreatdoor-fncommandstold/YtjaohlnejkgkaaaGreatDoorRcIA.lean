/- Commands: RcI, RcI2, RcN in one text. -/
import Derived.Test.YtjaohlnejkgkaaaGreatDoorRcP
import Derived.Test.YtjaohlnejkgkaaaGreatDoorCmIA
import Derived.Test.YtjaohlnejkgkaaaGreatDoorMemR
import Derived.Test.YtjaohlnejkgkaaaGreatDoorBase
namespace Go.Proofs.YtjaohlnejkgkaaaGreatDoor
open Go.RowKit
open Plain
set_option linter.unusedVariables false
set_option linter.unusedSimpArgs false
attribute [local go_sem] cell_of frozen_of

theorem Tryz.infoU8C : (Tryz.prog.info? 5).map (fun i => (i.zero, i.size, i.bytes)) = some (some (.int .u8 0), 1, 1) := by kernel_rfl
theorem Tryz.infoStC : (Tryz.prog.info? 9).map (fun i => (i.zero, i.size, i.bytes)) = some (some (.string ByteArray.empty), 1, 16) := by kernel_rfl
instance Tryz.elemU8 : Elem Tryz.prog 22 5 1 1 := ⟨Tryz.underlying22, by
  obtain ⟨i0, hi, hz0, hz1, hz2⟩ := info_parts Tryz.infoU8C
  exact ⟨i0, _, hi, hz0, hz1, hz2, rfl, by decide⟩⟩
instance Tryz.elemSt : Elem Tryz.prog 25 9 1 16 := ⟨Tryz.underlying25, by
  obtain ⟨i0, hi, hz0, hz1, hz2⟩ := info_parts Tryz.infoStC
  exact ⟨i0, _, hi, hz0, hz1, hz2, rfl, by decide⟩⟩
/-- The reader in memory. -/
def rdL (b : Nat) (st taken : Int) (nw nb : Nat) (ws : List Value) (bs : List Value) (run left : Int) (aw : Option Addr) (cw : Nat) (ab : Option Addr) (cb : Nat) : List Pc :=
  [.obj b 41 [.int .i64 st, .int .i64 taken, .slice aw nw cw, .slice ab nb cb, .int .i64 run, .int .i64 left], .row aw nw cw 9 1 ws, .row ab nb cb 5 1 bs]
def Rd (w W : World) (b : Nat) (s : Cs) : Prop := ∃ aw cw ab cb, Mem w W (rdL b s.st s.taken s.words.length s.word.length (strs s.words) (bv s.word) s.run s.left aw cw ab cb)
namespace Plain
theorem bv_snoc (l : List UInt8) (c : UInt8) : bv (l ++ [c]) = bv l ++ [.int .u8 (c.toNat : Int)] := bv_append l [c]
theorem strs_snoc (l : List (List UInt8)) (x : List UInt8) : strs (l ++ [x]) = strs l ++ [.string ⟨x.toArray⟩] := strs_append l [x]
theorem len_snoc {α : Type} (l : List α) (x : α) : (l ++ [x]).length = l.length + 1 := by simp
theorem begin_1 {s : Cs} {c : UInt8} (h : c = 34) : beginC s c = (s.fresh, 4) := if_pos h
theorem begin_2 {s : Cs} {c : UInt8} (h : ¬ c = 34) (h2 : c = 40) : beginC s c = (s.fresh.keep c, 6) := (if_neg h).trans (if_pos h2)
theorem begin_3 {s : Cs} {c : UInt8} (h : ¬ c = 34) (h2 : ¬ c = 40) (h3 : c = 123) : beginC s c = (s.fresh, 9) := (if_neg h).trans ((if_neg h2).trans (if_pos h3))
theorem begin_4 {s : Cs} {c : UInt8} (h : ¬ c = 34) (h2 : ¬ c = 40) (h3 : ¬ c = 123) : beginC s c = if s.fresh.may c then (s.fresh.takes c, 1) else (s.fresh, 15) := (if_neg h).trans ((if_neg h2).trans (if_neg h3))
theorem byte_eq {b c : UInt8} (h : b = c) : ((b.toNat : Int) == (c.toNat : Int)) = true := by rw [h]; exact beq_self_eq_true _
end Plain
set_option maxHeartbeats 4000000 in
set_option maxRecDepth 100000 in
theorem keep_mem (b : Nat) (s : Cs) (c : UInt8) (w W : World) (n : Int) (hl : s.word.length ≤ 1000) (h : Rd w W b s) :
    Calls Tryz.prog 50 #[.pointer (some ⟨b, 0, none⟩), .int .u8 (c.toNat : Int), .int .i64 n] W fun e W' => e = .returned (.int .i64 n) ∧ Rd w W' b (s.keep c) := by
  obtain ⟨st, taken, words, word, run, left⟩ := s
  obtain ⟨aw, cw, ab, cb, M⟩ := h
  unfold rdL at M
  dsimp only at *
  have hbv := hide (bv_snoc word c)
  have hlen := hide (len_snoc word c)
  go_enter Tryz.func50, Tryz.ntmps50
  go_wp2_with (refine mem_append_l rfl (.tmp 11) (.tmp 13) 22 (bv word) _ [.int .u8 (c.toNat : Int)] rfl rfl rfl (by simp [Value.oneCell']) (by rfl) (by omega) (by decide) ?_; intro g2 cap w6 M; try dsimp only at M)
  go_ret
  refine ⟨rfl, aw, cw, some ⟨g2, 0, none⟩, cap, ?_⟩
  unfold rdL Cs.keep
  dsimp only
  rw [unhide hlen, unhide hbv]
  exact Mem.end
set_option maxHeartbeats 4000000 in
set_option maxRecDepth 100000 in
theorem takes_mem (b : Nat) (s : Cs) (c : UInt8) (w W : World) (hl : s.word.length ≤ 1000) (hr0 : 0 ≤ s.run) (hr : s.run ≤ 1000) (h : Rd w W b s) :
    Calls Tryz.prog 46 #[.pointer (some ⟨b, 0, none⟩), .int .u8 (c.toNat : Int)] W fun e W' => e = .returned (.bool (s.may c)) ∧ Rd w W' b (s.takes c) := by
  have QB := hide (fun W => impl_byte c W)
  have HM : Hid (s.may c = (plB c && !(s.run == 60))) := rfl
  have HT : Hid (s.takes c = if s.may c then s.more c else s) := rfl
  have h0 := hide h
  cases h1 : plB c with
  | false =>
    rw [h1] at QB HM
    rw [show s.may c = false from unhide HM] at HT ⊢
    rw [show s.takes c = s from unhide HT]
    clear HM HT hl hr0 hr h1 h
    go_enter Tryz.func46, Tryz.ntmps46
    go_wp2_with (refine (unhide QB _).mono ?_; rintro e w1 ⟨rfl, hw⟩; subst w1)
    go_ret
    exact ⟨rfl, unhide h0⟩
  | true =>
    rw [h1] at QB HM
    clear h1 h0
    by_cases h2 : s.run = 60
    · rw [show s.may c = false from by rw [unhide HM, h2]; rfl] at HT ⊢
      rw [show s.takes c = s from unhide HT]
      have h0 := hide h
      clear HM HT hl
      obtain ⟨st, taken, words, word, run, left⟩ := s
      dsimp only at h2
      subst h2
      obtain ⟨aw, cw, ab, cb, M⟩ := h
      unfold rdL at M
      dsimp only at *
      go_enter Tryz.func46, Tryz.ntmps46
      go_wp2_with (refine (unhide QB _).mono ?_; rintro e w1 ⟨rfl, hw⟩; subst w1)
      go_ret
      exact ⟨rfl, unhide h0⟩
    · rw [show s.may c = true from by rw [unhide HM, show (s.run == 60) = false from beq_eq_false_iff_ne.2 h2]; rfl] at HT ⊢
      rw [show s.takes c = s.more c from unhide HT]
      clear HM HT
      obtain ⟨st, taken, words, word, run, left⟩ := s
      obtain ⟨aw, cw, ab, cb, M⟩ := h
      unfold rdL at M
      dsimp only at *
      have hbv := hide (bv_snoc word c)
      have hlen := hide (len_snoc word c)
      have i1 : (run == 60) = false := beq_eq_false_iff_ne.2 h2
      have i2 : IntKind.i64.wrap (run + 1) = run + 1 := by rw [IntKind.wrap_i64]; omega
      go_enter Tryz.func46, Tryz.ntmps46
      go_wp2_with (first | (go_at_call 51; refine (unhide QB _).mono ?_; rintro e w1 ⟨rfl, hw⟩; subst w1) | (refine mem_append_l rfl (.tmp 26) (.tmp 28) 22 (bv word) _ [.int .u8 (c.toNat : Int)] rfl rfl rfl (by simp [Value.oneCell']) (by rfl) (by omega) (by decide) ?_; intro g2 cap w6 M; try dsimp only at M))
      go_ret
      refine ⟨rfl, aw, cw, some ⟨g2, 0, none⟩, cap, ?_⟩
      unfold rdL Cs.more
      dsimp only
      rw [unhide hlen, unhide hbv]
      exact Mem.end
/-- Begun anew. -/
def BegAns (b : Nat) (w : World) (r : Cs × Int) (e : Ending) (W : World) : Prop := e = .returned (.int .i64 r.2) ∧ Rd w W b r.1
set_option maxHeartbeats 4000000 in
set_option maxRecDepth 100000 in
theorem begin_mem (b : Nat) (s : Cs) (c : UInt8) (w W : World) (h : Rd w W b s) :
    Calls Tryz.prog 45 #[.pointer (some ⟨b, 0, none⟩), .int .u8 (c.toNat : Int)] W fun e W' => BegAns b w (beginC s c) e W' := by
  have V1 := hide (begin_1 (s := s) (c := c))
  have V2 := hide (begin_2 (s := s) (c := c))
  have V3 := hide (begin_3 (s := s) (c := c))
  have V4 := hide (begin_4 (s := s) (c := c))
  generalize beginC s c = V at *
  obtain ⟨st, taken, words, word, run, left⟩ := s
  obtain ⟨aw, cw, ab, cb, M⟩ := h
  unfold rdL at M
  dsimp only at *
  have RF : Hid (∀ W' aw cw, Mem w W' [.obj b 41 [.int .i64 st, .int .i64 taken, .slice aw words.length cw, .slice none 0 0, .int .i64 0, .int .i64 0], .row aw words.length cw 9 1 (strs words), .row none 0 0 5 1 []] → Rd w W' b (Cs.fresh ⟨st, taken, words, word, run, left⟩)) := fun W' aw cw M => ⟨aw, cw, none, 0, M⟩
  have HF : Hid ((Cs.fresh ⟨st, taken, words, word, run, left⟩).word.length ≤ 1000 ∧ 0 ≤ (Cs.fresh ⟨st, taken, words, word, run, left⟩).run ∧ (Cs.fresh ⟨st, taken, words, word, run, left⟩).run ≤ 1000) := ⟨Nat.zero_le _, Int.le_refl _, show (0 : Int) ≤ 1000 by decide⟩
  generalize Cs.fresh ⟨st, taken, words, word, run, left⟩ = F at *
  by_cases h1 : c = 34
  · have e := unhide V1 h1
    subst e
    have d1 : ((c.toNat : Int) == 34) = true := byte_eq h1
    clear V1 V2 V3 V4 h1
    go_enter Tryz.func45, Tryz.ntmps45
    go_wp2
    go_ret
    exact ⟨rfl, unhide RF _ aw cw (Mem.fin0 5 1)⟩
  · skip
    by_cases h2 : c = 40
    · have e := unhide V2 h1 h2
      subst e
      have d1 : ((c.toNat : Int) == 34) = false := byte_ne h1
      have d2 : ((c.toNat : Int) == 40) = true := byte_eq h2
      clear V1 V2 V3 V4 h1 h2
      go_enter Tryz.func45, Tryz.ntmps45
      go_wp2_with (go_at_call 50; refine (keep_mem _ F c _ _ _ (unhide HF).1 (unhide RF _ aw cw (Mem.fin0 5 1))).mono ?_; rintro e w6 ⟨rfl, hK⟩)
      go_ret
      exact ⟨rfl, hK⟩
    · skip
      by_cases h3 : c = 123
      · have e := unhide V3 h1 h2 h3
        subst e
        have d1 : ((c.toNat : Int) == 34) = false := byte_ne h1
        have d2 : ((c.toNat : Int) == 40) = false := byte_ne h2
        have d3 : ((c.toNat : Int) == 123) = true := byte_eq h3
        clear V1 V2 V3 V4 h1 h2 h3
        go_enter Tryz.func45, Tryz.ntmps45
        go_wp2
        go_ret
        exact ⟨rfl, unhide RF _ aw cw (Mem.fin0 5 1)⟩
      · have V4 := hide (unhide V4 h1 h2 h3)
        have d1 : ((c.toNat : Int) == 34) = false := byte_ne h1
        have d2 : ((c.toNat : Int) == 40) = false := byte_ne h2
        have d3 : ((c.toNat : Int) == 123) = false := byte_ne h3
        clear V1 V2 V3 h1 h2 h3
        cases hm : F.may c with
        | true =>
          have e : V = (F.takes c, 1) := by rw [unhide V4, hm]; rfl
          subst e
          go_enter Tryz.func45, Tryz.ntmps45
          go_wp2_with (go_at_call 46; refine (takes_mem _ F c _ _ (unhide HF).1 (unhide HF).2.1 (unhide HF).2.2 (unhide RF _ aw cw (Mem.fin0 5 1))).mono ?_; rw [hm]; rintro e w6 ⟨rfl, hK⟩)
          go_ret
          exact ⟨rfl, hK⟩
        | false =>
          have e : V = (F, 15) := by rw [unhide V4, hm]; rfl
          subst e
          have hk : F.takes c = F := by unfold Cs.takes; rw [hm]; rfl
          go_enter Tryz.func45, Tryz.ntmps45
          go_wp2_with (go_at_call 46; refine (takes_mem _ F c _ _ (unhide HF).1 (unhide HF).2.1 (unhide HF).2.2 (unhide RF _ aw cw (Mem.fin0 5 1))).mono ?_; rw [hm, hk]; rintro e w6 ⟨rfl, hK⟩)
          go_ret
          exact ⟨rfl, hK⟩
end Go.Proofs.YtjaohlnejkgkaaaGreatDoor
namespace Go.Proofs.YtjaohlnejkgkaaaGreatDoor
open Go.RowKit
open Plain
set_option linter.unusedVariables false
set_option linter.unusedSimpArgs false
attribute [local go_sem] cell_of frozen_of

namespace Plain
theorem end_1 {s : Cs} {c : UInt8} (h : c = 32) (h2 : s.words.length + 1 < 12) : endC s c = (s.shut, 0) := if_pos ⟨h, by simp only [Cs.shut, List.length_append, List.length_singleton]; exact h2⟩
theorem end_2 {s : Cs} {c : UInt8} (h : ¬ (c = 32 ∧ s.words.length + 1 < 12)) (h2 : c = 13) : endC s c = (s.shut, 3) := (if_neg (by simp only [Cs.shut, List.length_append, List.length_singleton]; exact h)).trans (if_pos h2)
theorem end_3 {s : Cs} {c : UInt8} (h : ¬ (c = 32 ∧ s.words.length + 1 < 12)) (h2 : ¬ c = 13) : endC s c = (s.shut, 15) := (if_neg (by simp only [Cs.shut, List.length_append, List.length_singleton]; exact h)).trans (if_neg h2)
theorem quoted_1 {s : Cs} {c : UInt8} (h : c = 34) : quotedC s c = (s, 2) := if_pos h
theorem quoted_2 {s : Cs} {c : UInt8} (h : ¬ c = 34) (h2 : c = 92) : quotedC s c = (s, 5) := (if_neg h).trans (if_pos h2)
theorem quoted_3 {s : Cs} {c : UInt8} (h : ¬ c = 34) (h2 : ¬ c = 92) : quotedC s c = if prB c then (s.keep c, 4) else (s, 15) := (if_neg h).trans (if_neg h2)
theorem list_1 {s : Cs} {c : UInt8} (h : s.may c = true) : listC s c = (s.takes c, 8) := if_pos h
theorem list_2 {s : Cs} {c : UInt8} (h : ¬ s.may c = true) (h2 : c = 32) : listC s c = (s.keep c, 7) := (if_neg h).trans (if_pos h2)
theorem list_3 {s : Cs} {c : UInt8} (h : ¬ s.may c = true) (h2 : ¬ c = 32) (h3 : c = 41) : listC s c = (s.keep c, 2) := (if_neg h).trans ((if_neg h2).trans (if_pos h3))
theorem list_4 {s : Cs} {c : UInt8} (h : ¬ s.may c = true) (h2 : ¬ c = 32) (h3 : ¬ c = 41) : listC s c = (s, 15) := (if_neg h).trans ((if_neg h2).trans (if_neg h3))
theorem length_1 {s : Cs} {c : UInt8} (h : 48 ≤ c.toNat ∧ c.toNat ≤ 57 ∧ s.run < 3) : lengthC s c = (s.fig c, 10) := if_pos h
theorem length_2 {s : Cs} {c : UInt8} (h : ¬ (48 ≤ c.toNat ∧ c.toNat ≤ 57 ∧ s.run < 3)) (h2 : c = 125 ∧ s.taken + 2 + s.left + 2 ≤ 300) : lengthC s c = (s, 11) := (if_neg h).trans (if_pos h2)
theorem length_3 {s : Cs} {c : UInt8} (h : ¬ (48 ≤ c.toNat ∧ c.toNat ≤ 57 ∧ s.run < 3)) (h2 : ¬ (c = 125 ∧ s.taken + 2 + s.left + 2 ≤ 300)) : lengthC s c = (s, 15) := (if_neg h).trans (if_neg h2)
end Plain
theorem conv_mem {w W : World} {L : List Pc} {f : Pc → List Pc} {ab : Option Addr} {n cb : Nat} (l : List UInt8) (hn : n = l.length) [M : Mem w W L] [h : InL L (.row ab n cb 5 1 (bv l)) f] : (convert 22 9 (.slice ab n cb)).run Tryz.prog W = .ok (.string ⟨l.toArray⟩) W :=
  own_str hn (M.get (.row ab n cb 5 1 (bv l)))
set_option maxHeartbeats 4000000 in
set_option maxRecDepth 100000 in
theorem end_mem (b : Nat) (s : Cs) (c : UInt8) (w W : World) (hl : s.words.length ≤ 1000) (h : Rd w W b s) :
    Calls Tryz.prog 47 #[.pointer (some ⟨b, 0, none⟩), .int .u8 (c.toNat : Int)] W fun e W' => BegAns b w (endC s c) e W' := by
  have V1 := hide (end_1 (s := s) (c := c))
  have V2 := hide (end_2 (s := s) (c := c))
  have V3 := hide (end_3 (s := s) (c := c))
  generalize endC s c = V at *
  obtain ⟨st, taken, words, word, run, left⟩ := s
  obtain ⟨aw, cw, ab, cb, M⟩ := h
  unfold rdL at M
  dsimp only at *
  have hst := hide (strs_snoc words word)
  have hlen := hide (len_snoc words word)
  have RF : Hid (∀ W' aw cw, Mem w W' [.obj b 41 [.int .i64 st, .int .i64 taken, .slice aw (words.length + 1) cw, .slice ab word.length cb, .int .i64 run, .int .i64 left], .row aw (words.length + 1) cw 9 1 (strs words ++ [.string ⟨word.toArray⟩]), .row ab word.length cb 5 1 (bv word)] → Rd w W' b (Cs.shut ⟨st, taken, words, word, run, left⟩)) := fun W' aw cw M => ⟨aw, cw, ab, cb, by
    unfold rdL Cs.shut
    dsimp only
    rw [unhide hlen, unhide hst]
    exact M⟩
  clear hst hlen
  have CV : ∀ W', Mem w W' [.obj b 41 [.int .i64 st, .int .i64 taken, .slice aw words.length cw, .slice ab word.length cb, .int .i64 run, .int .i64 left], .row ab word.length cb 5 1 (bv word)] → (convert 22 9 (.slice ab word.length cb)).run Tryz.prog W' = .ok (.string ⟨word.toArray⟩) W' := fun W' M => conv_mem word rfl
  go_enter Tryz.func47, Tryz.ntmps47
  go_wp2
  refine mbr (.row aw words.length cw 9 1 (strs words)) 12 (fun M => ?_)
  refine tm 0 5 ?_; refine tm 1 6 ?_; refine tm 2 7 ?_; refine tm 3 8 ?_; refine tm 4 9 ?_; refine tm 5 10 ?_; refine tm 6 11 ?_; refine tm 7 12 ?_; refine tm 8 13 ?_; refine tm 9 14 ?_
  clear CV
  refine to_ 10 fun K hK => ?_
  go_simp
  refine hK.out _ _ Mem.end ?_
  clear hK K
  try simp only [Act.put, p1, p2, p3]
  refine to_ 11 fun K hK => ?_
  refine mem_append (.tmp 9) (.tmp 15) 25 (strs words) _ [.string ⟨word.toArray⟩] rfl rfl rfl (by simp [Value.oneCell']) (by rfl) (by omega) (by decide) fun g2 cap w7 M => ?_
  try dsimp only at M
  refine hK.out _ _ Mem.end ?_
  clear hK K
  try simp only [Act.put, p1, p2, p3]
  refine tl 12 fun K hK => ?_
  go_simp
  refine hK.out _ _ ?_
  clear hK K
  try simp only [Act.put, p1, p2, p3]
  refine tl 13 fun K hK => ?_
  go_simp
  refine hK.out _ _ ?_
  clear hK K
  try simp only [Act.put, p1, p2, p3]
  refine tl 14 fun K hK => ?_
  go_simp
  refine hK.out _ _ ?_
  clear hK K
  try simp only [Act.put, p1, p2, p3]
  refine td ?_
  by_cases h1 : c = 32
  · have d1 : ((c.toNat : Int) == 32) = true := byte_eq h1
    have n2 : ¬ c = 13 := by rw [h1]; decide
    have d2 : ((c.toNat : Int) == 13) = false := byte_ne n2
    by_cases h2 : words.length + 1 < 12
    · have d3 : decide ((words.length : Int) + 1 < 12) = true := by rw [decide_eq_true_eq]; omega
      have e := unhide V1 h1 h2
      subst e
      clear V1 V2 V3 h1 h2 hl
      go_wp2
      go_ret
      exact ⟨rfl, unhide RF _ (some ⟨g2, 0, none⟩) cap Mem.end⟩
    · have d3 : decide ((words.length : Int) + 1 < 12) = false := by rw [decide_eq_false_iff_not]; omega
      have e := unhide V3 (fun h => h2 h.2) n2
      subst e
      clear V1 V2 V3 h1 h2 hl
      go_wp2
      go_ret
      exact ⟨rfl, unhide RF _ (some ⟨g2, 0, none⟩) cap Mem.end⟩
  · have d1 : ((c.toNat : Int) == 32) = false := byte_ne h1
    by_cases h2 : c = 13
    · have d2 : ((c.toNat : Int) == 13) = true := byte_eq h2
      have e := unhide V2 (fun h => h1 h.1) h2
      subst e
      clear V1 V2 V3 h1 h2 hl
      go_wp2
      go_ret
      exact ⟨rfl, unhide RF _ (some ⟨g2, 0, none⟩) cap Mem.end⟩
    · have d2 : ((c.toNat : Int) == 13) = false := byte_ne h2
      have e := unhide V3 (fun h => h1 h.1) h2
      subst e
      clear V1 V2 V3 h1 h2 hl
      go_wp2
      go_ret
      exact ⟨rfl, unhide RF _ (some ⟨g2, 0, none⟩) cap Mem.end⟩

set_option maxHeartbeats 4000000 in
set_option maxRecDepth 100000 in
theorem quoted_mem (b : Nat) (s : Cs) (c : UInt8) (w W : World) (hl : s.word.length ≤ 1000) (h : Rd w W b s) :
    Calls Tryz.prog 49 #[.pointer (some ⟨b, 0, none⟩), .int .u8 (c.toNat : Int)] W fun e W' => BegAns b w (quotedC s c) e W' := by
  have V1 := hide (quoted_1 (s := s) (c := c))
  have V2 := hide (quoted_2 (s := s) (c := c))
  have V3 := hide (quoted_3 (s := s) (c := c))
  have QB := hide (fun W => impl_print c W)
  generalize quotedC s c = V at *
  have h0 := hide h
  clear h
  by_cases h1 : c = 34
  · have d1 : ((c.toNat : Int) == 34) = true := byte_eq h1
    have e := unhide V1 h1
    subst e
    clear V1 V2 V3 h1 QB
    go_enter Tryz.func49, Tryz.ntmps49
    go_wp2
    go_ret
    exact ⟨rfl, unhide h0⟩
  · have d1 : ((c.toNat : Int) == 34) = false := byte_ne h1
    by_cases h2 : c = 92
    · have d2 : ((c.toNat : Int) == 92) = true := byte_eq h2
      have e := unhide V2 h1 h2
      subst e
      clear V1 V2 V3 h1 h2 QB
      go_enter Tryz.func49, Tryz.ntmps49
      go_wp2
      go_ret
      exact ⟨rfl, unhide h0⟩
    · have d2 : ((c.toNat : Int) == 92) = false := byte_ne h2
      have V4 := hide (unhide V3 h1 h2)
      cases h3 : prB c with
      | true =>
        rw [h3] at QB V4
        have e := (unhide V4).trans (if_pos rfl)
        subst e
        clear V1 V2 V3 h1 h2 h3 V4
        go_enter Tryz.func49, Tryz.ntmps49
        go_wp2_with (first | (go_at_call 60; refine (unhide QB _).mono ?_; rintro e w1 ⟨rfl, hw⟩; subst w1) | (go_at_call 50; refine (keep_mem _ s c _ _ _ hl (unhide h0)).mono ?_; rintro e w6 ⟨rfl, hK⟩))
        go_ret
        exact ⟨rfl, hK⟩
      | false =>
        rw [h3] at QB V4
        have e := (unhide V4).trans (if_neg (by decide))
        subst e
        clear V1 V2 V3 h1 h2 h3 V4
        go_enter Tryz.func49, Tryz.ntmps49
        go_wp2_with (first | (go_at_call 60; refine (unhide QB _).mono ?_; rintro e w1 ⟨rfl, hw⟩; subst w1) | (go_at_call 50; refine (keep_mem _ s c _ _ _ hl (unhide h0)).mono ?_; rintro e w6 ⟨rfl, hK⟩))
        go_ret
        exact ⟨rfl, unhide h0⟩
set_option maxHeartbeats 4000000 in
set_option maxRecDepth 100000 in
theorem list_mem (b : Nat) (s : Cs) (c : UInt8) (w W : World) (hl : s.word.length ≤ 1000) (hr0 : 0 ≤ s.run) (hr : s.run ≤ 1000) (h : Rd w W b s) :
    Calls Tryz.prog 52 #[.pointer (some ⟨b, 0, none⟩), .int .u8 (c.toNat : Int)] W fun e W' => BegAns b w (listC s c) e W' := by
  have V1 := hide (list_1 (s := s) (c := c))
  have V2 := hide (list_2 (s := s) (c := c))
  have V3 := hide (list_3 (s := s) (c := c))
  have V4 := hide (list_4 (s := s) (c := c))
  generalize listC s c = V at *
  have h0 := hide h
  clear h
  cases hm : s.may c with
  | true =>
    have e := unhide V1 hm
    subst e
    clear V1 V2 V3 V4
    go_enter Tryz.func52, Tryz.ntmps52
    go_wp2_with (first | (go_at_call 46; refine (takes_mem _ s c _ _ hl hr0 hr (unhide h0)).mono ?_; rw [hm]; rintro e w5 ⟨rfl, h5⟩) | (go_at_call 50; refine (keep_mem _ s c _ _ _ hl h5).mono ?_; rintro e w6 ⟨rfl, hK⟩))
    go_ret
    exact ⟨rfl, h5⟩
  | false =>
    have hk : s.takes c = s := by unfold Cs.takes; rw [hm]; rfl
    have hn : ¬ s.may c = true := by rw [hm]; decide
    by_cases h1 : c = 32
    · have d1 : ((c.toNat : Int) == 32) = true := byte_eq h1
      have e := unhide V2 hn h1
      subst e
      clear V1 V2 V3 V4 h1
      go_enter Tryz.func52, Tryz.ntmps52
      go_wp2_with (first | (go_at_call 46; refine (takes_mem _ s c _ _ hl hr0 hr (unhide h0)).mono ?_; rw [hm, hk]; rintro e w5 ⟨rfl, h5⟩) | (go_at_call 50; refine (keep_mem _ s c _ _ _ hl h5).mono ?_; rintro e w6 ⟨rfl, hK⟩))
      go_ret
      exact ⟨rfl, hK⟩
    · have d1 : ((c.toNat : Int) == 32) = false := byte_ne h1
      by_cases h2 : c = 41
      · have d2 : ((c.toNat : Int) == 41) = true := byte_eq h2
        have e := unhide V3 hn h1 h2
        subst e
        clear V1 V2 V3 V4 h1 h2
        go_enter Tryz.func52, Tryz.ntmps52
        go_wp2_with (first | (go_at_call 46; refine (takes_mem _ s c _ _ hl hr0 hr (unhide h0)).mono ?_; rw [hm, hk]; rintro e w5 ⟨rfl, h5⟩) | (go_at_call 50; refine (keep_mem _ s c _ _ _ hl h5).mono ?_; rintro e w6 ⟨rfl, hK⟩))
        go_ret
        exact ⟨rfl, hK⟩
      · have d2 : ((c.toNat : Int) == 41) = false := byte_ne h2
        have e := unhide V4 hn h1 h2
        subst e
        clear V1 V2 V3 V4 h1 h2
        go_enter Tryz.func52, Tryz.ntmps52
        go_wp2_with (first | (go_at_call 46; refine (takes_mem _ s c _ _ hl hr0 hr (unhide h0)).mono ?_; rw [hm, hk]; rintro e w5 ⟨rfl, h5⟩) | (go_at_call 50; refine (keep_mem _ s c _ _ _ hl h5).mono ?_; rintro e w6 ⟨rfl, hK⟩))
        go_ret
        exact ⟨rfl, h5⟩
set_option maxHeartbeats 4000000 in
set_option maxRecDepth 100000 in
theorem length_mem (b : Nat) (s : Cs) (c : UInt8) (w W : World) (ht0 : 0 ≤ s.taken) (ht : s.taken ≤ 1000) (hr0 : 0 ≤ s.run) (hr : s.run ≤ 1000) (hl0 : 0 ≤ s.left) (hl : s.left ≤ 999) (h : Rd w W b s) :
    Calls Tryz.prog 53 #[.pointer (some ⟨b, 0, none⟩), .int .u8 (c.toNat : Int)] W fun e W' => BegAns b w (lengthC s c) e W' := by
  have V1 := hide (length_1 (s := s) (c := c))
  have V2 := hide (length_2 (s := s) (c := c))
  have V3 := hide (length_3 (s := s) (c := c))
  generalize lengthC s c = V at *
  obtain ⟨st, taken, words, word, run, left⟩ := s
  obtain ⟨aw, cw, ab, cb, M⟩ := h
  unfold rdL at M
  dsimp only at *
  have hc : c.toNat < 256 := c.toNat_lt
  have i1 : IntKind.i64.wrap (taken + 2) = taken + 2 := by rw [IntKind.wrap_i64]; omega
  have i2 : IntKind.i64.wrap (taken + 2 + left) = taken + 2 + left := by rw [IntKind.wrap_i64]; omega
  have i3 : IntKind.i64.wrap (taken + 2 + left + 2) = taken + 2 + left + 2 := by rw [IntKind.wrap_i64]; omega
  by_cases h1 : 48 ≤ c.toNat
  · have d1 : decide ((48 : Int) ≤ (c.toNat : Int)) = true := decide_eq_true (by omega)
    by_cases h2 : c.toNat ≤ 57
    · have d2 : decide ((c.toNat : Int) ≤ 57) = true := decide_eq_true (by omega)
      have n3 : ¬ c = 125 := by rintro rfl; revert h2; decide
      have d3 : ((c.toNat : Int) == 125) = false := byte_ne n3
      by_cases h3 : run < 3
      · have d4 : decide (run < 3) = true := decide_eq_true h3
        have i4 : IntKind.i64.wrap (run + 1) = run + 1 := by rw [IntKind.wrap_i64]; omega
        have i5 : IntKind.i64.wrap (left * 10) = left * 10 := by rw [IntKind.wrap_i64]; omega
        have i6 : IntKind.u8.wrap ((c.toNat : Int) - 48) = (c.toNat : Int) - 48 := by rw [IntKind.wrap_u8]; omega
        have i7 : IntKind.i64.wrap ((c.toNat : Int) - 48) = (c.toNat : Int) - 48 := by rw [IntKind.wrap_i64]; omega
        have i8 : IntKind.i64.wrap (left * 10 + ((c.toNat : Int) - 48)) = left * 10 + ((c.toNat : Int) - 48) := by rw [IntKind.wrap_i64]; omega
        have e := unhide V1 ⟨h1, h2, h3⟩
        subst e
        clear V1 V2 V3
        go_enter Tryz.func53, Tryz.ntmps53
        go_wp2
        refine mb 12 (fun M => ?_)
        refine tm 0 6 ?_; refine tm 1 7 ?_; refine tm 2 8 ?_; refine tm 3 9 ?_; refine tm 4 10 ?_; refine tm 5 11 ?_; refine tm 6 12 ?_; refine tm 7 13 ?_; refine tm 8 14 ?_; refine tm 9 15 ?_; refine tm 10 16 ?_
        refine tm 11 5 ?_
        refine td ?_
        go_wp2
        go_ret
        refine ⟨rfl, aw, cw, ab, cb, ?_⟩
        unfold rdL
        try unfold Cs.fig
        dsimp only
        exact Mem.end
      · have d4 : decide (run < 3) = false := decide_eq_false h3
        have e := unhide V3 (fun h => h3 h.2.2) (fun h => n3 h.1)
        subst e
        clear V1 V2 V3
        go_enter Tryz.func53, Tryz.ntmps53
        go_wp2
        refine mb 12 (fun M => ?_)
        refine tm 0 6 ?_; refine tm 1 7 ?_; refine tm 2 8 ?_; refine tm 3 9 ?_; refine tm 4 10 ?_; refine tm 5 11 ?_; refine tm 6 12 ?_; refine tm 7 13 ?_; refine tm 8 14 ?_; refine tm 9 15 ?_; refine tm 10 16 ?_
        refine tm 11 5 ?_
        refine td ?_
        go_wp2
        go_ret
        refine ⟨rfl, aw, cw, ab, cb, ?_⟩
        unfold rdL
        try unfold Cs.fig
        dsimp only
        exact Mem.end
    · have d2 : decide ((c.toNat : Int) ≤ 57) = false := decide_eq_false (by omega)
      by_cases h3 : c = 125
      · have d3 : ((c.toNat : Int) == 125) = true := byte_eq h3
        by_cases h4 : taken + 2 + left + 2 ≤ 300
        · have d4 : decide (taken + 2 + left + 2 ≤ 300) = true := decide_eq_true h4
          have e := unhide V2 (fun h => h2 h.2.1) ⟨h3, h4⟩
          subst e
          clear V1 V2 V3
          go_enter Tryz.func53, Tryz.ntmps53
          go_wp2
          refine mb 12 (fun M => ?_)
          refine tm 0 6 ?_; refine tm 1 7 ?_; refine tm 2 8 ?_; refine tm 3 9 ?_; refine tm 4 10 ?_; refine tm 5 11 ?_; refine tm 6 12 ?_; refine tm 7 13 ?_; refine tm 8 14 ?_; refine tm 9 15 ?_; refine tm 10 16 ?_
          refine tm 11 5 ?_
          refine td ?_
          go_wp2
          go_ret
          refine ⟨rfl, aw, cw, ab, cb, ?_⟩
          unfold rdL
          try unfold Cs.fig
          dsimp only
          exact Mem.end
        · have d4 : decide (taken + 2 + left + 2 ≤ 300) = false := decide_eq_false h4
          have e := unhide V3 (fun h => h2 h.2.1) (fun h => h4 h.2)
          subst e
          clear V1 V2 V3
          go_enter Tryz.func53, Tryz.ntmps53
          go_wp2
          refine mb 12 (fun M => ?_)
          refine tm 0 6 ?_; refine tm 1 7 ?_; refine tm 2 8 ?_; refine tm 3 9 ?_; refine tm 4 10 ?_; refine tm 5 11 ?_; refine tm 6 12 ?_; refine tm 7 13 ?_; refine tm 8 14 ?_; refine tm 9 15 ?_; refine tm 10 16 ?_
          refine tm 11 5 ?_
          refine td ?_
          go_wp2
          go_ret
          refine ⟨rfl, aw, cw, ab, cb, ?_⟩
          unfold rdL
          try unfold Cs.fig
          dsimp only
          exact Mem.end
      · have d3 : ((c.toNat : Int) == 125) = false := byte_ne h3
        have e := unhide V3 (fun h => h2 h.2.1) (fun h => h3 h.1)
        subst e
        clear V1 V2 V3
        go_enter Tryz.func53, Tryz.ntmps53
        go_wp2
        refine mb 12 (fun M => ?_)
        refine tm 0 6 ?_; refine tm 1 7 ?_; refine tm 2 8 ?_; refine tm 3 9 ?_; refine tm 4 10 ?_; refine tm 5 11 ?_; refine tm 6 12 ?_; refine tm 7 13 ?_; refine tm 8 14 ?_; refine tm 9 15 ?_; refine tm 10 16 ?_
        refine tm 11 5 ?_
        refine td ?_
        go_wp2
        go_ret
        refine ⟨rfl, aw, cw, ab, cb, ?_⟩
        unfold rdL
        try unfold Cs.fig
        dsimp only
        exact Mem.end
  · have d1 : decide ((48 : Int) ≤ (c.toNat : Int)) = false := decide_eq_false (by omega)
    have n3 : ¬ c = 125 := by rintro rfl; revert h1; decide
    have d3 : ((c.toNat : Int) == 125) = false := byte_ne n3
    have e := unhide V3 (fun h => h1 h.1) (fun h => n3 h.1)
    subst e
    clear V1 V2 V3
    go_enter Tryz.func53, Tryz.ntmps53
    go_wp2
    refine mb 12 (fun M => ?_)
    refine tm 0 6 ?_; refine tm 1 7 ?_; refine tm 2 8 ?_; refine tm 3 9 ?_; refine tm 4 10 ?_; refine tm 5 11 ?_; refine tm 6 12 ?_; refine tm 7 13 ?_; refine tm 8 14 ?_; refine tm 9 15 ?_; refine tm 10 16 ?_
    refine tm 11 5 ?_
    refine td ?_
    go_wp2
    go_ret
    refine ⟨rfl, aw, cw, ab, cb, ?_⟩
    unfold rdL
    try unfold Cs.fig
    dsimp only
    exact Mem.end
end Go.Proofs.YtjaohlnejkgkaaaGreatDoor
namespace Go.Proofs.YtjaohlnejkgkaaaGreatDoor
open Go.RowKit
open Plain
set_option linter.unusedVariables false
set_option linter.unusedSimpArgs false
attribute [local go_sem] cell_of frozen_of

namespace Plain
theorem next_0 {s : Cs} {c : UInt8} (h : s.st = 0) : nextC s c = beginC s c := by unfold nextC; rw [h]; rfl
theorem next_1 {s : Cs} {c : UInt8} (h : s.st = 1) : nextC s c = if s.may c then (s.takes c, 1) else endC s c := by unfold nextC; rw [h]; rfl
theorem next_2 {s : Cs} {c : UInt8} (h : s.st = 2) : nextC s c = endC s c := by unfold nextC; rw [h]; rfl
theorem next_3 {s : Cs} {c : UInt8} (h : s.st = 3) : nextC s c = (s, if c = 10 then 14 else 15) := by unfold nextC; rw [h]; rfl
theorem next_4 {s : Cs} {c : UInt8} (h : s.st = 4) : nextC s c = quotedC s c := by unfold nextC; rw [h]; rfl
theorem next_5 {s : Cs} {c : UInt8} (h : s.st = 5) : nextC s c = if c = 34 ∨ c = 92 then (s.keep c, 4) else (s, 15) := by unfold nextC; rw [h]; rfl
theorem next_6 {s : Cs} {c : UInt8} (h : s.st = 6) : nextC s c = if c = 41 then (s.keep c, 2) else if plB c then listC s.anew c else (s, 15) := by unfold nextC; rw [h]; rfl
theorem next_7 {s : Cs} {c : UInt8} (h : s.st = 7) : nextC s c = if plB c then listC s.anew c else (s, 15) := by unfold nextC highC; rw [h]; rfl
theorem next_8 {s : Cs} {c : UInt8} (h : s.st = 8) : nextC s c = listC s c := by unfold nextC highC; rw [h]; rfl
theorem next_9 {s : Cs} {c : UInt8} (h : s.st = 9) : nextC s c = if c = 125 then (s, 15) else lengthC s c := by unfold nextC highC; rw [h]; rfl
theorem next_10 {s : Cs} {c : UInt8} (h : s.st = 10) : nextC s c = lengthC s c := by unfold nextC highC; rw [h]; rfl
theorem next_11 {s : Cs} {c : UInt8} (h : s.st = 11) : nextC s c = (s, if c = 13 then 12 else 15) := by unfold nextC highC; rw [h]; rfl
theorem next_12 {s : Cs} {c : UInt8} (h : s.st = 12) : nextC s c = (s, if c = 10 then 13 else 15) := by unfold nextC highC; rw [h]; rfl
theorem next_13 {s : Cs} {c : UInt8} (h : s.st = 13) : nextC s c = if s.left = 0 then endC s c else (s.less.keep c, 13) := by unfold nextC highC; rw [h]; rfl
end Plain
set_option maxHeartbeats 4000000 in
set_option maxRecDepth 100000 in
theorem when_any (x : Bool) (n : Int) (w : World) : Calls Tryz.prog 48 #[.bool x, .int .i64 n] w fun e w' => e = .returned (.int .i64 (if x then n else 15)) ∧ w' = w := by
  cases x with
  | true =>
    go_enter Tryz.func48, Tryz.ntmps48
    go_wp2
    go_ret
    exact ⟨rfl, rfl⟩
  | false =>
    go_enter Tryz.func48, Tryz.ntmps48
    go_wp2
    go_ret
    exact ⟨rfl, rfl⟩
end Go.Proofs.YtjaohlnejkgkaaaGreatDoor
