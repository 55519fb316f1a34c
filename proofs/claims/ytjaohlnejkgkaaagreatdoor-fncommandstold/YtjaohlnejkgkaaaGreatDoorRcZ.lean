/- Commands: RcI3, RcI4 in one text. -/
import Derived.Test.YtjaohlnejkgkaaaGreatDoorRcNA
import Derived.Test.YtjaohlnejkgkaaaGreatDoorRcNB
import Derived.Test.YtjaohlnejkgkaaaGreatDoorRcNC
import Derived.Test.YtjaohlnejkgkaaaGreatDoorRcND
import Derived.Test.YtjaohlnejkgkaaaGreatDoorRcNE
import Derived.Test.YtjaohlnejkgkaaaGreatDoorRcNF
import Derived.Test.YtjaohlnejkgkaaaGreatDoorRcNG
import Derived.Test.YtjaohlnejkgkaaaGreatDoorRcP
namespace Go.Proofs.YtjaohlnejkgkaaaGreatDoor
open Go.RowKit
open Plain
set_option linter.unusedVariables false
set_option linter.unusedSimpArgs false
attribute [local go_sem] cell_of frozen_of
theorem next_mem (b : Nat) (s : Cs) (c : UInt8) (w W : World) (hf : FineOn s) (ht : s.taken ≤ 301) (hst : 0 ≤ s.st ∧ s.st ≤ 13) (h : Rd w W b s) :
    Calls Tryz.prog 28 #[.pointer (some ⟨b, 0, none⟩), .int .u8 (c.toNat : Int)] W fun e W' => BegAns b w (nextC s c) e W' := by
  rcases (show s.st = 0 ∨ s.st = 1 ∨ s.st = 2 ∨ s.st = 3 ∨ s.st = 4 ∨ s.st = 5 ∨ s.st = 6 ∨ s.st = 7 ∨ s.st = 8 ∨ s.st = 9 ∨ s.st = 10 ∨ s.st = 11 ∨ s.st = 12 ∨ s.st = 13 by omega) with e | e | e | e | e | e | e | e | e | e | e | e | e | e
  · exact next_mem_0 b s c w W hf ht e h
  · exact next_mem_1 b s c w W hf ht e h
  · exact next_mem_2 b s c w W hf ht e h
  · exact next_mem_3 b s c w W hf ht e h
  · exact next_mem_4 b s c w W hf ht e h
  · exact next_mem_5 b s c w W hf ht e h
  · exact next_mem_6 b s c w W hf ht e h
  · exact next_mem_7 b s c w W hf ht e h
  · exact next_mem_8 b s c w W hf ht e h
  · exact next_mem_9 b s c w W hf ht e h
  · exact next_mem_10 b s c w W hf ht e h
  · exact next_mem_11 b s c w W hf ht e h
  · exact next_mem_12 b s c w W hf ht e h
  · exact next_mem_13 b s c w W hf ht e h
set_option maxHeartbeats 4000000 in
set_option maxRecDepth 100000 in
theorem take_mem (b : Nat) (s : Cs) (c : UInt8) (w W : World) (hf : Fine s) (ht : s.taken ≤ 300) (hst : 0 ≤ s.st ∧ s.st ≤ 13) (h : Rd w W b s) :
    Calls Tryz.prog 18 #[.pointer (some ⟨b, 0, none⟩), .int .u8 (c.toNat : Int)] W fun e W' => e = .returned (.tuple #[]) ∧ Rd w W' b (stepC s c) := by
  have ht0 := hf.t0
  have HN := hide (fun W2 h2 => next_mem b s.on c w W2 hf.on (by show s.taken + 1 ≤ 301; omega) hst h2)
  have V : Hid (stepC s c = (nextC s.on c).1.to (nextC s.on c).2) := rfl
  generalize nextC s.on c = R at *
  rw [unhide V]
  clear V
  obtain ⟨aw, cw, ab, cb, M⟩ := h
  unfold rdL at M
  have i1 : IntKind.i64.wrap (s.taken + 1) = s.taken + 1 := by rw [IntKind.wrap_i64]; omega
  have RF : Hid (∀ W', Mem w W' [.obj b 41 [.int .i64 s.st, .int .i64 (s.taken + 1), .slice aw s.words.length cw, .slice ab s.word.length cb, .int .i64 s.run, .int .i64 s.left], .row aw s.words.length cw 9 1 (strs s.words), .row ab s.word.length cb 5 1 (bv s.word)] → Rd w W' b s.on) := fun W' M => ⟨aw, cw, ab, cb, M⟩
  go_enter Tryz.func18, Tryz.ntmps18
  go_wp2_with fail
  refine (unhide HN _ (unhide RF _ Mem.end)).mono ?_
  rintro e w6 ⟨rfl, aw2, cw2, ab2, cb2, M⟩
  unfold rdL at M
  go_wp2
  refine bodyPost_end (by simp [results, Tryz.results18, go_sem]; try rfl) rfl ?_
  refine ⟨rfl, aw2, cw2, ab2, cb2, ?_⟩
  unfold rdL Cs.to
  dsimp only
  exact Mem.end
end Go.Proofs.YtjaohlnejkgkaaaGreatDoor
namespace Go.Proofs.YtjaohlnejkgkaaaGreatDoor
open Go.RowKit
open Plain
set_option linter.unusedVariables false
set_option linter.unusedSimpArgs false
attribute [local go_sem] cell_of frozen_of

theorem Mem.fin00 {w W : World} {L K : List Pc} (t1 t2 : TypeId) [M : Mem w W L] [k : Pick (.row none 0 0 t1 1 [] :: .row none 0 0 t2 1 [] :: L) K] : Mem w W K := by
  have := Mem.nil (W := W) t2 1
  have := Mem.nil (W := W) t1 1
  exact Mem.fin
/-- What ReadCommand hands back. -/
def RdAns (w : World) (V : List (List UInt8) × Int × Int) (e : Ending) (W : World) : Prop := ∃ a c, e = .returned (.tuple #[.slice a V.1.length c, .int .i64 V.2.1, .int .i64 V.2.2]) ∧ Mem w W [.row a V.1.length c 9 1 (strs V.1)]
theorem rdAns_none {w W : World} {n : Int} {L : List Pc} [M : Mem w W L] : RdAns w ([], 0, n) (.returned (.tuple #[.slice none 0 0, .int .i64 0, .int .i64 n])) W :=
  ⟨none, 0, rfl, show Mem w W [.row none 0 0 9 1 []] from Mem.fin0 9 1⟩
set_option maxHeartbeats 4000000 in
set_option maxRecDepth 100000 in
theorem impl_ReadCommand_any (t : ByteArray) (w : World) (ht : t.size ≤ 1048576) :
    Calls Tryz.prog 6 #[.string t] w fun e W' => RdAns w (rdV t.data.toList) e W' := by
  have hls : Hid (t.data.toList.length = t.size) := rfl
  have V1 := hide (fun s => rdV_all (t := t.data.toList) (s := s))
  have V2 := hide (fun s => rdV_bad (t := t.data.toList) (s := s))
  have V3 := hide (fun s => rdV_long (t := t.data.toList) (s := s))
  have V4 := hide (fun s => rdV_more (t := t.data.toList) (s := s))
  rw [unhide hls] at V3 V4
  generalize rdV t.data.toList = V at *
  obtain ⟨L, hL⟩ : ∃ L, L = t.data.toList.take 300 := ⟨_, rfl⟩
  rw [← hL] at V1 V2 V3 V4
  have HL := hide hL
  obtain ⟨N, hN⟩ : ∃ N, N = L.length := ⟨_, rfl⟩
  have hN2 : N = min t.size 300 := by rw [hN, hL, List.length_take, unhide hls, Nat.min_comm]
  have HN := hide hN
  have hN3 : N ≤ t.size := by omega
  have hN4 : N ≤ 300 := by omega
  have mi : (if (t.size : Int) < 300 then (t.size : Int) else 300) = (N : Int) := by split <;> omega
  have mi2 : min (t.size : Int) 300 = (N : Int) := by omega
  clear hN hL
  have M := Mem.start w
  go_enter Tryz.func6, Tryz.ntmps6
  go_wp2
  go_loopw [10] (fun i W => ∃ (k : Nat) (s : Cs), k ≤ N ∧ i = .int .i64 k ∧ Fine s ∧ s.taken = k ∧ (0 ≤ s.st ∧ s.st ≤ 13) ∧ runC csNil L = runC s (L.drop k) ∧ Rd w W w.heap.size s) (fun i _ => N - (intOf i).toNat)
  case atStart => exact ⟨0, csNil, Nat.zero_le _, rfl, fine_nil, rfl, ⟨by decide, by decide⟩, rfl, none, 0, none, 0, show Mem w _ [.obj w.heap.size 41 [.int .i64 0, .int .i64 0, .slice none 0 0, .slice none 0 0, .int .i64 0, .int .i64 0], .row none 0 0 9 1 [], .row none 0 0 5 1 []] from Mem.fin00 9 5⟩
  clear M
  case round =>
    obtain ⟨k, s, hk, rfl, hf, htk, hst, hrun, hR⟩ := hrel
    have HRUN := hide hrun
    clear hrun
    by_cases hlt : k < N
    · have hLk : Hid (L.drop k = t[k] :: L.drop (k + 1)) := by
        have h1 : k < L.length := by rw [← unhide HN]; exact hlt
        have h2 : L[k] = t[k] := by
          have : L[k]? = some t[k] := by rw [unhide HL, List.getElem?_take, if_pos (by omega)]; exact List.getElem?_eq_getElem (l := t.data.toList) (i := k) (by show k < t.size; omega)
          rw [List.getElem?_eq_getElem h1] at this
          exact Option.some.inj this
        show _ = _
        rw [List.drop_eq_getElem_cons h1, h2]
      have i1 : (0 : Int) ≤ (k : Int) := by omega
      have i2 : (k : Int) < (t.size : Int) := by omega
      have HT := hide (fun W2 h2 => take_mem w.heap.size s t[k] w W2 hf (by omega) hst h2)
      have HF := hide (fine_step hf t[k])
      have HS := hide (step_st s t[k])
      have HRR : Hid (runC csNil L = if (stepC s t[k]).stops then stepC s t[k] else runC (stepC s t[k]) (L.drop (k + 1))) := by show _ = _; rw [unhide HRUN, unhide hLk]; rfl
      generalize stepC s t[k] = s2 at *
      clear hLk HRUN hf hst
      have HR := hide hR
      clear hR
      go_wp2_with fail
      refine (unhide HT _ (unhide HR)).mono ?_
      rintro e w2 ⟨rfl, hR2⟩
      have HR2 := hide hR2
      obtain ⟨aw, cw, ab, cb, M⟩ := hR2
      unfold rdL at M
      by_cases h14 : s2.st = 14
      · have d1 : (s2.st == 14) = true := by rw [h14]; rfl
        have e := unhide V1 s2 ((unhide HRR).trans (if_pos (stops_14 h14))) h14
        subst e
        clear V2 V3 V4
        go_wp2
        refine mb 7 (fun M => ?_)
        refine tm 0 21 ?_; refine tm 1 22 ?_; refine tm 2 23 ?_; refine tm 3 24 ?_; refine tm 4 2 ?_; refine tm 5 3 ?_; refine tm 6 4 ?_
        refine td ?_
        go_wp2
        refine bodyPost_ret (by simp [results, Tryz.results6, go_sem]; try rfl) rfl ?_
        exact ⟨aw, cw, rfl, Mem.end⟩
      · have d1 : (s2.st == 14) = false := beq_eq_false_iff_ne.2 h14
        by_cases h15 : s2.st = 15
        · have d2 : (s2.st == 15) = true := by rw [h15]; rfl
          have e := unhide V2 s2 ((unhide HRR).trans (if_pos (stops_15 h15))) h15
          subst e
          clear V1 V3 V4
          go_wp2
          refine bodyPost_ret (by simp [results, Tryz.results6, go_sem]; try rfl) rfl ?_
          exact rdAns_none
        · have d2 : (s2.st == 15) = false := beq_eq_false_iff_ne.2 h15
          have HR13 : Hid (0 ≤ s2.st ∧ s2.st ≤ 13) := by have := unhide HS; exact ⟨this.1, by omega⟩
          have HR3 := hide ((unhide HRR).trans (if_neg (by rw [stops_no (unhide HR13).2]; decide)))
          clear HRR V1 V2 V3 V4
          go_wp2
          go_roundw
          case rel => exact ⟨k + 1, s2, by omega, by go_num, (unhide HF).1, by rw [(unhide HF).2, htk]; omega, unhide HR13, unhide HR3, unhide HR2⟩
          case measure => simp [intOf]; omega
    · obtain rfl : k = N := by omega
      have hd : L.drop k = [] := List.drop_eq_nil_of_le (by rw [← unhide HN]; exact Nat.le_refl _)
      rw [hd] at HRUN
      have HE : Hid (runC csNil L = s) := unhide HRUN
      obtain ⟨aw, cw, ab, cb, M⟩ := hR
      by_cases h3 : 300 ≤ t.size
      · have d3 : decide ((300 : Int) ≤ (t.size : Int)) = true := decide_eq_true (by omega)
        have e := unhide V3 s (unhide HE) hst.2 h3
        subst e
        clear V1 V2 V4
        go_wp2
        refine bodyPost_ret (by simp [results, Tryz.results6, go_sem]; try rfl) rfl ?_
        exact rdAns_none
      · have d3 : decide ((300 : Int) ≤ (t.size : Int)) = false := decide_eq_false (by omega)
        have e := unhide V4 s (unhide HE) hst.2 h3
        subst e
        clear V1 V2 V3
        go_wp2
        refine bodyPost_ret (by simp [results, Tryz.results6, go_sem]; try rfl) rfl ?_
        exact rdAns_none
end Go.Proofs.YtjaohlnejkgkaaaGreatDoor
